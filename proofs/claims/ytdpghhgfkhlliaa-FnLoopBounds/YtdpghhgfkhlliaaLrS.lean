/-
What is proved: the specification's run of a loop.
-/
import Derived.Test.YtdpghhgfkhlliaaLr
import Derived.Test.YtdpghhgfkhlliaaLsS
import Derived.Deep.RegionHeld3
import Derived.Deep.DeepCutAuto
namespace Go.Proofs.Ytdpghhgfkhlliaa
set_option maxRecDepth 40000
open Go.RowKit
set_option linter.unusedVariables false
set_option linter.unusedSimpArgs false

set_option maxRecDepth 20000 in
set_option maxHeartbeats 8000000 in
theorem specRun_in (P I D S L H B : Int) (on : Bool) (u v o : Int) (s : Option Addr) (n c nd : Nat) (F : Nat → Int) (sd : Option Addr) (cd : Nat) (G : Nat → Int) (w : World) (hnd : n = nd) (hn : (n : Int) ≤ 1000) (HR : Hid (RowI w s n F)) (HD : Hid (RowI w sd n G)) (HG : Hid (okB P I D S L H B on u v o = true))
    (K : Hid (∀ w, Calls Try.prog 7 #[.agg #[.int .i64 P, .int .i64 I, .int .i64 D, .int .i64 S, .int .i64 L, .int .i64 H, .int .i64 B], .agg #[.bool on, .int .i64 u, .int .i64 v, .int .i64 o]] w fun e w' => e = .returned (.bool true) ∧ Below w.heap.size w w'))
    (T : Hid (∀ on u v o want seen w, Calls Try.prog 11 #[.agg #[.int .i64 P, .int .i64 I, .int .i64 D, .int .i64 S, .int .i64 L, .int .i64 H, .int .i64 B], .agg #[.bool on, .int .i64 u, .int .i64 v, .int .i64 o], .int .i64 want, .int .i64 seen] w fun e w' => e = .returned (.tuple #[valH (nextH P I D S L H B (on, u, v, o) want seen), .bool (okH P I D S L H B (on, u, v, o) want seen)]) ∧ Below w.heap.size w w')) :
    Calls Try.prog 14 #[.agg #[.int .i64 P, .int .i64 I, .int .i64 D, .int .i64 S, .int .i64 L, .int .i64 H, .int .i64 B], .agg #[.bool on, .int .i64 u, .int .i64 v, .int .i64 o], .slice s n c, .slice sd nd cd] w fun e w' => ∃ m y b s' c', RunLV P I D S L H B (on, u, v, o) n nd F G m y b ∧ e = .returned (.tuple #[.slice s' m c', valH y, .bool b]) ∧ OwnI w.heap.size w' s' m (outK P I D S L H B (on, u, v, o) F G) ∧ Below w.heap.size w w' := by
  have GO : Hid (goR P I D S L H B (on, u, v, o) n nd) := ⟨HG.out, hnd, by omega⟩
  subst hnd
  go_enter Try.func14, Try.ntmps14
  go_wp2_with fail
  refine (K.out _).mono ?_
  rintro r w1 ⟨rfl, hr⟩
  have z1 : w.heap.size + 1 + 1 < w1.heap.size := by have := hr.size; simp at this; omega
  have z1a : w.heap.size < w1.heap.size := by omega
  have z1b : w.heap.size + 1 < w1.heap.size := by omega
  have l0 : w1.cell? ⟨w.heap.size, 0, none⟩ = some (.int .i64 P) := by rw [hr.cell (by first | omega | (simp; done) | (simp; omega))]; first | (simp; done) | (simp [go_sem]; done)
  have l1 : w1.cell? ⟨w.heap.size, 1, none⟩ = some (.int .i64 I) := by rw [hr.cell (by first | omega | (simp; done) | (simp; omega))]; first | (simp; done) | (simp [go_sem]; done)
  have l2 : w1.cell? ⟨w.heap.size, 2, none⟩ = some (.int .i64 D) := by rw [hr.cell (by first | omega | (simp; done) | (simp; omega))]; first | (simp; done) | (simp [go_sem]; done)
  have l3 : w1.cell? ⟨w.heap.size, 3, none⟩ = some (.int .i64 S) := by rw [hr.cell (by first | omega | (simp; done) | (simp; omega))]; first | (simp; done) | (simp [go_sem]; done)
  have l4 : w1.cell? ⟨w.heap.size, 4, none⟩ = some (.int .i64 L) := by rw [hr.cell (by first | omega | (simp; done) | (simp; omega))]; first | (simp; done) | (simp [go_sem]; done)
  have l5 : w1.cell? ⟨w.heap.size, 5, none⟩ = some (.int .i64 H) := by rw [hr.cell (by first | omega | (simp; done) | (simp; omega))]; first | (simp; done) | (simp [go_sem]; done)
  have l6 : w1.cell? ⟨w.heap.size, 6, none⟩ = some (.int .i64 B) := by rw [hr.cell (by first | omega | (simp; done) | (simp; omega))]; first | (simp; done) | (simp [go_sem]; done)
  have q0 : w1.cell? ⟨w.heap.size + 1, 0, none⟩ = some (.bool on) := by rw [hr.cell (by first | omega | (simp; done) | (simp; omega))]; first | (simp; done) | (simp [go_sem]; done)
  have q1 : w1.cell? ⟨w.heap.size + 1, 1, none⟩ = some (.int .i64 u) := by rw [hr.cell (by first | omega | (simp; done) | (simp; omega))]; first | (simp; done) | (simp [go_sem]; done)
  have q2 : w1.cell? ⟨w.heap.size + 1, 2, none⟩ = some (.int .i64 v) := by rw [hr.cell (by first | omega | (simp; done) | (simp; omega))]; first | (simp; done) | (simp [go_sem]; done)
  have q3 : w1.cell? ⟨w.heap.size + 1, 3, none⟩ = some (.int .i64 o) := by rw [hr.cell (by first | omega | (simp; done) | (simp; omega))]; first | (simp; done) | (simp [go_sem]; done)
  have r0 : w1.cell? ⟨w.heap.size + 1 + 1, 0, none⟩ = some (.bool false) := by rw [hr.cell (by first | omega | (simp; done) | (simp; omega))]; first | (simp; done) | (simp [go_sem]; done)
  have r1 : w1.cell? ⟨w.heap.size + 1 + 1, 1, none⟩ = some (.int .i64 0) := by rw [hr.cell (by first | omega | (simp; done) | (simp; omega))]; first | (simp; done) | (simp [go_sem]; done)
  have r2 : w1.cell? ⟨w.heap.size + 1 + 1, 2, none⟩ = some (.int .i64 0) := by rw [hr.cell (by first | omega | (simp; done) | (simp; omega))]; first | (simp; done) | (simp [go_sem]; done)
  have r3 : w1.cell? ⟨w.heap.size + 1 + 1, 3, none⟩ = some (.int .i64 0) := by rw [hr.cell (by first | omega | (simp; done) | (simp; omega))]; first | (simp; done) | (simp [go_sem]; done)
  have fz : ∀ o, w1.frozen? ⟨w.heap.size + 1, o, none⟩ = false := fun o => by rw [hr.frozen (by first | omega | (simp; done) | (simp; omega))]; simp [go_sem]
  have fy : ∀ o, w1.frozen? ⟨w.heap.size + 1 + 1, o, none⟩ = false := fun o => by rw [hr.frozen (by first | omega | (simp; done) | (simp; omega))]; simp [go_sem]
  have B1 : Below w.heap.size w w1 := Below.trans (by repeat (first | with_reducible exact Below.refl _ _ | with_reducible refine Below.setCell ?_ (by first | omega | (simp; done) | (simp; omega)) _ | with_reducible refine bDrewN ?_ _ | with_reducible refine Below.drew ?_ | with_reducible refine Below.alloc ?_ (by first | omega | (simp; done) | (simp; omega)) _)) (hr.mono (by first | omega | (simp; done) | (simp; omega)))
  clear hr
  have D1 : Hid (HoldAt w1 (w.heap.size + 1) on u v o) := ⟨z1b, fz, q0, q1, q2, q3⟩
  have RZ : Hid (∀ wr, Beside (w.heap.size + 1) w1 wr → (∀ o, wr.frozen? ⟨w.heap.size + 1 + 1, o, none⟩ = false) ∧ wr.cell? ⟨w.heap.size + 1 + 1, 0, none⟩ = some (.bool false) ∧ wr.cell? ⟨w.heap.size + 1 + 1, 1, none⟩ = some (.int .i64 0) ∧ wr.cell? ⟨w.heap.size + 1 + 1, 2, none⟩ = some (.int .i64 0) ∧ wr.cell? ⟨w.heap.size + 1 + 1, 3, none⟩ = some (.int .i64 0) ∧ wr.cell? ⟨w.heap.size, 0, none⟩ = some (.int .i64 P) ∧ wr.cell? ⟨w.heap.size, 1, none⟩ = some (.int .i64 I) ∧ wr.cell? ⟨w.heap.size, 2, none⟩ = some (.int .i64 D) ∧ wr.cell? ⟨w.heap.size, 3, none⟩ = some (.int .i64 S) ∧ wr.cell? ⟨w.heap.size, 4, none⟩ = some (.int .i64 L) ∧ wr.cell? ⟨w.heap.size, 5, none⟩ = some (.int .i64 H) ∧ wr.cell? ⟨w.heap.size, 6, none⟩ = some (.int .i64 B)) := fun wr hs => ⟨fun o => (hs.frozen (p := ⟨w.heap.size + 1 + 1, o, none⟩) z1 (by simp)).trans (fy o), (hs.cell (p := ⟨w.heap.size + 1 + 1, 0, none⟩) z1 (by simp)).trans r0, (hs.cell (p := ⟨w.heap.size + 1 + 1, 1, none⟩) z1 (by simp)).trans r1, (hs.cell (p := ⟨w.heap.size + 1 + 1, 2, none⟩) z1 (by simp)).trans r2, (hs.cell (p := ⟨w.heap.size + 1 + 1, 3, none⟩) z1 (by simp)).trans r3, (hs.cell (p := ⟨w.heap.size, 0, none⟩) z1a (by simp)).trans l0, (hs.cell (p := ⟨w.heap.size, 1, none⟩) z1a (by simp)).trans l1, (hs.cell (p := ⟨w.heap.size, 2, none⟩) z1a (by simp)).trans l2, (hs.cell (p := ⟨w.heap.size, 3, none⟩) z1a (by simp)).trans l3, (hs.cell (p := ⟨w.heap.size, 4, none⟩) z1a (by simp)).trans l4, (hs.cell (p := ⟨w.heap.size, 5, none⟩) z1a (by simp)).trans l5, (hs.cell (p := ⟨w.heap.size, 6, none⟩) z1a (by simp)).trans l6⟩
  have ROW : Hid (∀ wr, Beside (w.heap.size + 1) w1 wr → ∀ s V, RowI w s n V → RowI wr s n V) := fun wr hs s V HR j hj => by
    obtain ⟨b, o, e, hl, hc⟩ := HR j hj
    have hl1 : b < w1.heap.size := Nat.lt_of_lt_of_le hl B1.size
    exact ⟨b, o, e, Nat.lt_of_lt_of_le hl1 hs.2.2.2.1, (hs.cell (p := ⟨b, o + j, none⟩) hl1 (by show b ≠ w.heap.size + 1; omega)).trans ((B1.cell (p := ⟨b, o + j, none⟩) hl).trans hc)⟩
  clear l0 l1 l2 l3 l4 l5 l6 q0 q1 q2 q3 r0 r1 r2 r3 fz fy
  go_wp2_with fail
  go_loopw [12, 13] (fun v' i wr => ∃ k : Nat, ∃ y : H4, k ≤ n ∧ i = .int .i64 k ∧ LrAt (w.heap.size + 1) w1 wr v' k (outK P I D S L H B (on, u, v, o) F G) y ∧ y = runH P I D S L H B (on, u, v, o) F G k ∧ ∀ j, j < k → runOk P I D S L H B (on, u, v, o) F G j = true) (fun _ i _ => n - (intOf i).toNat)
  case atStart => exact ⟨0, (on, u, v, o), Nat.zero_le _, rfl, ⟨Beside.of ((Below.refl _ _).alloc (Nat.le_refl _) _), D1.out.below ((Below.refl _ _).alloc (Nat.le_refl _) _), by simpa [vals] using World.ownsRow_lit (base := w1.heap.size) (size := 1) (e := 2) w1 #[] 0 (Nat.le_refl _) (by simp [maxLen]) (by simp)⟩, rfl, fun j hj => by omega⟩
  case round =>
    obtain ⟨k, ⟨y0, y1, y2, y3⟩, hk, rfl, hA, hy, hok⟩ := hrel
    have HY : Hid ((y0, y1, y2, y3) = runH P I D S L H B (on, u, v, o) F G k) := hy
    have HO : Hid (∀ j, j < k → runOk P I D S L H B (on, u, v, o) F G j = true) := hok
    have HA : Hid (LrAt (w.heap.size + 1) w1 wr u12 k (outK P I D S L H B (on, u, v, o) F G) (y0, y1, y2, y3)) := hA
    clear hy hok
    obtain ⟨hS, hD, -⟩ := hA
    simp only at hD
    obtain ⟨zp, zf, c0, c1, c2, c3⟩ := hD
    obtain ⟨gf, t0, t1, t2, t3, l0, l1, l2, l3, l4, l5, l6⟩ := RZ.out wr hS
    have zr : w.heap.size + 1 + 1 < wr.heap.size := Nat.lt_of_lt_of_le z1 hS.2.2.2.1
    have zl : w.heap.size < wr.heap.size := by omega
    by_cases h1 : k < n
    · obtain ⟨g, o2, rfl, hg, a0⟩ := ROW.out wr hS s F HR.out k h1
      obtain ⟨gd, od, rfl, hgd, b0⟩ := ROW.out wr hS sd G HD.out k h1
      have k1 : (k : Int) < (n : Int) := by omega
      have HN : Hid (k < n) := h1
      obtain ⟨u0, u1, u2, u3, hu⟩ : ∃ u0 u1 u2 u3, nextH P I D S L H B (y0, y1, y2, y3) (F k) (G k) = (u0, u1, u2, u3) := ⟨_, _, _, _, rfl⟩
      have T1 := fun w => T.out y0 y1 y2 y3 (F k) (G k) w
      rw [hu] at T1
      simp only [valH] at T1
      have HU : Hid _ := hu
      obtain ⟨ov, ho⟩ : ∃ ov, okH P I D S L H B (y0, y1, y2, y3) (F k) (G k) = ov := ⟨_, rfl⟩
      rw [ho] at T1
      have T2 : Hid _ := T1
      have HV : Hid _ := ho
      clear T1 hu ho hS
      go_wp2_with fail
      go_cut [14, 15] (fun s t wx => ∃ p : Nat, s = .pointer (some ⟨p, 0, none⟩) ∧ t = .bool ov ∧ wr.heap.size ≤ p ∧ p < wx.heap.size ∧ wx.cell? ⟨p, 0, none⟩ = some (.bool u0) ∧ wx.cell? ⟨p, 1, none⟩ = some (.int .i64 u1) ∧ wx.cell? ⟨p, 2, none⟩ = some (.int .i64 u2) ∧ wx.cell? ⟨p, 3, none⟩ = some (.int .i64 u3) ∧ Below wr.heap.size wr wx)
      case first =>
        go_region_held3 (fun w' => w'.cell? ⟨w.heap.size, 0, none⟩ = some (.int .i64 P) ∧ w'.cell? ⟨w.heap.size, 1, none⟩ = some (.int .i64 I) ∧ w'.cell? ⟨w.heap.size, 2, none⟩ = some (.int .i64 D) ∧ w'.cell? ⟨w.heap.size, 3, none⟩ = some (.int .i64 S) ∧ w'.cell? ⟨w.heap.size, 4, none⟩ = some (.int .i64 L) ∧ w'.cell? ⟨w.heap.size, 5, none⟩ = some (.int .i64 H) ∧ w'.cell? ⟨w.heap.size, 6, none⟩ = some (.int .i64 B) ∧ w'.cell? ⟨w.heap.size + 1, 0, none⟩ = some (.bool y0) ∧ w'.cell? ⟨w.heap.size + 1, 1, none⟩ = some (.int .i64 y1) ∧ w'.cell? ⟨w.heap.size + 1, 2, none⟩ = some (.int .i64 y2) ∧ w'.cell? ⟨w.heap.size + 1, 3, none⟩ = some (.int .i64 y3) ∧ w'.cell? ⟨g, o2 + k, none⟩ = some (.int .i64 (F k)) ∧ w'.cell? ⟨gd, od + k, none⟩ = some (.int .i64 (G k))) (first | (refine keepLR l0 l1 l2 l3 l4 l5 l6 c0 c1 c2 c3 a0 b0 zl zp hg hgd ?_; exact (by repeat (first | with_reducible exact Below.refl _ _ | with_reducible exact B3 | with_reducible refine Below.setCell ?_ (by first | omega | (simp; done) | (simp; omega)) _ | with_reducible refine bDrewN ?_ _ | with_reducible refine Below.drew ?_ | with_reducible refine Below.alloc ?_ (by first | omega | (simp; done) | (simp; omega)) _)))) (first
          | (go_at_call 11; refine (T2.out _).mono ?_; rintro r w3 ⟨rfl, h3⟩; obtain ⟨hc3, hf3⟩ := bcell h3; have B3 : Below wr.heap.size wr w3 := Below.trans (by repeat (first | with_reducible exact Below.refl _ _ | with_reducible refine Below.setCell ?_ (by first | omega | (simp; done) | (simp; omega)) _ | with_reducible refine bDrewN ?_ _ | with_reducible refine Below.drew ?_ | with_reducible refine Below.alloc ?_ (by first | omega | (simp; done) | (simp; omega)) _)) (h3.mono (by first | omega | (simp; done) | (simp; omega))); have z3 := h3.size; simp at z3; have z3a : wr.heap.size ≤ w3.heap.size := (by omega)))
        all_goals
          go_wp2_with fail
          go_meet
          case rel =>
            refine ⟨_, rfl, rfl, ?_, ?_, ?_, ?_, ?_, ?_, (by repeat (first | with_reducible exact Below.refl _ _ | with_reducible exact B3 | with_reducible refine Below.setCell ?_ (by first | omega | (simp; done) | (simp; omega)) _ | with_reducible refine bDrewN ?_ _ | with_reducible refine Below.drew ?_ | with_reducible refine Below.alloc ?_ (by first | omega | (simp; done) | (simp; omega)) _))⟩
            all_goals first | omega | (simp [go_sem, *]; done) | (simp; omega) | (simp [*]; omega)
      case rest =>
      clear c0 c1 c2 c3 a0 b0 zp zf gf t0 t1 t2 t3 zr l0 l1 l2 l3 l4 l5 l6
      obtain ⟨p, rfl, rfl, hp1, hp2, v0, v1, v2, v3, hB⟩ := hcut
      have CA : Hid (LrAt (w.heap.size + 1) w1 wc u12 k (outK P I D S L H B (on, u, v, o) F G) (y0, y1, y2, y3)) := HA.out.below hB
      have zwr : w.heap.size + 1 + 1 < wr.heap.size := Nat.lt_of_lt_of_le z1 HA.out.1.2.2.2.1
      clear HA
      obtain ⟨hS, hD, -⟩ := CA.out
      obtain ⟨zp, zf, c0, c1, c2, c3⟩ := hD
      obtain ⟨gf, t0, t1, t2, t3, -, -, -, -, -, -, -⟩ := RZ.out wc hS
      have zr : w.heap.size + 1 + 1 < wc.heap.size := Nat.lt_of_lt_of_le z1 hS.2.2.2.1
      have ne : ¬ p = w.heap.size + 1 := by omega
      have BC : Below w.heap.size w wc := B1.trans (hS.below (Nat.le_succ _) (by omega))
      clear hS hB c0 c1 c2 c3 zl hg hgd
      cases ov
      · have NO : Hid (runOk P I D S L H B (on, u, v, o) F G k = false) := by
          show okH _ _ _ _ _ _ _ (runH P I D S L H B (on, u, v, o) F G k) _ _ = false
          rw [← HY.out]
          exact HV.out
        go_wp2
        refine bodyPost_ret (v := .tuple #[.slice (some ⟨w.heap.size + 1 + 1 + 1, 0, none⟩) 0 0, .agg #[.bool false, .int .i64 0, .int .i64 0, .int .i64 0], .bool false]) (by simp [results, Try.results14, go_sem, t0, t1, t2, t3]) rfl ⟨0, (false, 0, 0, 0), false, _, _, .inr ⟨rfl, rfl, rfl, fun q => by have := q.2 k HN.out; rw [NO.out] at this; cases this⟩, rfl, fun j hj => by omega, ?_⟩
        exact (by repeat (first | with_reducible exact Below.refl _ _ | with_reducible exact BC | with_reducible refine Below.setCell ?_ (by first | omega | (simp; done) | (simp; omega)) _ | with_reducible refine bDrewN ?_ _ | with_reducible refine Below.drew ?_ | with_reducible refine Below.alloc ?_ (by first | omega | (simp; done) | (simp; omega)) _))
      · have NX : Hid ((u0, u1, u2, u3) = runH P I D S L H B (on, u, v, o) F G (k + 1)) := by
          show _ = nextH _ _ _ _ _ _ _ (runH P I D S L H B (on, u, v, o) F G k) _ _
          rw [← HY.out]
          exact HU.out.symm
        have HE : Hid (u3 = outK P I D S L H B (on, u, v, o) F G k) := congrArg (fun t : H4 => t.2.2.2) NX.out
        have OX : Hid (∀ j, j < k + 1 → runOk P I D S L H B (on, u, v, o) F G j = true) := fun j hj => by
          by_cases q : j = k
          · subst q
            show okH _ _ _ _ _ _ _ (runH P I D S L H B (on, u, v, o) F G _) _ _ = true
            rw [← HY.out]
            exact HV.out
          · exact HO.out j (by omega)
        have CS := CA.out.set z1b u0 u1 u2 u3
        unfold set4 at CS
        have HOW := CS.2.2
        have HZ := CS.1.2.2.2.1
        have HCS := CS
        clear CS
        obtain ⟨zp', zf', c0, c1, c2, c3⟩ := CA.out.2.1
        go_upto_region 12 with fail
        obtain ⟨wd, hwd⟩ : ∃ wd, wd = (((wc.setCell ⟨w.heap.size + 1, 0, none⟩ (.bool u0)).setCell ⟨w.heap.size + 1, 1, none⟩ (.int .i64 u1)).setCell ⟨w.heap.size + 1, 2, none⟩ (.int .i64 u2)).setCell ⟨w.heap.size + 1, 3, none⟩ (.int .i64 u3) := ⟨_, rfl⟩
        rw [← hwd] at HCS HOW HZ ⊢
        have HOW : Hid _ := HOW
        have HZ : Hid _ := HZ
        have HCS : Hid (LrAt (w.heap.size + 1) w1 wd u12 k (outK P I D S L H B (on, u, v, o) F G) (u0, u1, u2, u3)) := HCS
        obtain ⟨zx, -, -, -, -, e3⟩ := HCS.out.2.1
        simp only at e3
        clear hwd c0 c1 c2 c3 zf' zp' v0 v1 v2 v3
        go_wp2_with (at_builtin; refine list_i64 w1.heap.size u12 k (vals (outK P I D S L H B (on, u, v, o) F G) k) (.tmp 61) (.tmp 64) (by rfl) (by rfl) (by rfl) (by rfl) (by exact HOW.out) (by omega) (by exact HZ.out) ?_; intro g' cap' w3 hown3 hgrow3 hlt3)
        go_roundw
        case rel => exact ⟨k + 1, (u0, u1, u2, u3), by have := HN.out; omega, by go_num, HCS.out.on z1b hgrow3 hown3 HE.out, NX.out, OX.out⟩
        case measure => have := HN.out; simp [intOf]; omega
    · obtain rfl : k = n := by omega
      obtain ⟨s', cap, rfl, ho⟩ := HA.out.own
      have HW : Hid (OwnI w1.heap.size wr s' k (outK P I D S L H B (on, u, v, o) F G)) := ho
      have BC : Below w.heap.size w wr := B1.trans (HA.out.1.below (Nat.le_succ _) (by omega))
      clear ho
      go_wp2_with fail
      go_region
      all_goals
       go_wp2
       refine bodyPost_ret (v := .tuple #[.slice s' k cap, .agg #[.bool y0, .int .i64 y1, .int .i64 y2, .int .i64 y3], .bool true]) (by simp [results, Try.results14, go_sem, t0, t1, t2, t3]) rfl ⟨k, (y0, y1, y2, y3), true, _, _, .inl ⟨rfl, HY.out, rfl, GO.out, HO.out⟩, rfl, ?_, ?_⟩
       · have BT := set4_beside wr (w.heap.size + 1 + 1) y0 y1 y2 y3
         unfold set4 at BT
         have OT := (HW.out.beside BT (by omega)).mono (Nat.le_of_lt z1a)
         refine OwnI.below OT ?_
         exact (by repeat (first | with_reducible exact Below.refl _ _ | with_reducible refine Below.setCell ?_ (by first | omega | (simp; done) | (simp; omega)) _ | with_reducible refine bDrewN ?_ _ | with_reducible refine Below.drew ?_ | with_reducible refine Below.alloc ?_ (by first | omega | (simp; done) | (simp; omega)) _))
       · exact (by repeat (first | with_reducible exact Below.refl _ _ | with_reducible exact BC | with_reducible refine Below.setCell ?_ (by first | omega | (simp; done) | (simp; omega)) _ | with_reducible refine bDrewN ?_ _ | with_reducible refine Below.drew ?_ | with_reducible refine Below.alloc ?_ (by first | omega | (simp; done) | (simp; omega)) _))
set_option maxHeartbeats 2000000 in
theorem specRun_no1 (P I D S L H B : Int) (on : Bool) (u v o : Int) (s : Option Addr) (n c nd : Nat) (F : Nat → Int) (sd : Option Addr) (cd : Nat) (G : Nat → Int) (w : World) (hn : (n : Int) ≤ 1048576) (hnd : (nd : Int) ≤ 1048576) (h : ¬ (n : Int) = (nd : Int)) (NG : Hid (¬ goR P I D S L H B (on, u, v, o) n nd)) :
    Calls Try.prog 14 #[.agg #[.int .i64 P, .int .i64 I, .int .i64 D, .int .i64 S, .int .i64 L, .int .i64 H, .int .i64 B], .agg #[.bool on, .int .i64 u, .int .i64 v, .int .i64 o], .slice s n c, .slice sd nd cd] w fun e w' => ∃ m y b s' c', RunLV P I D S L H B (on, u, v, o) n nd F G m y b ∧ e = .returned (.tuple #[.slice s' m c', valH y, .bool b]) ∧ OwnI w.heap.size w' s' m (outK P I D S L H B (on, u, v, o) F G) ∧ Below w.heap.size w w' := by
  go_enter Try.func14, Try.ntmps14
  go_wp2
  refine bodyPost_ret (v := .tuple #[.slice (some ⟨w.heap.size + 1 + 1 + 1, 0, none⟩) 0 0, .agg #[.bool false, .int .i64 0, .int .i64 0, .int .i64 0], .bool false]) (by simp [results, Try.results14, go_sem]) rfl ⟨0, (false, 0, 0, 0), false, _, _, .inr ⟨rfl, rfl, rfl, fun q => NG.out q.1⟩, rfl, fun j hj => by omega, ?_⟩
  exact (by repeat (first | with_reducible exact Below.refl _ _ | with_reducible refine Below.setCell ?_ (by first | omega | (simp; done) | (simp; omega)) _ | with_reducible refine bDrewN ?_ _ | with_reducible refine Below.drew ?_ | with_reducible refine Below.alloc ?_ (by first | omega | (simp; done) | (simp; omega)) _))
set_option maxHeartbeats 2000000 in
theorem specRun_no2 (P I D S L H B : Int) (on : Bool) (u v o : Int) (s : Option Addr) (n c nd : Nat) (F : Nat → Int) (sd : Option Addr) (cd : Nat) (G : Nat → Int) (w : World) (hn : (n : Int) ≤ 1048576) (hnd : (nd : Int) ≤ 1048576) (h : (n : Int) = (nd : Int)) (h2 : (1000 : Int) < nd) (NG : Hid (¬ goR P I D S L H B (on, u, v, o) n nd)) :
    Calls Try.prog 14 #[.agg #[.int .i64 P, .int .i64 I, .int .i64 D, .int .i64 S, .int .i64 L, .int .i64 H, .int .i64 B], .agg #[.bool on, .int .i64 u, .int .i64 v, .int .i64 o], .slice s n c, .slice sd nd cd] w fun e w' => ∃ m y b s' c', RunLV P I D S L H B (on, u, v, o) n nd F G m y b ∧ e = .returned (.tuple #[.slice s' m c', valH y, .bool b]) ∧ OwnI w.heap.size w' s' m (outK P I D S L H B (on, u, v, o) F G) ∧ Below w.heap.size w w' := by
  go_enter Try.func14, Try.ntmps14
  go_wp2
  refine bodyPost_ret (v := .tuple #[.slice (some ⟨w.heap.size + 1 + 1 + 1, 0, none⟩) 0 0, .agg #[.bool false, .int .i64 0, .int .i64 0, .int .i64 0], .bool false]) (by simp [results, Try.results14, go_sem]) rfl ⟨0, (false, 0, 0, 0), false, _, _, .inr ⟨rfl, rfl, rfl, fun q => NG.out q.1⟩, rfl, fun j hj => by omega, ?_⟩
  exact (by repeat (first | with_reducible exact Below.refl _ _ | with_reducible refine Below.setCell ?_ (by first | omega | (simp; done) | (simp; omega)) _ | with_reducible refine bDrewN ?_ _ | with_reducible refine Below.drew ?_ | with_reducible refine Below.alloc ?_ (by first | omega | (simp; done) | (simp; omega)) _))
set_option maxHeartbeats 2000000 in
theorem specRun_no3 (P I D S L H B : Int) (on : Bool) (u v o : Int) (s : Option Addr) (n c nd : Nat) (F : Nat → Int) (sd : Option Addr) (cd : Nat) (G : Nat → Int) (w : World) (hn : (n : Int) ≤ 1048576) (hnd : (nd : Int) ≤ 1048576) (h : (n : Int) = (nd : Int)) (h2 : (nd : Int) ≤ 1000) (K : Hid (∀ w, Calls Try.prog 7 #[.agg #[.int .i64 P, .int .i64 I, .int .i64 D, .int .i64 S, .int .i64 L, .int .i64 H, .int .i64 B], .agg #[.bool on, .int .i64 u, .int .i64 v, .int .i64 o]] w fun e w' => e = .returned (.bool false) ∧ Below w.heap.size w w')) (NG : Hid (¬ goR P I D S L H B (on, u, v, o) n nd)) :
    Calls Try.prog 14 #[.agg #[.int .i64 P, .int .i64 I, .int .i64 D, .int .i64 S, .int .i64 L, .int .i64 H, .int .i64 B], .agg #[.bool on, .int .i64 u, .int .i64 v, .int .i64 o], .slice s n c, .slice sd nd cd] w fun e w' => ∃ m y b s' c', RunLV P I D S L H B (on, u, v, o) n nd F G m y b ∧ e = .returned (.tuple #[.slice s' m c', valH y, .bool b]) ∧ OwnI w.heap.size w' s' m (outK P I D S L H B (on, u, v, o) F G) ∧ Below w.heap.size w w' := by
  go_enter Try.func14, Try.ntmps14
  go_wp2_with fail
  refine (K.out _).mono ?_
  rintro e w1 ⟨rfl, hb⟩
  obtain ⟨hc, hf⟩ := bcell hb
  have z1 : w.heap.size + 1 + 1 < w1.heap.size := by have := hb.size; simp at this; omega
  have B1 : Below w.heap.size w w1 := Below.trans (by repeat (first | with_reducible exact Below.refl _ _ | with_reducible refine Below.setCell ?_ (by first | omega | (simp; done) | (simp; omega)) _ | with_reducible refine bDrewN ?_ _ | with_reducible refine Below.drew ?_ | with_reducible refine Below.alloc ?_ (by first | omega | (simp; done) | (simp; omega)) _)) (hb.mono (by first | omega | (simp; done) | (simp; omega)))
  go_wp2
  refine bodyPost_ret (v := .tuple #[.slice (some ⟨w.heap.size + 1 + 1 + 1, 0, none⟩) 0 0, .agg #[.bool false, .int .i64 0, .int .i64 0, .int .i64 0], .bool false]) (by simp [results, Try.results14, go_sem, hc]) rfl ⟨0, (false, 0, 0, 0), false, _, _, .inr ⟨rfl, rfl, rfl, fun q => NG.out q.1⟩, rfl, fun j hj => by omega, ?_⟩
  exact (by repeat (first | with_reducible exact Below.refl _ _ | with_reducible exact B1 | with_reducible refine Below.setCell ?_ (by first | omega | (simp; done) | (simp; omega)) _ | with_reducible refine bDrewN ?_ _ | with_reducible refine Below.drew ?_ | with_reducible refine Below.alloc ?_ (by first | omega | (simp; done) | (simp; omega)) _))
theorem specRun_any (P I D S L H B : Int) (on : Bool) (u v o : Int) (s : Option Addr) (n c nd : Nat) (F : Nat → Int) (sd : Option Addr) (cd : Nat) (G : Nat → Int) (w : World) (hn : (n : Int) ≤ 1048576) (hnd : (nd : Int) ≤ 1048576) (HR : RowI w s n F) (HD : RowI w sd nd G) :
    Calls Try.prog 14 #[.agg #[.int .i64 P, .int .i64 I, .int .i64 D, .int .i64 S, .int .i64 L, .int .i64 H, .int .i64 B], .agg #[.bool on, .int .i64 u, .int .i64 v, .int .i64 o], .slice s n c, .slice sd nd cd] w fun e w' => ∃ m y b s' c', RunLV P I D S L H B (on, u, v, o) n nd F G m y b ∧ e = .returned (.tuple #[.slice s' m c', valH y, .bool b]) ∧ OwnI w.heap.size w' s' m (outK P I D S L H B (on, u, v, o) F G) ∧ Below w.heap.size w w' := by
  by_cases h1 : n = nd
  · subst h1
    by_cases h2 : n ≤ 1000
    · have K : ∀ w, Calls Try.prog 7 #[.agg #[.int .i64 P, .int .i64 I, .int .i64 D, .int .i64 S, .int .i64 L, .int .i64 H, .int .i64 B], .agg #[.bool on, .int .i64 u, .int .i64 v, .int .i64 o]] w fun e w' => e = .returned (.bool (okB P I D S L H B on u v o)) ∧ Below w.heap.size w w' := fun w => specOk_any P I D S L H B on u v o w
      cases h3 : okB P I D S L H B on u v o
      · rw [h3] at K
        exact specRun_no3 P I D S L H B on u v o s n c n F sd cd G w hn hnd rfl (by omega) K (fun q => by have e : okB P I D S L H B on u v o = true := q.1; rw [h3] at e; cases e)
      · rw [h3] at K
        exact specRun_in P I D S L H B on u v o s n c n F sd cd G w rfl (by omega) HR HD h3 K (fun on u v o want seen w => specStep_any P I D S L H B on u v o want seen w)
    · exact specRun_no2 P I D S L H B on u v o s n c n F sd cd G w hn hnd rfl (by omega) (fun q => h2 q.2.2)
  · exact specRun_no1 P I D S L H B on u v o s n c nd F sd cd G w hn hnd (by omega) (fun q => h1 q.2.1)
end Go.Proofs.Ytdpghhgfkhlliaa
