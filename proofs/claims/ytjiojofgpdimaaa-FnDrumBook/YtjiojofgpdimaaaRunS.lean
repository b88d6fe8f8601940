/-
What is proved: the specification's run of a drum over a list of acts.
-/
import Derived.Test.YtjiojofgpdimaaaRun
import Derived.Deep.DeepCutAuto
import Derived.Deep.RegionHeld3
namespace Go.Proofs.Ytjiojofgpdimaaa
set_option maxRecDepth 40000
open Go.RowKit
set_option linter.unusedVariables false

set_option maxRecDepth 20000 in
set_option maxHeartbeats 1000000 in
theorem specRun_go (x0 x1 x2 x3 x4 x5 x6 : Int) (s : Option Addr) (n c : Nat) (V : Nat → Int) (w : World) (hn : (n : Int) ≤ 500) (HR : Hid (RowI w s (n * 3) V)) (HG : Hid (goB (x0, x1, x2, x3, x4, x5, x6) n = true))
    (K : Hid (∀ w, Calls Try.prog 27 #[.agg #[.int .i64 x0, .int .i64 x1, .int .i64 x2, .int .i64 x3, .int .i64 x4, .int .i64 x5, .int .i64 x6]] w fun e w' => e = .returned (.bool true) ∧ Below w.heap.size w w'))
    (T : Hid (∀ x0 x1 x2 x3 x4 x5 x6 fe fi dr w, Calls Try.prog 12 #[.agg #[.int .i64 x0, .int .i64 x1, .int .i64 x2, .int .i64 x3, .int .i64 x4, .int .i64 x5, .int .i64 x6], .int .i64 fe, .int .i64 fi, .int .i64 dr] w fun e w' => e = .returned (.tuple #[stepV x0 x1 x2 x3 x4 x5 x6 fe fi dr, .bool (stepOk x0 x1 x2 x3 x4 x5 x6 fe fi dr)]) ∧ Below w.heap.size w w')) :
    Calls Try.prog 9 #[.agg #[.int .i64 x0, .int .i64 x1, .int .i64 x2, .int .i64 x3, .int .i64 x4, .int .i64 x5, .int .i64 x6], .slice s n c] w fun e w' => (∃ v, RunV (x0, x1, x2, x3, x4, x5, x6) V n v ∧ e = .returned v) ∧ Below w.heap.size w w' := by
  go_enter Try.func9, Try.ntmps9
  go_wp2_with fail
  refine (K.out _).mono ?_
  rintro r w1 ⟨rfl, hr⟩
  have z1 : w.heap.size + 1 < w1.heap.size := by have := hr.size; simp at this; omega
  have z1a : w.heap.size < w1.heap.size := by omega
  have q0 : w1.cell? ⟨w.heap.size, 0, none⟩ = some (.int .i64 x0) := by rw [hr.cell (by first | omega | (simp; done) | (simp; omega))]; simp
  have q1 : w1.cell? ⟨w.heap.size, 1, none⟩ = some (.int .i64 x1) := by rw [hr.cell (by first | omega | (simp; done) | (simp; omega))]; simp
  have q2 : w1.cell? ⟨w.heap.size, 2, none⟩ = some (.int .i64 x2) := by rw [hr.cell (by first | omega | (simp; done) | (simp; omega))]; simp
  have q3 : w1.cell? ⟨w.heap.size, 3, none⟩ = some (.int .i64 x3) := by rw [hr.cell (by first | omega | (simp; done) | (simp; omega))]; simp
  have q4 : w1.cell? ⟨w.heap.size, 4, none⟩ = some (.int .i64 x4) := by rw [hr.cell (by first | omega | (simp; done) | (simp; omega))]; simp
  have q5 : w1.cell? ⟨w.heap.size, 5, none⟩ = some (.int .i64 x5) := by rw [hr.cell (by first | omega | (simp; done) | (simp; omega))]; simp
  have q6 : w1.cell? ⟨w.heap.size, 6, none⟩ = some (.int .i64 x6) := by rw [hr.cell (by first | omega | (simp; done) | (simp; omega))]; simp
  have r0 : w1.cell? ⟨w.heap.size + 1, 0, none⟩ = some (.int .i64 0) := by rw [hr.cell (by first | omega | (simp; done) | (simp; omega))]; simp
  have r1 : w1.cell? ⟨w.heap.size + 1, 1, none⟩ = some (.int .i64 0) := by rw [hr.cell (by first | omega | (simp; done) | (simp; omega))]; simp
  have r2 : w1.cell? ⟨w.heap.size + 1, 2, none⟩ = some (.int .i64 0) := by rw [hr.cell (by first | omega | (simp; done) | (simp; omega))]; simp
  have r3 : w1.cell? ⟨w.heap.size + 1, 3, none⟩ = some (.int .i64 0) := by rw [hr.cell (by first | omega | (simp; done) | (simp; omega))]; simp
  have r4 : w1.cell? ⟨w.heap.size + 1, 4, none⟩ = some (.int .i64 0) := by rw [hr.cell (by first | omega | (simp; done) | (simp; omega))]; simp
  have r5 : w1.cell? ⟨w.heap.size + 1, 5, none⟩ = some (.int .i64 0) := by rw [hr.cell (by first | omega | (simp; done) | (simp; omega))]; simp
  have r6 : w1.cell? ⟨w.heap.size + 1, 6, none⟩ = some (.int .i64 0) := by rw [hr.cell (by first | omega | (simp; done) | (simp; omega))]; simp
  have fz : ∀ o, w1.frozen? ⟨w.heap.size, o, none⟩ = false := fun o => by rw [hr.frozen (by first | omega | (simp; done) | (simp; omega))]; simp [go_sem]
  have fy : ∀ o, w1.frozen? ⟨w.heap.size + 1, o, none⟩ = false := fun o => by rw [hr.frozen (by first | omega | (simp; done) | (simp; omega))]; simp [go_sem]
  have B1 : Below w.heap.size w w1 := Below.trans (by repeat (first | with_reducible exact Below.refl _ _ | with_reducible refine Below.setCell ?_ (by first | omega | (simp; done) | (simp; omega)) _ | with_reducible refine bDrewN ?_ _ | with_reducible refine Below.drew ?_ | with_reducible refine Below.alloc ?_ (by first | omega | (simp; done) | (simp; omega)) _)) (hr.mono (by first | omega | (simp; done) | (simp; omega)))
  clear hr
  have HR1 : Hid (RowI w1 s (n * 3) V) := HR.out.below B1
  have D1 : Hid (DrumAt w1 w.heap.size x0 x1 x2 x3 x4 x5 x6) := ⟨z1a, fz, q0, q1, q2, q3, q4, q5, q6⟩
  have RZ : Hid (∀ wr, Beside w.heap.size w1 wr → (∀ o, wr.frozen? ⟨w.heap.size + 1, o, none⟩ = false) ∧ Keep7 (w.heap.size + 1) 0 0 0 0 0 0 0 wr) := fun wr hs => ⟨fun o => (hs.frozen (p := ⟨w.heap.size + 1, o, none⟩) z1 (by simp)).trans (fy o), (hs.cell (p := ⟨w.heap.size + 1, 0, none⟩) z1 (by simp)).trans r0, (hs.cell (p := ⟨w.heap.size + 1, 1, none⟩) z1 (by simp)).trans r1, (hs.cell (p := ⟨w.heap.size + 1, 2, none⟩) z1 (by simp)).trans r2, (hs.cell (p := ⟨w.heap.size + 1, 3, none⟩) z1 (by simp)).trans r3, (hs.cell (p := ⟨w.heap.size + 1, 4, none⟩) z1 (by simp)).trans r4, (hs.cell (p := ⟨w.heap.size + 1, 5, none⟩) z1 (by simp)).trans r5, (hs.cell (p := ⟨w.heap.size + 1, 6, none⟩) z1 (by simp)).trans r6⟩
  have ROW : Hid (∀ wr, Beside w.heap.size w1 wr → RowI wr s (n * 3) V ∧ ∀ j, j < n * 3 → ∃ b o, s = some ⟨b, o, none⟩ ∧ b < w.heap.size) := fun wr hs => by
    refine ⟨fun j hj => ?_, fun j hj => ?_⟩
    · obtain ⟨b, o, e, hl, hc⟩ := HR.out j hj
      have hl1 : b < w1.heap.size := Nat.lt_of_lt_of_le hl B1.size
      exact ⟨b, o, e, Nat.lt_of_lt_of_le hl1 hs.2.2.2.1, (hs.cell (p := ⟨b, o + j, none⟩) hl1 (by show b ≠ w.heap.size; omega)).trans ((B1.cell (p := ⟨b, o + j, none⟩) hl).trans hc)⟩
    · obtain ⟨b, o, e, hl, hc⟩ := HR.out j hj
      exact ⟨b, o, e, hl⟩
  clear q0 q1 q2 q3 q4 q5 q6 r0 r1 r2 r3 r4 r5 r6 fz fy
  go_wp2_with fail
  go_loopw [6] (fun i wr => ∃ k : Nat, ∃ y : T7, k ≤ n ∧ i = .int .i64 k ∧ Beside w.heap.size w1 wr ∧ DrumAt wr w.heap.size y.1 y.2.1 y.2.2.1 y.2.2.2.1 y.2.2.2.2.1 y.2.2.2.2.2.1 y.2.2.2.2.2.2 ∧ y = runT (x0, x1, x2, x3, x4, x5, x6) V k ∧ ∀ j, j < k → okK (x0, x1, x2, x3, x4, x5, x6) V j = true) (fun i _ => n - (intOf i).toNat)
  case atStart => exact ⟨0, (x0, x1, x2, x3, x4, x5, x6), Nat.zero_le _, rfl, Beside.of (Below.refl _ _), D1.out, rfl, fun j hj => by omega⟩
  case round =>
    obtain ⟨k, ⟨y0, y1, y2, y3, y4, y5, y6⟩, hk, rfl, hS, hD, hy, hok⟩ := hrel
    have HY : Hid ((y0, y1, y2, y3, y4, y5, y6) = runT (x0, x1, x2, x3, x4, x5, x6) V k) := hy
    have HO : Hid (∀ j, j < k → okK (x0, x1, x2, x3, x4, x5, x6) V j = true) := hok
    have HD : Hid _ := hD
    have HS : Hid (Beside w.heap.size w1 wr) := hS
    clear hy hok
    simp only at hD
    obtain ⟨zp, zf, c0, c1, c2, c3, c4, c5, c6⟩ := hD
    obtain ⟨gf, t0, t1, t2, t3, t4, t5, t6⟩ := RZ.out wr hS
    have zr : w.heap.size + 1 < wr.heap.size := Nat.lt_of_lt_of_le z1 hS.2.2.2.1
    by_cases h1 : k < n
    · obtain ⟨RW, SB⟩ := ROW.out wr hS
      obtain ⟨g, o, rfl, hg, a0⟩ := RW (k * 3) (by omega)
      obtain ⟨g', o', e', hg', a1⟩ := RW (k * 3 + 1) (by omega)
      cases e'
      obtain ⟨g', o', e', hg'', a2⟩ := RW (k * 3 + 2) (by omega)
      cases e'
      obtain ⟨g', o', e', hgw⟩ := SB (k * 3) (by omega)
      cases e'
      have a1' : wr.cell? ⟨g, o + k * 3 + 1, none⟩ = some (.int .i64 (V (k * 3 + 1))) := a1
      have a2' : wr.cell? ⟨g, o + k * 3 + 2, none⟩ = some (.int .i64 (V (k * 3 + 2))) := a2
      have k1 : (k : Int) < (n : Int) := by omega
      have HN : Hid (k < n) := h1
      clear a1 a2 hg' hg'' RW SB hS
      obtain ⟨u0, u1, u2, u3, u4, u5, u6, hu⟩ := stepV_agg2 y0 y1 y2 y3 y4 y5 y6 (V (k * 3)) (V (k * 3 + 1)) (V (k * 3 + 2))
      have T1 := fun w => T.out y0 y1 y2 y3 y4 y5 y6 (V (k * 3)) (V (k * 3 + 1)) (V (k * 3 + 2)) w
      rw [hu] at T1
      have T2 : Hid _ := T1
      have HU : Hid _ := hu
      clear T1 hu
      obtain ⟨ov, ho⟩ : ∃ ov, stepOk y0 y1 y2 y3 y4 y5 y6 (V (k * 3)) (V (k * 3 + 1)) (V (k * 3 + 2)) = ov := ⟨_, rfl⟩
      rw [ho] at T2
      have HV : Hid _ := ho
      clear ho
      go_upto_region 6 with fail
      go_cut [7, 8] (fun s t wx => ∃ p : Nat, s = .pointer (some ⟨p, 0, none⟩) ∧ t = .bool ov ∧ wr.heap.size ≤ p ∧ p < wx.heap.size ∧ wx.cell? ⟨p, 0, none⟩ = some (.int .i64 u0) ∧ wx.cell? ⟨p, 1, none⟩ = some (.int .i64 u1) ∧ wx.cell? ⟨p, 2, none⟩ = some (.int .i64 u2) ∧ wx.cell? ⟨p, 3, none⟩ = some (.int .i64 u3) ∧ wx.cell? ⟨p, 4, none⟩ = some (.int .i64 u4) ∧ wx.cell? ⟨p, 5, none⟩ = some (.int .i64 u5) ∧ wx.cell? ⟨p, 6, none⟩ = some (.int .i64 u6) ∧ Below wr.heap.size wr wx)
      case first =>
        go_region_held3 (fun w' => w'.cell? ⟨w.heap.size, 0, none⟩ = some (.int .i64 y0) ∧ w'.cell? ⟨w.heap.size, 1, none⟩ = some (.int .i64 y1) ∧ w'.cell? ⟨w.heap.size, 2, none⟩ = some (.int .i64 y2) ∧ w'.cell? ⟨w.heap.size, 3, none⟩ = some (.int .i64 y3) ∧ w'.cell? ⟨w.heap.size, 4, none⟩ = some (.int .i64 y4) ∧ w'.cell? ⟨w.heap.size, 5, none⟩ = some (.int .i64 y5) ∧ w'.cell? ⟨w.heap.size, 6, none⟩ = some (.int .i64 y6) ∧ w'.cell? ⟨g, o + k * 3, none⟩ = some (.int .i64 (V (k * 3))) ∧ w'.cell? ⟨g, o + k * 3 + 1, none⟩ = some (.int .i64 (V (k * 3 + 1))) ∧ w'.cell? ⟨g, o + k * 3 + 2, none⟩ = some (.int .i64 (V (k * 3 + 2)))) (first | (refine keepD c0 c1 c2 c3 c4 c5 c6 a0 a1' a2' zp hg ?_; exact (by repeat (first | with_reducible exact Below.refl _ _ | with_reducible exact B3 | with_reducible refine Below.setCell ?_ (by first | omega | (simp; done) | (simp; omega)) _ | with_reducible refine bDrewN ?_ _ | with_reducible refine Below.drew ?_ | with_reducible refine Below.alloc ?_ (by first | omega | (simp; done) | (simp; omega)) _)))) (first
          | (go_at_call 12; refine (T2.out _).mono ?_; rintro r w3 ⟨rfl, h3⟩; obtain ⟨hc3, hf3⟩ := bcell h3; have B3 : Below wr.heap.size wr w3 := Below.trans (by repeat (first | with_reducible exact Below.refl _ _ | with_reducible refine Below.setCell ?_ (by first | omega | (simp; done) | (simp; omega)) _ | with_reducible refine bDrewN ?_ _ | with_reducible refine Below.drew ?_ | with_reducible refine Below.alloc ?_ (by first | omega | (simp; done) | (simp; omega)) _)) (h3.mono (by first | omega | (simp; done) | (simp; omega))); have z3 := h3.size; simp at z3; have z3a : wr.heap.size ≤ w3.heap.size := (by omega)))
        all_goals
          go_wp2_with fail
          go_meet
          case rel =>
            refine ⟨_, rfl, rfl, ?_, ?_, ?_, ?_, ?_, ?_, ?_, ?_, ?_, (by repeat (first | with_reducible exact Below.refl _ _ | with_reducible exact B3 | with_reducible refine Below.setCell ?_ (by first | omega | (simp; done) | (simp; omega)) _ | with_reducible refine bDrewN ?_ _ | with_reducible refine Below.drew ?_ | with_reducible refine Below.alloc ?_ (by first | omega | (simp; done) | (simp; omega)) _))⟩
            all_goals first | omega | (simp [go_sem, *]; done) | (simp; omega) | (simp [*]; omega)
      case rest =>
        obtain ⟨p, rfl, rfl, hp1, hp2, v0, v1, v2, v3, v4, v5, v6, hB⟩ := hcut
        have DC : Hid (DrumAt wc w.heap.size y0 y1 y2 y3 y4 y5 y6) := DrumAt.below HD.out hB
        have SC : Hid (Beside w.heap.size w1 wc) := HS.out.trans (Beside.of hB)
        obtain ⟨gf', s0, s1, s2, s3, s4, s5, s6⟩ := RZ.out wc SC.out
        have zr' : w.heap.size + 1 < wc.heap.size := Nat.lt_of_lt_of_le zr hB.size
        have BC : Below w.heap.size w wc := B1.trans (SC.out.below (Nat.le_refl _) (by omega))
        clear c0 c1 c2 c3 c4 c5 c6 a0 a1' a2' zp zf gf t0 t1 t2 t3 t4 t5 t6 zr hB
        obtain ⟨zp, zf, c0, c1, c2, c3, c4, c5, c6⟩ := DC.out
        cases ov
        · go_wp2
          refine bodyPost_ret (v := .tuple #[.agg #[.int .i64 y0, .int .i64 y1, .int .i64 y2, .int .i64 y3, .int .i64 y4, .int .i64 y5, .int .i64 y6], .int .i64 (k : Int)]) (by simp [results, Try.results9, go_sem, s0, s1, s2, s3, s4, s5, s6]) rfl ⟨⟨_, .inr ⟨HG.out, k, by omega, HO.out, .inr ?_, ?_⟩, rfl⟩, ?_⟩
          · unfold okK okT; rw [← HY.out]; exact HV.out
          · rw [← HY.out]; rfl
          · exact (by repeat (first | with_reducible exact Below.refl _ _ | with_reducible exact BC | with_reducible refine Below.setCell ?_ (by first | omega | (simp; done) | (simp; omega)) _ | with_reducible refine bDrewN ?_ _ | with_reducible refine Below.drew ?_ | with_reducible refine Below.alloc ?_ (by first | omega | (simp; done) | (simp; omega)) _))
        · have NX : Hid ((u0, u1, u2, u3, u4, u5, u6) = runT (x0, x1, x2, x3, x4, x5, x6) V (k + 1)) := by
            show _ = nextT (runT (x0, x1, x2, x3, x4, x5, x6) V k) _ _ _
            rw [← HY.out]
            exact valT_inj (HU.out.symm.trans (stepV_next _ _ _ _ _ _ _ _ _ _ HV.out))
          have OX : Hid (∀ j, j < k + 1 → okK (x0, x1, x2, x3, x4, x5, x6) V j = true) := fun j hj => by
            by_cases q : j = k
            · subst q; unfold okK okT; rw [← HY.out]; exact HV.out
            · exact HO.out j (by omega)
          go_wp2
          go_round
          case rel => exact ⟨k + 1, (u0, u1, u2, u3, u4, u5, u6), by have := HN.out; omega, by go_num, SC.out.trans (((((((Beside.setCell _ _ 0 _).trans (Beside.setCell _ _ 1 _)).trans (Beside.setCell _ _ 2 _)).trans (Beside.setCell _ _ 3 _)).trans (Beside.setCell _ _ 4 _)).trans (Beside.setCell _ _ 5 _)).trans (Beside.setCell _ _ 6 _)), ((((((DC.out.set0 _).set1 _).set2 _).set3 _).set4 _).set5 _).set6 _, NX.out, OX.out⟩
          case measure => have := HN.out; simp [intOf]; omega
    · obtain rfl : k = n := by omega
      have BC : Below w.heap.size w wr := B1.trans (HS.out.below (Nat.le_refl _) (by omega))
      go_wp2
      refine bodyPost_ret (v := .tuple #[.agg #[.int .i64 y0, .int .i64 y1, .int .i64 y2, .int .i64 y3, .int .i64 y4, .int .i64 y5, .int .i64 y6], .int .i64 (k : Int)]) (by simp [results, Try.results9, go_sem, t0, t1, t2, t3, t4, t5, t6]) rfl ⟨⟨_, .inr ⟨HG.out, k, by omega, HO.out, .inl rfl, ?_⟩, rfl⟩, ?_⟩
      · rw [← HY.out]; rfl
      · exact (by repeat (first | with_reducible exact Below.refl _ _ | with_reducible exact BC | with_reducible refine Below.setCell ?_ (by first | omega | (simp; done) | (simp; omega)) _ | with_reducible refine bDrewN ?_ _ | with_reducible refine Below.drew ?_ | with_reducible refine Below.alloc ?_ (by first | omega | (simp; done) | (simp; omega)) _))
set_option maxHeartbeats 1000000 in
theorem specRun_no1 (x0 x1 x2 x3 x4 x5 x6 : Int) (s : Option Addr) (n c : Nat) (w : World)
    (K : Hid (∀ w, Calls Try.prog 27 #[.agg #[.int .i64 x0, .int .i64 x1, .int .i64 x2, .int .i64 x3, .int .i64 x4, .int .i64 x5, .int .i64 x6]] w fun e w' => e = .returned (.bool false) ∧ Below w.heap.size w w')) :
    Calls Try.prog 9 #[.agg #[.int .i64 x0, .int .i64 x1, .int .i64 x2, .int .i64 x3, .int .i64 x4, .int .i64 x5, .int .i64 x6], .slice s n c] w fun e w' => e = .returned (.tuple #[drum0, .int .i64 (-1)]) ∧ Below w.heap.size w w' := by
  go_enter Try.func9, Try.ntmps9
  go_wp2_with fail
  refine (K.out _).mono ?_
  rintro e w1 ⟨rfl, hb⟩
  obtain ⟨hc, hf⟩ := bcell hb
  have z1 : w.heap.size + 1 < w1.heap.size := by have := hb.size; simp at this; omega
  have B1 : Below w.heap.size w w1 := Below.trans (by repeat (first | with_reducible exact Below.refl _ _ | with_reducible refine Below.setCell ?_ (by first | omega | (simp; done) | (simp; omega)) _ | with_reducible refine bDrewN ?_ _ | with_reducible refine Below.drew ?_ | with_reducible refine Below.alloc ?_ (by first | omega | (simp; done) | (simp; omega)) _)) (hb.mono (by first | omega | (simp; done) | (simp; omega)))
  go_wp2
  refine bodyPost_ret (v := .tuple #[drum0, .int .i64 (-1)]) (by simp [results, Try.results9, go_sem, hc, drum0]) rfl ⟨rfl, ?_⟩
  exact (by repeat (first | with_reducible exact Below.refl _ _ | with_reducible exact B1 | with_reducible refine Below.setCell ?_ (by first | omega | (simp; done) | (simp; omega)) _ | with_reducible refine bDrewN ?_ _ | with_reducible refine Below.drew ?_ | with_reducible refine Below.alloc ?_ (by first | omega | (simp; done) | (simp; omega)) _))
set_option maxHeartbeats 1000000 in
theorem specRun_no2 (x0 x1 x2 x3 x4 x5 x6 : Int) (s : Option Addr) (n c : Nat) (w : World) (hn : 500 < (n : Int))
    (K : Hid (∀ w, Calls Try.prog 27 #[.agg #[.int .i64 x0, .int .i64 x1, .int .i64 x2, .int .i64 x3, .int .i64 x4, .int .i64 x5, .int .i64 x6]] w fun e w' => e = .returned (.bool true) ∧ Below w.heap.size w w')) :
    Calls Try.prog 9 #[.agg #[.int .i64 x0, .int .i64 x1, .int .i64 x2, .int .i64 x3, .int .i64 x4, .int .i64 x5, .int .i64 x6], .slice s n c] w fun e w' => e = .returned (.tuple #[drum0, .int .i64 (-1)]) ∧ Below w.heap.size w w' := by
  go_enter Try.func9, Try.ntmps9
  go_wp2_with fail
  refine (K.out _).mono ?_
  rintro e w1 ⟨rfl, hb⟩
  obtain ⟨hc, hf⟩ := bcell hb
  have z1 : w.heap.size + 1 < w1.heap.size := by have := hb.size; simp at this; omega
  have B1 : Below w.heap.size w w1 := Below.trans (by repeat (first | with_reducible exact Below.refl _ _ | with_reducible refine Below.setCell ?_ (by first | omega | (simp; done) | (simp; omega)) _ | with_reducible refine bDrewN ?_ _ | with_reducible refine Below.drew ?_ | with_reducible refine Below.alloc ?_ (by first | omega | (simp; done) | (simp; omega)) _)) (hb.mono (by first | omega | (simp; done) | (simp; omega)))
  go_wp2
  refine bodyPost_ret (v := .tuple #[drum0, .int .i64 (-1)]) (by simp [results, Try.results9, go_sem, hc, drum0]) rfl ⟨rfl, ?_⟩
  exact (by repeat (first | with_reducible exact Below.refl _ _ | with_reducible exact B1 | with_reducible refine Below.setCell ?_ (by first | omega | (simp; done) | (simp; omega)) _ | with_reducible refine bDrewN ?_ _ | with_reducible refine Below.drew ?_ | with_reducible refine Below.alloc ?_ (by first | omega | (simp; done) | (simp; omega)) _))
theorem specDrumRun_any (x0 x1 x2 x3 x4 x5 x6 : Int) (s : Option Addr) (n c : Nat) (V : Nat → Int) (w : World) (HR : RowI w s (n * 3) V) :
    Calls Try.prog 9 #[.agg #[.int .i64 x0, .int .i64 x1, .int .i64 x2, .int .i64 x3, .int .i64 x4, .int .i64 x5, .int .i64 x6], .slice s n c] w fun e w' => (∃ v, RunV (x0, x1, x2, x3, x4, x5, x6) V n v ∧ e = .returned v) ∧ Below w.heap.size w w' := by
  have K := fun w => specDrumOk_any x0 x1 x2 x3 x4 x5 x6 w
  cases d : drumB x0 x1 x2 x3 x4 x5 x6
  · rw [d] at K
    refine (specRun_no1 x0 x1 x2 x3 x4 x5 x6 s n c w K).mono ?_
    rintro e w' ⟨rfl, hb⟩
    exact ⟨⟨_, .inl ⟨by unfold goB; simp only [d, Bool.false_and], rfl⟩, rfl⟩, hb⟩
  · rw [d] at K
    by_cases h : n ≤ 500
    · exact specRun_go x0 x1 x2 x3 x4 x5 x6 s n c V w (by omega) HR (by show goB _ _ = true; unfold goB; simp only [d, Bool.true_and]; exact decide_eq_true h) K (fun a0 a1 a2 a3 a4 a5 a6 fe fi dr w => specDrumStep_any a0 a1 a2 a3 a4 a5 a6 fe fi dr w)
    · refine (specRun_no2 x0 x1 x2 x3 x4 x5 x6 s n c w (by omega) K).mono ?_
      rintro e w' ⟨rfl, hb⟩
      exact ⟨⟨_, .inl ⟨by unfold goB; simp only [d, Bool.true_and]; exact decide_eq_false h, rfl⟩, rfl⟩, hb⟩
end Go.Proofs.Ytjiojofgpdimaaa
