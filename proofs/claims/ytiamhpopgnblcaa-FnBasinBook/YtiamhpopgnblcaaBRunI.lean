/-
What is proved: a run of days over a basin, as the program tells it.
-/
import Derived.Test.YtiamhpopgnblcaaBRun
import Derived.Deep.DeepCutAuto
import Derived.Deep.RegionHeld3
namespace Go.Proofs.Ytiamhpopgnblcaa
set_option maxRecDepth 40000
open Go.RowKit
set_option linter.unusedVariables false
set_option linter.unusedSimpArgs false

set_option maxRecDepth 20000 in
set_option maxHeartbeats 2000000 in
theorem implBRun_go (x0 x1 x2 x3 full : Int) (s : Option Addr) (m c : Nat) (V : Nat → Int) (t : Option Addr) (n e : Nat) (A : Nat → Int) (Y : Int → Int) (Kf : Int → Bool) (w : World) (hn : (n : Int) ≤ 500) (HV : Hid (RowI w s (m * 2) V)) (HR : Hid (RowI w t (n * 3) A)) (HG : Hid (goR (x0, x1, x2, x3) n = true))
    (K : Hid (∀ w, Calls Try.prog 30 #[.agg #[.int .i64 x0, .int .i64 x1, .int .i64 x2, .int .i64 x3]] w fun e w' => e = .returned (.bool true) ∧ Below w.heap.size w w'))
    (T : Hid (∀ x0 x1 x2 x3 q k d s c w, RowI w s (m * 2) V → Calls Try.prog 15 #[.agg #[.int .i64 x0, .int .i64 x1, .int .i64 x2, .int .i64 x3], .int .i64 full, .slice s m c, .agg #[.int .i64 q, .int .i64 k, .int .i64 d]] w fun e w' => e = .returned (.tuple #[.agg #[.int .i64 (nS x0 x1 x2 x3 full q k (Y d) (Kf d)), .int .i64 (nI x0 x1 x2 x3 full q k (Y d) (Kf d)), .int .i64 (nO x0 x1 x2 x3 full q k (Y d) (Kf d)), .int .i64 (nP x0 x1 x2 x3 full q k (Y d) (Kf d))], .bool (goodB x0 x1 x2 x3 full q k (Kf d))]) ∧ Below w.heap.size w w')) :
    Calls Try.prog 9 #[.agg #[.int .i64 x0, .int .i64 x1, .int .i64 x2, .int .i64 x3], .int .i64 full, .slice s m c, .slice t n e] w fun e w' => (∃ v, RunBV full Y Kf (x0, x1, x2, x3) A n v ∧ e = .returned v) ∧ Below w.heap.size w w' := by
  go_enter Try.func9, Try.ntmps9
  go_wp2_with fail
  refine (K.out _).mono ?_
  rintro r w1 ⟨rfl, hr⟩
  have z1 : w.heap.size + 1 < w1.heap.size := by have := hr.size; simp at this; omega
  have z1a : w.heap.size < w1.heap.size := by omega
  have q0 : w1.cell? ⟨w.heap.size, 0, none⟩ = some (.int .i64 x0) := by rw [hr.cell (by first | omega | (simp; done) | (simp; omega))]; simp
  have q1 : w1.cell? ⟨w.heap.size, 1, none⟩ = some (.int .i64 x1) := by rw [hr.cell (by first | omega | (simp; done) | (simp; omega))]; simp
  have q2 : w1.cell? ⟨w.heap.size, 2, none⟩ = some (.int .i64 x2) := by rw [hr.cell (by first | omega | (simp; done) | (simp; omega))]; simp
  have q3 : w1.cell? ⟨w.heap.size, 3, none⟩ = some (.int .i64 x3) := by rw [hr.cell (by first | omega | (simp; done) | (simp; omega))]; simp
  have r0 : w1.cell? ⟨w.heap.size + 1, 0, none⟩ = some (.int .i64 0) := by rw [hr.cell (by first | omega | (simp; done) | (simp; omega))]; simp
  have r1 : w1.cell? ⟨w.heap.size + 1, 1, none⟩ = some (.int .i64 0) := by rw [hr.cell (by first | omega | (simp; done) | (simp; omega))]; simp
  have r2 : w1.cell? ⟨w.heap.size + 1, 2, none⟩ = some (.int .i64 0) := by rw [hr.cell (by first | omega | (simp; done) | (simp; omega))]; simp
  have r3 : w1.cell? ⟨w.heap.size + 1, 3, none⟩ = some (.int .i64 0) := by rw [hr.cell (by first | omega | (simp; done) | (simp; omega))]; simp
  have fz : ∀ o, w1.frozen? ⟨w.heap.size, o, none⟩ = false := fun o => by rw [hr.frozen (by first | omega | (simp; done) | (simp; omega))]; simp [go_sem]
  have fy : ∀ o, w1.frozen? ⟨w.heap.size + 1, o, none⟩ = false := fun o => by rw [hr.frozen (by first | omega | (simp; done) | (simp; omega))]; simp [go_sem]
  have B1 : Below w.heap.size w w1 := Below.trans (by repeat (first | with_reducible exact Below.refl _ _ | with_reducible refine Below.setCell ?_ (by first | omega | (simp; done) | (simp; omega)) _ | with_reducible refine bDrewN ?_ _ | with_reducible refine Below.drew ?_ | with_reducible refine Below.alloc ?_ (by first | omega | (simp; done) | (simp; omega)) _)) (hr.mono (by first | omega | (simp; done) | (simp; omega)))
  clear hr
  have D1 : Hid (BasAt w1 w.heap.size x0 x1 x2 x3) := ⟨z1a, fz, q0, q1, q2, q3⟩
  have R1 : Hid (BasAt w1 (w.heap.size + 1) 0 0 0 0) := ⟨z1, fy, r0, r1, r2, r3⟩
  have RZ : Hid (∀ wr, Beside w.heap.size w1 wr → BasAt wr (w.heap.size + 1) 0 0 0 0) := fun wr hs => R1.out.beside hs (by omega)
  have ROW : Hid (∀ wr, Beside w.heap.size w1 wr → RowI wr t (n * 3) A) := fun wr hs => row_beside HR.out B1 hs
  have VOW : Hid (∀ wr, Beside w.heap.size w1 wr → RowI wr s (m * 2) V) := fun wr hs => row_beside HV.out B1 hs
  clear q0 q1 q2 q3 r0 r1 r2 r3 fz fy
  go_wp2_with fail
  go_loopw [25] (fun i wr => ∃ k : Nat, ∃ y : T4, k ≤ n ∧ i = .int .i64 k ∧ Beside w.heap.size w1 wr ∧ BasAt wr w.heap.size y.1 y.2.1 y.2.2.1 y.2.2.2 ∧ y = runB full Y Kf (x0, x1, x2, x3) A k ∧ ∀ j, j < k → okR full Y Kf (x0, x1, x2, x3) A j = true) (fun i _ => n - (intOf i).toNat)
  case atStart => exact ⟨0, (x0, x1, x2, x3), Nat.zero_le _, rfl, Beside.of (Below.refl _ _), D1.out, rfl, fun j hj => by omega⟩
  case round =>
    obtain ⟨k, ⟨y0, y1, y2, y3⟩, hk, rfl, hS, hD, hy, hok⟩ := hrel
    have HY : Hid ((y0, y1, y2, y3) = runB full Y Kf (x0, x1, x2, x3) A k) := hy
    have HO : Hid (∀ j, j < k → okR full Y Kf (x0, x1, x2, x3) A j = true) := hok
    have HS : Hid (Beside w.heap.size w1 wr) := hS
    have HVr : Hid (RowI wr s (m * 2) V) := VOW.out wr hS
    clear hy hok
    simp only at hD
    have HD : Hid (BasAt wr w.heap.size y0 y1 y2 y3) := hD
    obtain ⟨zp, zf, c0, c1, c2, c3⟩ := hD
    have HZ : Hid (BasAt wr (w.heap.size + 1) 0 0 0 0) := RZ.out wr hS
    obtain ⟨zr, gf, t0, t1, t2, t3⟩ := HZ.out
    by_cases h1 : k < n
    · have RW := ROW.out wr hS
      obtain ⟨g, o, rfl, hg, a0⟩ := RW (k * 3) (by omega)
      obtain ⟨g', o', e', hg', a1⟩ := RW (k * 3 + 1) (by omega)
      cases e'
      obtain ⟨g', o', e', hg'', a2⟩ := RW (k * 3 + 2) (by omega)
      cases e'
      have a1' : wr.cell? ⟨g, o + k * 3 + 1, none⟩ = some (.int .i64 (A (k * 3 + 1))) := a1
      have a2' : wr.cell? ⟨g, o + k * 3 + 2, none⟩ = some (.int .i64 (A (k * 3 + 2))) := a2
      have k1 : (k : Int) < (n : Int) := by omega
      have HN : Hid (k < n) := h1
      clear a1 a2 hg' hg'' RW hS
      obtain ⟨u0, e0⟩ : ∃ u, nS y0 y1 y2 y3 full (A (k * 3)) (A (k * 3 + 1)) (Y (A (k * 3 + 2))) (Kf (A (k * 3 + 2))) = u := ⟨_, rfl⟩
      obtain ⟨u1, e1⟩ : ∃ u, nI y0 y1 y2 y3 full (A (k * 3)) (A (k * 3 + 1)) (Y (A (k * 3 + 2))) (Kf (A (k * 3 + 2))) = u := ⟨_, rfl⟩
      obtain ⟨u2, e2⟩ : ∃ u, nO y0 y1 y2 y3 full (A (k * 3)) (A (k * 3 + 1)) (Y (A (k * 3 + 2))) (Kf (A (k * 3 + 2))) = u := ⟨_, rfl⟩
      obtain ⟨u3, e3⟩ : ∃ u, nP y0 y1 y2 y3 full (A (k * 3)) (A (k * 3 + 1)) (Y (A (k * 3 + 2))) (Kf (A (k * 3 + 2))) = u := ⟨_, rfl⟩
      obtain ⟨ov, ho⟩ : ∃ ov, goodB y0 y1 y2 y3 full (A (k * 3)) (A (k * 3 + 1)) (Kf (A (k * 3 + 2))) = ov := ⟨_, rfl⟩
      have T1 := fun s c w => T.out y0 y1 y2 y3 (A (k * 3)) (A (k * 3 + 1)) (A (k * 3 + 2)) s c w
      rw [e0, e1, e2, e3, ho] at T1
      have T2 : Hid _ := T1
      have NX : Hid ((u0, u1, u2, u3) = runB full Y Kf (x0, x1, x2, x3) A (k + 1)) := by
        show _ = nextB full Y Kf (runB full Y Kf (x0, x1, x2, x3) A k) _ _ _
        rw [← HY.out, ← e0, ← e1, ← e2, ← e3]; rfl
      have OV : Hid (okR full Y Kf (x0, x1, x2, x3) A k = ov) := by
        show okR full Y Kf (x0, x1, x2, x3) A k = ov
        unfold okR okB; rw [← HY.out]; exact ho
      clear T1 e0 e1 e2 e3 ho
      go_wp2_with fail
      refine (T2.out _ _ _ (HVr.out.below (by repeat (first | with_reducible exact Below.refl _ _ | with_reducible refine Below.setCell ?_ (by first | omega | (simp; done) | (simp; omega)) _ | with_reducible refine bDrewN ?_ _ | with_reducible refine Below.drew ?_ | with_reducible refine Below.alloc ?_ (by first | omega | (simp; done) | (simp; omega)) _)))).mono ?_
      rintro r w3 ⟨rfl, h3⟩
      have hx3 : Below wr.heap.size wr w3 := Below.trans (by repeat (first | with_reducible exact Below.refl _ _ | with_reducible refine Below.setCell ?_ (by first | omega | (simp; done) | (simp; omega)) _ | with_reducible refine bDrewN ?_ _ | with_reducible refine Below.drew ?_ | with_reducible refine Below.alloc ?_ (by first | omega | (simp; done) | (simp; omega)) _)) (h3.mono (by first | omega | (simp; done) | (simp; omega)))
      have z3 : wr.heap.size ≤ w3.heap.size := hx3.size
      clear h3
      go_upto_region 7 with fail
      obtain ⟨wc, hwc⟩ : ∃ wc, wc = w3.alloc (.cells #[.int .i64 u0, .int .i64 u1, .int .i64 u2, .int .i64 u3] 25) := ⟨_, rfl⟩
      obtain ⟨p, hp⟩ : ∃ p, p = w3.heap.size := ⟨_, rfl⟩
      rw [← hwc, ← hp]
      have hB : Below wr.heap.size wr wc := by rw [hwc]; exact (by repeat (first | with_reducible exact Below.refl _ _ | with_reducible exact hx3 | with_reducible refine Below.setCell ?_ (by first | omega | (simp; done) | (simp; omega)) _ | with_reducible refine bDrewN ?_ _ | with_reducible refine Below.drew ?_ | with_reducible refine Below.alloc ?_ (by first | omega | (simp; done) | (simp; omega)) _))
      have hp2 : p < wc.heap.size := by rw [hwc, hp]; simp
      have hp1 : wr.heap.size ≤ p := by omega
      have v0 : wc.cell? ⟨p, 0, none⟩ = some (.int .i64 u0) := by rw [hwc, hp]; simp [go_sem]
      have v1 : wc.cell? ⟨p, 1, none⟩ = some (.int .i64 u1) := by rw [hwc, hp]; simp [go_sem]
      have v2 : wc.cell? ⟨p, 2, none⟩ = some (.int .i64 u2) := by rw [hwc, hp]; simp [go_sem]
      have v3 : wc.cell? ⟨p, 3, none⟩ = some (.int .i64 u3) := by rw [hwc, hp]; simp [go_sem]
      clear hwc hp hx3 z3
      have DC : Hid (BasAt wc w.heap.size y0 y1 y2 y3) := BasAt.below HD.out hB
      have SC : Hid (Beside w.heap.size w1 wc) := HS.out.trans (Beside.of hB)
      have ZC : Hid (BasAt wc (w.heap.size + 1) 0 0 0 0) := RZ.out wc SC.out
      have BC : Below w.heap.size w wc := B1.trans (SC.out.below (Nat.le_refl _) (by omega))
      clear c0 c1 c2 c3 a0 a1' a2' zp zf gf t0 t1 t2 t3 zr hB
      obtain ⟨zp, zf, c0, c1, c2, c3⟩ := DC.out
      obtain ⟨zr, gf, s0, s1, s2, s3⟩ := ZC.out
      cases ov
      · go_wp2
        refine bodyPost_ret (v := .tuple #[.agg #[.int .i64 y0, .int .i64 y1, .int .i64 y2, .int .i64 y3], .int .i64 (k : Int)]) (by simp [results, Try.results9, go_sem, s0, s1, s2, s3]) rfl ⟨⟨_, .inr ⟨HG.out, k, by omega, HO.out, .inr OV.out, ?_⟩, rfl⟩, ?_⟩
        · rw [← HY.out]; rfl
        · exact (by repeat (first | with_reducible exact Below.refl _ _ | with_reducible exact BC | with_reducible refine Below.setCell ?_ (by first | omega | (simp; done) | (simp; omega)) _ | with_reducible refine bDrewN ?_ _ | with_reducible refine Below.drew ?_ | with_reducible refine Below.alloc ?_ (by first | omega | (simp; done) | (simp; omega)) _))
      · have OX : Hid (∀ j, j < k + 1 → okR full Y Kf (x0, x1, x2, x3) A j = true) := fun j hj => by
          by_cases q : j = k
          · subst q; exact OV.out
          · exact HO.out j (by omega)
        go_wp2
        go_round
        case rel => exact ⟨k + 1, (u0, u1, u2, u3), by have := HN.out; omega, by go_num, SC.out.trans ((((Beside.setCell _ _ 0 _).trans (Beside.setCell _ _ 1 _)).trans (Beside.setCell _ _ 2 _)).trans (Beside.setCell _ _ 3 _)), DC.out.set _ _ _ _, NX.out, OX.out⟩
        case measure => have := HN.out; simp [intOf]; omega
    · obtain rfl : k = n := by omega
      have BC : Below w.heap.size w wr := B1.trans (HS.out.below (Nat.le_refl _) (by omega))
      go_wp2
      refine bodyPost_ret (v := .tuple #[.agg #[.int .i64 y0, .int .i64 y1, .int .i64 y2, .int .i64 y3], .int .i64 (k : Int)]) (by simp [results, Try.results9, go_sem, t0, t1, t2, t3]) rfl ⟨⟨_, .inr ⟨HG.out, k, by omega, HO.out, .inl rfl, ?_⟩, rfl⟩, ?_⟩
      · rw [← HY.out]; rfl
      · exact (by repeat (first | with_reducible exact Below.refl _ _ | with_reducible exact BC | with_reducible refine Below.setCell ?_ (by first | omega | (simp; done) | (simp; omega)) _ | with_reducible refine bDrewN ?_ _ | with_reducible refine Below.drew ?_ | with_reducible refine Below.alloc ?_ (by first | omega | (simp; done) | (simp; omega)) _))
set_option maxHeartbeats 1000000 in
theorem implBRun_no1 (x0 x1 x2 x3 full : Int) (s : Option Addr) (m c : Nat) (t : Option Addr) (n e : Nat) (w : World)
    (K : Hid (∀ w, Calls Try.prog 30 #[.agg #[.int .i64 x0, .int .i64 x1, .int .i64 x2, .int .i64 x3]] w fun e w' => e = .returned (.bool false) ∧ Below w.heap.size w w')) :
    Calls Try.prog 9 #[.agg #[.int .i64 x0, .int .i64 x1, .int .i64 x2, .int .i64 x3], .int .i64 full, .slice s m c, .slice t n e] w fun e w' => e = .returned (.tuple #[zero4, .int .i64 (-1)]) ∧ Below w.heap.size w w' := by
  go_enter Try.func9, Try.ntmps9
  go_wp2_with fail
  refine (K.out _).mono ?_
  rintro e w1 ⟨rfl, hb⟩
  obtain ⟨hc, hf⟩ := bcell hb
  have z1 : w.heap.size + 1 < w1.heap.size := by have := hb.size; simp at this; omega
  have B1 : Below w.heap.size w w1 := Below.trans (by repeat (first | with_reducible exact Below.refl _ _ | with_reducible refine Below.setCell ?_ (by first | omega | (simp; done) | (simp; omega)) _ | with_reducible refine bDrewN ?_ _ | with_reducible refine Below.drew ?_ | with_reducible refine Below.alloc ?_ (by first | omega | (simp; done) | (simp; omega)) _)) (hb.mono (by first | omega | (simp; done) | (simp; omega)))
  go_wp2
  refine bodyPost_ret (v := .tuple #[zero4, .int .i64 (-1)]) (by simp [results, Try.results9, go_sem, hc, zero4]) rfl ⟨rfl, ?_⟩
  exact (by repeat (first | with_reducible exact Below.refl _ _ | with_reducible exact B1 | with_reducible refine Below.setCell ?_ (by first | omega | (simp; done) | (simp; omega)) _ | with_reducible refine bDrewN ?_ _ | with_reducible refine Below.drew ?_ | with_reducible refine Below.alloc ?_ (by first | omega | (simp; done) | (simp; omega)) _))
set_option maxHeartbeats 1000000 in
theorem implBRun_no2 (x0 x1 x2 x3 full : Int) (s : Option Addr) (m c : Nat) (t : Option Addr) (n e : Nat) (w : World) (hn : 500 < (n : Int))
    (K : Hid (∀ w, Calls Try.prog 30 #[.agg #[.int .i64 x0, .int .i64 x1, .int .i64 x2, .int .i64 x3]] w fun e w' => e = .returned (.bool true) ∧ Below w.heap.size w w')) :
    Calls Try.prog 9 #[.agg #[.int .i64 x0, .int .i64 x1, .int .i64 x2, .int .i64 x3], .int .i64 full, .slice s m c, .slice t n e] w fun e w' => e = .returned (.tuple #[zero4, .int .i64 (-1)]) ∧ Below w.heap.size w w' := by
  go_enter Try.func9, Try.ntmps9
  go_wp2_with fail
  refine (K.out _).mono ?_
  rintro e w1 ⟨rfl, hb⟩
  obtain ⟨hc, hf⟩ := bcell hb
  have z1 : w.heap.size + 1 < w1.heap.size := by have := hb.size; simp at this; omega
  have B1 : Below w.heap.size w w1 := Below.trans (by repeat (first | with_reducible exact Below.refl _ _ | with_reducible refine Below.setCell ?_ (by first | omega | (simp; done) | (simp; omega)) _ | with_reducible refine bDrewN ?_ _ | with_reducible refine Below.drew ?_ | with_reducible refine Below.alloc ?_ (by first | omega | (simp; done) | (simp; omega)) _)) (hb.mono (by first | omega | (simp; done) | (simp; omega)))
  go_wp2
  refine bodyPost_ret (v := .tuple #[zero4, .int .i64 (-1)]) (by simp [results, Try.results9, go_sem, hc, zero4]) rfl ⟨rfl, ?_⟩
  exact (by repeat (first | with_reducible exact Below.refl _ _ | with_reducible exact B1 | with_reducible refine Below.setCell ?_ (by first | omega | (simp; done) | (simp; omega)) _ | with_reducible refine bDrewN ?_ _ | with_reducible refine Below.drew ?_ | with_reducible refine Below.alloc ?_ (by first | omega | (simp; done) | (simp; omega)) _))
theorem implBasinRun_any (x0 x1 x2 x3 full : Int) (s : Option Addr) (m c : Nat) (V : Nat → Int) (t : Option Addr) (n e : Nat) (A : Nat → Int) (Y : Int → Int) (Kf : Int → Bool) (w : World) (hY : ∀ d, AV m V d (Y d) (Kf d)) (HV : RowI w s (m * 2) V) (HR : RowI w t (n * 3) A) :
    Calls Try.prog 9 #[.agg #[.int .i64 x0, .int .i64 x1, .int .i64 x2, .int .i64 x3], .int .i64 full, .slice s m c, .slice t n e] w fun e w' => (∃ v, RunBV full Y Kf (x0, x1, x2, x3) A n v ∧ e = .returned v) ∧ Below w.heap.size w w' := by
  have K := fun w => right_any x0 x1 x2 x3 w
  cases d : basB x0 x1 x2 x3
  · rw [d] at K
    refine (implBRun_no1 x0 x1 x2 x3 full s m c t n e w K).mono ?_
    rintro r w' ⟨rfl, hb⟩
    exact ⟨⟨_, .inl ⟨by unfold goR; simp only [d, Bool.false_and], rfl⟩, rfl⟩, hb⟩
  · rw [d] at K
    by_cases h : n ≤ 500
    · exact implBRun_go x0 x1 x2 x3 full s m c V t n e A Y Kf w (by omega) HV HR (by show goR _ _ = true; unfold goR; simp only [d, Bool.true_and]; exact decide_eq_true h) K (fun a0 a1 a2 a3 q k d s c w h => implBasin_any a0 a1 a2 a3 full q k d (Y d) (Kf d) s m c V w (hY d) h)
    · refine (implBRun_no2 x0 x1 x2 x3 full s m c t n e w (by omega) K).mono ?_
      rintro r w' ⟨rfl, hb⟩
      exact ⟨⟨_, .inl ⟨by unfold goR; simp only [d, Bool.true_and]; exact decide_eq_false h, rfl⟩, rfl⟩, hb⟩
end Go.Proofs.Ytiamhpopgnblcaa
