/-
What is proved: whether a zone sees, as the specification tells it.
-/
import Derived.Test.YtedkhhocbnldjaaZo
import Derived.Test.YtedkhhocbnldjaaDivPairS
import Derived.Deep.RegionHeld3
import Derived.Deep.DeepCutAuto
namespace Go.Proofs.Ytedkhhocbnldjaa
set_option maxRecDepth 40000
open Go.RowKit
set_option linter.unusedVariables false
set_option linter.unusedSimpArgs false

theorem keepZ {W W' : World} {p q k : Nat} {vp0 vp1 vp2 vp3 vq0 vq1 vk0 vk1 : Value} (hp0 : W.cell? ⟨p, 0, none⟩ = some vp0) (hp1 : W.cell? ⟨p, 1, none⟩ = some vp1) (hp2 : W.cell? ⟨p, 2, none⟩ = some vp2) (hp3 : W.cell? ⟨p, 3, none⟩ = some vp3) (hq0 : W.cell? ⟨q, 0, none⟩ = some vq0) (hq1 : W.cell? ⟨q, 1, none⟩ = some vq1) (hk0 : W.cell? ⟨k, 0, none⟩ = some vk0) (hk1 : W.cell? ⟨k, 1, none⟩ = some vk1) (zp : p < W.heap.size) (zq : q < W.heap.size) (zk : k < W.heap.size) (hb : Below W.heap.size W W') : W'.cell? ⟨p, 0, none⟩ = some vp0 ∧ W'.cell? ⟨p, 1, none⟩ = some vp1 ∧ W'.cell? ⟨p, 2, none⟩ = some vp2 ∧ W'.cell? ⟨p, 3, none⟩ = some vp3 ∧ W'.cell? ⟨q, 0, none⟩ = some vq0 ∧ W'.cell? ⟨q, 1, none⟩ = some vq1 ∧ W'.cell? ⟨k, 0, none⟩ = some vk0 ∧ W'.cell? ⟨k, 1, none⟩ = some vk1 :=
  ⟨(hb.cell (p := ⟨p, 0, none⟩) zp).trans hp0, (hb.cell (p := ⟨p, 1, none⟩) zp).trans hp1, (hb.cell (p := ⟨p, 2, none⟩) zp).trans hp2, (hb.cell (p := ⟨p, 3, none⟩) zp).trans hp3, (hb.cell (p := ⟨q, 0, none⟩) zq).trans hq0, (hb.cell (p := ⟨q, 1, none⟩) zq).trans hq1, (hb.cell (p := ⟨k, 0, none⟩) zk).trans hk0, (hb.cell (p := ⟨k, 1, none⟩) zk).trans hk1⟩
set_option maxHeartbeats 4000000 in
theorem l16Zone_any (c e r : Nat) (t : Int) (lc : c < 18446744073709551616) (le : e < 18446744073709551616) (lr : r < 18446744073709551616) (w : World) : Calls Try.prog 21 #[.agg #[.float .f64 c, .float .f64 e, .float .f64 r, .int .i64 t]] w fun q w' => q = .returned (.bool (zoneB c e r t)) ∧ Below w.heap.size w w' := by
  go_enter Try.func21, Try.ntmps21
  go_wp2_with fail
  refine (specKnown_any c _).mono ?_
  rintro q w1 ⟨rfl, n0, rfl⟩
  cases h0 : knownB c
  · go_wp2
    go_ret
    exact ⟨ret_bool (by unfold zoneB; simp [h0]), (by repeat (first | with_reducible exact Below.refl _ _ | with_reducible refine Below.setCell ?_ (by first | omega | (simp; done) | (simp; omega)) _ | with_reducible refine bDrewN ?_ _ | with_reducible refine Below.drew ?_ | with_reducible refine Below.alloc ?_ (by first | omega | (simp; done) | (simp; omega)) _))⟩
  go_wp2_with fail
  refine (specKnown_any e _).mono ?_
  rintro q w1 ⟨rfl, n1, rfl⟩
  cases h1 : knownB e
  · go_wp2
    go_ret
    exact ⟨ret_bool (by unfold zoneB; simp [h0, h1]), (by repeat (first | with_reducible exact Below.refl _ _ | with_reducible refine Below.setCell ?_ (by first | omega | (simp; done) | (simp; omega)) _ | with_reducible refine bDrewN ?_ _ | with_reducible refine Below.drew ?_ | with_reducible refine Below.alloc ?_ (by first | omega | (simp; done) | (simp; omega)) _))⟩
  go_wp2_with fail
  refine (specKnown_any r _).mono ?_
  rintro q w1 ⟨rfl, n2, rfl⟩
  cases h2 : knownB r
  · go_wp2
    go_ret
    exact ⟨ret_bool (by unfold zoneB; simp [h0, h1, h2]), (by repeat (first | with_reducible exact Below.refl _ _ | with_reducible refine Below.setCell ?_ (by first | omega | (simp; done) | (simp; omega)) _ | with_reducible refine bDrewN ?_ _ | with_reducible refine Below.drew ?_ | with_reducible refine Below.alloc ?_ (by first | omega | (simp; done) | (simp; omega)) _))⟩
  cases h3 : (FloatKind.f64.format.order r 0 == some .gt || FloatKind.f64.format.order r 0 == some .eq)
  · go_wp2
    go_ret
    exact ⟨ret_bool (by unfold zoneB geZ; simp [h0, h1, h2, h3]), (by repeat (first | with_reducible exact Below.refl _ _ | with_reducible refine Below.setCell ?_ (by first | omega | (simp; done) | (simp; omega)) _ | with_reducible refine bDrewN ?_ _ | with_reducible refine Below.drew ?_ | with_reducible refine Below.alloc ?_ (by first | omega | (simp; done) | (simp; omega)) _))⟩
  go_wp2_with fail
  refine (l1In_is _ _ _ _).mono ?_
  rintro q w1 ⟨rfl, rfl⟩
  go_wp2
  go_ret
  exact ⟨ret_bool (by unfold zoneB geZ; simp [h0, h1, h2, h3]), (by repeat (first | with_reducible exact Below.refl _ _ | with_reducible refine Below.setCell ?_ (by first | omega | (simp; done) | (simp; omega)) _ | with_reducible refine bDrewN ?_ _ | with_reducible refine Below.drew ?_ | with_reducible refine Below.alloc ?_ (by first | omega | (simp; done) | (simp; omega)) _))⟩
set_option maxRecDepth 20000 in
set_option maxHeartbeats 8000000 in
theorem specSees_no {c e r x y z u : Nat} {oc oe or a b g d : Option Nat} (hc : Fl c oc) (he : Fl e oe) (hr : Fl r or) (t : Int) (hx : Fl x a) (hy : Fl y b) (hz : Fl z g) (hu : Fl u d) (w : World) (h : zoneB c e r t = false) : Calls Try.prog 7 #[.agg #[.float .f64 c, .float .f64 e, .float .f64 r, .int .i64 t], .agg #[.float .f64 x, .float .f64 y], .agg #[.float .f64 z, .float .f64 u]] w fun q w' => q = .returned (.bool false) ∧ Below w.heap.size w w' := by
  have HZ : Hid (∀ w, Calls Try.prog 21 #[.agg #[.float .f64 c, .float .f64 e, .float .f64 r, .int .i64 t]] w fun q w' => q = .returned (.bool false) ∧ Below w.heap.size w w') := fun w => h ▸ l16Zone_any c e r t hc.1 he.1 hr.1 w
  go_enter Try.func7, Try.ntmps7
  go_upto_region 1 with fail
  obtain ⟨wd, hwd⟩ : ∃ wd, wd = ((w.alloc (.cells #[.float .f64 c, .float .f64 e, .float .f64 r, .int .i64 t] 30)).alloc (.cells #[.float .f64 x, .float .f64 y] 28)).alloc (.cells #[.float .f64 z, .float .f64 u] 28) := ⟨_, rfl⟩
  rw [← hwd]
  have p0 : wd.cell? ⟨w.heap.size, 0, none⟩ = some (.float .f64 c) := by rw [hwd]; simp [go_sem]
  have p1 : wd.cell? ⟨w.heap.size, 1, none⟩ = some (.float .f64 e) := by rw [hwd]; simp [go_sem]
  have p2 : wd.cell? ⟨w.heap.size, 2, none⟩ = some (.float .f64 r) := by rw [hwd]; simp [go_sem]
  have p3 : wd.cell? ⟨w.heap.size, 3, none⟩ = some (.int .i64 t) := by rw [hwd]; simp [go_sem]
  have q0 : wd.cell? ⟨w.heap.size + 1, 0, none⟩ = some (.float .f64 x) := by rw [hwd]; simp [go_sem]
  have q1 : wd.cell? ⟨w.heap.size + 1, 1, none⟩ = some (.float .f64 y) := by rw [hwd]; simp [go_sem]
  have k0 : wd.cell? ⟨w.heap.size + 1 + 1, 0, none⟩ = some (.float .f64 z) := by rw [hwd]; simp [go_sem]
  have k1 : wd.cell? ⟨w.heap.size + 1 + 1, 1, none⟩ = some (.float .f64 u) := by rw [hwd]; simp [go_sem]
  have z2 : w.heap.size + 1 + 1 < wd.heap.size := by rw [hwd]; simp
  have z1 : w.heap.size + 1 < wd.heap.size := by omega
  have z0 : w.heap.size < wd.heap.size := by omega
  have B0 : Below w.heap.size w wd := by rw [hwd]; exact (by repeat (first | with_reducible exact Below.refl _ _ | with_reducible refine Below.setCell ?_ (by first | omega | (simp; done) | (simp; omega)) _ | with_reducible refine bDrewN ?_ _ | with_reducible refine Below.drew ?_ | with_reducible refine Below.alloc ?_ (by first | omega | (simp; done) | (simp; omega)) _))
  clear hwd
  refine wp_region_held_drew (S := fun _ => True) (by kernel_rfl) trivial (fun hHeld => ?_)
  refine wpAnyH_ready (rs := [0]) (by kernel_rfl) (by simp) ?_
  refine AllReadyH.cons rfl (fun K hK => ?_) AllReadyH.nil
  go_simp
  refine hK.out _ _ trivial (fun hHeld => ?_)
  clear hK K
  refine wpAnyH_ready (rs := [1]) (by kernel_rfl) (by simp) ?_
  refine AllReadyH.cons rfl (fun K hK => ?_) AllReadyH.nil
  go_simp
  go_wp2_with (first | (go_at_call 21; refine (HZ.out _).mono ?_; rintro q w3 ⟨rfl, h3⟩; have B3 : Below w.heap.size w w3 := Below.trans B0 (Below.mono (Below.trans (by repeat (first | with_reducible exact Below.refl _ _ | with_reducible refine Below.setCell ?_ (by first | omega | (simp; done) | (simp; omega)) _ | with_reducible refine bDrewN ?_ _ | with_reducible refine Below.drew ?_ | with_reducible refine Below.alloc ?_ (by first | omega | (simp; done) | (simp; omega)) _)) (h3.mono (by first | omega | (simp; done) | (simp; omega)))) B0.size)))
  refine hK.out _ _ trivial (fun hHeld => ?_)
  clear hK K
  refine wpAnyH_ready (rs := [2]) (by kernel_rfl) (by simp) ?_
  refine AllReadyH.cons rfl (fun K hK => ?_) AllReadyH.nil
  go_simp
  refine hK.out _ _ trivial (fun hHeld => ?_)
  clear hK K
  refine wpAnyH_take (i := 3) (v := undef) rfl (by kernel_rfl) (by kernel_rfl) (by kernel_rfl) (fun _ _ _ h => h) (Or.inr ⟨by kernel_rfl, rfl⟩) trivial ?_
  simp only [Act.put, List.setIfInBounds_toArray, List.set_cons_zero, List.set_cons_succ]
  refine wpAnyH_take (i := 4) (v := undef) rfl (by kernel_rfl) (by kernel_rfl) (by kernel_rfl) (fun _ _ _ h => h) (Or.inr ⟨by kernel_rfl, rfl⟩) trivial ?_
  simp only [Act.put, List.setIfInBounds_toArray, List.set_cons_zero, List.set_cons_succ]
  refine wpAnyH_take (i := 5) (v := undef) rfl (by kernel_rfl) (by kernel_rfl) (by kernel_rfl) (fun _ _ _ h => h) (Or.inr ⟨by kernel_rfl, rfl⟩) trivial ?_
  simp only [Act.put, List.setIfInBounds_toArray, List.set_cons_zero, List.set_cons_succ]
  refine wpAnyH_take (i := 6) (v := undef) rfl (by kernel_rfl) (by kernel_rfl) (by kernel_rfl) (fun _ _ _ h => h) (Or.inr ⟨by kernel_rfl, rfl⟩) trivial ?_
  simp only [Act.put, List.setIfInBounds_toArray, List.set_cons_zero, List.set_cons_succ]
  refine wpAnyH_take (i := 7) (v := undef) rfl (by kernel_rfl) (by kernel_rfl) (by kernel_rfl) (fun _ _ _ h => h) (Or.inr ⟨by kernel_rfl, rfl⟩) trivial ?_
  simp only [Act.put, List.setIfInBounds_toArray, List.set_cons_zero, List.set_cons_succ]
  refine wpAnyH_take (i := 8) (v := undef) rfl (by kernel_rfl) (by kernel_rfl) (by kernel_rfl) (fun _ _ _ h => h) (Or.inr ⟨by kernel_rfl, rfl⟩) trivial ?_
  simp only [Act.put, List.setIfInBounds_toArray, List.set_cons_zero, List.set_cons_succ]
  refine wpAnyH_take (i := 9) (v := undef) rfl (by kernel_rfl) (by kernel_rfl) (by kernel_rfl) (fun _ _ _ h => h) (Or.inr ⟨by kernel_rfl, rfl⟩) trivial ?_
  simp only [Act.put, List.setIfInBounds_toArray, List.set_cons_zero, List.set_cons_succ]
  refine wpAnyH_take (i := 10) (v := undef) rfl (by kernel_rfl) (by kernel_rfl) (by kernel_rfl) (fun _ _ _ h => h) (Or.inr ⟨by kernel_rfl, rfl⟩) trivial ?_
  simp only [Act.put, List.setIfInBounds_toArray, List.set_cons_zero, List.set_cons_succ]
  refine wpAnyH_take (i := 11) (v := undef) rfl (by kernel_rfl) (by kernel_rfl) (by kernel_rfl) (fun _ _ _ h => h) (Or.inr ⟨by kernel_rfl, rfl⟩) trivial ?_
  simp only [Act.put, List.setIfInBounds_toArray, List.set_cons_zero, List.set_cons_succ]
  refine wpAnyH_take (i := 12) (v := undef) rfl (by kernel_rfl) (by kernel_rfl) (by kernel_rfl) (fun _ _ _ h => h) (Or.inr ⟨by kernel_rfl, rfl⟩) trivial ?_
  simp only [Act.put, List.setIfInBounds_toArray, List.set_cons_zero, List.set_cons_succ]
  refine wpAnyH_take (i := 13) (v := undef) rfl (by kernel_rfl) (by kernel_rfl) (by kernel_rfl) (fun _ _ _ h => h) (Or.inr ⟨by kernel_rfl, rfl⟩) trivial ?_
  simp only [Act.put, List.setIfInBounds_toArray, List.set_cons_zero, List.set_cons_succ]
  refine wpAnyH_take (i := 14) (v := undef) rfl (by kernel_rfl) (by kernel_rfl) (by kernel_rfl) (fun _ _ _ h => h) (Or.inr ⟨by kernel_rfl, rfl⟩) trivial ?_
  simp only [Act.put, List.setIfInBounds_toArray, List.set_cons_zero, List.set_cons_succ]
  refine wpAnyH_take (i := 15) (v := undef) rfl (by kernel_rfl) (by kernel_rfl) (by kernel_rfl) (fun _ _ _ h => h) (Or.inr ⟨by kernel_rfl, rfl⟩) trivial ?_
  simp only [Act.put, List.setIfInBounds_toArray, List.set_cons_zero, List.set_cons_succ]
  refine wpAnyH_ready (rs := [16]) (by kernel_rfl) (by simp) ?_
  refine AllReadyH.cons rfl (fun K hK => ?_) AllReadyH.nil
  go_simp
  refine hK.out _ _ trivial (fun hHeld => ?_)
  clear hK K
  refine wpAnyH_ready (rs := [17]) (by kernel_rfl) (by simp) ?_
  refine AllReadyH.cons rfl (fun K hK => ?_) AllReadyH.nil
  go_simp
  refine hK.out _ _ trivial (fun hHeld => ?_)
  clear hK K
  refine wpAnyH_done (by kernel_rfl) ?_ _
  go_wp2
  go_ret
  exact ⟨rfl, (by repeat (first | with_reducible exact Below.refl _ _ | with_reducible exact B3 | with_reducible refine Below.setCell ?_ (by first | omega | (simp; done) | (simp; omega)) _ | with_reducible refine bDrewN ?_ _ | with_reducible refine Below.drew ?_ | with_reducible refine Below.alloc ?_ (by first | omega | (simp; done) | (simp; omega)) _))⟩
set_option maxRecDepth 20000 in
set_option maxHeartbeats 8000000 in
theorem specSees_yes {c e r x y z u : Nat} {oc oe or a b g d : Option Nat} (hc : Fl c oc) (he : Fl e oe) (hr : Fl r or) (t : Int) (hx : Fl x a) (hy : Fl y b) (hz : Fl z g) (hu : Fl u d) (w : World) (h : zoneB c e r t = true) : Calls Try.prog 7 #[.agg #[.float .f64 c, .float .f64 e, .float .f64 r, .int .i64 t], .agg #[.float .f64 x, .float .f64 y], .agg #[.float .f64 z, .float .f64 u]] w fun q w' => q = .returned (.bool (leO (normO (opO .sub (divRe a b g d) oc) (opO .sub (divIm a b g d) oe)) (opO .mul or or))) ∧ Below w.heap.size w w' := by
  have HZ : Hid (∀ w, Calls Try.prog 21 #[.agg #[.float .f64 c, .float .f64 e, .float .f64 r, .int .i64 t]] w fun q w' => q = .returned (.bool true) ∧ Below w.heap.size w w') := fun w => h ▸ l16Zone_any c e r t hc.1 he.1 hr.1 w
  obtain ⟨m, hmul, hm⟩ := sq_run hr (zone_known h)
  clear h
  go_enter Try.func7, Try.ntmps7
  go_upto_region 1 with fail
  obtain ⟨wd, hwd⟩ : ∃ wd, wd = ((w.alloc (.cells #[.float .f64 c, .float .f64 e, .float .f64 r, .int .i64 t] 30)).alloc (.cells #[.float .f64 x, .float .f64 y] 28)).alloc (.cells #[.float .f64 z, .float .f64 u] 28) := ⟨_, rfl⟩
  rw [← hwd]
  have p0 : wd.cell? ⟨w.heap.size, 0, none⟩ = some (.float .f64 c) := by rw [hwd]; simp [go_sem]
  have p1 : wd.cell? ⟨w.heap.size, 1, none⟩ = some (.float .f64 e) := by rw [hwd]; simp [go_sem]
  have p2 : wd.cell? ⟨w.heap.size, 2, none⟩ = some (.float .f64 r) := by rw [hwd]; simp [go_sem]
  have p3 : wd.cell? ⟨w.heap.size, 3, none⟩ = some (.int .i64 t) := by rw [hwd]; simp [go_sem]
  have q0 : wd.cell? ⟨w.heap.size + 1, 0, none⟩ = some (.float .f64 x) := by rw [hwd]; simp [go_sem]
  have q1 : wd.cell? ⟨w.heap.size + 1, 1, none⟩ = some (.float .f64 y) := by rw [hwd]; simp [go_sem]
  have k0 : wd.cell? ⟨w.heap.size + 1 + 1, 0, none⟩ = some (.float .f64 z) := by rw [hwd]; simp [go_sem]
  have k1 : wd.cell? ⟨w.heap.size + 1 + 1, 1, none⟩ = some (.float .f64 u) := by rw [hwd]; simp [go_sem]
  have z2 : w.heap.size + 1 + 1 < wd.heap.size := by rw [hwd]; simp
  have z1 : w.heap.size + 1 < wd.heap.size := by omega
  have z0 : w.heap.size < wd.heap.size := by omega
  have B0 : Below w.heap.size w wd := by rw [hwd]; exact (by repeat (first | with_reducible exact Below.refl _ _ | with_reducible refine Below.setCell ?_ (by first | omega | (simp; done) | (simp; omega)) _ | with_reducible refine bDrewN ?_ _ | with_reducible refine Below.drew ?_ | with_reducible refine Below.alloc ?_ (by first | omega | (simp; done) | (simp; omega)) _))
  clear hwd
  go_region_held3 (fun w' => w'.cell? ⟨w.heap.size, 0, none⟩ = some (.float .f64 c) ∧ w'.cell? ⟨w.heap.size, 1, none⟩ = some (.float .f64 e) ∧ w'.cell? ⟨w.heap.size, 2, none⟩ = some (.float .f64 r) ∧ w'.cell? ⟨w.heap.size, 3, none⟩ = some (.int .i64 t) ∧ w'.cell? ⟨w.heap.size + 1, 0, none⟩ = some (.float .f64 x) ∧ w'.cell? ⟨w.heap.size + 1, 1, none⟩ = some (.float .f64 y) ∧ w'.cell? ⟨w.heap.size + 1 + 1, 0, none⟩ = some (.float .f64 z) ∧ w'.cell? ⟨w.heap.size + 1 + 1, 1, none⟩ = some (.float .f64 u)) (first | (refine keepZ p0 p1 p2 p3 q0 q1 k0 k1 z0 z1 z2 ?_; exact (by repeat (first | with_reducible exact Below.refl _ _ | with_reducible exact B6 | with_reducible exact B5 | with_reducible exact B4 | with_reducible exact B3 | with_reducible refine Below.setCell ?_ (by first | omega | (simp; done) | (simp; omega)) _ | with_reducible refine bDrewN ?_ _ | with_reducible refine Below.drew ?_ | with_reducible refine Below.alloc ?_ (by first | omega | (simp; done) | (simp; omega)) _)))) (first
    | (go_at_call 21; refine (HZ.out _).mono ?_; rintro q w3 ⟨rfl, h3⟩; have B3 : Below wd.heap.size wd w3 := Below.trans (by repeat (first | with_reducible exact Below.refl _ _ | with_reducible refine Below.setCell ?_ (by first | omega | (simp; done) | (simp; omega)) _ | with_reducible refine bDrewN ?_ _ | with_reducible refine Below.drew ?_ | with_reducible refine Below.alloc ?_ (by first | omega | (simp; done) | (simp; omega)) _)) (h3.mono (by first | omega | (simp; done) | (simp; omega))); have s3 := B3.size)
    | (go_at_call 24; refine (specDivPair_any hx hy hz hu _).mono ?_; rintro q w4 ⟨r1, i1, rfl, hr1, hi1, h4⟩; have B4 : Below wd.heap.size wd w4 := Below.trans (by repeat (first | with_reducible exact Below.refl _ _ | with_reducible exact B3 | with_reducible refine Below.setCell ?_ (by first | omega | (simp; done) | (simp; omega)) _ | with_reducible refine bDrewN ?_ _ | with_reducible refine Below.drew ?_ | with_reducible refine Below.alloc ?_ (by first | omega | (simp; done) | (simp; omega)) _)) (h4.mono (by first | omega | (simp; done) | (simp; omega))); have s4 := B4.size)
    | (go_at_call 23; refine (specSubPair_any hr1 hi1 hc he _).mono ?_; rintro q w5 ⟨r2, i2, rfl, hr2, hi2, h5⟩; have B5 : Below wd.heap.size wd w5 := Below.trans (by repeat (first | with_reducible exact Below.refl _ _ | with_reducible exact B4 | with_reducible refine Below.setCell ?_ (by first | omega | (simp; done) | (simp; omega)) _ | with_reducible refine bDrewN ?_ _ | with_reducible refine Below.drew ?_ | with_reducible refine Below.alloc ?_ (by first | omega | (simp; done) | (simp; omega)) _)) (h5.mono (by first | omega | (simp; done) | (simp; omega))); have s5 := B5.size)
    | (go_at_call 22; refine (specNorm_any hr2 hi2 _).mono ?_; rintro q w6 ⟨n3, rfl, hn3, h6⟩; have B6 : Below wd.heap.size wd w6 := Below.trans (by repeat (first | with_reducible exact Below.refl _ _ | with_reducible exact B5 | with_reducible refine Below.setCell ?_ (by first | omega | (simp; done) | (simp; omega)) _ | with_reducible refine bDrewN ?_ _ | with_reducible refine Below.drew ?_ | with_reducible refine Below.alloc ?_ (by first | omega | (simp; done) | (simp; omega)) _)) (h6.mono (by first | omega | (simp; done) | (simp; omega))); have s6 := B6.size))
  all_goals
    have BF := B0.trans (B6.mono B0.size)
    go_wp2
    go_ret
    exact ⟨ret_bool (le_of hn3 hm), (by repeat (first | with_reducible exact Below.refl _ _ | with_reducible exact BF | with_reducible refine Below.setCell ?_ (by first | omega | (simp; done) | (simp; omega)) _ | with_reducible refine bDrewN ?_ _ | with_reducible refine Below.drew ?_ | with_reducible refine Below.alloc ?_ (by first | omega | (simp; done) | (simp; omega)) _))⟩
theorem specSees_any {c e r x y z u : Nat} {oc oe or a b g d : Option Nat} (hc : Fl c oc) (he : Fl e oe) (hr : Fl r or) (t : Int) (hx : Fl x a) (hy : Fl y b) (hz : Fl z g) (hu : Fl u d) (w : World) : Calls Try.prog 7 #[.agg #[.float .f64 c, .float .f64 e, .float .f64 r, .int .i64 t], .agg #[.float .f64 x, .float .f64 y], .agg #[.float .f64 z, .float .f64 u]] w fun q w' => q = .returned (.bool (zoneB c e r t && leO (normO (opO .sub (divRe a b g d) oc) (opO .sub (divIm a b g d) oe)) (opO .mul or or))) ∧ Below w.heap.size w w' := by
  cases h : zoneB c e r t
  · exact specSees_no hc he hr t hx hy hz hu w h
  · exact specSees_yes hc he hr t hx hy hz hu w h
end Go.Proofs.Ytedkhhocbnldjaa
