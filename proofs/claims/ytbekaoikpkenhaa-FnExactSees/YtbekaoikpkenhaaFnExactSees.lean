/-
What is proved: at every zone and every two pairs impl.Sees answers as the specification's Sees; no condition.
-/
import Derived.Test.YtbekaoikpkenhaaZoS
import Derived.Test.YtbekaoikpkenhaaZoI
import Derived.Deep.RegionHeld3
import Derived.Deep.DeepCutAuto
namespace Go.Proofs.Ytbekaoikpkenhaa
set_option maxRecDepth 40000
open Go.ChangeShapes Go.WideShapes Go.ChangeAt Go.RowKit
set_option linter.unusedVariables false
set_option linter.unusedSimpArgs false

theorem toPair_below (x y : Nat) (w : World) : Calls Try.prog 9 #[.agg #[.float .f64 x, .float .f64 y]] w fun q w' => q = .returned (.agg #[.float .f64 x, .float .f64 y]) ∧ Below w.heap.size w w' := by
  refine (toPair_any x y w).mono ?_
  rintro q w' ⟨rfl, rfl⟩
  exact ⟨rfl, (by repeat (first | with_reducible exact Below.refl _ _ | with_reducible refine Below.setCell ?_ (by first | omega | (simp; done) | (simp; omega)) _ | with_reducible refine bDrewN ?_ _ | with_reducible refine Below.drew ?_ | with_reducible refine Below.alloc ?_ (by first | omega | (simp; done) | (simp; omega)) _))⟩
theorem f64w_lt {x : Nat} (h : (Lit.float .f64 x).wf = true) : x < 18446744073709551616 := by
  simpa [Lit.wf] using h
set_option maxHeartbeats 800000 in
theorem toZone_any (c e r : Nat) (t : Int) (w : World) : Calls Try.prog 8 #[.agg #[.float .f64 c, .float .f64 e, .float .f64 r, .int .i64 t]] w fun q w' => q = .returned (.agg #[.float .f64 c, .float .f64 e, .float .f64 r, .int .i64 t]) ∧ Below w.heap.size w w' := by
  have st := store_fp
  go_enter Try.func8, Try.ntmps8
  go_wp2_with fail
  refine (toPair_any c e _).mono ?_
  rintro q w1 ⟨rfl, rfl⟩
  go_wp2
  exact bodyPost_ret (v := .agg #[.float .f64 c, .float .f64 e, .float .f64 r, .int .i64 t]) (by simp [results, Try.results8, go_sem]) rfl ⟨rfl, (by repeat (first | with_reducible exact Below.refl _ _ | with_reducible refine Below.setCell ?_ (by first | omega | (simp; done) | (simp; omega)) _ | with_reducible refine bDrewN ?_ _ | with_reducible refine Below.drew ?_ | with_reducible refine Below.alloc ?_ (by first | omega | (simp; done) | (simp; omega)) _))⟩
theorem keepSees {W W' : World} {p0 p1 p2 : Nat} {vc0_0 vc0_1 vc0_2 vc0_3 vc1_0 vc1_1 vc2_0 vc2_1 : Value} (hc0_0 : W.cell? ⟨p0, 0, none⟩ = some vc0_0) (hc0_1 : W.cell? ⟨p0, 1, none⟩ = some vc0_1) (hc0_2 : W.cell? ⟨p0, 2, none⟩ = some vc0_2) (hc0_3 : W.cell? ⟨p0, 3, none⟩ = some vc0_3) (hc1_0 : W.cell? ⟨p1, 0, none⟩ = some vc1_0) (hc1_1 : W.cell? ⟨p1, 1, none⟩ = some vc1_1) (hc2_0 : W.cell? ⟨p2, 0, none⟩ = some vc2_0) (hc2_1 : W.cell? ⟨p2, 1, none⟩ = some vc2_1) (z0 : p0 < W.heap.size) (z1 : p1 < W.heap.size) (z2 : p2 < W.heap.size) (hb : Below W.heap.size W W') : W'.cell? ⟨p0, 0, none⟩ = some vc0_0 ∧ W'.cell? ⟨p0, 1, none⟩ = some vc0_1 ∧ W'.cell? ⟨p0, 2, none⟩ = some vc0_2 ∧ W'.cell? ⟨p0, 3, none⟩ = some vc0_3 ∧ W'.cell? ⟨p1, 0, none⟩ = some vc1_0 ∧ W'.cell? ⟨p1, 1, none⟩ = some vc1_1 ∧ W'.cell? ⟨p2, 0, none⟩ = some vc2_0 ∧ W'.cell? ⟨p2, 1, none⟩ = some vc2_1 :=
  ⟨(hb.cell (p := ⟨p0, 0, none⟩) z0).trans hc0_0, (hb.cell (p := ⟨p0, 1, none⟩) z0).trans hc0_1, (hb.cell (p := ⟨p0, 2, none⟩) z0).trans hc0_2, (hb.cell (p := ⟨p0, 3, none⟩) z0).trans hc0_3, (hb.cell (p := ⟨p1, 0, none⟩) z1).trans hc1_0, (hb.cell (p := ⟨p1, 1, none⟩) z1).trans hc1_1, (hb.cell (p := ⟨p2, 0, none⟩) z2).trans hc2_0, (hb.cell (p := ⟨p2, 1, none⟩) z2).trans hc2_1⟩
set_option maxRecDepth 20000 in
set_option maxHeartbeats 8000000 in
theorem sees_law (c e r : Nat) (t : Int) (x y z u : Nat) (v : Bool) (w : World) (H1 : Hid (∀ w, Calls Try.prog 7 #[.agg #[.float .f64 c, .float .f64 e, .float .f64 r, .int .i64 t], .agg #[.float .f64 x, .float .f64 y], .agg #[.float .f64 z, .float .f64 u]] w fun q w' => q = .returned (.bool v) ∧ Below w.heap.size w w')) (H2 : Hid (∀ w, Calls Try.prog 10 #[.agg #[.float .f64 c, .float .f64 e, .float .f64 r, .int .i64 t], .agg #[.float .f64 x, .float .f64 y], .agg #[.float .f64 z, .float .f64 u]] w fun q w' => q = .returned (.bool v) ∧ Below w.heap.size w w')) :
    Calls Try.prog 3 #[.agg #[.float .f64 c, .float .f64 e, .float .f64 r, .int .i64 t], .agg #[.float .f64 x, .float .f64 y], .agg #[.float .f64 z, .float .f64 u]] w fun q w' => q = .returned (.bool true) ∧ Below w.heap.size w w' := by
  go_enter Try.func3, Try.ntmps3
  go_upto_region 1 with fail
  obtain ⟨wd, hwd⟩ : ∃ wd, wd = (((w.alloc (.cells #[.float .f64 c, .float .f64 e, .float .f64 r, .int .i64 t] 26)).alloc (.cells #[.float .f64 x, .float .f64 y] 24)).alloc (.cells #[.float .f64 z, .float .f64 u] 24)) := ⟨_, rfl⟩
  rw [← hwd]
  have c0_0 : wd.cell? ⟨w.heap.size, 0, none⟩ = some (.float .f64 c) := by rw [hwd]; simp [go_sem]
  have c0_1 : wd.cell? ⟨w.heap.size, 1, none⟩ = some (.float .f64 e) := by rw [hwd]; simp [go_sem]
  have c0_2 : wd.cell? ⟨w.heap.size, 2, none⟩ = some (.float .f64 r) := by rw [hwd]; simp [go_sem]
  have c0_3 : wd.cell? ⟨w.heap.size, 3, none⟩ = some (.int .i64 t) := by rw [hwd]; simp [go_sem]
  have c1_0 : wd.cell? ⟨w.heap.size + 1, 0, none⟩ = some (.float .f64 x) := by rw [hwd]; simp [go_sem]
  have c1_1 : wd.cell? ⟨w.heap.size + 1, 1, none⟩ = some (.float .f64 y) := by rw [hwd]; simp [go_sem]
  have c2_0 : wd.cell? ⟨w.heap.size + 1 + 1, 0, none⟩ = some (.float .f64 z) := by rw [hwd]; simp [go_sem]
  have c2_1 : wd.cell? ⟨w.heap.size + 1 + 1, 1, none⟩ = some (.float .f64 u) := by rw [hwd]; simp [go_sem]
  have z0 : w.heap.size < wd.heap.size := by rw [hwd]; first | (simp; done) | (simp; omega)
  have z1 : w.heap.size + 1 < wd.heap.size := by rw [hwd]; first | (simp; done) | (simp; omega)
  have z2 : w.heap.size + 1 + 1 < wd.heap.size := by rw [hwd]; first | (simp; done) | (simp; omega)
  have B0 : Below w.heap.size w wd := by rw [hwd]; exact (by repeat (first | with_reducible exact Below.refl _ _ | with_reducible refine Below.setCell ?_ (by first | omega | (simp; done) | (simp; omega)) _ | with_reducible refine bDrewN ?_ _ | with_reducible refine Below.drew ?_ | with_reducible refine Below.alloc ?_ (by first | omega | (simp; done) | (simp; omega)) _))
  clear hwd
  go_cut [7] (fun s wx => s = .bool v ∧ Below wd.heap.size wd wx)
  case first =>
    go_region_held3 (fun w' => w'.cell? ⟨w.heap.size, 0, none⟩ = some (.float .f64 c) ∧ w'.cell? ⟨w.heap.size, 1, none⟩ = some (.float .f64 e) ∧ w'.cell? ⟨w.heap.size, 2, none⟩ = some (.float .f64 r) ∧ w'.cell? ⟨w.heap.size, 3, none⟩ = some (.int .i64 t) ∧ w'.cell? ⟨w.heap.size + 1, 0, none⟩ = some (.float .f64 x) ∧ w'.cell? ⟨w.heap.size + 1, 1, none⟩ = some (.float .f64 y) ∧ w'.cell? ⟨w.heap.size + 1 + 1, 0, none⟩ = some (.float .f64 z) ∧ w'.cell? ⟨w.heap.size + 1 + 1, 1, none⟩ = some (.float .f64 u)) (first | (refine keepSees c0_0 c0_1 c0_2 c0_3 c1_0 c1_1 c2_0 c2_1 z0 z1 z2 ?_; exact (by repeat (first | with_reducible exact Below.refl _ _ | with_reducible exact B9 | with_reducible exact B5 | with_reducible exact B4 | with_reducible exact B3 | with_reducible refine Below.setCell ?_ (by first | omega | (simp; done) | (simp; omega)) _ | with_reducible refine bDrewN ?_ _ | with_reducible refine Below.drew ?_ | with_reducible refine Below.alloc ?_ (by first | omega | (simp; done) | (simp; omega)) _)))) (first
      | (go_at_call 8; refine (toZone_any c e r t _).mono ?_; rintro q w3 ⟨rfl, h3⟩; have B3 : Below wd.heap.size wd w3 := Below.trans (by repeat (first | with_reducible exact Below.refl _ _ | with_reducible refine Below.setCell ?_ (by first | omega | (simp; done) | (simp; omega)) _ | with_reducible refine bDrewN ?_ _ | with_reducible refine Below.drew ?_ | with_reducible refine Below.alloc ?_ (by first | omega | (simp; done) | (simp; omega)) _)) (h3.mono (by first | omega | (simp; done) | (simp; omega))); have s3 := B3.size)
      | (go_at_call 9; have gg := B4; clear gg; refine (toPair_below z u _).mono ?_; rintro q w5 ⟨rfl, h5⟩; have B5 : Below wd.heap.size wd w5 := Below.trans (by repeat (first | with_reducible exact Below.refl _ _ | with_reducible exact B4 | with_reducible refine Below.setCell ?_ (by first | omega | (simp; done) | (simp; omega)) _ | with_reducible refine bDrewN ?_ _ | with_reducible refine Below.drew ?_ | with_reducible refine Below.alloc ?_ (by first | omega | (simp; done) | (simp; omega)) _)) (h5.mono (by first | omega | (simp; done) | (simp; omega))); have s5 := B5.size)
      | (go_at_call 9; refine (toPair_below x y _).mono ?_; rintro q w4 ⟨rfl, h4⟩; have B4 : Below wd.heap.size wd w4 := Below.trans (by repeat (first | with_reducible exact Below.refl _ _ | with_reducible exact B3 | with_reducible refine Below.setCell ?_ (by first | omega | (simp; done) | (simp; omega)) _ | with_reducible refine bDrewN ?_ _ | with_reducible refine Below.drew ?_ | with_reducible refine Below.alloc ?_ (by first | omega | (simp; done) | (simp; omega)) _)) (h4.mono (by first | omega | (simp; done) | (simp; omega))); have s4 := B4.size)
      | (go_at_call 7; refine (H1.out _).mono ?_; rintro q w9 ⟨rfl, h9⟩; have B9 : Below wd.heap.size wd w9 := Below.trans (by repeat (first | with_reducible exact Below.refl _ _ | with_reducible exact B5 | with_reducible refine Below.setCell ?_ (by first | omega | (simp; done) | (simp; omega)) _ | with_reducible refine bDrewN ?_ _ | with_reducible refine Below.drew ?_ | with_reducible refine Below.alloc ?_ (by first | omega | (simp; done) | (simp; omega)) _)) (h9.mono (by first | omega | (simp; done) | (simp; omega)))))
    all_goals
      go_wp2_with fail
      go_meet
      case rel => exact ⟨rfl, (by repeat (first | with_reducible exact Below.refl _ _ | with_reducible exact B9 | with_reducible refine Below.setCell ?_ (by first | omega | (simp; done) | (simp; omega)) _ | with_reducible refine bDrewN ?_ _ | with_reducible refine Below.drew ?_ | with_reducible refine Below.alloc ?_ (by first | omega | (simp; done) | (simp; omega)) _))⟩
  case rest =>
    obtain ⟨rfl, hB⟩ := hcut
    replace c0_0 := (hB.cell (p := ⟨w.heap.size, 0, none⟩) z0).trans c0_0
    replace c0_1 := (hB.cell (p := ⟨w.heap.size, 1, none⟩) z0).trans c0_1
    replace c0_2 := (hB.cell (p := ⟨w.heap.size, 2, none⟩) z0).trans c0_2
    replace c0_3 := (hB.cell (p := ⟨w.heap.size, 3, none⟩) z0).trans c0_3
    replace c1_0 := (hB.cell (p := ⟨w.heap.size + 1, 0, none⟩) z1).trans c1_0
    replace c1_1 := (hB.cell (p := ⟨w.heap.size + 1, 1, none⟩) z1).trans c1_1
    replace c2_0 := (hB.cell (p := ⟨w.heap.size + 1 + 1, 0, none⟩) z2).trans c2_0
    replace c2_1 := (hB.cell (p := ⟨w.heap.size + 1 + 1, 1, none⟩) z2).trans c2_1
    replace z0 := Nat.lt_of_lt_of_le z0 hB.size
    replace z1 := Nat.lt_of_lt_of_le z1 hB.size
    replace z2 := Nat.lt_of_lt_of_le z2 hB.size
    replace B0 : Below w.heap.size w wc := B0.trans (hB.mono B0.size)
    clear hB
    go_upto_region 2 with fail
    go_cut [8] (fun s wx => s = .bool v ∧ Below wc.heap.size wc wx)
    case first =>
      go_region_held3 (fun w' => w'.cell? ⟨w.heap.size, 0, none⟩ = some (.float .f64 c) ∧ w'.cell? ⟨w.heap.size, 1, none⟩ = some (.float .f64 e) ∧ w'.cell? ⟨w.heap.size, 2, none⟩ = some (.float .f64 r) ∧ w'.cell? ⟨w.heap.size, 3, none⟩ = some (.int .i64 t) ∧ w'.cell? ⟨w.heap.size + 1, 0, none⟩ = some (.float .f64 x) ∧ w'.cell? ⟨w.heap.size + 1, 1, none⟩ = some (.float .f64 y) ∧ w'.cell? ⟨w.heap.size + 1 + 1, 0, none⟩ = some (.float .f64 z) ∧ w'.cell? ⟨w.heap.size + 1 + 1, 1, none⟩ = some (.float .f64 u)) (first | (refine keepSees c0_0 c0_1 c0_2 c0_3 c1_0 c1_1 c2_0 c2_1 z0 z1 z2 ?_; exact (by repeat (first | with_reducible exact Below.refl _ _ | with_reducible exact B9 | with_reducible exact B5 | with_reducible exact B4 | with_reducible exact B3 | with_reducible refine Below.setCell ?_ (by first | omega | (simp; done) | (simp; omega)) _ | with_reducible refine bDrewN ?_ _ | with_reducible refine Below.drew ?_ | with_reducible refine Below.alloc ?_ (by first | omega | (simp; done) | (simp; omega)) _)))) (first
        | (go_at_call 8; refine (toZone_any c e r t _).mono ?_; rintro q w3 ⟨rfl, h3⟩; have B3 : Below wc.heap.size wc w3 := Below.trans (by repeat (first | with_reducible exact Below.refl _ _ | with_reducible refine Below.setCell ?_ (by first | omega | (simp; done) | (simp; omega)) _ | with_reducible refine bDrewN ?_ _ | with_reducible refine Below.drew ?_ | with_reducible refine Below.alloc ?_ (by first | omega | (simp; done) | (simp; omega)) _)) (h3.mono (by first | omega | (simp; done) | (simp; omega))); have s3 := B3.size)
        | (go_at_call 9; have gg := B4; clear gg; refine (toPair_below z u _).mono ?_; rintro q w5 ⟨rfl, h5⟩; have B5 : Below wc.heap.size wc w5 := Below.trans (by repeat (first | with_reducible exact Below.refl _ _ | with_reducible exact B4 | with_reducible refine Below.setCell ?_ (by first | omega | (simp; done) | (simp; omega)) _ | with_reducible refine bDrewN ?_ _ | with_reducible refine Below.drew ?_ | with_reducible refine Below.alloc ?_ (by first | omega | (simp; done) | (simp; omega)) _)) (h5.mono (by first | omega | (simp; done) | (simp; omega))); have s5 := B5.size)
        | (go_at_call 9; refine (toPair_below x y _).mono ?_; rintro q w4 ⟨rfl, h4⟩; have B4 : Below wc.heap.size wc w4 := Below.trans (by repeat (first | with_reducible exact Below.refl _ _ | with_reducible exact B3 | with_reducible refine Below.setCell ?_ (by first | omega | (simp; done) | (simp; omega)) _ | with_reducible refine bDrewN ?_ _ | with_reducible refine Below.drew ?_ | with_reducible refine Below.alloc ?_ (by first | omega | (simp; done) | (simp; omega)) _)) (h4.mono (by first | omega | (simp; done) | (simp; omega))); have s4 := B4.size)
        | (go_at_call 10; refine (H2.out _).mono ?_; rintro q w9 ⟨rfl, h9⟩; have B9 : Below wc.heap.size wc w9 := Below.trans (by repeat (first | with_reducible exact Below.refl _ _ | with_reducible exact B5 | with_reducible refine Below.setCell ?_ (by first | omega | (simp; done) | (simp; omega)) _ | with_reducible refine bDrewN ?_ _ | with_reducible refine Below.drew ?_ | with_reducible refine Below.alloc ?_ (by first | omega | (simp; done) | (simp; omega)) _)) (h9.mono (by first | omega | (simp; done) | (simp; omega)))))
      all_goals
        go_wp2_with fail
        go_meet
        case rel => exact ⟨rfl, (by repeat (first | with_reducible exact Below.refl _ _ | with_reducible exact B9 | with_reducible refine Below.setCell ?_ (by first | omega | (simp; done) | (simp; omega)) _ | with_reducible refine bDrewN ?_ _ | with_reducible refine Below.drew ?_ | with_reducible refine Below.alloc ?_ (by first | omega | (simp; done) | (simp; omega)) _))⟩
    case rest =>
      obtain ⟨rfl, hB⟩ := hcut
      have BF := B0.trans (hB.mono B0.size)
      cases v
      all_goals
        go_wp2
        go_ret
        exact ⟨rfl, BF⟩
theorem fnExactSees_walk (c : Nat) (wc : (Lit.float .f64 c).wf = true) (e : Nat) (we : (Lit.float .f64 e).wf = true) (r : Nat) (wr : (Lit.float .f64 r).wf = true) (t : Int) (wt : (Lit.int .i64 t).wf = true) (x : Nat) (wx : (Lit.float .f64 x).wf = true) (y : Nat) (wy : (Lit.float .f64 y).wf = true) (z : Nat) (wz : (Lit.float .f64 z).wf = true) (u : Nat) (wu : (Lit.float .f64 u).wf = true) (w : World) :
    Calls Try.prog 3 #[.agg #[.float .f64 c, .float .f64 e, .float .f64 r, .int .i64 t], .agg #[.float .f64 x, .float .f64 y], .agg #[.float .f64 z, .float .f64 u]] w fun q w' => q = .returned (.bool true) ∧ Below w.heap.size w w' :=
  sees_law c e r t x y z u _ w (fun w => specSees_any (fl_of c (f64w_lt wc)) (fl_of e (f64w_lt we)) (fl_of r (f64w_lt wr)) t (fl_of x (f64w_lt wx)) (fl_of y (f64w_lt wy)) (fl_of z (f64w_lt wz)) (fl_of u (f64w_lt wu)) w) (fun w => implSees_any (fl_of c (f64w_lt wc)) (fl_of e (f64w_lt we)) (fl_of r (f64w_lt wr)) t (fl_of x (f64w_lt wx)) (fl_of y (f64w_lt wy)) (fl_of z (f64w_lt wz)) (fl_of u (f64w_lt wu)) w)

set_option maxRecDepth 100000 in
theorem fnExactSees_lifted (os : Os) (started : os.Started) (H : Type) (enc : TypeId × Value → H) :
    ReturnsInHanded {} Try.checked os 3 .any (Rows.fnExactSeesSpec.pre6 enc Try.prog Try.f3 Rows.fnExactSeesRow.domain false) (Rows.fnExactSeesSpec.post enc Try.prog Try.f3 false true false false) := by
  refine returnsInHanded_of_change (C := Try.checked) own started (by kernel_rfl) Try.func3
    (ChangeSpec.witness6 (enc := enc) (C := Try.checked) false ⟨#[], #[.agg #[.float .f64 0, .float .f64 0, .float .f64 0, .int .i64 0], .agg #[.float .f64 0, .float .f64 0], .agg #[.float .f64 0, .float .f64 0]], []⟩ 8 (by kernel_rfl) (by kernel_rfl) (by kernel_rfl) (by kernel_rfl)) ?_
  intro W base args ds gs before hval0 hW hcnd _
  have hval : ∀ (j : Nat) t v, Try.f3.params[j]? = some t → args[j]? = some v → Value.okWide Try.prog W .any base t v := hval0
  have hW' := hW
  obtain ⟨p, q, hA0, hV, rfl, hfz, hnd⟩ := hW
  have hA : DataW.TrodAll enc Try.prog W 0 (fun _ => true) true Try.f3.params.toList args.toList ds p := hA0
  rw [Try.params3] at hA hval
  obtain ⟨v0, vs0, d0, ds0, p0, q0, hargs, rfl, rfl, h0, r0⟩ := trodAll_cons hA
  obtain ⟨v1, vs1, d1, ds1, p1, q1, rfl, rfl, rfl, h1, r1⟩ := trodAll_cons r0
  obtain ⟨v2, vs2, d2, ds2, p2, q2, rfl, rfl, rfl, h2, r2⟩ := trodAll_cons r1
  obtain ⟨rfl, rfl, rfl⟩ := trodAll_nil r2
  obtain rfl : args = #[v0, v1, v2] := by cases args; simp_all
  obtain ⟨rfl, rfl⟩ := trodVars_none hV
  have k0 := h0
  have lt0 : ∀ x ∈ p0, x.block < W.heap.size := by obtain ⟨m, hm⟩ := k0; exact DataW.trod_lt m _ _ _ hm
  have k1 := h1
  have lt1 : ∀ x ∈ p1, x.block < W.heap.size := by obtain ⟨m, hm⟩ := k1; exact DataW.trod_lt m _ _ _ hm
  have k2 := h2
  have lt2 : ∀ x ∈ p2, x.block < W.heap.size := by obtain ⟨m, hm⟩ := k2; exact DataW.trod_lt m _ _ _ hm
  obtain ⟨vs0, rfl, c0⟩ := open_cells Try.underlying26 (ts := [22, 22, 22, 2]) (by kernel_rfl) (by kernel_rfl) (hval 0 26 v0 rfl rfl)
  obtain ⟨x0_0, r0_0, rfl, o0_0, c0_0⟩ := cellsOk_cons c0
  obtain ⟨a0_0, rfl, w0_0⟩ := cell_float Try.underlying22 o0_0
  obtain ⟨x0_1, r0_1, rfl, o0_1, c0_1⟩ := cellsOk_cons c0_0
  obtain ⟨a0_1, rfl, w0_1⟩ := cell_float Try.underlying22 o0_1
  obtain ⟨x0_2, r0_2, rfl, o0_2, c0_2⟩ := cellsOk_cons c0_1
  obtain ⟨a0_2, rfl, w0_2⟩ := cell_float Try.underlying22 o0_2
  obtain ⟨x0_3, r0_3, rfl, o0_3, c0_3⟩ := cellsOk_cons c0_2
  obtain ⟨a0_3, rfl, w0_3⟩ := cell_int Try.underlying2 o0_3
  obtain rfl := cellsOk_nil c0_3
  obtain ⟨vs1, rfl, c1⟩ := open_cells Try.underlying24 (ts := [22, 22]) (by kernel_rfl) (by kernel_rfl) (hval 1 24 v1 rfl rfl)
  obtain ⟨x1_0, r1_0, rfl, o1_0, c1_0⟩ := cellsOk_cons c1
  obtain ⟨a1_0, rfl, w1_0⟩ := cell_float Try.underlying22 o1_0
  obtain ⟨x1_1, r1_1, rfl, o1_1, c1_1⟩ := cellsOk_cons c1_0
  obtain ⟨a1_1, rfl, w1_1⟩ := cell_float Try.underlying22 o1_1
  obtain rfl := cellsOk_nil c1_1
  obtain ⟨vs2, rfl, c2⟩ := open_cells Try.underlying24 (ts := [22, 22]) (by kernel_rfl) (by kernel_rfl) (hval 2 24 v2 rfl rfl)
  obtain ⟨x2_0, r2_0, rfl, o2_0, c2_0⟩ := cellsOk_cons c2
  obtain ⟨a2_0, rfl, w2_0⟩ := cell_float Try.underlying22 o2_0
  obtain ⟨x2_1, r2_1, rfl, o2_1, c2_1⟩ := cellsOk_cons c2_0
  obtain ⟨a2_1, rfl, w2_1⟩ := cell_float Try.underlying22 o2_1
  obtain rfl := cellsOk_nil c2_1
  clear hA0 hval0
  refine (fnExactSees_walk a0_0 w0_0 a0_1 w0_1 a0_2 w0_2 a0_3 w0_3 a1_0 w1_0 a1_1 w1_1 a2_0 w2_0 a2_1 w2_1 W).mono fun e W' ⟨he, bel⟩ => ?_
  subst he
  exact ⟨_, rfl, _, _, _, [], _, [], hW', trodAll_mk1 (shut_bool Try.underlying4 _), (trodAll_cons_mk (Below.trod laidOut (by kernel_rfl) (of_decide_eq_true (by kernel_rfl)) k0 bel lt0) (trodAll_cons_mk (Below.trod laidOut (by kernel_rfl) (of_decide_eq_true (by kernel_rfl)) k1 bel lt1) (trodAll_cons_mk (Below.trod laidOut (by kernel_rfl) (of_decide_eq_true (by kernel_rfl)) k2 bel lt2) trodAll_mk0))), rfl, bel.frame _, fun h => by cases h⟩

theorem fnExactSees_holds : Rows.FnExactSeesSaid :=
  OpenClaim.holds_of_wide 3 Try.f3 rfl rfl rfl rfl rfl rfl rfl ⟨rfl, rfl, rfl, rfl, rfl⟩ rfl rfl rfl rfl rfl (by kernel_rfl) Try.func3 (by kernel_rfl)
    (of_decide_eq_true (by kernel_rfl)) (by unfold Func.isWrapper; first | (rw [if_pos (by decide +kernel)]; kernel_rfl) | (rw [if_neg (by decide +kernel)]; exact ⟨rfl, rfl⟩))
    (fun os started H enc _ => fnExactSees_lifted os started H enc)
#print axioms fnExactSees_holds
end Go.Proofs.Ytbekaoikpkenhaa
