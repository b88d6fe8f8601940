/-
What is proved: at every two pairs and every two floats impl.Differs answers as the specification's Differs; no condition.
-/
import Derived.Test.YtbekaoikpkenhaaDf
import Derived.Deep.RegionHeld3
import Derived.Deep.DeepCutAuto
namespace Go.Proofs.Ytbekaoikpkenhaa
set_option maxRecDepth 40000
open Go.ChangeShapes Go.WideShapes Go.ChangeAt Go.RowKit
set_option linter.unusedVariables false
set_option linter.unusedSimpArgs false

theorem toPair_below (x y : Nat) (w : World) : Calls Try.prog 9 #[.agg #[.float .f64 x, .float .f64 y]] w fun q w' => q = .returned (.agg #[.float .f64 x, .float .f64 y]) ∧ Below w.heap.size w w' := by
  refine (toPair_any x y w).mono ?_
  rintro q w' ⟨rfl, rfl⟩
  exact ⟨rfl, (by repeat (first | with_reducible exact Below.refl _ _ | with_reducible refine Below.setCell ?_ (by first | omega | (simp; done) | (simp; omega)) _ | with_reducible refine bDrewN ?_ _ | with_reducible refine Below.drew ?_ | with_reducible refine Below.alloc ?_ (by first | omega | (simp; done) | (simp; omega)) _))⟩
theorem f64w_lt {x : Nat} (h : (Lit.float .f64 x).wf = true) : x < 18446744073709551616 := by
  simpa [Lit.wf] using h
theorem keepDiffers {W W' : World} {p0 p1 : Nat} {vc0_0 vc0_1 vc1_0 vc1_1 : Value} (hc0_0 : W.cell? ⟨p0, 0, none⟩ = some vc0_0) (hc0_1 : W.cell? ⟨p0, 1, none⟩ = some vc0_1) (hc1_0 : W.cell? ⟨p1, 0, none⟩ = some vc1_0) (hc1_1 : W.cell? ⟨p1, 1, none⟩ = some vc1_1) (z0 : p0 < W.heap.size) (z1 : p1 < W.heap.size) (hb : Below W.heap.size W W') : W'.cell? ⟨p0, 0, none⟩ = some vc0_0 ∧ W'.cell? ⟨p0, 1, none⟩ = some vc0_1 ∧ W'.cell? ⟨p1, 0, none⟩ = some vc1_0 ∧ W'.cell? ⟨p1, 1, none⟩ = some vc1_1 :=
  ⟨(hb.cell (p := ⟨p0, 0, none⟩) z0).trans hc0_0, (hb.cell (p := ⟨p0, 1, none⟩) z0).trans hc0_1, (hb.cell (p := ⟨p1, 0, none⟩) z1).trans hc1_0, (hb.cell (p := ⟨p1, 1, none⟩) z1).trans hc1_1⟩
set_option maxRecDepth 20000 in
set_option maxHeartbeats 8000000 in
theorem differs_law (x y z u l s : Nat) (v : Bool) (w : World) (H1 : Hid (∀ w, Calls Try.prog 16 #[.agg #[.float .f64 x, .float .f64 y], .agg #[.float .f64 z, .float .f64 u], .float .f64 l, .float .f64 s] w fun q w' => q = .returned (.bool v) ∧ Below w.heap.size w w')) (H2 : Hid (∀ w, Calls Try.prog 17 #[.agg #[.float .f64 x, .float .f64 y], .agg #[.float .f64 z, .float .f64 u], .float .f64 l, .float .f64 s] w fun q w' => q = .returned (.bool v) ∧ Below w.heap.size w w')) :
    Calls Try.prog 5 #[.agg #[.float .f64 x, .float .f64 y], .agg #[.float .f64 z, .float .f64 u], .float .f64 l, .float .f64 s] w fun q w' => q = .returned (.bool true) ∧ Below w.heap.size w w' := by
  go_enter Try.func5, Try.ntmps5
  go_upto_region 1 with fail
  obtain ⟨wd, hwd⟩ : ∃ wd, wd = ((w.alloc (.cells #[.float .f64 x, .float .f64 y] 24)).alloc (.cells #[.float .f64 z, .float .f64 u] 24)) := ⟨_, rfl⟩
  rw [← hwd]
  have c0_0 : wd.cell? ⟨w.heap.size, 0, none⟩ = some (.float .f64 x) := by rw [hwd]; simp [go_sem]
  have c0_1 : wd.cell? ⟨w.heap.size, 1, none⟩ = some (.float .f64 y) := by rw [hwd]; simp [go_sem]
  have c1_0 : wd.cell? ⟨w.heap.size + 1, 0, none⟩ = some (.float .f64 z) := by rw [hwd]; simp [go_sem]
  have c1_1 : wd.cell? ⟨w.heap.size + 1, 1, none⟩ = some (.float .f64 u) := by rw [hwd]; simp [go_sem]
  have z0 : w.heap.size < wd.heap.size := by rw [hwd]; first | (simp; done) | (simp; omega)
  have z1 : w.heap.size + 1 < wd.heap.size := by rw [hwd]; first | (simp; done) | (simp; omega)
  have B0 : Below w.heap.size w wd := by rw [hwd]; exact (by repeat (first | with_reducible exact Below.refl _ _ | with_reducible refine Below.setCell ?_ (by first | omega | (simp; done) | (simp; omega)) _ | with_reducible refine bDrewN ?_ _ | with_reducible refine Below.drew ?_ | with_reducible refine Below.alloc ?_ (by first | omega | (simp; done) | (simp; omega)) _))
  clear hwd
  go_cut [9] (fun s wx => s = .bool v ∧ Below wd.heap.size wd wx)
  case first =>
    go_region_held3 (fun w' => w'.cell? ⟨w.heap.size, 0, none⟩ = some (.float .f64 x) ∧ w'.cell? ⟨w.heap.size, 1, none⟩ = some (.float .f64 y) ∧ w'.cell? ⟨w.heap.size + 1, 0, none⟩ = some (.float .f64 z) ∧ w'.cell? ⟨w.heap.size + 1, 1, none⟩ = some (.float .f64 u)) (first | (refine keepDiffers c0_0 c0_1 c1_0 c1_1 z0 z1 ?_; exact (by repeat (first | with_reducible exact Below.refl _ _ | with_reducible exact B9 | with_reducible exact B5 | with_reducible exact B4 | with_reducible exact B3 | with_reducible refine Below.setCell ?_ (by first | omega | (simp; done) | (simp; omega)) _ | with_reducible refine bDrewN ?_ _ | with_reducible refine Below.drew ?_ | with_reducible refine Below.alloc ?_ (by first | omega | (simp; done) | (simp; omega)) _)))) (first
      | (go_at_call 9; have gg := B4; clear gg; refine (toPair_below z u _).mono ?_; rintro q w5 ⟨rfl, h5⟩; have B5 : Below wd.heap.size wd w5 := Below.trans (by repeat (first | with_reducible exact Below.refl _ _ | with_reducible exact B4 | with_reducible refine Below.setCell ?_ (by first | omega | (simp; done) | (simp; omega)) _ | with_reducible refine bDrewN ?_ _ | with_reducible refine Below.drew ?_ | with_reducible refine Below.alloc ?_ (by first | omega | (simp; done) | (simp; omega)) _)) (h5.mono (by first | omega | (simp; done) | (simp; omega))); have s5 := B5.size)
      | (go_at_call 9; refine (toPair_below x y _).mono ?_; rintro q w4 ⟨rfl, h4⟩; have B4 : Below wd.heap.size wd w4 := Below.trans (by repeat (first | with_reducible exact Below.refl _ _ | with_reducible refine Below.setCell ?_ (by first | omega | (simp; done) | (simp; omega)) _ | with_reducible refine bDrewN ?_ _ | with_reducible refine Below.drew ?_ | with_reducible refine Below.alloc ?_ (by first | omega | (simp; done) | (simp; omega)) _)) (h4.mono (by first | omega | (simp; done) | (simp; omega))); have s4 := B4.size)
      | (go_at_call 16; refine (H1.out _).mono ?_; rintro q w9 ⟨rfl, h9⟩; have B9 : Below wd.heap.size wd w9 := Below.trans (by repeat (first | with_reducible exact Below.refl _ _ | with_reducible exact B5 | with_reducible refine Below.setCell ?_ (by first | omega | (simp; done) | (simp; omega)) _ | with_reducible refine bDrewN ?_ _ | with_reducible refine Below.drew ?_ | with_reducible refine Below.alloc ?_ (by first | omega | (simp; done) | (simp; omega)) _)) (h9.mono (by first | omega | (simp; done) | (simp; omega)))))
    all_goals
      go_wp2_with fail
      go_meet
      case rel => exact ⟨rfl, (by repeat (first | with_reducible exact Below.refl _ _ | with_reducible exact B9 | with_reducible refine Below.setCell ?_ (by first | omega | (simp; done) | (simp; omega)) _ | with_reducible refine bDrewN ?_ _ | with_reducible refine Below.drew ?_ | with_reducible refine Below.alloc ?_ (by first | omega | (simp; done) | (simp; omega)) _))⟩
  case rest =>
    obtain ⟨rfl, hB⟩ := hcut
    replace c0_0 := (hB.cell (p := ⟨w.heap.size, 0, none⟩) z0).trans c0_0
    replace c0_1 := (hB.cell (p := ⟨w.heap.size, 1, none⟩) z0).trans c0_1
    replace c1_0 := (hB.cell (p := ⟨w.heap.size + 1, 0, none⟩) z1).trans c1_0
    replace c1_1 := (hB.cell (p := ⟨w.heap.size + 1, 1, none⟩) z1).trans c1_1
    replace z0 := Nat.lt_of_lt_of_le z0 hB.size
    replace z1 := Nat.lt_of_lt_of_le z1 hB.size
    replace B0 : Below w.heap.size w wc := B0.trans (hB.mono B0.size)
    clear hB
    go_upto_region 2 with fail
    go_cut [10] (fun s wx => s = .bool v ∧ Below wc.heap.size wc wx)
    case first =>
      go_region_held3 (fun w' => w'.cell? ⟨w.heap.size, 0, none⟩ = some (.float .f64 x) ∧ w'.cell? ⟨w.heap.size, 1, none⟩ = some (.float .f64 y) ∧ w'.cell? ⟨w.heap.size + 1, 0, none⟩ = some (.float .f64 z) ∧ w'.cell? ⟨w.heap.size + 1, 1, none⟩ = some (.float .f64 u)) (first | (refine keepDiffers c0_0 c0_1 c1_0 c1_1 z0 z1 ?_; exact (by repeat (first | with_reducible exact Below.refl _ _ | with_reducible exact B9 | with_reducible exact B5 | with_reducible exact B4 | with_reducible exact B3 | with_reducible refine Below.setCell ?_ (by first | omega | (simp; done) | (simp; omega)) _ | with_reducible refine bDrewN ?_ _ | with_reducible refine Below.drew ?_ | with_reducible refine Below.alloc ?_ (by first | omega | (simp; done) | (simp; omega)) _)))) (first
        | (go_at_call 9; have gg := B4; clear gg; refine (toPair_below z u _).mono ?_; rintro q w5 ⟨rfl, h5⟩; have B5 : Below wc.heap.size wc w5 := Below.trans (by repeat (first | with_reducible exact Below.refl _ _ | with_reducible exact B4 | with_reducible refine Below.setCell ?_ (by first | omega | (simp; done) | (simp; omega)) _ | with_reducible refine bDrewN ?_ _ | with_reducible refine Below.drew ?_ | with_reducible refine Below.alloc ?_ (by first | omega | (simp; done) | (simp; omega)) _)) (h5.mono (by first | omega | (simp; done) | (simp; omega))); have s5 := B5.size)
        | (go_at_call 9; refine (toPair_below x y _).mono ?_; rintro q w4 ⟨rfl, h4⟩; have B4 : Below wc.heap.size wc w4 := Below.trans (by repeat (first | with_reducible exact Below.refl _ _ | with_reducible refine Below.setCell ?_ (by first | omega | (simp; done) | (simp; omega)) _ | with_reducible refine bDrewN ?_ _ | with_reducible refine Below.drew ?_ | with_reducible refine Below.alloc ?_ (by first | omega | (simp; done) | (simp; omega)) _)) (h4.mono (by first | omega | (simp; done) | (simp; omega))); have s4 := B4.size)
        | (go_at_call 17; refine (H2.out _).mono ?_; rintro q w9 ⟨rfl, h9⟩; have B9 : Below wc.heap.size wc w9 := Below.trans (by repeat (first | with_reducible exact Below.refl _ _ | with_reducible exact B5 | with_reducible refine Below.setCell ?_ (by first | omega | (simp; done) | (simp; omega)) _ | with_reducible refine bDrewN ?_ _ | with_reducible refine Below.drew ?_ | with_reducible refine Below.alloc ?_ (by first | omega | (simp; done) | (simp; omega)) _)) (h9.mono (by first | omega | (simp; done) | (simp; omega)))))
      all_goals
        go_wp2_with fail
        go_meet
        case rel => exact ⟨rfl, (by repeat (first | with_reducible exact Below.refl _ _ | with_reducible exact B9 | with_reducible refine Below.setCell ?_ (by first | omega | (simp; done) | (simp; omega)) _ | with_reducible refine bDrewN ?_ _ | with_reducible refine Below.drew ?_ | with_reducible refine Below.alloc ?_ (by first | omega | (simp; done) | (simp; omega)) _))⟩
    case rest =>
      obtain ⟨rfl, hB⟩ := hcut
      have BF := B0.trans (hB.mono B0.size)
      cases v
      all_goals
        go_wp2
        go_ret
        exact ⟨rfl, BF⟩
theorem fnExactDiffers_walk (x : Nat) (wx : (Lit.float .f64 x).wf = true) (y : Nat) (wy : (Lit.float .f64 y).wf = true) (z : Nat) (wz : (Lit.float .f64 z).wf = true) (u : Nat) (wu : (Lit.float .f64 u).wf = true) (l : Nat) (wl : (Lit.float .f64 l).wf = true) (s : Nat) (ws : (Lit.float .f64 s).wf = true) (w : World) :
    Calls Try.prog 5 #[.agg #[.float .f64 x, .float .f64 y], .agg #[.float .f64 z, .float .f64 u], .float .f64 l, .float .f64 s] w fun q w' => q = .returned (.bool true) ∧ Below w.heap.size w w' :=
  differs_law x y z u l s _ w (fun w => specDiffers_any (fl_of x (f64w_lt wx)) (fl_of y (f64w_lt wy)) (fl_of z (f64w_lt wz)) (fl_of u (f64w_lt wu)) (fl_of l (f64w_lt wl)) (fl_of s (f64w_lt ws)) w) (fun w => implDiffers_any (fl_of x (f64w_lt wx)) (fl_of y (f64w_lt wy)) (fl_of z (f64w_lt wz)) (fl_of u (f64w_lt wu)) (fl_of l (f64w_lt wl)) (fl_of s (f64w_lt ws)) w)

set_option maxRecDepth 100000 in
theorem fnExactDiffers_lifted (os : Os) (started : os.Started) (H : Type) (enc : TypeId × Value → H) :
    ReturnsInHanded {} Try.checked os 5 .any (Rows.fnExactDiffersSpec.pre6 enc Try.prog Try.f5 Rows.fnExactDiffersRow.domain false) (Rows.fnExactDiffersSpec.post enc Try.prog Try.f5 false true false false) := by
  refine returnsInHanded_of_change (C := Try.checked) own started (by kernel_rfl) Try.func5
    (ChangeSpec.witness6 (enc := enc) (C := Try.checked) false ⟨#[], #[.agg #[.float .f64 0, .float .f64 0], .agg #[.float .f64 0, .float .f64 0], .float .f64 0, .float .f64 0], []⟩ 8 (by kernel_rfl) (by kernel_rfl) (by kernel_rfl) (by kernel_rfl)) ?_
  intro W base args ds gs before hval0 hW hcnd _
  have hval : ∀ (j : Nat) t v, Try.f5.params[j]? = some t → args[j]? = some v → Value.okWide Try.prog W .any base t v := hval0
  have hW' := hW
  obtain ⟨p, q, hA0, hV, rfl, hfz, hnd⟩ := hW
  have hA : DataW.TrodAll enc Try.prog W 0 (fun _ => true) true Try.f5.params.toList args.toList ds p := hA0
  rw [Try.params5] at hA hval
  obtain ⟨v0, vs0, d0, ds0, p0, q0, hargs, rfl, rfl, h0, r0⟩ := trodAll_cons hA
  obtain ⟨v1, vs1, d1, ds1, p1, q1, rfl, rfl, rfl, h1, r1⟩ := trodAll_cons r0
  obtain ⟨v2, vs2, d2, ds2, p2, q2, rfl, rfl, rfl, h2, r2⟩ := trodAll_cons r1
  obtain ⟨v3, vs3, d3, ds3, p3, q3, rfl, rfl, rfl, h3, r3⟩ := trodAll_cons r2
  obtain ⟨rfl, rfl, rfl⟩ := trodAll_nil r3
  obtain rfl : args = #[v0, v1, v2, v3] := by cases args; simp_all
  obtain ⟨rfl, rfl⟩ := trodVars_none hV
  have k0 := h0
  have lt0 : ∀ x ∈ p0, x.block < W.heap.size := by obtain ⟨m, hm⟩ := k0; exact DataW.trod_lt m _ _ _ hm
  have k1 := h1
  have lt1 : ∀ x ∈ p1, x.block < W.heap.size := by obtain ⟨m, hm⟩ := k1; exact DataW.trod_lt m _ _ _ hm
  have k2 := h2
  have lt2 : ∀ x ∈ p2, x.block < W.heap.size := by obtain ⟨m, hm⟩ := k2; exact DataW.trod_lt m _ _ _ hm
  have k3 := h3
  have lt3 : ∀ x ∈ p3, x.block < W.heap.size := by obtain ⟨m, hm⟩ := k3; exact DataW.trod_lt m _ _ _ hm
  obtain ⟨vs0, rfl, c0⟩ := open_cells Try.underlying24 (ts := [22, 22]) (by kernel_rfl) (by kernel_rfl) (hval 0 24 v0 rfl rfl)
  obtain ⟨x0_0, r0_0, rfl, o0_0, c0_0⟩ := cellsOk_cons c0
  obtain ⟨a0_0, rfl, w0_0⟩ := cell_float Try.underlying22 o0_0
  obtain ⟨x0_1, r0_1, rfl, o0_1, c0_1⟩ := cellsOk_cons c0_0
  obtain ⟨a0_1, rfl, w0_1⟩ := cell_float Try.underlying22 o0_1
  obtain rfl := cellsOk_nil c0_1
  obtain ⟨vs1, rfl, c1⟩ := open_cells Try.underlying24 (ts := [22, 22]) (by kernel_rfl) (by kernel_rfl) (hval 1 24 v1 rfl rfl)
  obtain ⟨x1_0, r1_0, rfl, o1_0, c1_0⟩ := cellsOk_cons c1
  obtain ⟨a1_0, rfl, w1_0⟩ := cell_float Try.underlying22 o1_0
  obtain ⟨x1_1, r1_1, rfl, o1_1, c1_1⟩ := cellsOk_cons c1_0
  obtain ⟨a1_1, rfl, w1_1⟩ := cell_float Try.underlying22 o1_1
  obtain rfl := cellsOk_nil c1_1
  obtain ⟨a2, rfl, rfl, rfl, w2⟩ := open_float Try.underlying22 (hval 2 22 v2 rfl rfl) h2
  obtain ⟨a3, rfl, rfl, rfl, w3⟩ := open_float Try.underlying22 (hval 3 22 v3 rfl rfl) h3
  clear hA0 hval0
  refine (fnExactDiffers_walk a0_0 w0_0 a0_1 w0_1 a1_0 w1_0 a1_1 w1_1 a2 w2 a3 w3 W).mono fun e W' ⟨he, bel⟩ => ?_
  subst he
  exact ⟨_, rfl, _, _, _, [], _, [], hW', trodAll_mk1 (shut_bool Try.underlying4 _), (trodAll_cons_mk (Below.trod laidOut (by kernel_rfl) (of_decide_eq_true (by kernel_rfl)) k0 bel lt0) (trodAll_cons_mk (Below.trod laidOut (by kernel_rfl) (of_decide_eq_true (by kernel_rfl)) k1 bel lt1) (trodAll_cons_mk (Below.trod laidOut (by kernel_rfl) (of_decide_eq_true (by kernel_rfl)) k2 bel lt2) (trodAll_cons_mk (Below.trod laidOut (by kernel_rfl) (of_decide_eq_true (by kernel_rfl)) k3 bel lt3) trodAll_mk0)))), rfl, bel.frame _, fun h => by cases h⟩

theorem fnExactDiffers_holds : Rows.FnExactDiffersSaid :=
  OpenClaim.holds_of_wide 5 Try.f5 rfl rfl rfl rfl rfl rfl rfl ⟨rfl, rfl, rfl, rfl, rfl⟩ rfl rfl rfl rfl rfl (by kernel_rfl) Try.func5 (by kernel_rfl)
    (of_decide_eq_true (by kernel_rfl)) (by unfold Func.isWrapper; first | (rw [if_pos (by decide +kernel)]; kernel_rfl) | (rw [if_neg (by decide +kernel)]; exact ⟨rfl, rfl⟩))
    (fun os started H enc _ => fnExactDiffers_lifted os started H enc)
#print axioms fnExactDiffers_holds
end Go.Proofs.Ytbekaoikpkenhaa
