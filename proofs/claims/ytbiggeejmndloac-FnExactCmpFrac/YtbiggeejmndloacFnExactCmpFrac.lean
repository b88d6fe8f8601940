/-
What is proved: at every two fractions, right or not, impl.CmpFrac answers as the specification's CmpFrac; no condition.
-/
import Derived.Test.YtbiggeejmndloacCmp
import Derived.Test.YtbiggeejmndloacEq
import Derived.Deep.RegionHeld3
import Derived.Deep.DeepCutAuto
namespace Go.Proofs.Ytbiggeejmndloac
open Go.ChangeShapes Go.WideShapes Go.ChangeAt Go.RowKit
set_option linter.unusedVariables false

set_option maxHeartbeats 400000 in
theorem fnExactCmpFrac_core (a b c d x : Int) (w : World)
    (H1 : Hid (∀ w, Calls Try.prog 13 #[.agg #[.int .i64 a, .int .i64 b], .agg #[.int .i64 c, .int .i64 d]] w fun e w' => e = .returned (.int .i64 x) ∧ Below w.heap.size w w'))
    (H2 : Hid (∀ w, Calls Try.prog 14 #[.agg #[.int .i64 a, .int .i64 b], .agg #[.int .i64 c, .int .i64 d]] w fun e w' => e = .returned (.int .i64 x) ∧ Below w.heap.size w w')) :
    Calls Try.prog 5 #[.agg #[.int .i64 a, .int .i64 b], .agg #[.int .i64 c, .int .i64 d]] w fun e w' => e = .returned (.bool true) ∧ Below w.heap.size w w' := by
  have Q := fun (w : World) => (keep4 (W := (w.alloc (.cells #[.int .i64 a, .int .i64 b] 23)).alloc (.cells #[.int .i64 c, .int .i64 d] 23)) (p := w.heap.size) (q := w.heap.size + 1) (a := .int .i64 a) (b := .int .i64 b) (c := .int .i64 c) (d := .int .i64 d) (by simp) (by simp) (by simp) (by simp) (by first | omega | (simp; done) | (simp; omega)) (by first | omega | (simp; done) | (simp; omega)) (Below.refl _ _))
  obtain ⟨q0, q1, q2, q3⟩ := Q w
  clear Q
  have z0 : w.heap.size < ((w.alloc (.cells #[.int .i64 a, .int .i64 b] 23)).alloc (.cells #[.int .i64 c, .int .i64 d] 23)).heap.size := by simp; omega
  have z1 : w.heap.size + 1 < ((w.alloc (.cells #[.int .i64 a, .int .i64 b] 23)).alloc (.cells #[.int .i64 c, .int .i64 d] 23)).heap.size := by simp
  have B0 : Below w.heap.size w ((w.alloc (.cells #[.int .i64 a, .int .i64 b] 23)).alloc (.cells #[.int .i64 c, .int .i64 d] 23)) := (by repeat (first | exact Below.refl _ _ | refine Below.setCell ?_ (by first | omega | (simp; done) | (simp; omega)) _ | refine bDrewN ?_ _ | refine Below.drew ?_ | refine Below.alloc ?_ (by first | omega | (simp; done) | (simp; omega)) _))
  have Z0 : Hid _ := z0
  have Z1 : Hid _ := z1
  have Q0 : Hid _ := q0
  have Q1 : Hid _ := q1
  have Q2 : Hid _ := q2
  have Q3 : Hid _ := q3
  clear q0 q1 q2 q3 z0 z1
  go_enter Try.func5, Try.ntmps5
  go_upto_region 1 with fail
  generalize hW0 : (w.alloc (.cells #[.int .i64 a, .int .i64 b] 23)).alloc (.cells #[.int .i64 c, .int .i64 d] 23) = W0 at *
  have q0 := Q0.out; have q1 := Q1.out; have q2 := Q2.out; have q3 := Q3.out; have z0 := Z0.out; have z1 := Z1.out
  clear Q0 Q1 Q2 Q3 Z0 Z1 hW0
  go_region_held3 (fun w' => w'.cell? ⟨w.heap.size, 0, none⟩ = some (.int .i64 a) ∧ w'.cell? ⟨w.heap.size, 1, none⟩ = some (.int .i64 b) ∧ w'.cell? ⟨w.heap.size + 1, 0, none⟩ = some (.int .i64 c) ∧ w'.cell? ⟨w.heap.size + 1, 1, none⟩ = some (.int .i64 d)) (first | (refine keep4 q0 q1 q2 q3 z0 z1 ?_; exact (by repeat (first | exact Below.refl _ _ | exact B3 | refine Below.setCell ?_ (by first | omega | (simp; done) | (simp; omega)) _ | refine bDrewN ?_ _ | refine Below.drew ?_ | refine Below.alloc ?_ (by first | omega | (simp; done) | (simp; omega)) _)))) (first
      | (go_at_call_of 8 (Value.int IntKind.i64 a); refine (toFrac_any a b _).mono ?_; rintro e w1 ⟨rfl, rfl⟩)
      | (go_at_call_of 8 (Value.int IntKind.i64 c); refine (toFrac_any c d _).mono ?_; rintro e w2 ⟨rfl, rfl⟩)
      | (go_at_call 13; refine (H1.out _).mono ?_; rintro e w3 ⟨rfl, hx3⟩; have B3 : Below W0.heap.size W0 w3 := Below.trans (by repeat (first | exact Below.refl _ _ | refine Below.setCell ?_ (by first | omega | (simp; done) | (simp; omega)) _ | refine bDrewN ?_ _ | refine Below.drew ?_ | refine Below.alloc ?_ (by first | omega | (simp; done) | (simp; omega)) _)) (hx3.mono (by first | omega | (simp; done) | (simp; omega)))))
  obtain ⟨k0, k1, k2, k3⟩ := keep4 q0 q1 q2 q3 z0 z1 B3
  have z2 : w.heap.size < w3.heap.size := Nat.lt_of_lt_of_le z0 B3.size
  have z3 : w.heap.size + 1 < w3.heap.size := Nat.lt_of_lt_of_le z1 B3.size
  have B4 : Below w.heap.size w w3 := B0.trans (B3.mono B0.size)
  clear q0 q1 q2 q3 B0 B3 hx3
  go_wp2_with fail
  go_region_held3 (fun w' => w'.cell? ⟨w.heap.size, 0, none⟩ = some (.int .i64 a) ∧ w'.cell? ⟨w.heap.size, 1, none⟩ = some (.int .i64 b) ∧ w'.cell? ⟨w.heap.size + 1, 0, none⟩ = some (.int .i64 c) ∧ w'.cell? ⟨w.heap.size + 1, 1, none⟩ = some (.int .i64 d)) (first | (refine keep4 k0 k1 k2 k3 z2 z3 ?_; exact (by repeat (first | exact Below.refl _ _ | exact B5 | refine Below.setCell ?_ (by first | omega | (simp; done) | (simp; omega)) _ | refine bDrewN ?_ _ | refine Below.drew ?_ | refine Below.alloc ?_ (by first | omega | (simp; done) | (simp; omega)) _)))) (first
      | (go_at_call_of 8 (Value.int IntKind.i64 a); refine (toFrac_any a b _).mono ?_; rintro e w1 ⟨rfl, rfl⟩)
      | (go_at_call_of 8 (Value.int IntKind.i64 c); refine (toFrac_any c d _).mono ?_; rintro e w2 ⟨rfl, rfl⟩)
      | (go_at_call 14; refine (H2.out _).mono ?_; rintro e w5 ⟨rfl, hx5⟩; have B5 : Below w3.heap.size w3 w5 := Below.trans (by repeat (first | exact Below.refl _ _ | refine Below.setCell ?_ (by first | omega | (simp; done) | (simp; omega)) _ | refine bDrewN ?_ _ | refine Below.drew ?_ | refine Below.alloc ?_ (by first | omega | (simp; done) | (simp; omega)) _)) (hx5.mono (by first | omega | (simp; done) | (simp; omega)))))
  go_wp2
  go_ret
  exact ⟨rfl, B4.trans (B5.mono B4.size)⟩

theorem fnExactCmpFrac_walk (a : Int) (wa : (Lit.int .i64 a).wf = true) (b : Int) (wb : (Lit.int .i64 b).wf = true) (c : Int) (wc : (Lit.int .i64 c).wf = true) (d : Int) (wd : (Lit.int .i64 d).wf = true) (w : World) :
    Calls Try.prog 5 #[.agg #[.int .i64 a, .int .i64 b], .agg #[.int .i64 c, .int .i64 d]] w fun e w' => e = .returned (.bool true) ∧ Below w.heap.size w w' := by
  obtain ⟨h1, h2⟩ := bounds_i64 wa
  obtain ⟨h3, h4⟩ := bounds_i64 wb
  obtain ⟨h5, h6⟩ := bounds_i64 wc
  obtain ⟨h7, h8⟩ := bounds_i64 wd
  exact fnExactCmpFrac_core a b c d _ w (fun w => specCmpFrac_any a b c d w h1 h2 h3 h4 h5 h6 h7 h8) (fun w => implCmpFrac_any a b c d w h1 h2 h3 h4 h5 h6 h7 h8)

set_option maxRecDepth 100000 in
theorem fnExactCmpFrac_lifted (os : Os) (started : os.Started) (H : Type) (enc : TypeId × Value → H) :
    ReturnsInHanded {} Try.checked os 5 .any (Rows.fnExactCmpFracSpec.pre6 enc Try.prog Try.f5 Rows.fnExactCmpFracRow.domain false) (Rows.fnExactCmpFracSpec.post enc Try.prog Try.f5 false true false false) := by
  refine returnsInHanded_of_change (C := Try.checked) own started (by kernel_rfl) Try.func5
    (ChangeSpec.witness6 (enc := enc) (C := Try.checked) false ⟨#[], #[.agg #[.int .i64 0, .int .i64 0], .agg #[.int .i64 0, .int .i64 0]], []⟩ 8 (by kernel_rfl) (by kernel_rfl) (by kernel_rfl) (by kernel_rfl)) ?_
  intro W base args ds gs before hval0 hW hcnd _
  have hval : ∀ (j : Nat) t v, Try.f5.params[j]? = some t → args[j]? = some v → Value.okWide Try.prog W .any base t v := hval0
  have hW' := hW
  obtain ⟨p, q, hA0, hV, rfl, hfz, hnd⟩ := hW
  have hA : DataW.TrodAll enc Try.prog W 0 (fun _ => true) true Try.f5.params.toList args.toList ds p := hA0
  rw [Try.params5] at hA hval
  obtain ⟨v0, vs0, d0, ds0, p0, q0, hargs, rfl, rfl, h0, r0⟩ := trodAll_cons hA
  obtain ⟨v1, vs1, d1, ds1, p1, q1, rfl, rfl, rfl, h1, r1⟩ := trodAll_cons r0
  obtain ⟨rfl, rfl, rfl⟩ := trodAll_nil r1
  obtain rfl : args = #[v0, v1] := by cases args; simp_all
  obtain ⟨rfl, rfl⟩ := trodVars_none hV
  have k0 := h0
  have lt0 : ∀ x ∈ p0, x.block < W.heap.size := by obtain ⟨m, hm⟩ := k0; exact DataW.trod_lt m _ _ _ hm
  have k1 := h1
  have lt1 : ∀ x ∈ p1, x.block < W.heap.size := by obtain ⟨m, hm⟩ := k1; exact DataW.trod_lt m _ _ _ hm
  obtain ⟨vs0, rfl, c0⟩ := open_cells Try.underlying23 (ts := [2, 2]) (by kernel_rfl) (by kernel_rfl) (hval 0 23 v0 rfl rfl)
  obtain ⟨x0_0, r0_0, rfl, o0_0, c0_0⟩ := cellsOk_cons c0
  obtain ⟨a0_0, rfl, w0_0⟩ := cell_int Try.underlying2 o0_0
  obtain ⟨x0_1, r0_1, rfl, o0_1, c0_1⟩ := cellsOk_cons c0_0
  obtain ⟨a0_1, rfl, w0_1⟩ := cell_int Try.underlying2 o0_1
  obtain rfl := cellsOk_nil c0_1
  obtain ⟨vs1, rfl, c1⟩ := open_cells Try.underlying23 (ts := [2, 2]) (by kernel_rfl) (by kernel_rfl) (hval 1 23 v1 rfl rfl)
  obtain ⟨x1_0, r1_0, rfl, o1_0, c1_0⟩ := cellsOk_cons c1
  obtain ⟨a1_0, rfl, w1_0⟩ := cell_int Try.underlying2 o1_0
  obtain ⟨x1_1, r1_1, rfl, o1_1, c1_1⟩ := cellsOk_cons c1_0
  obtain ⟨a1_1, rfl, w1_1⟩ := cell_int Try.underlying2 o1_1
  obtain rfl := cellsOk_nil c1_1
  clear hA0 hval0
  refine (fnExactCmpFrac_walk a0_0 w0_0 a0_1 w0_1 a1_0 w1_0 a1_1 w1_1 W).mono fun e W' ⟨he, bel⟩ => ?_
  subst he
  exact ⟨_, rfl, _, _, _, [], _, [], hW', trodAll_mk1 (shut_bool Try.underlying4 _), (trodAll_cons_mk (Below.trod laidOut (by kernel_rfl) (of_decide_eq_true (by kernel_rfl)) k0 bel lt0) (trodAll_cons_mk (Below.trod laidOut (by kernel_rfl) (of_decide_eq_true (by kernel_rfl)) k1 bel lt1) trodAll_mk0)), rfl, bel.frame _, fun h => by cases h⟩

theorem fnExactCmpFrac_holds : Rows.FnExactCmpFracSaid :=
  OpenClaim.holds_of_wide 5 Try.f5 rfl rfl rfl rfl rfl rfl rfl ⟨rfl, rfl, rfl, rfl, rfl⟩ rfl rfl rfl rfl rfl (by kernel_rfl) Try.func5 (by kernel_rfl)
    (of_decide_eq_true (by kernel_rfl)) (by unfold Func.isWrapper; first | (rw [if_pos (by decide +kernel)]; kernel_rfl) | (rw [if_neg (by decide +kernel)]; exact ⟨rfl, rfl⟩))
    (fun os started H enc _ => fnExactCmpFrac_lifted os started H enc)
#print axioms fnExactCmpFrac_holds
end Go.Proofs.Ytbiggeejmndloac
