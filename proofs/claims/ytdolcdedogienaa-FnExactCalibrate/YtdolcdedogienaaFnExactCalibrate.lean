/-
What is proved: at every four floats impl.Calibrate answers as the specification's Calibrate, bit for bit up to a NaN's bits; no condition.
-/
import Derived.Test.YtdolcdedogienaaCal
import Derived.Test.YtdolcdedogienaaSameF
namespace Go.Proofs.Ytdolcdedogienaa
set_option maxRecDepth 40000
open Go.ChangeShapes Go.WideShapes Go.ChangeAt Go.RowKit
set_option linter.unusedVariables false
set_option linter.unusedSimpArgs false

set_option maxHeartbeats 2000000 in
theorem calibrate_law (a b l h : Nat) (q p : Option Nat) (ok : Bool) (w : World) (H1 : Hid (∀ w, Calls Try.prog 12 #[.float .f64 a, .float .f64 b, .float .f64 l, .float .f64 h] w fun e w' => ∃ x y, e = .returned (.tuple #[.float .f64 x, .float .f64 y, .bool ok]) ∧ Fl x q ∧ Fl y p ∧ Below w.heap.size w w')) (H2 : Hid (∀ w, Calls Try.prog 13 #[.float .f64 a, .float .f64 b, .float .f64 l, .float .f64 h] w fun e w' => ∃ x y, e = .returned (.tuple #[.float .f64 x, .float .f64 y, .bool ok]) ∧ Fl x q ∧ Fl y p ∧ Below w.heap.size w w')) :
    Calls Try.prog 4 #[.float .f64 a, .float .f64 b, .float .f64 l, .float .f64 h] w fun e w' => e = .returned (.bool true) ∧ Below w.heap.size w w' := by
  go_enter Try.func4, Try.ntmps4
  go_wp2_with fail
  refine (H1.out _).mono ?_
  rintro e w1 ⟨x, y, rfl, hx, hy, B0⟩
  go_wp2_with fail
  refine (H2.out _).mono ?_
  rintro e w2 ⟨x2, y2, rfl, hx2, hy2, h⟩
  replace B0 : Below w.heap.size w w2 := B0.trans (h.mono B0.size)
  clear h
  go_wp2_with fail
  refine (sameFloat_any hx2 hx _).mono ?_
  rintro e w3 ⟨rfl, rfl⟩
  go_wp2_with fail
  refine (sameFloat_any hy2 hy _).mono ?_
  rintro e w4 ⟨rfl, rfl⟩
  go_wp2
  go_ret
  exact ⟨rfl, B0⟩
theorem fnExactCalibrate_walk (a : Nat) (wa : (Lit.float .f64 a).wf = true) (b : Nat) (wb : (Lit.float .f64 b).wf = true) (l : Nat) (wl : (Lit.float .f64 l).wf = true) (h : Nat) (wh : (Lit.float .f64 h).wf = true) (w : World) :
    Calls Try.prog 4 #[.float .f64 a, .float .f64 b, .float .f64 l, .float .f64 h] w fun e w' => e = .returned (.bool true) ∧ Below w.heap.size w w' :=
  calibrate_law a b l h _ _ _ w (fun w => specCal_any a b l h (f64_lt wa) (f64_lt wb) (f64_lt wl) (f64_lt wh) w) (fun w => implCal_any a b l h (f64_lt wa) (f64_lt wb) (f64_lt wl) (f64_lt wh) w)

set_option maxRecDepth 100000 in
theorem fnExactCalibrate_lifted (os : Os) (started : os.Started) (H : Type) (enc : TypeId × Value → H) :
    ReturnsInHanded {} Try.checked os 4 .any (Rows.fnExactCalibrateSpec.pre6 enc Try.prog Try.f4 Rows.fnExactCalibrateRow.domain false) (Rows.fnExactCalibrateSpec.post enc Try.prog Try.f4 false true false false) := by
  refine returnsInHanded_of_change (C := Try.checked) own started (by kernel_rfl) Try.func4
    (ChangeSpec.witness6 (enc := enc) (C := Try.checked) false ⟨#[], #[.float .f64 0, .float .f64 0, .float .f64 0, .float .f64 0], []⟩ 8 (by kernel_rfl) (by kernel_rfl) (by kernel_rfl) (by kernel_rfl)) ?_
  intro W base args ds gs before hval0 hW hcnd _
  have hval : ∀ (j : Nat) t v, Try.f4.params[j]? = some t → args[j]? = some v → Value.okWide Try.prog W .any base t v := hval0
  have hW' := hW
  obtain ⟨p, q, hA0, hV, rfl, hfz, hnd⟩ := hW
  have hA : DataW.TrodAll enc Try.prog W 0 (fun _ => true) true Try.f4.params.toList args.toList ds p := hA0
  rw [Try.params4] at hA hval
  obtain ⟨v0, vs0, d0, ds0, p0, q0, hargs, rfl, rfl, h0, r0⟩ := trodAll_cons hA
  obtain ⟨v1, vs1, d1, ds1, p1, q1, rfl, rfl, rfl, h1, r1⟩ := trodAll_cons r0
  obtain ⟨v2, vs2, d2, ds2, p2, q2, rfl, rfl, rfl, h2, r2⟩ := trodAll_cons r1
  obtain ⟨v3, vs3, d3, ds3, p3, q3, rfl, rfl, rfl, h3, r3⟩ := trodAll_cons r2
  obtain ⟨rfl, rfl, rfl⟩ := trodAll_nil r3
  obtain rfl : args = #[v0, v1, v2, v3] := by cases args; simp_all
  obtain ⟨rfl, rfl⟩ := trodVars_none hV
  have k0 := h0
  have lt0 : ∀ x ∈ p0, x.block < W.heap.size := by obtain ⟨m, hm⟩ := k0; exact DataW.trod_lt m _ _ _ hm
  have k1 := h1
  have lt1 : ∀ x ∈ p1, x.block < W.heap.size := by obtain ⟨m, hm⟩ := k1; exact DataW.trod_lt m _ _ _ hm
  have k2 := h2
  have lt2 : ∀ x ∈ p2, x.block < W.heap.size := by obtain ⟨m, hm⟩ := k2; exact DataW.trod_lt m _ _ _ hm
  have k3 := h3
  have lt3 : ∀ x ∈ p3, x.block < W.heap.size := by obtain ⟨m, hm⟩ := k3; exact DataW.trod_lt m _ _ _ hm
  obtain ⟨a0, rfl, rfl, rfl, w0⟩ := open_float Try.underlying22 (hval 0 22 v0 rfl rfl) h0
  obtain ⟨a1, rfl, rfl, rfl, w1⟩ := open_float Try.underlying22 (hval 1 22 v1 rfl rfl) h1
  obtain ⟨a2, rfl, rfl, rfl, w2⟩ := open_float Try.underlying22 (hval 2 22 v2 rfl rfl) h2
  obtain ⟨a3, rfl, rfl, rfl, w3⟩ := open_float Try.underlying22 (hval 3 22 v3 rfl rfl) h3
  clear hA0 hval0
  refine (fnExactCalibrate_walk a0 w0 a1 w1 a2 w2 a3 w3 W).mono fun e W' ⟨he, bel⟩ => ?_
  subst he
  exact ⟨_, rfl, _, _, _, [], _, [], hW', trodAll_mk1 (shut_bool Try.underlying4 _), (trodAll_cons_mk (Below.trod laidOut (by kernel_rfl) (of_decide_eq_true (by kernel_rfl)) k0 bel lt0) (trodAll_cons_mk (Below.trod laidOut (by kernel_rfl) (of_decide_eq_true (by kernel_rfl)) k1 bel lt1) (trodAll_cons_mk (Below.trod laidOut (by kernel_rfl) (of_decide_eq_true (by kernel_rfl)) k2 bel lt2) (trodAll_cons_mk (Below.trod laidOut (by kernel_rfl) (of_decide_eq_true (by kernel_rfl)) k3 bel lt3) trodAll_mk0)))), rfl, bel.frame _, fun h => by cases h⟩

theorem fnExactCalibrate_holds : Rows.FnExactCalibrateSaid :=
  OpenClaim.holds_of_wide 4 Try.f4 rfl rfl rfl rfl rfl rfl rfl ⟨rfl, rfl, rfl, rfl, rfl⟩ rfl rfl rfl rfl rfl (by kernel_rfl) Try.func4 (by kernel_rfl)
    (of_decide_eq_true (by kernel_rfl)) (by unfold Func.isWrapper; first | (rw [if_pos (by decide +kernel)]; kernel_rfl) | (rw [if_neg (by decide +kernel)]; exact ⟨rfl, rfl⟩))
    (fun os started H enc _ => fnExactCalibrate_lifted os started H enc)
#print axioms fnExactCalibrate_holds
end Go.Proofs.Ytdolcdedogienaa
