/-
What is proved: at every sensor and every float impl.CountOf answers as the specification's CountOf; no condition.
-/
import Derived.Test.YtbdilaacfokpiaaCnS
import Derived.Test.YtbdilaacfokpiaaCnI
import Derived.Test.YtbdilaacfokpiaaToSe
namespace Go.Proofs.Ytbdilaacfokpiaa
set_option maxRecDepth 40000
open Go.ChangeShapes Go.WideShapes Go.ChangeAt Go.RowKit
set_option linter.unusedVariables false
set_option linter.unusedSimpArgs false

set_option maxHeartbeats 2000000 in
theorem countOf_law (a b x : Nat) (cnt : Int) (w : World) (H1 : Hid (∀ w, Calls Try.prog 6 #[.agg #[.float .f64 a, .float .f64 b], .float .f64 x] w fun e w' => e = .returned (.int .i64 cnt) ∧ Below w.heap.size w w')) (H2 : Hid (∀ w, Calls Try.prog 8 #[.agg #[.float .f64 a, .float .f64 b], .float .f64 x] w fun e w' => e = .returned (.int .i64 cnt) ∧ Below w.heap.size w w')) :
    Calls Try.prog 3 #[.agg #[.float .f64 a, .float .f64 b], .float .f64 x] w fun e w' => e = .returned (.bool true) ∧ Below w.heap.size w w' := by
  go_enter Try.func3, Try.ntmps3
  go_wp2_with fail
  refine (toSensor_any a b _).mono ?_
  rintro e w1 ⟨rfl, h1⟩
  have c0 : w1.cell? ⟨w.heap.size, 0, none⟩ = some (.float .f64 a) := by rw [h1.cell (by first | omega | (simp; done) | (simp; omega))]; first | (simp; done) | (simp [go_sem]; done)
  have c1 : w1.cell? ⟨w.heap.size, 1, none⟩ = some (.float .f64 b) := by rw [h1.cell (by first | omega | (simp; done) | (simp; omega))]; first | (simp; done) | (simp [go_sem]; done)
  have z0 : w.heap.size < w1.heap.size := by have := h1.size; simp at this; omega
  have B0 : Below w.heap.size w w1 := Below.trans (by repeat (first | with_reducible exact Below.refl _ _ | with_reducible refine Below.setCell ?_ (by first | omega | (simp; done) | (simp; omega)) _ | with_reducible refine bDrewN ?_ _ | with_reducible refine Below.drew ?_ | with_reducible refine Below.alloc ?_ (by first | omega | (simp; done) | (simp; omega)) _)) (h1.mono (by first | omega | (simp; done) | (simp; omega)))
  have s0 := B0.size
  clear h1
  go_wp2_with fail
  refine (H1.out _).mono ?_
  rintro e w2 ⟨rfl, h_⟩
  replace c0 := (h_.cell (p := ⟨w.heap.size, 0, none⟩) z0).trans c0
  replace c1 := (h_.cell (p := ⟨w.heap.size, 1, none⟩) z0).trans c1
  replace z0 := Nat.lt_of_lt_of_le z0 h_.size
  replace B0 : Below w.heap.size w w2 := B0.trans (h_.mono s0)
  replace s0 := B0.size
  clear h_
  go_wp2_with fail
  refine (toSensor_any a b _).mono ?_
  rintro e w3 ⟨rfl, h_⟩
  replace c0 := (h_.cell (p := ⟨w.heap.size, 0, none⟩) z0).trans c0
  replace c1 := (h_.cell (p := ⟨w.heap.size, 1, none⟩) z0).trans c1
  replace z0 := Nat.lt_of_lt_of_le z0 h_.size
  replace B0 : Below w.heap.size w w3 := B0.trans (h_.mono s0)
  replace s0 := B0.size
  clear h_
  go_wp2_with fail
  refine (H2.out _).mono ?_
  rintro e w4 ⟨rfl, h_⟩
  replace c0 := (h_.cell (p := ⟨w.heap.size, 0, none⟩) z0).trans c0
  replace c1 := (h_.cell (p := ⟨w.heap.size, 1, none⟩) z0).trans c1
  replace z0 := Nat.lt_of_lt_of_le z0 h_.size
  replace B0 : Below w.heap.size w w4 := B0.trans (h_.mono s0)
  replace s0 := B0.size
  clear h_
  have e1 : (cnt != cnt) = false := by simp
  go_wp2
  go_ret
  exact ⟨rfl, B0⟩
theorem fnExactCountOf_walk (a : Nat) (wa : (Lit.float .f64 a).wf = true) (b : Nat) (wb : (Lit.float .f64 b).wf = true) (x : Nat) (wx : (Lit.float .f64 x).wf = true) (w : World) :
    Calls Try.prog 3 #[.agg #[.float .f64 a, .float .f64 b], .float .f64 x] w fun e w' => e = .returned (.bool true) ∧ Below w.heap.size w w' := by
  obtain ⟨cnt, hc⟩ := cnt_some a b (ofW x)
  have hx := fl_of x (f64_lt wx)
  exact countOf_law a b x cnt w (fun w => (specCountOf_any a b x (f64_lt wa) (f64_lt wb) _ hx w).mono fun e w' ⟨c, h1, h2, h3⟩ => ⟨by rw [h2, hc.one h1], h3⟩) (fun w => (implCountOf_any a b x (f64_lt wa) (f64_lt wb) (f64_lt wx) _ hx w).mono fun e w' ⟨c, h1, h2, h3⟩ => ⟨by rw [h2, hc.one h1], h3⟩)

set_option maxRecDepth 100000 in
theorem fnExactCountOf_lifted (os : Os) (started : os.Started) (H : Type) (enc : TypeId × Value → H) :
    ReturnsInHanded {} Try.checked os 3 .any (Rows.fnExactCountOfSpec.pre6 enc Try.prog Try.f3 Rows.fnExactCountOfRow.domain false) (Rows.fnExactCountOfSpec.post enc Try.prog Try.f3 false true false false) := by
  refine returnsInHanded_of_change (C := Try.checked) own started (by kernel_rfl) Try.func3
    (ChangeSpec.witness6 (enc := enc) (C := Try.checked) false ⟨#[], #[.agg #[.float .f64 0, .float .f64 0], .float .f64 0], []⟩ 8 (by kernel_rfl) (by kernel_rfl) (by kernel_rfl) (by kernel_rfl)) ?_
  intro W base args ds gs before hval0 hW hcnd _
  have hval : ∀ (j : Nat) t v, Try.f3.params[j]? = some t → args[j]? = some v → Value.okWide Try.prog W .any base t v := hval0
  have hW' := hW
  obtain ⟨p, q, hA0, hV, rfl, hfz, hnd⟩ := hW
  have hA : DataW.TrodAll enc Try.prog W 0 (fun _ => true) true Try.f3.params.toList args.toList ds p := hA0
  rw [Try.params3] at hA hval
  obtain ⟨v0, vs0, d0, ds0, p0, q0, hargs, rfl, rfl, h0, r0⟩ := trodAll_cons hA
  obtain ⟨v1, vs1, d1, ds1, p1, q1, rfl, rfl, rfl, h1, r1⟩ := trodAll_cons r0
  obtain ⟨rfl, rfl, rfl⟩ := trodAll_nil r1
  obtain rfl : args = #[v0, v1] := by cases args; simp_all
  obtain ⟨rfl, rfl⟩ := trodVars_none hV
  have k0 := h0
  have lt0 : ∀ x ∈ p0, x.block < W.heap.size := by obtain ⟨m, hm⟩ := k0; exact DataW.trod_lt m _ _ _ hm
  have k1 := h1
  have lt1 : ∀ x ∈ p1, x.block < W.heap.size := by obtain ⟨m, hm⟩ := k1; exact DataW.trod_lt m _ _ _ hm
  obtain ⟨vs0, rfl, c0⟩ := open_cells Try.underlying24 (ts := [22, 22]) (by kernel_rfl) (by kernel_rfl) (hval 0 24 v0 rfl rfl)
  obtain ⟨x0_0, r0_0, rfl, o0_0, c0_0⟩ := cellsOk_cons c0
  obtain ⟨a0_0, rfl, w0_0⟩ := cell_float Try.underlying22 o0_0
  obtain ⟨x0_1, r0_1, rfl, o0_1, c0_1⟩ := cellsOk_cons c0_0
  obtain ⟨a0_1, rfl, w0_1⟩ := cell_float Try.underlying22 o0_1
  obtain rfl := cellsOk_nil c0_1
  obtain ⟨a1, rfl, rfl, rfl, w1⟩ := open_float Try.underlying22 (hval 1 22 v1 rfl rfl) h1
  clear hA0 hval0
  refine (fnExactCountOf_walk a0_0 w0_0 a0_1 w0_1 a1 w1 W).mono fun e W' ⟨he, bel⟩ => ?_
  subst he
  exact ⟨_, rfl, _, _, _, [], _, [], hW', trodAll_mk1 (shut_bool Try.underlying4 _), (trodAll_cons_mk (Below.trod laidOut (by kernel_rfl) (of_decide_eq_true (by kernel_rfl)) k0 bel lt0) (trodAll_cons_mk (Below.trod laidOut (by kernel_rfl) (of_decide_eq_true (by kernel_rfl)) k1 bel lt1) trodAll_mk0)), rfl, bel.frame _, fun h => by cases h⟩

theorem fnExactCountOf_holds : Rows.FnExactCountOfSaid :=
  OpenClaim.holds_of_wide 3 Try.f3 rfl rfl rfl rfl rfl rfl rfl ⟨rfl, rfl, rfl, rfl, rfl⟩ rfl rfl rfl rfl rfl (by kernel_rfl) Try.func3 (by kernel_rfl)
    (of_decide_eq_true (by kernel_rfl)) (by unfold Func.isWrapper; first | (rw [if_pos (by decide +kernel)]; kernel_rfl) | (rw [if_neg (by decide +kernel)]; exact ⟨rfl, rfl⟩))
    (fun os started H enc _ => fnExactCountOf_lifted os started H enc)
#print axioms fnExactCountOf_holds
end Go.Proofs.Ytbdilaacfokpiaa
