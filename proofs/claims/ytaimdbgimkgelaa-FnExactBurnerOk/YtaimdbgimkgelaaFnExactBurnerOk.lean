/-
What is proved: at every burner impl.BurnerOk answers as the specification's BurnerOk; no condition.
-/
import Derived.Test.YtaimdbgimkgelaaBuO
import Derived.Test.YtaimdbgimkgelaaBuL
namespace Go.Proofs.Ytaimdbgimkgelaa
set_option maxRecDepth 40000
open Go.ChangeShapes Go.WideShapes Go.ChangeAt Go.RowKit
set_option linter.unusedVariables false
set_option linter.unusedSimpArgs false

set_option maxHeartbeats 2000000 in
theorem burnerOk_law (s t r : Int) (v : Bool) (w : World) (H1 : Hid (∀ w, Calls Try.prog 9 #[.agg #[.int .i64 s, .int .i64 t, .int .i64 r]] w fun e w' => e = .returned (.bool v) ∧ Below w.heap.size w w')) (H2 : Hid (∀ w, Calls Try.prog 11 #[.agg #[.int .i64 s, .int .i64 t, .int .i64 r]] w fun e w' => e = .returned (.bool v) ∧ Below w.heap.size w w')) :
    Calls Try.prog 3 #[.agg #[.int .i64 s, .int .i64 t, .int .i64 r]] w fun e w' => e = .returned (.bool true) ∧ Below w.heap.size w w' := by
  go_enter Try.func3, Try.ntmps3
  go_wp2_with fail
  refine (toBurner_any s t r _).mono ?_
  rintro e w1 ⟨rfl, h⟩
  have c0 : w1.cell? ⟨w.heap.size, 0, none⟩ = some (.int .i64 s) := by rw [h.cell (by first | omega | (simp; done) | (simp; omega))]; first | (simp; done) | (simp [go_sem]; done)
  have c1 : w1.cell? ⟨w.heap.size, 1, none⟩ = some (.int .i64 t) := by rw [h.cell (by first | omega | (simp; done) | (simp; omega))]; first | (simp; done) | (simp [go_sem]; done)
  have c2 : w1.cell? ⟨w.heap.size, 2, none⟩ = some (.int .i64 r) := by rw [h.cell (by first | omega | (simp; done) | (simp; omega))]; first | (simp; done) | (simp [go_sem]; done)
  have z0 : w.heap.size < w1.heap.size := by have := h.size; simp at this; omega
  have B0 : Below w.heap.size w w1 := Below.trans (by repeat (first | with_reducible exact Below.refl _ _ | with_reducible refine Below.setCell ?_ (by first | omega | (simp; done) | (simp; omega)) _ | with_reducible refine bDrewN ?_ _ | with_reducible refine Below.drew ?_ | with_reducible refine Below.alloc ?_ (by first | omega | (simp; done) | (simp; omega)) _)) (h.mono (by first | omega | (simp; done) | (simp; omega)))
  clear h
  go_wp2_with fail
  refine (H1.out _).mono ?_
  rintro e w2 ⟨rfl, h⟩
  replace c0 := (h.cell (p := ⟨w.heap.size, 0, none⟩) z0).trans c0
  replace c1 := (h.cell (p := ⟨w.heap.size, 1, none⟩) z0).trans c1
  replace c2 := (h.cell (p := ⟨w.heap.size, 2, none⟩) z0).trans c2
  replace z0 := Nat.lt_of_lt_of_le z0 h.size
  replace B0 : Below w.heap.size w w2 := B0.trans (h.mono B0.size)
  clear h
  go_wp2_with fail
  refine (toBurner_any s t r _).mono ?_
  rintro e w3 ⟨rfl, h⟩
  replace c0 := (h.cell (p := ⟨w.heap.size, 0, none⟩) z0).trans c0
  replace c1 := (h.cell (p := ⟨w.heap.size, 1, none⟩) z0).trans c1
  replace c2 := (h.cell (p := ⟨w.heap.size, 2, none⟩) z0).trans c2
  replace z0 := Nat.lt_of_lt_of_le z0 h.size
  replace B0 : Below w.heap.size w w3 := B0.trans (h.mono B0.size)
  clear h
  go_wp2_with fail
  refine (H2.out _).mono ?_
  rintro e w4 ⟨rfl, h⟩
  replace c0 := (h.cell (p := ⟨w.heap.size, 0, none⟩) z0).trans c0
  replace c1 := (h.cell (p := ⟨w.heap.size, 1, none⟩) z0).trans c1
  replace c2 := (h.cell (p := ⟨w.heap.size, 2, none⟩) z0).trans c2
  replace z0 := Nat.lt_of_lt_of_le z0 h.size
  replace B0 : Below w.heap.size w w4 := B0.trans (h.mono B0.size)
  clear h
  go_wp2
  go_ret
  exact ⟨rfl, B0⟩
theorem fnExactBurnerOk_walk (s : Int) (ws : (Lit.int .i64 s).wf = true) (t : Int) (wt : (Lit.int .i64 t).wf = true) (r : Int) (wr : (Lit.int .i64 r).wf = true) (w : World) :
    Calls Try.prog 3 #[.agg #[.int .i64 s, .int .i64 t, .int .i64 r]] w fun e w' => e = .returned (.bool true) ∧ Below w.heap.size w w' :=
  burnerOk_law s t r _ w (fun w => specOk_any s t r w) (fun w => implOk_any s t r w)

set_option maxRecDepth 100000 in
theorem fnExactBurnerOk_lifted (os : Os) (started : os.Started) (H : Type) (enc : TypeId × Value → H) :
    ReturnsInHanded {} Try.checked os 3 .any (Rows.fnExactBurnerOkSpec.pre6 enc Try.prog Try.f3 Rows.fnExactBurnerOkRow.domain false) (Rows.fnExactBurnerOkSpec.post enc Try.prog Try.f3 false true false false) := by
  refine returnsInHanded_of_change (C := Try.checked) own started (by kernel_rfl) Try.func3
    (ChangeSpec.witness6 (enc := enc) (C := Try.checked) false ⟨#[], #[.agg #[.int .i64 0, .int .i64 0, .int .i64 0]], []⟩ 8 (by kernel_rfl) (by kernel_rfl) (by kernel_rfl) (by kernel_rfl)) ?_
  intro W base args ds gs before hval0 hW hcnd _
  have hval : ∀ (j : Nat) t v, Try.f3.params[j]? = some t → args[j]? = some v → Value.okWide Try.prog W .any base t v := hval0
  have hW' := hW
  obtain ⟨p, q, hA0, hV, rfl, hfz, hnd⟩ := hW
  have hA : DataW.TrodAll enc Try.prog W 0 (fun _ => true) true Try.f3.params.toList args.toList ds p := hA0
  rw [Try.params3] at hA hval
  obtain ⟨v0, vs0, d0, ds0, p0, q0, hargs, rfl, rfl, h0, r0⟩ := trodAll_cons hA
  obtain ⟨rfl, rfl, rfl⟩ := trodAll_nil r0
  obtain rfl : args = #[v0] := by cases args; simp_all
  obtain ⟨rfl, rfl⟩ := trodVars_none hV
  have k0 := h0
  have lt0 : ∀ x ∈ p0, x.block < W.heap.size := by obtain ⟨m, hm⟩ := k0; exact DataW.trod_lt m _ _ _ hm
  obtain ⟨vs0, rfl, c0⟩ := open_cells Try.underlying23 (ts := [2, 2, 2]) (by kernel_rfl) (by kernel_rfl) (hval 0 23 v0 rfl rfl)
  obtain ⟨x0_0, r0_0, rfl, o0_0, c0_0⟩ := cellsOk_cons c0
  obtain ⟨a0_0, rfl, w0_0⟩ := cell_int Try.underlying2 o0_0
  obtain ⟨x0_1, r0_1, rfl, o0_1, c0_1⟩ := cellsOk_cons c0_0
  obtain ⟨a0_1, rfl, w0_1⟩ := cell_int Try.underlying2 o0_1
  obtain ⟨x0_2, r0_2, rfl, o0_2, c0_2⟩ := cellsOk_cons c0_1
  obtain ⟨a0_2, rfl, w0_2⟩ := cell_int Try.underlying2 o0_2
  obtain rfl := cellsOk_nil c0_2
  clear hA0 hval0
  refine (fnExactBurnerOk_walk a0_0 w0_0 a0_1 w0_1 a0_2 w0_2 W).mono fun e W' ⟨he, bel⟩ => ?_
  subst he
  exact ⟨_, rfl, _, _, _, [], _, [], hW', trodAll_mk1 (shut_bool Try.underlying4 _), (trodAll_cons_mk (Below.trod laidOut (by kernel_rfl) (of_decide_eq_true (by kernel_rfl)) k0 bel lt0) trodAll_mk0), rfl, bel.frame _, fun h => by cases h⟩

theorem fnExactBurnerOk_holds : Rows.FnExactBurnerOkSaid :=
  OpenClaim.holds_of_wide 3 Try.f3 rfl rfl rfl rfl rfl rfl rfl ⟨rfl, rfl, rfl, rfl, rfl⟩ rfl rfl rfl rfl rfl (by kernel_rfl) Try.func3 (by kernel_rfl)
    (of_decide_eq_true (by kernel_rfl)) (by unfold Func.isWrapper; first | (rw [if_pos (by decide +kernel)]; kernel_rfl) | (rw [if_neg (by decide +kernel)]; exact ⟨rfl, rfl⟩))
    (fun os started H enc _ => fnExactBurnerOk_lifted os started H enc)
#print axioms fnExactBurnerOk_holds
end Go.Proofs.Ytaimdbgimkgelaa
