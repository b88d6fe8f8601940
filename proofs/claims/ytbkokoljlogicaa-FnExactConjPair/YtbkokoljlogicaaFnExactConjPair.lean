/-
What is proved: at every pair impl.ConjPair answers as the specification's ConjPair, part by part, all NaNs being one; no condition.
-/
import Derived.Test.YtbkokoljlogicaaIConjPair
import Derived.Deep.RegionHeld3
import Derived.Deep.DeepCutAuto
namespace Go.Proofs.Ytbkokoljlogicaa
set_option maxRecDepth 40000
open Go.ChangeShapes Go.WideShapes Go.ChangeAt Go.RowKit
set_option linter.unusedVariables false
set_option linter.unusedSimpArgs false

theorem f64_lt {x : Nat} (h : (Lit.float .f64 x).wf = true) : x < 18446744073709551616 := by
  simpa [Lit.wf] using h

set_option maxHeartbeats 1200000 in
theorem fnExactConjPair_core (x y : Nat) (p q : Option Nat) (w : World)
    (H1 : Hid (∀ w, Calls Try.prog 17 #[.agg #[.float .f64 x, .float .f64 y]] w fun e w' => ∃ r i, e = .returned (.agg #[.float .f64 r, .float .f64 i]) ∧ Fl r p ∧ Fl i q ∧ Below w.heap.size w w'))
    (H2 : Hid (∀ w, Calls Try.prog 18 #[.agg #[.float .f64 x, .float .f64 y]] w fun e w' => ∃ r i, e = .returned (.agg #[.float .f64 r, .float .f64 i]) ∧ Fl r p ∧ Fl i q ∧ Below w.heap.size w w')) :
    Calls Try.prog 6 #[.agg #[.float .f64 x, .float .f64 y]] w fun e w' => e = .returned (.bool true) ∧ Below w.heap.size w w' := by
  have st := store_fp
  go_enter Try.func6, Try.ntmps6
  go_wp2_with fail
  refine (toPair_any x y _).mono ?_
  rintro e w1 ⟨rfl, rfl⟩
  go_wp2_with fail
  refine (H1.out _).mono ?_
  rintro e w2 ⟨r, i, rfl, hr, hi, h2⟩
  obtain ⟨hc2, hf2⟩ := bcell h2
  have B2 : Below w.heap.size w w2 := Below.trans (by repeat (first | with_reducible exact Below.refl _ _ | with_reducible refine Below.setCell ?_ (by first | omega | (simp; done) | (simp; omega)) _ | with_reducible refine bDrewN ?_ _ | with_reducible refine Below.drew ?_ | with_reducible refine Below.alloc ?_ (by first | omega | (simp; done) | (simp; omega)) _)) (h2.mono (by first | omega | (simp; done) | (simp; omega)))
  have s2 := h2.size
  simp at s2
  have z2 : w.heap.size < w2.heap.size := by omega
  have q0 : w2.cell? ⟨w.heap.size, 0, none⟩ = some (.float .f64 x) := by rw [hc2 _ _ (by first | omega | (simp; done) | (simp; omega))]; simp [go_sem]
  have q1 : w2.cell? ⟨w.heap.size, 1, none⟩ = some (.float .f64 y) := by rw [hc2 _ _ (by first | omega | (simp; done) | (simp; omega))]; simp [go_sem]
  clear hc2 hf2 h2 s2
  go_upto_region 2 with fail
  generalize hw3 : w2.alloc (.cells #[.float .f64 r, .float .f64 i] 25) = w3
  have r0 : w3.cell? ⟨w2.heap.size, 0, none⟩ = some (.float .f64 r) := by rw [← hw3]; simp [go_sem]
  have r1 : w3.cell? ⟨w2.heap.size, 1, none⟩ = some (.float .f64 i) := by rw [← hw3]; simp [go_sem]
  have b23 : Below w2.heap.size w2 w3 := by rw [← hw3]; exact below0 _ _
  have p0 : w3.cell? ⟨w.heap.size, 0, none⟩ = some (.float .f64 x) := (b23.cell (p := ⟨w.heap.size, 0, none⟩) z2).trans q0
  have p1 : w3.cell? ⟨w.heap.size, 1, none⟩ = some (.float .f64 y) := (b23.cell (p := ⟨w.heap.size, 1, none⟩) z2).trans q1
  have B3 : Below w.heap.size w w3 := by rw [← hw3]; exact B2.alloc (Nat.le_of_lt z2) _
  have z3 : w2.heap.size < w3.heap.size := by rw [← hw3]; simp
  clear q0 q1 B2 hw3
  go_wp2_with fail
  refine (toPair_any x y _).mono ?_
  rintro e w4 ⟨rfl, rfl⟩
  go_wp2_with fail
  refine (H2.out _).mono ?_
  rintro e w5 ⟨r', i', rfl, hr', hi', h5⟩
  obtain ⟨hc5, hf5⟩ := bcell h5
  have B5 : Below w.heap.size w w5 := Below.trans (by repeat (first | with_reducible exact Below.refl _ _ | with_reducible exact B3 | with_reducible refine Below.setCell ?_ (by first | omega | (simp; done) | (simp; omega)) _ | with_reducible refine bDrewN ?_ _ | with_reducible refine Below.drew ?_ | with_reducible refine Below.alloc ?_ (by first | omega | (simp; done) | (simp; omega)) _)) (h5.mono (by first | omega | (simp; done) | (simp; omega)))
  have s5 := h5.size
  simp at s5
  have b35 : Below w3.heap.size w3 w5 := Below.trans (by repeat (first | with_reducible exact Below.refl _ _ | with_reducible refine Below.setCell ?_ (by first | omega | (simp; done) | (simp; omega)) _ | with_reducible refine bDrewN ?_ _ | with_reducible refine Below.drew ?_ | with_reducible refine Below.alloc ?_ (by first | omega | (simp; done) | (simp; omega)) _)) (h5.mono (by first | omega | (simp; done) | (simp; omega)))
  have t0 : w5.cell? ⟨w2.heap.size, 0, none⟩ = some (.float .f64 r) := (b35.cell (p := ⟨w2.heap.size, 0, none⟩) z3).trans r0
  have t1 : w5.cell? ⟨w2.heap.size, 1, none⟩ = some (.float .f64 i) := (b35.cell (p := ⟨w2.heap.size, 1, none⟩) z3).trans r1
  have z5 : w2.heap.size < w5.heap.size := by omega
  clear hc5 hf5 h5 r0 r1 p0 p1 b23 b35
  go_wp2_with fail
  refine (eqPair_any hr' hi' hr hi _).mono ?_
  rintro e w6 ⟨rfl, h6⟩
  have B6 : Below w.heap.size w w6 := Below.trans (by repeat (first | with_reducible exact Below.refl _ _ | with_reducible exact B5 | with_reducible refine Below.setCell ?_ (by first | omega | (simp; done) | (simp; omega)) _ | with_reducible refine bDrewN ?_ _ | with_reducible refine Below.drew ?_ | with_reducible refine Below.alloc ?_ (by first | omega | (simp; done) | (simp; omega)) _)) (h6.mono (by first | omega | (simp; done) | (simp; omega)))
  go_wp2
  go_ret
  exact ⟨rfl, B6⟩

theorem fnExactConjPair_walk (x : Nat) (wx : (Lit.float .f64 x).wf = true) (y : Nat) (wy : (Lit.float .f64 y).wf = true) (w : World) :
    Calls Try.prog 6 #[.agg #[.float .f64 x, .float .f64 y]] w fun e w' => e = .returned (.bool true) ∧ Below w.heap.size w w' := by
  have hx := fl_of x (f64_lt wx)
  have hy := fl_of y (f64_lt wy)
  exact fnExactConjPair_core x y _ _ w (fun w => specConjPair_any hx hy w) (fun w => implConjPair_any hx hy w)

set_option maxRecDepth 100000 in
theorem fnExactConjPair_lifted (os : Os) (started : os.Started) (H : Type) (enc : TypeId × Value → H) :
    ReturnsInHanded {} Try.checked os 6 .any (Rows.fnExactConjPairSpec.pre6 enc Try.prog Try.f6 Rows.fnExactConjPairRow.domain false) (Rows.fnExactConjPairSpec.post enc Try.prog Try.f6 false true false false) := by
  refine returnsInHanded_of_change (C := Try.checked) own started (by kernel_rfl) Try.func6
    (ChangeSpec.witness6 (enc := enc) (C := Try.checked) false ⟨#[], #[.agg #[.float .f64 0, .float .f64 0]], []⟩ 8 (by kernel_rfl) (by kernel_rfl) (by kernel_rfl) (by kernel_rfl)) ?_
  intro W base args ds gs before hval0 hW hcnd _
  have hval : ∀ (j : Nat) t v, Try.f6.params[j]? = some t → args[j]? = some v → Value.okWide Try.prog W .any base t v := hval0
  have hW' := hW
  obtain ⟨p, q, hA0, hV, rfl, hfz, hnd⟩ := hW
  have hA : DataW.TrodAll enc Try.prog W 0 (fun _ => true) true Try.f6.params.toList args.toList ds p := hA0
  rw [Try.params6] at hA hval
  obtain ⟨v0, vs0, d0, ds0, p0, q0, hargs, rfl, rfl, h0, r0⟩ := trodAll_cons hA
  obtain ⟨rfl, rfl, rfl⟩ := trodAll_nil r0
  obtain rfl : args = #[v0] := by cases args; simp_all
  obtain ⟨rfl, rfl⟩ := trodVars_none hV
  have k0 := h0
  have lt0 : ∀ x ∈ p0, x.block < W.heap.size := by obtain ⟨m, hm⟩ := k0; exact DataW.trod_lt m _ _ _ hm
  obtain ⟨vs0, rfl, c0⟩ := open_cells Try.underlying24 (ts := [22, 22]) (by kernel_rfl) (by kernel_rfl) (hval 0 24 v0 rfl rfl)
  obtain ⟨x0_0, r0_0, rfl, o0_0, c0_0⟩ := cellsOk_cons c0
  obtain ⟨a0_0, rfl, w0_0⟩ := cell_float Try.underlying22 o0_0
  obtain ⟨x0_1, r0_1, rfl, o0_1, c0_1⟩ := cellsOk_cons c0_0
  obtain ⟨a0_1, rfl, w0_1⟩ := cell_float Try.underlying22 o0_1
  obtain rfl := cellsOk_nil c0_1
  clear hA0 hval0
  refine (fnExactConjPair_walk a0_0 w0_0 a0_1 w0_1 W).mono fun e W' ⟨he, bel⟩ => ?_
  subst he
  exact ⟨_, rfl, _, _, _, [], _, [], hW', trodAll_mk1 (shut_bool Try.underlying4 _), (trodAll_cons_mk (Below.trod laidOut (by kernel_rfl) (of_decide_eq_true (by kernel_rfl)) k0 bel lt0) trodAll_mk0), rfl, bel.frame _, fun h => by cases h⟩

theorem fnExactConjPair_holds : Rows.FnExactConjPairSaid :=
  OpenClaim.holds_of_wide 6 Try.f6 rfl rfl rfl rfl rfl rfl rfl ⟨rfl, rfl, rfl, rfl, rfl⟩ rfl rfl rfl rfl rfl (by kernel_rfl) Try.func6 (by kernel_rfl)
    (of_decide_eq_true (by kernel_rfl)) (by unfold Func.isWrapper; first | (rw [if_pos (by decide +kernel)]; kernel_rfl) | (rw [if_neg (by decide +kernel)]; exact ⟨rfl, rfl⟩))
    (fun os started H enc _ => fnExactConjPair_lifted os started H enc)
#print axioms fnExactConjPair_holds
end Go.Proofs.Ytbkokoljlogicaa
