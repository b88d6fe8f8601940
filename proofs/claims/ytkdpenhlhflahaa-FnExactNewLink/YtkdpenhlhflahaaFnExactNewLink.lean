/-
What is proved: at every number impl.NewLink answers as the specification's NewLink, and its answer owns its memory; no condition.
-/
import Derived.Test.YtkdpenhlhflahaaLkN
import Derived.Test.YtkdpenhlhflahaaLkE
namespace Go.Proofs.Ytkdpenhlhflahaa
set_option maxRecDepth 40000
open Go.ChangeShapes Go.WideShapes Go.ChangeAt Go.RowKit
set_option linter.unusedVariables false
set_option linter.unusedSimpArgs false

theorem store_sl : ∀ (W : World) (a : Addr) (s : Option Addr) (n c : Nat), (W.cell? a).isSome = true → W.frozen? a = false → (store a (.slice s n c)).run Try.prog W = .ok () (W.setCell a (.slice s n c)) := fun W a s n c h hf => by
  obtain ⟨u, hu⟩ := Option.isSome_iff_exists.1 h
  rw [run_store Try.prog W a _ _ rfl, hu]
  simp [hf]
theorem row_none (w : World) (V : Nat → Int) : RowI w none 0 V := fun j hj => by omega
theorem own_none (b : Nat) (w : World) (V : Nat → Int) : OwnI b w none 0 V := fun j hj => by omega
set_option maxHeartbeats 4000000 in
theorem newLink_law (x t : Int) (h : Bool) (q a l : Int) (w : World) (H1 : Hid (∀ w, Calls Try.prog 5 #[.int .i64 x] w fun e w' => e = .returned (.agg #[.int .i64 t, .bool h, .int .i64 q, .int .i64 a, .int .i64 l, .slice none 0 0]) ∧ Below w.heap.size w w')) (H2 : Hid (∀ w, Calls Try.prog 6 #[.int .i64 x] w fun e w' => e = .returned (.agg #[.int .i64 t, .bool h, .int .i64 q, .int .i64 a, .int .i64 l, .slice none 0 0]) ∧ Below w.heap.size w w')) :
    Calls Try.prog 3 #[.int .i64 x] w fun e w' => e = .returned (.bool true) ∧ Below w.heap.size w w' := by
  have sto := store_sl
  go_enter Try.func3, Try.ntmps3
  go_wp2_with fail
  refine (H1.out _).mono ?_
  rintro e w1 ⟨rfl, B0⟩
  have s0 := B0.size
  go_wp2_with fail
  refine (H2.out _).mono ?_
  rintro e w2 ⟨rfl, h2⟩
  obtain ⟨hc, hf⟩ := bcell h2
  have c0 := hc w1.heap.size 0 (by first | omega | (simp; done) | (simp; omega))
  have c1 := hc w1.heap.size 1 (by first | omega | (simp; done) | (simp; omega))
  have c2 := hc w1.heap.size 2 (by first | omega | (simp; done) | (simp; omega))
  have c3 := hc w1.heap.size 3 (by first | omega | (simp; done) | (simp; omega))
  have c4 := hc w1.heap.size 4 (by first | omega | (simp; done) | (simp; omega))
  have c5 := hc w1.heap.size 5 (by first | omega | (simp; done) | (simp; omega))
  simp [go_sem] at c0 c1 c2 c3 c4 c5
  have zc : w1.heap.size < w2.heap.size := by have := h2.size; simp at this; omega
  replace B0 : Below w.heap.size w w2 := Below.trans (by repeat (first | with_reducible exact Below.refl _ _ | with_reducible exact B0 | with_reducible refine Below.setCell ?_ (by first | omega | (simp; done) | (simp; omega)) _ | with_reducible refine bDrewN ?_ _ | with_reducible refine Below.drew ?_ | with_reducible refine Below.alloc ?_ (by first | omega | (simp; done) | (simp; omega)) _)) (h2.mono (by first | omega | (simp; done) | (simp; omega)))
  replace s0 := B0.size
  clear hc hf h2
  go_wp2_with fail
  refine (eqLink_any t h q a l none none 0 0 0 (fun _ => 0) _ (by decide) (row_none _ _) (row_none _ _)).mono ?_
  rintro e w3 ⟨rfl, h3⟩
  obtain ⟨hc, hf⟩ := bcell h3
  have g0 := hc w2.heap.size 0 (by first | omega | (simp; done) | (simp; omega))
  have g1 := hc w2.heap.size 1 (by first | omega | (simp; done) | (simp; omega))
  have g2 := hc w2.heap.size 2 (by first | omega | (simp; done) | (simp; omega))
  have g3 := hc w2.heap.size 3 (by first | omega | (simp; done) | (simp; omega))
  have g4 := hc w2.heap.size 4 (by first | omega | (simp; done) | (simp; omega))
  have g5 := hc w2.heap.size 5 (by first | omega | (simp; done) | (simp; omega))
  simp [go_sem] at g0 g1 g2 g3 g4 g5
  have zg : w2.heap.size < w3.heap.size := by have := h3.size; simp at this; omega
  have B3 : Below w2.heap.size w2 w3 := Below.trans (by repeat (first | with_reducible exact Below.refl _ _ | with_reducible refine Below.setCell ?_ (by first | omega | (simp; done) | (simp; omega)) _ | with_reducible refine bDrewN ?_ _ | with_reducible refine Below.drew ?_ | with_reducible refine Below.alloc ?_ (by first | omega | (simp; done) | (simp; omega)) _)) (h3.mono (by first | omega | (simp; done) | (simp; omega)))
  replace c0 := (B3.cell (p := ⟨w1.heap.size, 0, none⟩) zc).trans c0
  replace c1 := (B3.cell (p := ⟨w1.heap.size, 1, none⟩) zc).trans c1
  replace c2 := (B3.cell (p := ⟨w1.heap.size, 2, none⟩) zc).trans c2
  replace c3 := (B3.cell (p := ⟨w1.heap.size, 3, none⟩) zc).trans c3
  replace c4 := (B3.cell (p := ⟨w1.heap.size, 4, none⟩) zc).trans c4
  replace c5 := (B3.cell (p := ⟨w1.heap.size, 5, none⟩) zc).trans c5
  replace zc := Nat.lt_of_lt_of_le zc B3.size
  replace B0 : Below w.heap.size w w3 := Below.trans (by repeat (first | with_reducible exact Below.refl _ _ | with_reducible exact B0 | with_reducible refine Below.setCell ?_ (by first | omega | (simp; done) | (simp; omega)) _ | with_reducible refine bDrewN ?_ _ | with_reducible refine Below.drew ?_ | with_reducible refine Below.alloc ?_ (by first | omega | (simp; done) | (simp; omega)) _)) (h3.mono (by first | omega | (simp; done) | (simp; omega)))
  replace s0 := B0.size
  clear hc hf h3 B3
  go_wp2_with fail
  refine (markLink_own t h q a l w3.heap.size none 0 0 1 (fun _ => 0) _ (by decide) (by decide) (by decide) (by first | omega | (simp; done) | (simp; omega)) (own_none _ _ _)).mono ?_
  rintro e w4 ⟨rfl, -, h4, -⟩
  replace c0 := (h4.cell (p := ⟨w1.heap.size, 0, none⟩) zc).trans c0
  replace c1 := (h4.cell (p := ⟨w1.heap.size, 1, none⟩) zc).trans c1
  replace c2 := (h4.cell (p := ⟨w1.heap.size, 2, none⟩) zc).trans c2
  replace c3 := (h4.cell (p := ⟨w1.heap.size, 3, none⟩) zc).trans c3
  replace c4 := (h4.cell (p := ⟨w1.heap.size, 4, none⟩) zc).trans c4
  replace c5 := (h4.cell (p := ⟨w1.heap.size, 5, none⟩) zc).trans c5
  replace zc := Nat.lt_of_lt_of_le zc h4.size
  replace g0 := (h4.cell (p := ⟨w2.heap.size, 0, none⟩) zg).trans g0
  replace g1 := (h4.cell (p := ⟨w2.heap.size, 1, none⟩) zg).trans g1
  replace g2 := (h4.cell (p := ⟨w2.heap.size, 2, none⟩) zg).trans g2
  replace g3 := (h4.cell (p := ⟨w2.heap.size, 3, none⟩) zg).trans g3
  replace g4 := (h4.cell (p := ⟨w2.heap.size, 4, none⟩) zg).trans g4
  replace g5 := (h4.cell (p := ⟨w2.heap.size, 5, none⟩) zg).trans g5
  replace zg := Nat.lt_of_lt_of_le zg h4.size
  replace B0 : Below w.heap.size w w4 := B0.trans (h4.mono (by first | omega | (simp; done) | (simp; omega)))
  replace s0 := B0.size
  clear h4
  go_wp2_with fail
  refine (heldLink_any t h q a l none 0 0 1 _ (by decide) (by decide) (by decide) (row_none _ _)).mono ?_
  rintro e w5 ⟨rfl, h5⟩
  replace c0 := (h5.cell (p := ⟨w1.heap.size, 0, none⟩) zc).trans c0
  replace c1 := (h5.cell (p := ⟨w1.heap.size, 1, none⟩) zc).trans c1
  replace c2 := (h5.cell (p := ⟨w1.heap.size, 2, none⟩) zc).trans c2
  replace c3 := (h5.cell (p := ⟨w1.heap.size, 3, none⟩) zc).trans c3
  replace c4 := (h5.cell (p := ⟨w1.heap.size, 4, none⟩) zc).trans c4
  replace c5 := (h5.cell (p := ⟨w1.heap.size, 5, none⟩) zc).trans c5
  replace zc := Nat.lt_of_lt_of_le zc h5.size
  replace g0 := (h5.cell (p := ⟨w2.heap.size, 0, none⟩) zg).trans g0
  replace g1 := (h5.cell (p := ⟨w2.heap.size, 1, none⟩) zg).trans g1
  replace g2 := (h5.cell (p := ⟨w2.heap.size, 2, none⟩) zg).trans g2
  replace g3 := (h5.cell (p := ⟨w2.heap.size, 3, none⟩) zg).trans g3
  replace g4 := (h5.cell (p := ⟨w2.heap.size, 4, none⟩) zg).trans g4
  replace g5 := (h5.cell (p := ⟨w2.heap.size, 5, none⟩) zg).trans g5
  replace zg := Nat.lt_of_lt_of_le zg h5.size
  replace B0 : Below w.heap.size w w5 := B0.trans (h5.mono (by first | omega | (simp; done) | (simp; omega)))
  replace s0 := B0.size
  clear h5
  go_wp2_with fail
  refine (H2.out _).mono ?_
  rintro e w6 ⟨rfl, h6⟩
  replace c0 := (h6.cell (p := ⟨w1.heap.size, 0, none⟩) zc).trans c0
  replace c1 := (h6.cell (p := ⟨w1.heap.size, 1, none⟩) zc).trans c1
  replace c2 := (h6.cell (p := ⟨w1.heap.size, 2, none⟩) zc).trans c2
  replace c3 := (h6.cell (p := ⟨w1.heap.size, 3, none⟩) zc).trans c3
  replace c4 := (h6.cell (p := ⟨w1.heap.size, 4, none⟩) zc).trans c4
  replace c5 := (h6.cell (p := ⟨w1.heap.size, 5, none⟩) zc).trans c5
  replace zc := Nat.lt_of_lt_of_le zc h6.size
  replace g0 := (h6.cell (p := ⟨w2.heap.size, 0, none⟩) zg).trans g0
  replace g1 := (h6.cell (p := ⟨w2.heap.size, 1, none⟩) zg).trans g1
  replace g2 := (h6.cell (p := ⟨w2.heap.size, 2, none⟩) zg).trans g2
  replace g3 := (h6.cell (p := ⟨w2.heap.size, 3, none⟩) zg).trans g3
  replace g4 := (h6.cell (p := ⟨w2.heap.size, 4, none⟩) zg).trans g4
  replace g5 := (h6.cell (p := ⟨w2.heap.size, 5, none⟩) zg).trans g5
  replace zg := Nat.lt_of_lt_of_le zg h6.size
  replace B0 : Below w.heap.size w w6 := B0.trans (h6.mono (by first | omega | (simp; done) | (simp; omega)))
  replace s0 := B0.size
  clear h6
  go_wp2_with fail
  refine (eqLink_any t h q a l none none 0 0 0 (fun _ => 0) _ (by decide) (row_none _ _) (row_none _ _)).mono ?_
  rintro e w7 ⟨rfl, h7⟩
  have B7 : Below w6.heap.size w6 w7 := Below.trans (by repeat (first | with_reducible exact Below.refl _ _ | with_reducible refine Below.setCell ?_ (by first | omega | (simp; done) | (simp; omega)) _ | with_reducible refine bDrewN ?_ _ | with_reducible refine Below.drew ?_ | with_reducible refine Below.alloc ?_ (by first | omega | (simp; done) | (simp; omega)) _)) (h7.mono (by first | omega | (simp; done) | (simp; omega)))
  replace g0 := (B7.cell (p := ⟨w2.heap.size, 0, none⟩) zg).trans g0
  replace g1 := (B7.cell (p := ⟨w2.heap.size, 1, none⟩) zg).trans g1
  replace g2 := (B7.cell (p := ⟨w2.heap.size, 2, none⟩) zg).trans g2
  replace g3 := (B7.cell (p := ⟨w2.heap.size, 3, none⟩) zg).trans g3
  replace g4 := (B7.cell (p := ⟨w2.heap.size, 4, none⟩) zg).trans g4
  replace g5 := (B7.cell (p := ⟨w2.heap.size, 5, none⟩) zg).trans g5
  replace zg := Nat.lt_of_lt_of_le zg B7.size
  replace B0 : Below w.heap.size w w7 := Below.trans (by repeat (first | with_reducible exact Below.refl _ _ | with_reducible exact B0 | with_reducible refine Below.setCell ?_ (by first | omega | (simp; done) | (simp; omega)) _ | with_reducible refine bDrewN ?_ _ | with_reducible refine Below.drew ?_ | with_reducible refine Below.alloc ?_ (by first | omega | (simp; done) | (simp; omega)) _)) (h7.mono (by first | omega | (simp; done) | (simp; omega)))
  replace s0 := B0.size
  clear h7 B7
  go_wp2_with fail
  refine (heldLink_any t h q a l none 0 0 1 _ (by decide) (by decide) (by decide) (row_none _ _)).mono ?_
  rintro e w8 ⟨rfl, h8⟩
  replace B0 : Below w.heap.size w w8 := B0.trans (h8.mono (by first | omega | (simp; done) | (simp; omega)))
  replace s0 := B0.size
  clear h8
  go_wp2
  go_ret
  exact ⟨rfl, B0⟩
theorem fnExactNewLink_walk (x : Int) (wx : (Lit.int .i64 x).wf = true) (w : World) :
    Calls Try.prog 3 #[.int .i64 x] w fun e w' => e = .returned (.bool true) ∧ Below w.heap.size w w' :=
  newLink_law x _ _ _ _ _ w (fun w => specNewLink_any x w) (fun w => implNewLink_any x w)

set_option maxRecDepth 100000 in
theorem fnExactNewLink_lifted (os : Os) (started : os.Started) (H : Type) (enc : TypeId × Value → H) :
    ReturnsInHanded {} Try.checked os 3 .any (Rows.fnExactNewLinkSpec.pre6 enc Try.prog Try.f3 Rows.fnExactNewLinkRow.domain false) (Rows.fnExactNewLinkSpec.post enc Try.prog Try.f3 false true false false) := by
  refine returnsInHanded_of_change (C := Try.checked) own started (by kernel_rfl) Try.func3
    (ChangeSpec.witness6 (enc := enc) (C := Try.checked) false ⟨#[], #[.int .i64 0], []⟩ 8 (by kernel_rfl) (by kernel_rfl) (by kernel_rfl) (by kernel_rfl)) ?_
  intro W base args ds gs before hval0 hW hcnd _
  have hval : ∀ (j : Nat) t v, Try.f3.params[j]? = some t → args[j]? = some v → Value.okWide Try.prog W .any base t v := hval0
  have hW' := hW
  obtain ⟨p, q, hA0, hV, rfl, hfz, hnd⟩ := hW
  have hA : DataW.TrodAll enc Try.prog W 0 (fun _ => true) true Try.f3.params.toList args.toList ds p := hA0
  rw [Try.params3] at hA hval
  obtain ⟨v0, vs0, d0, ds0, p0, q0, hargs, rfl, rfl, h0, r0⟩ := trodAll_cons hA
  obtain ⟨rfl, rfl, rfl⟩ := trodAll_nil r0
  obtain rfl : args = #[v0] := by cases args; simp_all
  obtain ⟨rfl, rfl⟩ := trodVars_none hV
  have k0 := h0
  have lt0 : ∀ x ∈ p0, x.block < W.heap.size := by obtain ⟨m, hm⟩ := k0; exact DataW.trod_lt m _ _ _ hm
  obtain ⟨a0, rfl, rfl, rfl, w0⟩ := open_int Try.underlying2 (hval 0 2 v0 rfl rfl) h0
  clear hA0 hval0
  refine (fnExactNewLink_walk a0 w0 W).mono fun e W' ⟨he, bel⟩ => ?_
  subst he
  exact ⟨_, rfl, _, _, _, [], _, [], hW', trodAll_mk1 (shut_bool Try.underlying4 _), (trodAll_cons_mk (Below.trod laidOut (by kernel_rfl) (of_decide_eq_true (by kernel_rfl)) k0 bel lt0) trodAll_mk0), rfl, bel.frame _, fun h => by cases h⟩

theorem fnExactNewLink_holds : Rows.FnExactNewLinkSaid :=
  OpenClaim.holds_of_wide 3 Try.f3 rfl rfl rfl rfl rfl rfl rfl ⟨rfl, rfl, rfl, rfl, rfl⟩ rfl rfl rfl rfl rfl (by kernel_rfl) Try.func3 (by kernel_rfl)
    (of_decide_eq_true (by kernel_rfl)) (by unfold Func.isWrapper; first | (rw [if_pos (by decide +kernel)]; kernel_rfl) | (rw [if_neg (by decide +kernel)]; exact ⟨rfl, rfl⟩))
    (fun os started H enc _ => fnExactNewLink_lifted os started H enc)
#print axioms fnExactNewLink_holds
end Go.Proofs.Ytkdpenhlhflahaa
