/-
What is proved: at every list of steps impl.Bound answers as the specification's Bound and leaves the list as it was; no condition.
-/
import Derived.Test.YteljhmlcdmakcaaBnS
import Derived.Test.YteljhmlcdmakcaaPlnE
namespace Go.Proofs.Yteljhmlcdmakcaa
set_option maxRecDepth 40000
open Go.ChangeShapes Go.WideShapes Go.ChangeAt Go.RowKit
set_option linter.unusedVariables false
set_option linter.unusedSimpArgs false

set_option maxHeartbeats 400000 in
theorem bound_far0 (w : World) (s0 : Option Addr) (n0 c0 : Nat) (hf : 1048576 < (n0 : Int)) (hf2 : (n0 : Int) ≤ 9223372036854775807) :
    Calls Try.prog 6 #[.slice s0 n0 c0] w fun e w' => e = .returned (.bool true) ∧ Below w.heap.size w w' := by
  go_enter Try.func6, Try.ntmps6
  go_wp2_with fail
  refine (szStepS_off _ n0 _ _ _ (by omega) (by omega) hf hf2).mono ?_
  rintro e w ⟨rfl, rfl⟩
  go_wp2
  go_ret
  exact ⟨rfl, Below.refl _ _⟩

set_option maxRecDepth 20000 in
set_option maxHeartbeats 4000000 in
theorem bound_near (w : World) (s0 : Option Addr) (n0 c0 : Nat) (V0 : Nat → Int) (hn0 : (n0 : Int) ≤ 1048576) (HR0 : Hid (RowI w s0 (n0 * 5) V0)) (r0 : Int)
    (H1 : Hid (∀ s0 c0 w, RowI w s0 (n0 * 5) V0 → Calls Try.prog 27 #[.slice s0 n0 c0] w fun e w' => e = .returned (.int .i64 r0) ∧ Below w.heap.size w w'))
    (H2 : Hid (∀ s0 c0 w, RowI w s0 (n0 * 5) V0 → Calls Try.prog 28 #[.slice s0 n0 c0] w fun e w' => e = .returned (.int .i64 r0) ∧ Below w.heap.size w w')) :
    Calls Try.prog 6 #[.slice s0 n0 c0] w fun e w' => e = .returned (.bool true) ∧ Below w.heap.size w w' := by
  go_enter Try.func6, Try.ntmps6
  go_wp2_with fail
  refine (szStepS_on _ n0 _ _ _ (by omega) (by omega) (by omega)).mono ?_
  rintro e w ⟨rfl, rfl⟩
  have B0 : Below w.heap.size w w := Below.refl _ _
  go_wp2_with fail
  refine (toStepS_any _ n0 _ V0 _ hn0 (HR0.out.below B0)).mono ?_
  rintro e w1 ⟨rfl, za0z, Oa0, h⟩
  replace B0 : Below w.heap.size w w1 := B0.trans (h.mono B0.size)
  have Pa0 : Hid (OwnI w.heap.size w1 (some ⟨w.heap.size, 0, none⟩) (n0 * 5) V0) := Oa0
  clear Oa0 h
  clear za0z
  go_wp2_with fail
  refine (H1.out _ _ _ (Pa0.out.row)).mono ?_
  rintro e w2 ⟨rfl, h⟩
  clear Pa0
  replace B0 : Below w.heap.size w w2 := B0.trans (h.mono B0.size)
  clear h
  have l0_0 : w.heap.size ≤ w2.heap.size := B0.size
  go_wp2_with fail
  refine (toStepS_any _ n0 _ V0 _ hn0 (HR0.out.below B0)).mono ?_
  rintro e w3 ⟨rfl, zx0z, Ox0, h⟩
  replace B0 : Below w.heap.size w w3 := B0.trans (h.mono B0.size)
  have Px0 : Hid (OwnI w2.heap.size w3 (some ⟨w2.heap.size, 0, none⟩) (n0 * 5) V0) := Ox0
  clear Ox0 h
  have od0 : w2.heap.size < w3.heap.size := zx0z
  have zw2 : w2.heap.size < w3.heap.size := zx0z
  clear zx0z
  go_wp2_with fail
  refine (H2.out _ _ _ (Px0.out.row)).mono ?_
  rintro e w4 ⟨rfl, h⟩
  have l0 : w.heap.size ≤ w3.heap.size := B0.size
  have lx0 : w2.heap.size < w3.heap.size := zw2
  have lg : w3.heap.size ≤ w4.heap.size := h.size
  replace B0 : Below w.heap.size w w4 := B0.trans (h.mono B0.size)
  replace zw2 : w2.heap.size < w4.heap.size := Nat.lt_of_lt_of_le zw2 h.size
  replace Px0 : Hid (OwnI w2.heap.size w4 (some ⟨w2.heap.size, 0, none⟩) (n0 * 5) V0) := Px0.out.below h
  clear h
  go_wp2_with fail
  refine (toStepS_any _ n0 _ V0 _ hn0 (HR0.out.below B0)).mono ?_
  rintro e w5 ⟨rfl, zy0z, Oy0, h⟩
  replace B0 : Below w.heap.size w w5 := B0.trans (h.mono B0.size)
  replace zw2 : w2.heap.size < w5.heap.size := Nat.lt_of_lt_of_le zw2 h.size
  replace Px0 : Hid (OwnI w2.heap.size w5 (some ⟨w2.heap.size, 0, none⟩) (n0 * 5) V0) := Px0.out.below h
  have Py0 : Hid (OwnI w4.heap.size w5 (some ⟨w4.heap.size, 0, none⟩) (n0 * 5) V0) := Oy0
  clear Oy0 h
  replace lg : w3.heap.size ≤ w5.heap.size := by omega
  clear zy0z
  go_wp2_with fail
  refine (eqStepS_any _ _ n0 _ _ V0 _ hn0 Px0.out.row Py0.out.row).mono ?_
  rintro e w6 ⟨rfl, h⟩
  replace B0 : Below w.heap.size w w6 := B0.trans (h.mono B0.size)
  replace zw2 : w2.heap.size < w6.heap.size := Nat.lt_of_lt_of_le zw2 h.size
  replace Px0 : Hid (OwnI w2.heap.size w6 (some ⟨w2.heap.size, 0, none⟩) (n0 * 5) V0) := Px0.out.below h
  replace lg : w3.heap.size ≤ w6.heap.size := Nat.le_trans lg h.size
  clear h
  clear Py0
  go_wp2
  go_ret
  exact ⟨rfl, B0⟩

theorem fnExactBound_walk (w : World) (s0 : Option Addr) (n0 c0 : Nat) (V0 : Nat → Int) (m0 : n0 ≤ 9223372036854775807) (R0 : RowI w s0 (n0 * 5) V0) :
    Calls Try.prog 6 #[.slice s0 n0 c0] w fun e w' => e = .returned (.bool true) ∧ Below w.heap.size w w' := by
  by_cases h0 : (n0 : Int) ≤ 1048576
  · exact bound_near w s0 n0 c0 V0 h0 R0 (bndV n0 V0) (fun s c w q => specBound_any s n0 c V0 w h0 q) (fun s c w q => implBound_any s n0 c V0 w h0 q)
  · exact bound_far0 w s0 n0 c0 (by omega) (by omega)

set_option maxRecDepth 100000 in
theorem fnExactBound_lifted (os : Os) (started : os.Started) (H : Type) (enc : TypeId × Value → H) :
    ReturnsInHanded {} Try.checked os 6 .any (Rows.fnExactBoundSpec.pre6 enc Try.prog Try.f6 Rows.fnExactBoundRow.domain false) (Rows.fnExactBoundSpec.post enc Try.prog Try.f6 false true false false) := by
  refine returnsInHanded_of_change (C := Try.checked) own started (by kernel_rfl) Try.func6
    (ChangeSpec.witness6 (enc := enc) (C := Try.checked) false ⟨#[], #[.slice none 0 0], []⟩ 8 (by kernel_rfl) (by kernel_rfl) (by kernel_rfl) (by kernel_rfl)) ?_
  intro W base args ds gs before hval0 hW hcnd _
  have hval : ∀ (j : Nat) t v, Try.f6.params[j]? = some t → args[j]? = some v → Value.okWide Try.prog W .any base t v := hval0
  have hW' := hW
  obtain ⟨p, q, hA0, hV, rfl, hfz, hnd⟩ := hW
  have hA : DataW.TrodAll enc Try.prog W 0 (fun _ => true) true Try.f6.params.toList args.toList ds p := hA0
  rw [Try.params6] at hA hval
  obtain ⟨v0, vs0, d0, ds0, p0, q0, hargs, rfl, rfl, h0, r0⟩ := trodAll_cons hA
  obtain ⟨rfl, rfl, rfl⟩ := trodAll_nil r0
  obtain rfl : args = #[v0] := by cases args; simp_all
  obtain ⟨rfl, rfl⟩ := trodVars_none hV
  have k0 := h0
  have lt0 : ∀ x ∈ p0, x.block < W.heap.size := by obtain ⟨m, hm⟩ := k0; exact DataW.trod_lt m _ _ _ hm
  obtain ⟨s0, n0, c0, V0, rfl, m0, R0⟩ := open_rows5 Try.underlying22 Try.underlying60 (by kernel_rfl) rfl rfl rfl rfl rfl (by kernel_rfl) (by kernel_rfl) (by kernel_rfl) (by kernel_rfl) (by kernel_rfl) (by kernel_rfl) (by kernel_rfl) (by kernel_rfl) (by kernel_rfl) (by kernel_rfl) (hval 0 22 v0 rfl rfl) h0
  clear hA0 hval0
  refine (fnExactBound_walk W s0 n0 c0 V0 m0 R0).mono fun e W' ⟨he, bel⟩ => ?_
  subst he
  exact ⟨_, rfl, _, _, _, [], _, [], hW', trodAll_mk1 (shut_bool Try.underlying4 _), (trodAll_cons_mk (Below.trod laidOut (by kernel_rfl) (of_decide_eq_true (by kernel_rfl)) k0 bel lt0) trodAll_mk0), rfl, bel.frame _, fun h => by cases h⟩

theorem fnExactBound_holds : Rows.FnExactBoundSaid :=
  OpenClaim.holds_of_wide 6 Try.f6 rfl rfl rfl rfl rfl rfl rfl ⟨rfl, rfl, rfl, rfl, rfl⟩ rfl rfl rfl rfl rfl (by kernel_rfl) Try.func6 (by kernel_rfl)
    (of_decide_eq_true (by kernel_rfl)) (by unfold Func.isWrapper; first | (rw [if_pos (by decide +kernel)]; kernel_rfl) | (rw [if_neg (by decide +kernel)]; exact ⟨rfl, rfl⟩))
    (fun os started H enc _ => fnExactBound_lifted os started H enc)
#print axioms fnExactBound_holds
end Go.Proofs.Yteljhmlcdmakcaa
