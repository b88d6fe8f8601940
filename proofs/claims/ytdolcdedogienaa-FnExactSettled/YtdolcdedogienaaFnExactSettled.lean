/-
What is proved: at every list of floats and every two floats impl.Settled answers as the specification's Settled and leaves the list as it was; no condition.
-/
import Derived.Test.YtdolcdedogienaaStlS
import Derived.Test.YtdolcdedogienaaStlI
import Derived.Test.YtdolcdedogienaaF64O
namespace Go.Proofs.Ytdolcdedogienaa
set_option maxRecDepth 40000
open Go.ChangeShapes Go.WideShapes Go.ChangeAt Go.RowKit
set_option linter.unusedVariables false
set_option linter.unusedSimpArgs false

set_option maxHeartbeats 400000 in
theorem settled_far0 (w : World) (s0 : Option Addr) (n0 c0 : Nat) (h0 : (1048576 : Int) < n0) (a1 : Nat) (a2 : Nat) :
    Calls Try.prog 6 #[.slice s0 n0 c0, .float .f64 a1, .float .f64 a2] w fun e w' => e = .returned (.bool true) ∧ Below w.heap.size w w' := by
  go_enter Try.func6, Try.ntmps6
  go_wp2
  go_ret
  exact ⟨rfl, Below.refl _ _⟩

set_option maxRecDepth 20000 in
set_option maxHeartbeats 4000000 in
theorem settled_near (w : World) (s0 : Option Addr) (n0 c0 : Nat) (V0 : Nat → Option Nat) (hn0 : (n0 : Int) ≤ 1048576) (HR0 : Hid (RowF w s0 n0 V0)) (a1 : Nat) (a2 : Nat) (r0 : Int)
    (H1 : Hid (∀ s0 c0 w, RowF w s0 n0 V0 → Calls Try.prog 20 #[.slice s0 n0 c0, .float .f64 a1, .float .f64 a2] w fun e w' => e = .returned (.int .i64 r0) ∧ Below w.heap.size w w'))
    (H2 : Hid (∀ s0 c0 w, RowF w s0 n0 V0 → Calls Try.prog 21 #[.slice s0 n0 c0, .float .f64 a1, .float .f64 a2] w fun e w' => e = .returned (.int .i64 r0) ∧ Below w.heap.size w w')) :
    Calls Try.prog 6 #[.slice s0 n0 c0, .float .f64 a1, .float .f64 a2] w fun e w' => e = .returned (.bool true) ∧ Below w.heap.size w w' := by
  go_enter Try.func6, Try.ntmps6
  have B0 : Below w.heap.size w w := Below.refl _ _
  go_wp2_with fail
  refine (toFloat64S_any _ n0 _ V0 _ hn0 (HR0.out.below B0)).mono ?_
  rintro e w1 ⟨rfl, za0z, Oa0, h⟩
  replace B0 : Below w.heap.size w w1 := B0.trans (h.mono B0.size)
  have Pa0 : Hid (OwnF w.heap.size w1 (some ⟨w.heap.size, 0, none⟩) n0 V0) := Oa0
  clear Oa0 h
  clear za0z
  go_wp2_with fail
  refine (H1.out _ _ _ (Pa0.out.row)).mono ?_
  rintro e w2 ⟨rfl, h⟩
  clear Pa0
  replace B0 : Below w.heap.size w w2 := B0.trans (h.mono B0.size)
  clear h
  have l0_0 : w.heap.size ≤ w2.heap.size := B0.size
  go_wp2_with fail
  refine (toFloat64S_any _ n0 _ V0 _ hn0 (HR0.out.below B0)).mono ?_
  rintro e w3 ⟨rfl, zx0z, Ox0, h⟩
  replace B0 : Below w.heap.size w w3 := B0.trans (h.mono B0.size)
  have Px0 : Hid (OwnF w2.heap.size w3 (some ⟨w2.heap.size, 0, none⟩) n0 V0) := Ox0
  clear Ox0 h
  have zw2 : w2.heap.size < w3.heap.size := zx0z
  clear zx0z
  go_wp2_with fail
  refine (H2.out _ _ _ (Px0.out.row)).mono ?_
  rintro e w4 ⟨rfl, h⟩
  have l0 : w.heap.size ≤ w3.heap.size := B0.size
  have lx0 : w2.heap.size < w3.heap.size := zw2
  have lg : w3.heap.size ≤ w4.heap.size := h.size
  replace B0 : Below w.heap.size w w4 := B0.trans (h.mono B0.size)
  replace zw2 : w2.heap.size < w4.heap.size := Nat.lt_of_lt_of_le zw2 h.size
  replace Px0 : Hid (OwnF w2.heap.size w4 (some ⟨w2.heap.size, 0, none⟩) n0 V0) := Px0.out.below h
  clear h
  go_wp2_with fail
  refine (toFloat64S_any _ n0 _ V0 _ hn0 (HR0.out.below B0)).mono ?_
  rintro e w5 ⟨rfl, zy0z, Oy0, h⟩
  replace B0 : Below w.heap.size w w5 := B0.trans (h.mono B0.size)
  replace zw2 : w2.heap.size < w5.heap.size := Nat.lt_of_lt_of_le zw2 h.size
  replace Px0 : Hid (OwnF w2.heap.size w5 (some ⟨w2.heap.size, 0, none⟩) n0 V0) := Px0.out.below h
  have Py0 : Hid (OwnF w4.heap.size w5 (some ⟨w4.heap.size, 0, none⟩) n0 V0) := Oy0
  clear Oy0 h
  replace lg : w3.heap.size ≤ w5.heap.size := by omega
  clear zy0z
  go_wp2_with fail
  refine (eqFloat64S_any _ _ n0 _ _ V0 _ hn0 Px0.out.row Py0.out.row).mono ?_
  rintro e w6 ⟨rfl, h⟩
  replace B0 : Below w.heap.size w w6 := B0.trans (h.mono B0.size)
  replace zw2 : w2.heap.size < w6.heap.size := Nat.lt_of_lt_of_le zw2 h.size
  replace Px0 : Hid (OwnF w2.heap.size w6 (some ⟨w2.heap.size, 0, none⟩) n0 V0) := Px0.out.below h
  replace lg : w3.heap.size ≤ w6.heap.size := Nat.le_trans lg h.size
  clear h
  clear Py0
  go_wp2
  go_ret
  exact ⟨rfl, B0⟩

theorem fnExactSettled_walk (w : World) (s0 : Option Addr) (n0 c0 : Nat) (V0 : Nat → Option Nat) (m0 : n0 ≤ 9223372036854775807) (R0 : RowF w s0 n0 V0) (a1 : Nat) (w1 : (Lit.float .f64 a1).wf = true) (a2 : Nat) (w2 : (Lit.float .f64 a2).wf = true) :
    Calls Try.prog 6 #[.slice s0 n0 c0, .float .f64 a1, .float .f64 a2] w fun e w' => e = .returned (.bool true) ∧ Below w.heap.size w w' := by
  have h1 := fl_of a1 (wf_f64 w1)
  have h2 := fl_of a2 (wf_f64 w2)
  by_cases h0 : (n0 : Int) ≤ 1048576
  · by_cases hk : n0 ≤ 1000
    · obtain ⟨f, hf⟩ := from_some (setB V0 (ofW a1) (ofW a2)) n0
      exact settled_near w s0 n0 c0 V0 h0 R0 a1 a2 _ (fun s c w r => specStl_in s n0 c V0 a1 a2 f _ _ h1 h2 w r hf hk) (fun s c w r => implStl_in s n0 c V0 a1 a2 f _ _ h1 h2 w r hf hk)
    · exact settled_near w s0 n0 c0 V0 h0 R0 a1 a2 _ (fun s c w r => specStl_far s n0 c a1 a2 w (by omega)) (fun s c w r => implStl_far s n0 c a1 a2 w (by omega))
  · exact settled_far0 w s0 n0 c0 (by omega) a1 a2

set_option maxRecDepth 100000 in
theorem fnExactSettled_lifted (os : Os) (started : os.Started) (H : Type) (enc : TypeId × Value → H) :
    ReturnsInHanded {} Try.checked os 6 .any (Rows.fnExactSettledSpec.pre6 enc Try.prog Try.f6 Rows.fnExactSettledRow.domain false) (Rows.fnExactSettledSpec.post enc Try.prog Try.f6 false true false false) := by
  refine returnsInHanded_of_change (C := Try.checked) own started (by kernel_rfl) Try.func6
    (ChangeSpec.witness6 (enc := enc) (C := Try.checked) false ⟨#[], #[.slice none 0 0, .float .f64 0, .float .f64 0], []⟩ 8 (by kernel_rfl) (by kernel_rfl) (by kernel_rfl) (by kernel_rfl)) ?_
  intro W base args ds gs before hval0 hW hcnd _
  have hval : ∀ (j : Nat) t v, Try.f6.params[j]? = some t → args[j]? = some v → Value.okWide Try.prog W .any base t v := hval0
  have hW' := hW
  obtain ⟨p, q, hA0, hV, rfl, hfz, hnd⟩ := hW
  have hA : DataW.TrodAll enc Try.prog W 0 (fun _ => true) true Try.f6.params.toList args.toList ds p := hA0
  rw [Try.params6] at hA hval
  obtain ⟨v0, vs0, d0, ds0, p0, q0, hargs, rfl, rfl, h0, r0⟩ := trodAll_cons hA
  obtain ⟨v1, vs1, d1, ds1, p1, q1, rfl, rfl, rfl, h1, r1⟩ := trodAll_cons r0
  obtain ⟨v2, vs2, d2, ds2, p2, q2, rfl, rfl, rfl, h2, r2⟩ := trodAll_cons r1
  obtain ⟨rfl, rfl, rfl⟩ := trodAll_nil r2
  obtain rfl : args = #[v0, v1, v2] := by cases args; simp_all
  obtain ⟨rfl, rfl⟩ := trodVars_none hV
  have k0 := h0
  have lt0 : ∀ x ∈ p0, x.block < W.heap.size := by obtain ⟨m, hm⟩ := k0; exact DataW.trod_lt m _ _ _ hm
  have k1 := h1
  have lt1 : ∀ x ∈ p1, x.block < W.heap.size := by obtain ⟨m, hm⟩ := k1; exact DataW.trod_lt m _ _ _ hm
  have k2 := h2
  have lt2 : ∀ x ∈ p2, x.block < W.heap.size := by obtain ⟨m, hm⟩ := k2; exact DataW.trod_lt m _ _ _ hm
  obtain ⟨s0, n0, c0, V0, rfl, m0, R0⟩ := open_f64s Try.underlying33 Try.underlying22 (by kernel_rfl) (hval 0 33 v0 rfl rfl) h0
  obtain ⟨a1, rfl, rfl, rfl, w1⟩ := open_float Try.underlying22 (hval 1 22 v1 rfl rfl) h1
  obtain ⟨a2, rfl, rfl, rfl, w2⟩ := open_float Try.underlying22 (hval 2 22 v2 rfl rfl) h2
  clear hA0 hval0
  refine (fnExactSettled_walk W s0 n0 c0 V0 m0 R0 a1 w1 a2 w2).mono fun e W' ⟨he, bel⟩ => ?_
  subst he
  exact ⟨_, rfl, _, _, _, [], _, [], hW', trodAll_mk1 (shut_bool Try.underlying4 _), (trodAll_cons_mk (Below.trod laidOut (by kernel_rfl) (of_decide_eq_true (by kernel_rfl)) k0 bel lt0) (trodAll_cons_mk (Below.trod laidOut (by kernel_rfl) (of_decide_eq_true (by kernel_rfl)) k1 bel lt1) (trodAll_cons_mk (Below.trod laidOut (by kernel_rfl) (of_decide_eq_true (by kernel_rfl)) k2 bel lt2) trodAll_mk0))), rfl, bel.frame _, fun h => by cases h⟩

theorem fnExactSettled_holds : Rows.FnExactSettledSaid :=
  OpenClaim.holds_of_wide 6 Try.f6 rfl rfl rfl rfl rfl rfl rfl ⟨rfl, rfl, rfl, rfl, rfl⟩ rfl rfl rfl rfl rfl (by kernel_rfl) Try.func6 (by kernel_rfl)
    (of_decide_eq_true (by kernel_rfl)) (by unfold Func.isWrapper; first | (rw [if_pos (by decide +kernel)]; kernel_rfl) | (rw [if_neg (by decide +kernel)]; exact ⟨rfl, rfl⟩))
    (fun os started H enc _ => fnExactSettled_lifted os started H enc)
#print axioms fnExactSettled_holds
end Go.Proofs.Ytdolcdedogienaa
