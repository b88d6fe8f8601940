/-
What is proved: at all relays, all currents and every number impl.Selective answers as the specification's Selective and leaves both lists as they were; no condition.
-/
import Derived.Test.YtmhibahefbldaaaSlS
import Derived.Test.YtmhibahefbldaaaSlI
import Derived.Test.YtmhibahefbldaaaRelE
import Derived.Test.YtmhibahefbldaaaI64C
import Derived.Test.YtmhibahefbldaaaOpenI
namespace Go.Proofs.Ytmhibahefbldaaa
set_option maxRecDepth 40000
open Go.ChangeShapes Go.WideShapes Go.ChangeAt Go.RowKit
set_option linter.unusedVariables false
set_option linter.unusedSimpArgs false

set_option maxRecDepth 20000 in
set_option maxHeartbeats 4000000 in
theorem selective_near (w : World) (s0 : Option Addr) (n0 c0 : Nat) (V0 : Nat → Int) (hn0 : (n0 : Int) ≤ 1048576) (HR0 : Hid (RowI w s0 (n0 * 2) V0)) (s1 : Option Addr) (n1 c1 : Nat) (V1 : Nat → Int) (hn1 : (n1 : Int) ≤ 1048576) (HR1 : Hid (RowI w s1 n1 V1)) (a2 : Int) (r0 : Int)
    (H1 : Hid (∀ s0 s1 w, RowI w s0 (n0 * 2) V0 → RowI w s1 n1 V1 → Calls Try.prog 15 #[.slice s0 n0 n0, .slice s1 n1 n1, .int .i64 a2] w fun e w' => e = .returned (.int .i64 r0) ∧ Below w.heap.size w w'))
    (H2 : Hid (∀ s0 s1 w, RowI w s0 (n0 * 2) V0 → RowI w s1 n1 V1 → Calls Try.prog 17 #[.slice s0 n0 n0, .slice s1 n1 n1, .int .i64 a2] w fun e w' => e = .returned (.int .i64 r0) ∧ Below w.heap.size w w')) :
    Calls Try.prog 5 #[.slice s0 n0 c0, .slice s1 n1 c1, .int .i64 a2] w fun e w' => e = .returned (.bool true) ∧ Below w.heap.size w w' := by
  go_enter Try.func5, Try.ntmps5
  go_wp2_with fail
  refine (szRelayS_on _ n0 _ _ _ (by omega) (by omega) (by omega)).mono ?_
  rintro e w ⟨rfl, rfl⟩
  have B0 : Below w.heap.size w w := Below.refl _ _
  go_wp2_with fail
  refine (toRelayS_any _ n0 _ V0 _ hn0 (HR0.out.below B0)).mono ?_
  rintro e w1 ⟨rfl, za0z, Oa0, h⟩
  replace B0 : Below w.heap.size w w1 := B0.trans (h.mono B0.size)
  have Pa0 : Hid (OwnI w.heap.size w1 (some ⟨w.heap.size, 0, none⟩) (n0 * 2) V0) := Oa0
  clear Oa0 h
  go_wp2_with fail
  refine (toInt64S_any _ n1 _ V1 _ hn1 (HR1.out.below B0)).mono ?_
  rintro e w2 ⟨rfl, za1z, Oa1, h⟩
  replace B0 : Below w.heap.size w w2 := B0.trans (h.mono B0.size)
  replace Pa0 : Hid (OwnI w.heap.size w2 (some ⟨w.heap.size, 0, none⟩) (n0 * 2) V0) := Pa0.out.below h
  have Pa1 : Hid (OwnI w1.heap.size w2 (some ⟨w1.heap.size, 0, none⟩) n1 V1) := Oa1
  clear Oa1 h
  clear za0z za1z
  go_wp2_with fail
  refine (H1.out _ _ _ (Pa0.out.row) (Pa1.out.row)).mono ?_
  rintro e w3 ⟨rfl, h⟩
  clear Pa0
  clear Pa1
  replace B0 : Below w.heap.size w w3 := B0.trans (h.mono B0.size)
  clear h
  have l0_0 : w.heap.size ≤ w3.heap.size := B0.size
  go_wp2_with fail
  refine (toRelayS_any _ n0 _ V0 _ hn0 (HR0.out.below B0)).mono ?_
  rintro e w4 ⟨rfl, zx0z, Ox0, h⟩
  replace B0 : Below w.heap.size w w4 := B0.trans (h.mono B0.size)
  have Px0 : Hid (OwnI w3.heap.size w4 (some ⟨w3.heap.size, 0, none⟩) (n0 * 2) V0) := Ox0
  clear Ox0 h
  have od0 : w3.heap.size < w4.heap.size := zx0z
  have zw3 : w3.heap.size < w4.heap.size := zx0z
  clear zx0z
  have l0_1 : w.heap.size ≤ w4.heap.size := B0.size
  go_wp2_with fail
  refine (toInt64S_any _ n1 _ V1 _ hn1 (HR1.out.below B0)).mono ?_
  rintro e w5 ⟨rfl, zx1z, Ox1, h⟩
  replace B0 : Below w.heap.size w w5 := B0.trans (h.mono B0.size)
  replace zw3 : w3.heap.size < w5.heap.size := Nat.lt_of_lt_of_le zw3 h.size
  replace Px0 : Hid (OwnI w3.heap.size w5 (some ⟨w3.heap.size, 0, none⟩) (n0 * 2) V0) := Px0.out.below h
  have Px1 : Hid (OwnI w4.heap.size w5 (some ⟨w4.heap.size, 0, none⟩) n1 V1) := Ox1
  clear Ox1 h
  have od1 : w4.heap.size < w5.heap.size := zx1z
  have zw4 : w4.heap.size < w5.heap.size := zx1z
  clear zx1z
  go_wp2_with fail
  refine (H2.out _ _ _ (Px0.out.row) (Px1.out.row)).mono ?_
  rintro e w6 ⟨rfl, h⟩
  have l0 : w.heap.size ≤ w5.heap.size := B0.size
  have lx0 : w3.heap.size < w5.heap.size := zw3
  have lx1 : w4.heap.size < w5.heap.size := zw4
  have lg : w5.heap.size ≤ w6.heap.size := h.size
  replace B0 : Below w.heap.size w w6 := B0.trans (h.mono B0.size)
  replace zw3 : w3.heap.size < w6.heap.size := Nat.lt_of_lt_of_le zw3 h.size
  replace zw4 : w4.heap.size < w6.heap.size := Nat.lt_of_lt_of_le zw4 h.size
  replace Px0 : Hid (OwnI w3.heap.size w6 (some ⟨w3.heap.size, 0, none⟩) (n0 * 2) V0) := Px0.out.below h
  replace Px1 : Hid (OwnI w4.heap.size w6 (some ⟨w4.heap.size, 0, none⟩) n1 V1) := Px1.out.below h
  clear h
  go_wp2_with fail
  refine (toRelayS_any _ n0 _ V0 _ hn0 (HR0.out.below B0)).mono ?_
  rintro e w7 ⟨rfl, zy0z, Oy0, h⟩
  replace B0 : Below w.heap.size w w7 := B0.trans (h.mono B0.size)
  replace zw3 : w3.heap.size < w7.heap.size := Nat.lt_of_lt_of_le zw3 h.size
  replace zw4 : w4.heap.size < w7.heap.size := Nat.lt_of_lt_of_le zw4 h.size
  replace Px0 : Hid (OwnI w3.heap.size w7 (some ⟨w3.heap.size, 0, none⟩) (n0 * 2) V0) := Px0.out.below h
  replace Px1 : Hid (OwnI w4.heap.size w7 (some ⟨w4.heap.size, 0, none⟩) n1 V1) := Px1.out.below h
  have Py0 : Hid (OwnI w6.heap.size w7 (some ⟨w6.heap.size, 0, none⟩) (n0 * 2) V0) := Oy0
  clear Oy0 h
  replace lg : w5.heap.size ≤ w7.heap.size := by omega
  clear zy0z
  go_wp2_with fail
  refine (eqRelayS_any _ _ n0 _ _ V0 _ hn0 Px0.out.row Py0.out.row).mono ?_
  rintro e w8 ⟨rfl, h⟩
  replace B0 : Below w.heap.size w w8 := B0.trans (h.mono B0.size)
  replace zw3 : w3.heap.size < w8.heap.size := Nat.lt_of_lt_of_le zw3 h.size
  replace zw4 : w4.heap.size < w8.heap.size := Nat.lt_of_lt_of_le zw4 h.size
  replace Px0 : Hid (OwnI w3.heap.size w8 (some ⟨w3.heap.size, 0, none⟩) (n0 * 2) V0) := Px0.out.below h
  replace Px1 : Hid (OwnI w4.heap.size w8 (some ⟨w4.heap.size, 0, none⟩) n1 V1) := Px1.out.below h
  replace lg : w5.heap.size ≤ w8.heap.size := Nat.le_trans lg h.size
  clear h
  clear Py0
  go_wp2_with fail
  refine (toInt64S_any _ n1 _ V1 _ hn1 (HR1.out.below B0)).mono ?_
  rintro e w9 ⟨rfl, zy1z, Oy1, h⟩
  replace B0 : Below w.heap.size w w9 := B0.trans (h.mono B0.size)
  replace zw3 : w3.heap.size < w9.heap.size := Nat.lt_of_lt_of_le zw3 h.size
  replace zw4 : w4.heap.size < w9.heap.size := Nat.lt_of_lt_of_le zw4 h.size
  replace Px0 : Hid (OwnI w3.heap.size w9 (some ⟨w3.heap.size, 0, none⟩) (n0 * 2) V0) := Px0.out.below h
  replace Px1 : Hid (OwnI w4.heap.size w9 (some ⟨w4.heap.size, 0, none⟩) n1 V1) := Px1.out.below h
  have Py1 : Hid (OwnI w8.heap.size w9 (some ⟨w8.heap.size, 0, none⟩) n1 V1) := Oy1
  clear Oy1 h
  replace lg : w5.heap.size ≤ w9.heap.size := by omega
  clear zy1z
  go_wp2_with fail
  refine (eqInt64S_any _ _ n1 _ _ V1 _ hn1 Px1.out.row Py1.out.row).mono ?_
  rintro e w10 ⟨rfl, h⟩
  replace B0 : Below w.heap.size w w10 := B0.trans (h.mono B0.size)
  replace zw3 : w3.heap.size < w10.heap.size := Nat.lt_of_lt_of_le zw3 h.size
  replace zw4 : w4.heap.size < w10.heap.size := Nat.lt_of_lt_of_le zw4 h.size
  replace Px0 : Hid (OwnI w3.heap.size w10 (some ⟨w3.heap.size, 0, none⟩) (n0 * 2) V0) := Px0.out.below h
  replace Px1 : Hid (OwnI w4.heap.size w10 (some ⟨w4.heap.size, 0, none⟩) n1 V1) := Px1.out.below h
  replace lg : w5.heap.size ≤ w10.heap.size := Nat.le_trans lg h.size
  clear h
  clear Py1
  go_wp2
  go_ret
  exact ⟨rfl, B0⟩
set_option maxHeartbeats 400000 in
theorem selective_far0 (w : World) (s0 : Option Addr) (n0 c0 : Nat) (s1 : Option Addr) (n1 c1 : Nat) (a2 : Int) (h1 : (n1 : Int) ≤ 1048576) (hf : 1048576 < (n0 : Int)) (hf2 : (n0 : Int) ≤ 9223372036854775807) :
    Calls Try.prog 5 #[.slice s0 n0 c0, .slice s1 n1 c1, .int .i64 a2] w fun e w' => e = .returned (.bool true) ∧ Below w.heap.size w w' := by
  go_enter Try.func5, Try.ntmps5
  go_wp2_with fail
  refine (szRelayS_off _ n0 _ _ _ (by omega) (by omega) hf hf2).mono ?_
  rintro e w ⟨rfl, rfl⟩
  go_wp2
  go_ret
  exact ⟨rfl, Below.refl _ _⟩
set_option maxHeartbeats 400000 in
theorem selective_far1 (w : World) (s0 : Option Addr) (n0 c0 : Nat) (s1 : Option Addr) (n1 c1 : Nat) (h1 : (1048576 : Int) < n1) (a2 : Int) :
    Calls Try.prog 5 #[.slice s0 n0 c0, .slice s1 n1 c1, .int .i64 a2] w fun e w' => e = .returned (.bool true) ∧ Below w.heap.size w w' := by
  go_enter Try.func5, Try.ntmps5
  go_wp2
  go_ret
  exact ⟨rfl, Below.refl _ _⟩

theorem fnExactSelective_walk (w : World) (s0 : Option Addr) (n0 c0 : Nat) (V0 : Nat → Int) (m0 : n0 ≤ 9223372036854775807) (R0 : RowI w s0 (n0 * 2) V0) (s1 : Option Addr) (n1 c1 : Nat) (V1 : Nat → Int) (m1 : n1 ≤ 9223372036854775807) (R1 : RowI w s1 n1 V1) (b1 : ∀ j, j < n1 → -9223372036854775808 ≤ V1 j ∧ V1 j ≤ 9223372036854775807) (a2 : Int) (w2 : (Lit.int .i64 a2).wf = true) :
    Calls Try.prog 5 #[.slice s0 n0 c0, .slice s1 n1 c1, .int .i64 a2] w fun e w' => e = .returned (.bool true) ∧ Below w.heap.size w w' := by
  by_cases h1 : (n1 : Int) ≤ 1048576
  · by_cases h0 : (n0 : Int) ≤ 1048576
    · obtain ⟨X, hX⟩ := sel_some n0 V0 n1 V1 a2
      exact selective_near w s0 n0 c0 V0 h0 R0 s1 n1 c1 V1 h1 R1 a2 X (fun s s' w q q' => (specSelective_any s n0 n0 V0 s' n1 n1 V1 a2 w h0 h1 (Nat.le_refl _) q q').mono fun e w' ⟨x, k1, k2, k3⟩ => ⟨by rw [k2, k1.one hX], k3⟩) (fun s s' w q q' => (implSelective_any s n0 n0 V0 s' n1 n1 V1 a2 w h0 h1 (Nat.le_refl _) q q').mono fun e w' ⟨x, k1, k2, k3⟩ => ⟨by rw [k2, k1.one hX], k3⟩)
    · exact selective_far0 w s0 n0 c0 s1 n1 c1 a2 h1 (by omega) (by omega)
  · exact selective_far1 w s0 n0 c0 s1 n1 c1 (by omega) a2

set_option maxRecDepth 100000 in
theorem fnExactSelective_lifted (os : Os) (started : os.Started) (H : Type) (enc : TypeId × Value → H) :
    ReturnsInHanded {} Try.checked os 5 .any (Rows.fnExactSelectiveSpec.pre6 enc Try.prog Try.f5 Rows.fnExactSelectiveRow.domain false) (Rows.fnExactSelectiveSpec.post enc Try.prog Try.f5 false true false false) := by
  refine returnsInHanded_of_change (C := Try.checked) own started (by kernel_rfl) Try.func5
    (ChangeSpec.witness6 (enc := enc) (C := Try.checked) false ⟨#[], #[.slice none 0 0, .slice none 0 0, .int .i64 0], []⟩ 8 (by kernel_rfl) (by kernel_rfl) (by kernel_rfl) (by kernel_rfl)) ?_
  intro W base args ds gs before hval0 hW hcnd _
  have hval : ∀ (j : Nat) t v, Try.f5.params[j]? = some t → args[j]? = some v → Value.okWide Try.prog W .any base t v := hval0
  have hW' := hW
  obtain ⟨p, q, hA0, hV, rfl, hfz, hnd⟩ := hW
  have hA : DataW.TrodAll enc Try.prog W 0 (fun _ => true) true Try.f5.params.toList args.toList ds p := hA0
  rw [Try.params5] at hA hval
  obtain ⟨v0, vs0, d0, ds0, p0, q0, hargs, rfl, rfl, h0, r0⟩ := trodAll_cons hA
  obtain ⟨v1, vs1, d1, ds1, p1, q1, rfl, rfl, rfl, h1, r1⟩ := trodAll_cons r0
  obtain ⟨v2, vs2, d2, ds2, p2, q2, rfl, rfl, rfl, h2, r2⟩ := trodAll_cons r1
  obtain ⟨rfl, rfl, rfl⟩ := trodAll_nil r2
  obtain rfl : args = #[v0, v1, v2] := by cases args; simp_all
  obtain ⟨rfl, rfl⟩ := trodVars_none hV
  have k0 := h0
  have lt0 : ∀ x ∈ p0, x.block < W.heap.size := by obtain ⟨m, hm⟩ := k0; exact DataW.trod_lt m _ _ _ hm
  have k1 := h1
  have lt1 : ∀ x ∈ p1, x.block < W.heap.size := by obtain ⟨m, hm⟩ := k1; exact DataW.trod_lt m _ _ _ hm
  have k2 := h2
  have lt2 : ∀ x ∈ p2, x.block < W.heap.size := by obtain ⟨m, hm⟩ := k2; exact DataW.trod_lt m _ _ _ hm
  obtain ⟨s0, n0, c0, V0, rfl, m0, R0⟩ := open_rows2 Try.underlying28 Try.underlying23 (by kernel_rfl) rfl rfl (by kernel_rfl) (by kernel_rfl) (by kernel_rfl) (by kernel_rfl) (hval 0 28 v0 rfl rfl) h0
  obtain ⟨s1, n1, c1, V1, rfl, m1, R1, w1⟩ := open_i64s Try.underlying35 Try.underlying2 (by kernel_rfl) (hval 1 35 v1 rfl rfl) h1
  obtain ⟨a2, rfl, rfl, rfl, w2⟩ := open_int Try.underlying2 (hval 2 2 v2 rfl rfl) h2
  clear hA0 hval0
  refine (fnExactSelective_walk W s0 n0 c0 V0 m0 R0 s1 n1 c1 V1 m1 R1 w1 a2 w2).mono fun e W' ⟨he, bel⟩ => ?_
  subst he
  exact ⟨_, rfl, _, _, _, [], _, [], hW', trodAll_mk1 (shut_bool Try.underlying4 _), (trodAll_cons_mk (Below.trod laidOut (by kernel_rfl) (of_decide_eq_true (by kernel_rfl)) k0 bel lt0) (trodAll_cons_mk (Below.trod laidOut (by kernel_rfl) (of_decide_eq_true (by kernel_rfl)) k1 bel lt1) (trodAll_cons_mk (Below.trod laidOut (by kernel_rfl) (of_decide_eq_true (by kernel_rfl)) k2 bel lt2) trodAll_mk0))), rfl, bel.frame _, fun h => by cases h⟩

theorem fnExactSelective_holds : Rows.FnExactSelectiveSaid :=
  OpenClaim.holds_of_wide 5 Try.f5 rfl rfl rfl rfl rfl rfl rfl ⟨rfl, rfl, rfl, rfl, rfl⟩ rfl rfl rfl rfl rfl (by kernel_rfl) Try.func5 (by kernel_rfl)
    (of_decide_eq_true (by kernel_rfl)) (by unfold Func.isWrapper; first | (rw [if_pos (by decide +kernel)]; kernel_rfl) | (rw [if_neg (by decide +kernel)]; exact ⟨rfl, rfl⟩))
    (fun os started H enc _ => fnExactSelective_lifted os started H enc)
#print axioms fnExactSelective_holds
end Go.Proofs.Ytmhibahefbldaaa
