/-
What is proved: at every list of instructions and every two numbers impl.CodeOk answers as the specification's CodeOk and leaves the list as it was; no condition.
-/
import Derived.Test.YtdbcbhddombheaaCoS
import Derived.Test.YtdbcbhddombheaaCoI
import Derived.Test.YtdbcbhddombheaaIns2E
namespace Go.Proofs.Ytdbcbhddombheaa
set_option maxRecDepth 40000
open Go.ChangeShapes Go.WideShapes Go.ChangeAt Go.RowKit
set_option linter.unusedVariables false
set_option linter.unusedSimpArgs false

set_option maxHeartbeats 400000 in
theorem codeOk_far0 (w : World) (s0 : Option Addr) (n0 c0 : Nat) (a1 : Int) (a2 : Int) (hf : 1048576 < (n0 : Int)) (hf2 : (n0 : Int) ≤ 9223372036854775807) :
    Calls Try.prog 3 #[.slice s0 n0 c0, .int .i64 a1, .int .i64 a2] w fun e w' => e = .returned (.bool true) ∧ Below w.heap.size w w' := by
  go_enter Try.func3, Try.ntmps3
  go_wp2_with fail
  refine (szInstrS_off _ n0 _ _ _ (by omega) (by omega) hf hf2).mono ?_
  rintro e w ⟨rfl, rfl⟩
  go_wp2
  go_ret
  exact ⟨rfl, Below.refl _ _⟩

set_option maxRecDepth 20000 in
set_option maxHeartbeats 4000000 in
theorem codeOk_near (w : World) (s0 : Option Addr) (n0 c0 : Nat) (V0 : Nat → Int) (hn0 : (n0 : Int) ≤ 1048576) (HR0 : Hid (RowI w s0 (n0 * 2) V0)) (a1 : Int) (a2 : Int) (r0 : Bool)
    (H1 : Hid (∀ s0 c0 w, RowI w s0 (n0 * 2) V0 → Calls Try.prog 8 #[.slice s0 n0 c0, .int .i64 a1, .int .i64 a2] w fun e w' => e = .returned (.bool r0) ∧ Below w.heap.size w w'))
    (H2 : Hid (∀ s0 c0 w, RowI w s0 (n0 * 2) V0 → Calls Try.prog 10 #[.slice s0 n0 c0, .int .i64 a1, .int .i64 a2] w fun e w' => e = .returned (.bool r0) ∧ Below w.heap.size w w')) :
    Calls Try.prog 3 #[.slice s0 n0 c0, .int .i64 a1, .int .i64 a2] w fun e w' => e = .returned (.bool true) ∧ Below w.heap.size w w' := by
  go_enter Try.func3, Try.ntmps3
  go_wp2_with fail
  refine (szInstrS_on _ n0 _ _ _ (by omega) (by omega) (by omega)).mono ?_
  rintro e w ⟨rfl, rfl⟩
  have B0 : Below w.heap.size w w := Below.refl _ _
  go_wp2_with fail
  refine (toInstrS_any _ n0 _ V0 _ hn0 (HR0.out.below B0)).mono ?_
  rintro e w1 ⟨rfl, za0z, Oa0, h⟩
  replace B0 : Below w.heap.size w w1 := B0.trans (h.mono B0.size)
  have Pa0 : Hid (OwnI w.heap.size w1 (some ⟨w.heap.size, 0, none⟩) (n0 * 2) V0) := Oa0
  clear Oa0 h
  clear za0z
  go_wp2_with fail
  refine (H1.out _ _ _ (Pa0.out.row)).mono ?_
  rintro e w2 ⟨rfl, h⟩
  clear Pa0
  replace B0 : Below w.heap.size w w2 := B0.trans (h.mono B0.size)
  clear h
  have l0_0 : w.heap.size ≤ w2.heap.size := B0.size
  go_wp2_with fail
  refine (toInstrS_any _ n0 _ V0 _ hn0 (HR0.out.below B0)).mono ?_
  rintro e w3 ⟨rfl, zx0z, Ox0, h⟩
  replace B0 : Below w.heap.size w w3 := B0.trans (h.mono B0.size)
  have Px0 : Hid (OwnI w2.heap.size w3 (some ⟨w2.heap.size, 0, none⟩) (n0 * 2) V0) := Ox0
  clear Ox0 h
  have od0 : w2.heap.size < w3.heap.size := zx0z
  have zw2 : w2.heap.size < w3.heap.size := zx0z
  clear zx0z
  go_wp2_with fail
  refine (H2.out _ _ _ (Px0.out.row)).mono ?_
  rintro e w4 ⟨rfl, h⟩
  have l0 : w.heap.size ≤ w3.heap.size := B0.size
  have lx0 : w2.heap.size < w3.heap.size := zw2
  have lg : w3.heap.size ≤ w4.heap.size := h.size
  replace B0 : Below w.heap.size w w4 := B0.trans (h.mono B0.size)
  replace zw2 : w2.heap.size < w4.heap.size := Nat.lt_of_lt_of_le zw2 h.size
  replace Px0 : Hid (OwnI w2.heap.size w4 (some ⟨w2.heap.size, 0, none⟩) (n0 * 2) V0) := Px0.out.below h
  clear h
  go_wp2_with fail
  refine (toInstrS_any _ n0 _ V0 _ hn0 (HR0.out.below B0)).mono ?_
  rintro e w5 ⟨rfl, zy0z, Oy0, h⟩
  replace B0 : Below w.heap.size w w5 := B0.trans (h.mono B0.size)
  replace zw2 : w2.heap.size < w5.heap.size := Nat.lt_of_lt_of_le zw2 h.size
  replace Px0 : Hid (OwnI w2.heap.size w5 (some ⟨w2.heap.size, 0, none⟩) (n0 * 2) V0) := Px0.out.below h
  have Py0 : Hid (OwnI w4.heap.size w5 (some ⟨w4.heap.size, 0, none⟩) (n0 * 2) V0) := Oy0
  clear Oy0 h
  replace lg : w3.heap.size ≤ w5.heap.size := by omega
  clear zy0z
  go_wp2_with fail
  refine (eqInstrS_any _ _ n0 _ _ V0 _ hn0 Px0.out.row Py0.out.row).mono ?_
  rintro e w6 ⟨rfl, h⟩
  replace B0 : Below w.heap.size w w6 := B0.trans (h.mono B0.size)
  replace zw2 : w2.heap.size < w6.heap.size := Nat.lt_of_lt_of_le zw2 h.size
  replace Px0 : Hid (OwnI w2.heap.size w6 (some ⟨w2.heap.size, 0, none⟩) (n0 * 2) V0) := Px0.out.below h
  replace lg : w3.heap.size ≤ w6.heap.size := Nat.le_trans lg h.size
  clear h
  clear Py0
  go_wp2
  go_ret
  exact ⟨rfl, B0⟩

theorem fnExactCodeOk_walk (w : World) (s0 : Option Addr) (n0 c0 : Nat) (V0 : Nat → Int) (m0 : n0 ≤ 9223372036854775807) (R0 : RowI w s0 (n0 * 2) V0) (a1 : Int) (w1 : (Lit.int .i64 a1).wf = true) (a2 : Int) (w2 : (Lit.int .i64 a2).wf = true) :
    Calls Try.prog 3 #[.slice s0 n0 c0, .int .i64 a1, .int .i64 a2] w fun e w' => e = .returned (.bool true) ∧ Below w.heap.size w w' := by
  by_cases h0 : (n0 : Int) ≤ 1048576
  · exact codeOk_near w s0 n0 c0 V0 h0 R0 a1 a2 (codeB n0 V0 a1 a2) (fun s c w q => specCodeOk_any s n0 c V0 a1 a2 w h0 q) (fun s c w q => implCodeOk_any s n0 c V0 a1 a2 w h0 q)
  · exact codeOk_far0 w s0 n0 c0 a1 a2 (by omega) (by omega)

set_option maxRecDepth 100000 in
theorem fnExactCodeOk_lifted (os : Os) (started : os.Started) (H : Type) (enc : TypeId × Value → H) :
    ReturnsInHanded {} Try.checked os 3 .any (Rows.fnExactCodeOkSpec.pre6 enc Try.prog Try.f3 Rows.fnExactCodeOkRow.domain false) (Rows.fnExactCodeOkSpec.post enc Try.prog Try.f3 false true false false) := by
  refine returnsInHanded_of_change (C := Try.checked) own started (by kernel_rfl) Try.func3
    (ChangeSpec.witness6 (enc := enc) (C := Try.checked) false ⟨#[], #[.slice none 0 0, .int .i64 0, .int .i64 0], []⟩ 8 (by kernel_rfl) (by kernel_rfl) (by kernel_rfl) (by kernel_rfl)) ?_
  intro W base args ds gs before hval0 hW hcnd _
  have hval : ∀ (j : Nat) t v, Try.f3.params[j]? = some t → args[j]? = some v → Value.okWide Try.prog W .any base t v := hval0
  have hW' := hW
  obtain ⟨p, q, hA0, hV, rfl, hfz, hnd⟩ := hW
  have hA : DataW.TrodAll enc Try.prog W 0 (fun _ => true) true Try.f3.params.toList args.toList ds p := hA0
  rw [Try.params3] at hA hval
  obtain ⟨v0, vs0, d0, ds0, p0, q0, hargs, rfl, rfl, h0, r0⟩ := trodAll_cons hA
  obtain ⟨v1, vs1, d1, ds1, p1, q1, rfl, rfl, rfl, h1, r1⟩ := trodAll_cons r0
  obtain ⟨v2, vs2, d2, ds2, p2, q2, rfl, rfl, rfl, h2, r2⟩ := trodAll_cons r1
  obtain ⟨rfl, rfl, rfl⟩ := trodAll_nil r2
  obtain rfl : args = #[v0, v1, v2] := by cases args; simp_all
  obtain ⟨rfl, rfl⟩ := trodVars_none hV
  have k0 := h0
  have lt0 : ∀ x ∈ p0, x.block < W.heap.size := by obtain ⟨m, hm⟩ := k0; exact DataW.trod_lt m _ _ _ hm
  have k1 := h1
  have lt1 : ∀ x ∈ p1, x.block < W.heap.size := by obtain ⟨m, hm⟩ := k1; exact DataW.trod_lt m _ _ _ hm
  have k2 := h2
  have lt2 : ∀ x ∈ p2, x.block < W.heap.size := by obtain ⟨m, hm⟩ := k2; exact DataW.trod_lt m _ _ _ hm
  obtain ⟨s0, n0, c0, V0, rfl, m0, R0⟩ := open_rows2 Try.underlying22 Try.underlying56 (by kernel_rfl) rfl rfl (by kernel_rfl) (by kernel_rfl) (by kernel_rfl) (by kernel_rfl) (hval 0 22 v0 rfl rfl) h0
  obtain ⟨a1, rfl, rfl, rfl, w1⟩ := open_int Try.underlying2 (hval 1 2 v1 rfl rfl) h1
  obtain ⟨a2, rfl, rfl, rfl, w2⟩ := open_int Try.underlying2 (hval 2 2 v2 rfl rfl) h2
  clear hA0 hval0
  refine (fnExactCodeOk_walk W s0 n0 c0 V0 m0 R0 a1 w1 a2 w2).mono fun e W' ⟨he, bel⟩ => ?_
  subst he
  exact ⟨_, rfl, _, _, _, [], _, [], hW', trodAll_mk1 (shut_bool Try.underlying4 _), (trodAll_cons_mk (Below.trod laidOut (by kernel_rfl) (of_decide_eq_true (by kernel_rfl)) k0 bel lt0) (trodAll_cons_mk (Below.trod laidOut (by kernel_rfl) (of_decide_eq_true (by kernel_rfl)) k1 bel lt1) (trodAll_cons_mk (Below.trod laidOut (by kernel_rfl) (of_decide_eq_true (by kernel_rfl)) k2 bel lt2) trodAll_mk0))), rfl, bel.frame _, fun h => by cases h⟩

theorem fnExactCodeOk_holds : Rows.FnExactCodeOkSaid :=
  OpenClaim.holds_of_wide 3 Try.f3 rfl rfl rfl rfl rfl rfl rfl ⟨rfl, rfl, rfl, rfl, rfl⟩ rfl rfl rfl rfl rfl (by kernel_rfl) Try.func3 (by kernel_rfl)
    (of_decide_eq_true (by kernel_rfl)) (by unfold Func.isWrapper; first | (rw [if_pos (by decide +kernel)]; kernel_rfl) | (rw [if_neg (by decide +kernel)]; exact ⟨rfl, rfl⟩))
    (fun os started H enc _ => fnExactCodeOk_lifted os started H enc)
#print axioms fnExactCodeOk_holds
end Go.Proofs.Ytdbcbhddombheaa
