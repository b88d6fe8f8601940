/-
What is proved: at every list of machines and every number impl.Loading answers as the specification's Loading, leaves the list as it was, and its answer owns its memory; no condition.
-/
import Derived.Test.YtcialcejmjggeaaLdI
import Derived.Test.YtcialcejmjggeaaLdS
import Derived.Test.YtcialcejmjggeaaMachE
import Derived.Test.YtcialcejmjggeaaMachM
import Derived.Test.YtcialcejmjggeaaI64R
namespace Go.Proofs.Ytcialcejmjggeaa
set_option maxRecDepth 40000
open Go.ChangeShapes Go.WideShapes Go.ChangeAt Go.RowKit
set_option linter.unusedVariables false
set_option linter.unusedSimpArgs false

set_option maxHeartbeats 400000 in
theorem loading_far0 (w : World) (s0 : Option Addr) (n0 c0 : Nat) (a1 : Int) (hf : 1048576 < (n0 : Int)) (hf2 : (n0 : Int) ≤ 9223372036854775807) :
    Calls Try.prog 4 #[.slice s0 n0 c0, .int .i64 a1] w fun e w' => e = .returned (.bool true) ∧ Below w.heap.size w w' := by
  go_enter Try.func4, Try.ntmps4
  go_wp2_with fail
  refine (szMachineS_off _ n0 _ _ _ (by omega) (by omega) hf hf2).mono ?_
  rintro e w ⟨rfl, rfl⟩
  go_wp2
  go_ret
  exact ⟨rfl, Below.refl _ _⟩

set_option maxRecDepth 20000 in
set_option maxHeartbeats 4000000 in
theorem loading_near (w : World) (s0 : Option Addr) (n0 c0 : Nat) (V0 : Nat → Int) (hn0 : (n0 : Int) ≤ 1048576) (HR0 : Hid (RowI w s0 (n0 * 4) V0)) (a1 : Int) (m : Nat) (U : Nat → Int) (hm : (m : Int) ≤ 1048576) (r1 : Bool)
    (H1 : Hid (∀ s0 c0 w, RowI w s0 (n0 * 4) V0 → Calls Try.prog 17 #[.slice s0 n0 c0, .int .i64 a1] w fun e w' => ∃ s' c', e = .returned (.tuple #[.slice s' m c', .bool r1]) ∧ OwnI w.heap.size w' s' m U ∧ Below w.heap.size w w'))
    (H2 : Hid (∀ s0 c0 w, RowI w s0 (n0 * 4) V0 → Calls Try.prog 18 #[.slice s0 n0 c0, .int .i64 a1] w fun e w' => ∃ s' c', e = .returned (.tuple #[.slice s' m c', .bool r1]) ∧ OwnI w.heap.size w' s' m U ∧ Below w.heap.size w w')) :
    Calls Try.prog 4 #[.slice s0 n0 c0, .int .i64 a1] w fun e w' => e = .returned (.bool true) ∧ Below w.heap.size w w' := by
  go_enter Try.func4, Try.ntmps4
  go_wp2_with fail
  refine (szMachineS_on _ n0 _ _ _ (by omega) (by omega) (by omega)).mono ?_
  rintro e w ⟨rfl, rfl⟩
  have B0 : Below w.heap.size w w := Below.refl _ _
  go_wp2_with fail
  refine (toMachineS_any _ n0 _ V0 _ hn0 (HR0.out.below B0)).mono ?_
  rintro e w1 ⟨rfl, za0z, Oa0, h⟩
  replace B0 : Below w.heap.size w w1 := B0.trans (h.mono B0.size)
  have Pa0 : Hid (OwnI w.heap.size w1 (some ⟨w.heap.size, 0, none⟩) (n0 * 4) V0) := Oa0
  clear Oa0 h
  clear za0z
  go_wp2_with fail
  refine (H1.out _ _ _ (Pa0.out.row)).mono ?_
  rintro e w2 ⟨sW, cW, rfl, OW, h⟩
  clear Pa0
  replace B0 : Below w.heap.size w w2 := B0.trans (h.mono B0.size)
  have RW : Hid (RowI w2 sW m U) := OW.row
  clear OW
  have Bs : Below w2.heap.size w2 w2 := Below.refl _ _
  clear h
  have l0_0 : w.heap.size ≤ w2.heap.size := B0.size
  have ls_0 : w2.heap.size ≤ w2.heap.size := Bs.size
  go_wp2_with fail
  refine (toMachineS_any _ n0 _ V0 _ hn0 (HR0.out.below B0)).mono ?_
  rintro e w3 ⟨rfl, zx0z, Ox0, h⟩
  replace B0 : Below w.heap.size w w3 := B0.trans (h.mono B0.size)
  replace Bs : Below w2.heap.size w2 w3 := Bs.trans (h.mono Bs.size)
  have Px0 : Hid (OwnI w2.heap.size w3 (some ⟨w2.heap.size, 0, none⟩) (n0 * 4) V0) := Ox0
  clear Ox0 h
  have od0 : w2.heap.size < w3.heap.size := zx0z
  have zw2 : w2.heap.size < w3.heap.size := zx0z
  clear zx0z
  go_wp2_with fail
  refine (H2.out _ _ _ (Px0.out.row)).mono ?_
  rintro e w4 ⟨sG, cG, rfl, OG, h⟩
  have l0 : w.heap.size ≤ w3.heap.size := B0.size
  have ls : w2.heap.size ≤ w3.heap.size := Bs.size
  have lx0 : w2.heap.size < w3.heap.size := zw2
  have lg : w3.heap.size ≤ w4.heap.size := h.size
  replace B0 : Below w.heap.size w w4 := B0.trans (h.mono B0.size)
  replace Bs : Below w2.heap.size w2 w4 := Bs.trans (h.mono Bs.size)
  replace zw2 : w2.heap.size < w4.heap.size := Nat.lt_of_lt_of_le zw2 h.size
  replace Px0 : Hid (OwnI w2.heap.size w4 (some ⟨w2.heap.size, 0, none⟩) (n0 * 4) V0) := Px0.out.below h
  have Pg : Hid (OwnI w3.heap.size w4 sG m U) := OG
  clear OG
  clear h
  go_wp2_with fail
  refine (eqInt64S_any _ _ m _ _ U _ hm Pg.out.row (RW.out.below Bs)).mono ?_
  rintro e w5 ⟨rfl, h⟩
  replace B0 : Below w.heap.size w w5 := B0.trans (h.mono B0.size)
  replace Bs : Below w2.heap.size w2 w5 := Bs.trans (h.mono Bs.size)
  replace zw2 : w2.heap.size < w5.heap.size := Nat.lt_of_lt_of_le zw2 h.size
  replace Px0 : Hid (OwnI w2.heap.size w5 (some ⟨w2.heap.size, 0, none⟩) (n0 * 4) V0) := Px0.out.below h
  replace Pg : Hid (OwnI w3.heap.size w5 sG m U) := Pg.out.below h
  replace lg : w3.heap.size ≤ w5.heap.size := Nat.le_trans lg h.size
  clear h
  go_wp2_with fail
  refine (toMachineS_any _ n0 _ V0 _ hn0 (HR0.out.below B0)).mono ?_
  rintro e w6 ⟨rfl, zy0z, Oy0, h⟩
  replace B0 : Below w.heap.size w w6 := B0.trans (h.mono B0.size)
  replace Bs : Below w2.heap.size w2 w6 := Bs.trans (h.mono Bs.size)
  replace zw2 : w2.heap.size < w6.heap.size := Nat.lt_of_lt_of_le zw2 h.size
  replace Px0 : Hid (OwnI w2.heap.size w6 (some ⟨w2.heap.size, 0, none⟩) (n0 * 4) V0) := Px0.out.below h
  replace Pg : Hid (OwnI w3.heap.size w6 sG m U) := Pg.out.below h
  have Py0 : Hid (OwnI w5.heap.size w6 (some ⟨w5.heap.size, 0, none⟩) (n0 * 4) V0) := Oy0
  clear Oy0 h
  replace lg : w3.heap.size ≤ w6.heap.size := by omega
  clear zy0z
  go_wp2_with fail
  refine (eqMachineS_any _ _ n0 _ _ V0 _ hn0 Px0.out.row Py0.out.row).mono ?_
  rintro e w7 ⟨rfl, h⟩
  replace B0 : Below w.heap.size w w7 := B0.trans (h.mono B0.size)
  replace Bs : Below w2.heap.size w2 w7 := Bs.trans (h.mono Bs.size)
  replace zw2 : w2.heap.size < w7.heap.size := Nat.lt_of_lt_of_le zw2 h.size
  replace Px0 : Hid (OwnI w2.heap.size w7 (some ⟨w2.heap.size, 0, none⟩) (n0 * 4) V0) := Px0.out.below h
  replace Pg : Hid (OwnI w3.heap.size w7 sG m U) := Pg.out.below h
  replace lg : w3.heap.size ≤ w7.heap.size := Nat.le_trans lg h.size
  clear h
  clear Py0
  go_wp2_with fail
  refine (markMachineS_own w2.heap.size _ n0 _ _ V0 _ hn0 (by omega) (by omega) (by omega) Px0.out).mono ?_
  rintro e w8 ⟨rfl, h, hs⟩
  have hs := hs _ rfl
  replace B0 : Below w.heap.size w w8 := B0.trans (h.mono (by omega))
  replace Bs : Below w2.heap.size w2 w8 := Bs.trans (h.mono (by omega))
  replace zw2 : w2.heap.size < w8.heap.size := Nat.lt_of_lt_of_le zw2 h.size
  replace lg : w3.heap.size ≤ w8.heap.size := Nat.le_trans lg h.size
  clear Px0
  replace Pg : Hid (OwnI w3.heap.size w8 sG m U) := Pg.out.beside hs (by omega)
  clear h hs
  go_wp2_with fail
  refine (eqInt64S_any _ _ m _ _ U _ hm Pg.out.row (RW.out.below Bs)).mono ?_
  rintro e w9 ⟨rfl, h⟩
  replace B0 : Below w.heap.size w w9 := B0.trans (h.mono B0.size)
  replace Bs : Below w2.heap.size w2 w9 := Bs.trans (h.mono Bs.size)
  replace zw2 : w2.heap.size < w9.heap.size := Nat.lt_of_lt_of_le zw2 h.size
  replace Pg : Hid (OwnI w3.heap.size w9 sG m U) := Pg.out.below h
  replace lg : w3.heap.size ≤ w9.heap.size := Nat.le_trans lg h.size
  clear h
  go_wp2_with fail
  refine (markInt64S_own w3.heap.size _ m _ _ U _ hm (by omega) (by omega) lg Pg.out).mono ?_
  rintro e w10 ⟨rfl, OG, h, -⟩
  clear Pg
  replace B0 : Below w.heap.size w w10 := B0.trans (h.mono l0)
  replace Bs : Below w2.heap.size w2 w10 := Bs.trans (h.mono ls)
  clear h
  have PG : Hid (OwnI w3.heap.size w10 sG m (fun j => 1 + (j : Int))) := OG
  clear OG
  clear lg
  go_wp2_with fail
  refine (heldInt64S_any _ m _ 1 _ hm (by omega) (by omega) PG.out.row).mono ?_
  rintro e w10 ⟨rfl, rfl⟩
  go_wp2_with fail
  refine (toMachineS_any _ n0 _ V0 _ hn0 (HR0.out.below B0)).mono ?_
  rintro e w11 ⟨rfl, zv0z, Ov0, h⟩
  replace B0 : Below w.heap.size w w11 := B0.trans (h.mono B0.size)
  replace Bs : Below w2.heap.size w2 w11 := Bs.trans (h.mono Bs.size)
  replace PG : Hid (OwnI w3.heap.size w11 sG m (fun j => 1 + (j : Int))) := PG.out.below h
  have Pv0 : Hid (OwnI w10.heap.size w11 (some ⟨w10.heap.size, 0, none⟩) (n0 * 4) V0) := Ov0
  clear Ov0 h
  clear zv0z
  go_wp2_with fail
  refine (H2.out _ _ _ (Pv0.out.row)).mono ?_
  rintro e w12 ⟨sH, cH, rfl, OH, h⟩
  clear Pv0
  replace B0 : Below w.heap.size w w12 := B0.trans (h.mono B0.size)
  replace Bs : Below w2.heap.size w2 w12 := Bs.trans (h.mono Bs.size)
  replace PG : Hid (OwnI w3.heap.size w12 sG m (fun j => 1 + (j : Int))) := PG.out.below h
  have PH : Hid (OwnI w11.heap.size w12 sH m U) := OH
  clear OH h
  go_wp2_with fail
  refine (eqInt64S_any _ _ m _ _ U _ hm PH.out.row (RW.out.below Bs)).mono ?_
  rintro e w13 ⟨rfl, h⟩
  clear PH
  replace B0 : Below w.heap.size w w13 := B0.trans (h.mono B0.size)
  replace Bs : Below w2.heap.size w2 w13 := Bs.trans (h.mono Bs.size)
  replace PG : Hid (OwnI w3.heap.size w13 sG m (fun j => 1 + (j : Int))) := PG.out.below h
  clear h
  go_wp2_with fail
  refine (heldInt64S_any _ m _ 1 _ hm (by omega) (by omega) PG.out.row).mono ?_
  rintro e w13 ⟨rfl, rfl⟩
  go_wp2
  go_ret
  exact ⟨rfl, B0⟩

theorem fnExactLoading_walk (w : World) (s0 : Option Addr) (n0 c0 : Nat) (V0 : Nat → Int) (m0 : n0 ≤ 9223372036854775807) (R0 : RowI w s0 (n0 * 4) V0) (a1 : Int) (q1 : (Lit.int .i64 a1).wf = true) :
    Calls Try.prog 4 #[.slice s0 n0 c0, .int .i64 a1] w fun e w' => e = .returned (.bool true) ∧ Below w.heap.size w w' := by
  by_cases h0 : (n0 : Int) ≤ 1048576
  · exact loading_near w s0 n0 c0 V0 h0 R0 a1 (ldM n0 V0 a1) (ldT V0 n0 a1) (by have := ldM_le n0 V0 a1; omega) (ldB V0 n0 a1) (fun s c w q => specLoading_any s n0 c V0 a1 w h0 q) (fun s c w q => implLoading_any s n0 c V0 a1 w h0 q)
  · exact loading_far0 w s0 n0 c0 a1 (by omega) (by omega)

set_option maxRecDepth 100000 in
theorem fnExactLoading_lifted (os : Os) (started : os.Started) (H : Type) (enc : TypeId × Value → H) :
    ReturnsInHanded {} Try.checked os 4 .any (Rows.fnExactLoadingSpec.pre6 enc Try.prog Try.f4 Rows.fnExactLoadingRow.domain false) (Rows.fnExactLoadingSpec.post enc Try.prog Try.f4 false true false false) := by
  refine returnsInHanded_of_change (C := Try.checked) own started (by kernel_rfl) Try.func4
    (ChangeSpec.witness6 (enc := enc) (C := Try.checked) false ⟨#[], #[.slice none 0 0, .int .i64 0], []⟩ 8 (by kernel_rfl) (by kernel_rfl) (by kernel_rfl) (by kernel_rfl)) ?_
  intro W base args ds gs before hval0 hW hcnd _
  have hval : ∀ (j : Nat) t v, Try.f4.params[j]? = some t → args[j]? = some v → Value.okWide Try.prog W .any base t v := hval0
  have hW' := hW
  obtain ⟨p, q, hA0, hV, rfl, hfz, hnd⟩ := hW
  have hA : DataW.TrodAll enc Try.prog W 0 (fun _ => true) true Try.f4.params.toList args.toList ds p := hA0
  rw [Try.params4] at hA hval
  obtain ⟨v0, vs0, d0, ds0, p0, q0, hargs, rfl, rfl, h0, r0⟩ := trodAll_cons hA
  obtain ⟨v1, vs1, d1, ds1, p1, q1, rfl, rfl, rfl, h1, r1⟩ := trodAll_cons r0
  obtain ⟨rfl, rfl, rfl⟩ := trodAll_nil r1
  obtain rfl : args = #[v0, v1] := by cases args; simp_all
  obtain ⟨rfl, rfl⟩ := trodVars_none hV
  have k0 := h0
  have lt0 : ∀ x ∈ p0, x.block < W.heap.size := by obtain ⟨m, hm⟩ := k0; exact DataW.trod_lt m _ _ _ hm
  have k1 := h1
  have lt1 : ∀ x ∈ p1, x.block < W.heap.size := by obtain ⟨m, hm⟩ := k1; exact DataW.trod_lt m _ _ _ hm
  obtain ⟨s0, n0, c0, V0, rfl, m0, R0⟩ := open_rows4 Try.underlying22 Try.underlying48 (by kernel_rfl) rfl rfl rfl rfl (by kernel_rfl) (by kernel_rfl) (by kernel_rfl) (by kernel_rfl) (by kernel_rfl) (by kernel_rfl) (by kernel_rfl) (by kernel_rfl) (hval 0 22 v0 rfl rfl) h0
  obtain ⟨a1, rfl, rfl, rfl, w1⟩ := open_int Try.underlying2 (hval 1 2 v1 rfl rfl) h1
  clear hA0 hval0
  refine (fnExactLoading_walk W s0 n0 c0 V0 m0 R0 a1 w1).mono fun e W' ⟨he, bel⟩ => ?_
  subst he
  exact ⟨_, rfl, _, _, _, [], _, [], hW', trodAll_mk1 (shut_bool Try.underlying4 _), (trodAll_cons_mk (Below.trod laidOut (by kernel_rfl) (of_decide_eq_true (by kernel_rfl)) k0 bel lt0) (trodAll_cons_mk (Below.trod laidOut (by kernel_rfl) (of_decide_eq_true (by kernel_rfl)) k1 bel lt1) trodAll_mk0)), rfl, bel.frame _, fun h => by cases h⟩

theorem fnExactLoading_holds : Rows.FnExactLoadingSaid :=
  OpenClaim.holds_of_wide 4 Try.f4 rfl rfl rfl rfl rfl rfl rfl ⟨rfl, rfl, rfl, rfl, rfl⟩ rfl rfl rfl rfl rfl (by kernel_rfl) Try.func4 (by kernel_rfl)
    (of_decide_eq_true (by kernel_rfl)) (by unfold Func.isWrapper; first | (rw [if_pos (by decide +kernel)]; kernel_rfl) | (rw [if_neg (by decide +kernel)]; exact ⟨rfl, rfl⟩))
    (fun os started H enc _ => fnExactLoading_lifted os started H enc)
#print axioms fnExactLoading_holds
end Go.Proofs.Ytcialcejmjggeaa
