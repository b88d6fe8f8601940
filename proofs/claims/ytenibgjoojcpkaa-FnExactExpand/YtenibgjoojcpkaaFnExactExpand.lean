/-
What is proved: at every heat and every list of stages impl.Expand answers as the specification's Expand (all NaNs being one), leaves the list alone, and its answer owns its memory; no condition.
-/
import Derived.Test.YtenibgjoojcpkaaExpand
import Derived.Test.YtenibgjoojcpkaaOpenF
namespace Go.Proofs.Ytenibgjoojcpkaa
set_option maxRecDepth 40000
open Go.ChangeShapes Go.WideShapes Go.ChangeAt Go.RowKit
set_option linter.unusedVariables false

set_option maxHeartbeats 400000 in
theorem expand_far1 (w : World) (a0 : Nat) (s1 : Option Addr) (n1 c1 : Nat) (hf : 1048576 < (n1 : Int)) (hf2 : (n1 : Int) ≤ 9223372036854775807) :
    Calls Try.prog 4 #[.float .f64 a0, .slice s1 n1 c1] w fun e w' => e = .returned (.bool true) ∧ Below w.heap.size w w' := by
  go_enter Try.func4, Try.ntmps4
  go_wp2_with fail
  refine (szStageS_off _ n1 _ _ _ (by omega) (by omega) hf hf2).mono ?_
  rintro e w ⟨rfl, rfl⟩
  go_wp2
  go_ret
  exact ⟨rfl, Below.refl _ _⟩

set_option maxRecDepth 20000 in
set_option maxHeartbeats 4000000 in
theorem expand_near (w : World) (a0 : Nat) (s1 : Option Addr) (n1 c1 : Nat) (V1 : Nat → Option Nat) (hn1 : (n1 : Int) ≤ 1048576) (HR1 : Hid (RowF w s1 (n1 * 2) V1)) (m : Nat) (U : Nat → Option Nat) (hm : (m : Int) ≤ 1048576) (q1 : Option Nat)
    (H1 : Hid (∀ s1 c1 w, RowF w s1 (n1 * 2) V1 → Calls Try.prog 18 #[.float .f64 a0, .slice s1 n1 c1] w fun e w' => ∃ s' c' r1, e = .returned (.tuple #[.slice s' m c', .float .f64 r1]) ∧ Fl r1 q1 ∧ OwnF w.heap.size w' s' m U ∧ Below w.heap.size w w'))
    (H2 : Hid (∀ s1 c1 w, RowF w s1 (n1 * 2) V1 → Calls Try.prog 20 #[.float .f64 a0, .slice s1 n1 c1] w fun e w' => ∃ s' c' r1, e = .returned (.tuple #[.slice s' m c', .float .f64 r1]) ∧ Fl r1 q1 ∧ OwnF w.heap.size w' s' m U ∧ Below w.heap.size w w')) :
    Calls Try.prog 4 #[.float .f64 a0, .slice s1 n1 c1] w fun e w' => e = .returned (.bool true) ∧ Below w.heap.size w w' := by
  go_enter Try.func4, Try.ntmps4
  go_wp2_with fail
  refine (szStageS_on _ n1 _ _ _ (by omega) (by omega) (by omega)).mono ?_
  rintro e w ⟨rfl, rfl⟩
  have B0 : Below w.heap.size w w := Below.refl _ _
  go_wp2_with fail
  refine (toStageS_any _ n1 _ V1 _ hn1 (HR1.out.below B0)).mono ?_
  rintro e w1 ⟨rfl, za1z, Oa1, h⟩
  replace B0 : Below w.heap.size w w1 := B0.trans (h.mono B0.size)
  have Pa1 : Hid (OwnF w.heap.size w1 (some ⟨w.heap.size, 0, none⟩) (n1 * 2) V1) := Oa1
  clear Oa1 h
  clear za1z
  go_wp2_with fail
  refine (H1.out _ _ _ (Pa1.out.row)).mono ?_
  rintro e w2 ⟨sW, cW, r1W, rfl, f1W, OW, h⟩
  clear Pa1
  replace B0 : Below w.heap.size w w2 := B0.trans (h.mono B0.size)
  have RW : Hid (RowF w2 sW m U) := OW.row
  clear OW
  have Bs : Below w2.heap.size w2 w2 := Below.refl _ _
  clear h
  have l0_1 : w.heap.size ≤ w2.heap.size := B0.size
  have ls_1 : w2.heap.size ≤ w2.heap.size := Bs.size
  go_wp2_with fail
  refine (toStageS_any _ n1 _ V1 _ hn1 (HR1.out.below B0)).mono ?_
  rintro e w3 ⟨rfl, zx1z, Ox1, h⟩
  replace B0 : Below w.heap.size w w3 := B0.trans (h.mono B0.size)
  replace Bs : Below w2.heap.size w2 w3 := Bs.trans (h.mono Bs.size)
  have Px1 : Hid (OwnF w2.heap.size w3 (some ⟨w2.heap.size, 0, none⟩) (n1 * 2) V1) := Ox1
  clear Ox1 h
  have zw2 : w2.heap.size < w3.heap.size := zx1z
  clear zx1z
  go_wp2_with fail
  refine (H2.out _ _ _ (Px1.out.row)).mono ?_
  rintro e w4 ⟨sG, cG, r1G, rfl, f1G, OG, h⟩
  have l0 : w.heap.size ≤ w3.heap.size := B0.size
  have ls : w2.heap.size ≤ w3.heap.size := Bs.size
  have lx1 : w2.heap.size < w3.heap.size := zw2
  have lg : w3.heap.size ≤ w4.heap.size := h.size
  replace B0 : Below w.heap.size w w4 := B0.trans (h.mono B0.size)
  replace Bs : Below w2.heap.size w2 w4 := Bs.trans (h.mono Bs.size)
  replace zw2 : w2.heap.size < w4.heap.size := Nat.lt_of_lt_of_le zw2 h.size
  replace Px1 : Hid (OwnF w2.heap.size w4 (some ⟨w2.heap.size, 0, none⟩) (n1 * 2) V1) := Px1.out.below h
  have Pg : Hid (OwnF w3.heap.size w4 sG m U) := OG
  clear OG
  clear h
  go_wp2_with fail
  refine (eqFloat64S_any _ _ m _ _ U _ hm Pg.out.row (RW.out.below Bs)).mono ?_
  rintro e w5 ⟨rfl, h⟩
  replace B0 : Below w.heap.size w w5 := B0.trans (h.mono B0.size)
  replace Bs : Below w2.heap.size w2 w5 := Bs.trans (h.mono Bs.size)
  replace zw2 : w2.heap.size < w5.heap.size := Nat.lt_of_lt_of_le zw2 h.size
  replace Px1 : Hid (OwnF w2.heap.size w5 (some ⟨w2.heap.size, 0, none⟩) (n1 * 2) V1) := Px1.out.below h
  replace Pg : Hid (OwnF w3.heap.size w5 sG m U) := Pg.out.below h
  replace lg : w3.heap.size ≤ w5.heap.size := Nat.le_trans lg h.size
  clear h
  go_wp2_with fail
  refine (sameFloat_any f1G f1W _).mono ?_
  rintro e w5 ⟨rfl, rfl⟩
  go_wp2_with fail
  refine (toStageS_any _ n1 _ V1 _ hn1 (HR1.out.below B0)).mono ?_
  rintro e w6 ⟨rfl, zy1z, Oy1, h⟩
  replace B0 : Below w.heap.size w w6 := B0.trans (h.mono B0.size)
  replace Bs : Below w2.heap.size w2 w6 := Bs.trans (h.mono Bs.size)
  replace zw2 : w2.heap.size < w6.heap.size := Nat.lt_of_lt_of_le zw2 h.size
  replace Px1 : Hid (OwnF w2.heap.size w6 (some ⟨w2.heap.size, 0, none⟩) (n1 * 2) V1) := Px1.out.below h
  replace Pg : Hid (OwnF w3.heap.size w6 sG m U) := Pg.out.below h
  have Py1 : Hid (OwnF w5.heap.size w6 (some ⟨w5.heap.size, 0, none⟩) (n1 * 2) V1) := Oy1
  clear Oy1 h
  replace lg : w3.heap.size ≤ w6.heap.size := by omega
  clear zy1z
  go_wp2_with fail
  refine (eqStageS_any _ _ n1 _ _ V1 _ hn1 Px1.out.row Py1.out.row).mono ?_
  rintro e w7 ⟨rfl, h⟩
  replace B0 : Below w.heap.size w w7 := B0.trans (h.mono B0.size)
  replace Bs : Below w2.heap.size w2 w7 := Bs.trans (h.mono Bs.size)
  replace zw2 : w2.heap.size < w7.heap.size := Nat.lt_of_lt_of_le zw2 h.size
  replace Px1 : Hid (OwnF w2.heap.size w7 (some ⟨w2.heap.size, 0, none⟩) (n1 * 2) V1) := Px1.out.below h
  replace Pg : Hid (OwnF w3.heap.size w7 sG m U) := Pg.out.below h
  replace lg : w3.heap.size ≤ w7.heap.size := Nat.le_trans lg h.size
  clear h
  clear Py1
  go_wp2_with fail
  refine (markStageS_own w2.heap.size _ n1 _ _ V1 _ hn1 (by omega) (by omega) (by omega) Px1.out).mono ?_
  rintro e w8 ⟨rfl, -, h, hs⟩
  have hs := hs _ rfl
  replace B0 : Below w.heap.size w w8 := B0.trans (h.mono (by omega))
  replace Bs : Below w2.heap.size w2 w8 := Bs.trans (h.mono (by omega))
  replace zw2 : w2.heap.size < w8.heap.size := Nat.lt_of_lt_of_le zw2 h.size
  replace lg : w3.heap.size ≤ w8.heap.size := Nat.le_trans lg h.size
  clear Px1
  replace Pg : Hid (OwnF w3.heap.size w8 sG m U) := Pg.out.beside hs (by omega)
  clear h hs
  go_wp2_with fail
  refine (eqFloat64S_any _ _ m _ _ U _ hm Pg.out.row (RW.out.below Bs)).mono ?_
  rintro e w9 ⟨rfl, h⟩
  replace B0 : Below w.heap.size w w9 := B0.trans (h.mono B0.size)
  replace Bs : Below w2.heap.size w2 w9 := Bs.trans (h.mono Bs.size)
  replace zw2 : w2.heap.size < w9.heap.size := Nat.lt_of_lt_of_le zw2 h.size
  replace Pg : Hid (OwnF w3.heap.size w9 sG m U) := Pg.out.below h
  replace lg : w3.heap.size ≤ w9.heap.size := Nat.le_trans lg h.size
  clear h
  go_wp2_with fail
  refine (sameFloat_any f1G f1W _).mono ?_
  rintro e w9 ⟨rfl, rfl⟩
  go_wp2_with fail
  refine (markFloat64S_own w3.heap.size _ m _ _ U _ hm (by omega) (by omega) lg Pg.out).mono ?_
  rintro e w10 ⟨rfl, OG, h, -⟩
  clear Pg
  replace B0 : Below w.heap.size w w10 := B0.trans (h.mono l0)
  replace Bs : Below w2.heap.size w2 w10 := Bs.trans (h.mono ls)
  clear h
  have PG : Hid (OwnF w3.heap.size w10 sG m (markF 1)) := OG
  clear OG
  clear lg
  go_wp2_with fail
  refine (heldFloat64S_any _ m _ 1 _ hm (by omega) (by omega) PG.out.row).mono ?_
  rintro e w10 ⟨rfl, rfl⟩
  go_wp2_with fail
  refine (toStageS_any _ n1 _ V1 _ hn1 (HR1.out.below B0)).mono ?_
  rintro e w11 ⟨rfl, zv1z, Ov1, h⟩
  replace B0 : Below w.heap.size w w11 := B0.trans (h.mono B0.size)
  replace Bs : Below w2.heap.size w2 w11 := Bs.trans (h.mono Bs.size)
  replace PG : Hid (OwnF w3.heap.size w11 sG m (markF 1)) := PG.out.below h
  have Pv1 : Hid (OwnF w10.heap.size w11 (some ⟨w10.heap.size, 0, none⟩) (n1 * 2) V1) := Ov1
  clear Ov1 h
  clear zv1z
  go_wp2_with fail
  refine (H2.out _ _ _ (Pv1.out.row)).mono ?_
  rintro e w12 ⟨sH, cH, r1H, rfl, f1H, OH, h⟩
  clear Pv1
  replace B0 : Below w.heap.size w w12 := B0.trans (h.mono B0.size)
  replace Bs : Below w2.heap.size w2 w12 := Bs.trans (h.mono Bs.size)
  replace PG : Hid (OwnF w3.heap.size w12 sG m (markF 1)) := PG.out.below h
  have PH : Hid (OwnF w11.heap.size w12 sH m U) := OH
  clear OH h
  go_wp2_with fail
  refine (eqFloat64S_any _ _ m _ _ U _ hm PH.out.row (RW.out.below Bs)).mono ?_
  rintro e w13 ⟨rfl, h⟩
  clear PH
  replace B0 : Below w.heap.size w w13 := B0.trans (h.mono B0.size)
  replace Bs : Below w2.heap.size w2 w13 := Bs.trans (h.mono Bs.size)
  replace PG : Hid (OwnF w3.heap.size w13 sG m (markF 1)) := PG.out.below h
  clear h
  go_wp2_with fail
  refine (sameFloat_any f1H f1W _).mono ?_
  rintro e w13 ⟨rfl, rfl⟩
  go_wp2_with fail
  refine (heldFloat64S_any _ m _ 1 _ hm (by omega) (by omega) PG.out.row).mono ?_
  rintro e w13 ⟨rfl, rfl⟩
  go_wp2
  go_ret
  exact ⟨rfl, B0⟩

theorem ExpV.one {n m m' : Nat} (h : ExpV n m) (h' : ExpV n m') : m = m' := by
  rcases h with ⟨a, rfl⟩ | ⟨a, rfl⟩ <;> rcases h' with ⟨b, rfl⟩ | ⟨b, rfl⟩ <;> omega
theorem exp_some (n : Nat) : ∃ m, ExpV n m ∧ m ≤ n := by
  by_cases h : n ≤ 100
  · exact ⟨n, .inl ⟨h, rfl⟩, Nat.le_refl _⟩
  · exact ⟨0, .inr ⟨by omega, rfl⟩, Nat.zero_le _⟩
theorem fnExactExpand_walk (w : World) (a0 : Nat) (wa : (Lit.float .f64 a0).wf = true) (s : Option Addr) (n c : Nat) (V : Nat → Option Nat) (hn : n ≤ 9223372036854775807) (R : RowF w s (n * 2) V) :
    Calls Try.prog 4 #[.float .f64 a0, .slice s n c] w fun e w' => e = .returned (.bool true) ∧ Below w.heap.size w w' := by
  have hH := fl_of a0 (wf_f64 wa)
  by_cases h : n ≤ 1048576
  · obtain ⟨m, hv, hm⟩ := exp_some n
    exact expand_near w a0 s n c V (by omega) R m (heatO (ofW a0) V) (by omega) (expR V n)
      (fun s c w q => by
        by_cases k : (n : Int) ≤ 100
        · exact (specExpand_in a0 _ hH s n c V w q k).mono fun e w' ⟨m', s', c', r, k1, k2, k3, k4, k5⟩ => by obtain rfl := k1.one hv; exact ⟨s', c', r, k2, k3, k4, k5⟩
        · exact (specExpand_far a0 _ hH s n c V w q (by omega) (by omega)).mono fun e w' ⟨m', s', c', r, k1, k2, k3, k4, k5⟩ => by obtain rfl := k1.one hv; exact ⟨s', c', r, k2, k3, k4, k5⟩)
      (fun s c w q => by
        by_cases k : (n : Int) ≤ 100
        · exact (implExpand_in a0 _ hH s n c V w q k).mono fun e w' ⟨m', s', c', r, k1, k2, k3, k4, k5⟩ => by obtain rfl := k1.one hv; exact ⟨s', c', r, k2, k3, k4, k5⟩
        · exact (implExpand_far a0 _ hH s n c V w q (by omega) (by omega)).mono fun e w' ⟨m', s', c', r, k1, k2, k3, k4, k5⟩ => by obtain rfl := k1.one hv; exact ⟨s', c', r, k2, k3, k4, k5⟩)
  · exact expand_far1 w a0 s n c (by omega) (by omega)

set_option maxRecDepth 100000 in
theorem fnExactExpand_lifted (os : Os) (started : os.Started) (H : Type) (enc : TypeId × Value → H) :
    ReturnsInHanded {} Try.checked os 4 .any (Rows.fnExactExpandSpec.pre6 enc Try.prog Try.f4 Rows.fnExactExpandRow.domain false) (Rows.fnExactExpandSpec.post enc Try.prog Try.f4 false true false false) := by
  refine returnsInHanded_of_change (C := Try.checked) own started (by kernel_rfl) Try.func4
    (ChangeSpec.witness6 (enc := enc) (C := Try.checked) false ⟨#[], #[.float .f64 0, .slice none 0 0], []⟩ 8 (by kernel_rfl) (by kernel_rfl) (by kernel_rfl) (by kernel_rfl)) ?_
  intro W base args ds gs before hval0 hW hcnd _
  have hval : ∀ (j : Nat) t v, Try.f4.params[j]? = some t → args[j]? = some v → Value.okWide Try.prog W .any base t v := hval0
  have hW' := hW
  obtain ⟨p, q, hA0, hV, rfl, hfz, hnd⟩ := hW
  have hA : DataW.TrodAll enc Try.prog W 0 (fun _ => true) true Try.f4.params.toList args.toList ds p := hA0
  rw [Try.params4] at hA hval
  obtain ⟨v0, vs0, d0, ds0, p0, q0, hargs, rfl, rfl, h0, r0⟩ := trodAll_cons hA
  obtain ⟨v1, vs1, d1, ds1, p1, q1, rfl, rfl, rfl, h1, r1⟩ := trodAll_cons r0
  obtain ⟨rfl, rfl, rfl⟩ := trodAll_nil r1
  obtain rfl : args = #[v0, v1] := by cases args; simp_all
  obtain ⟨rfl, rfl⟩ := trodVars_none hV
  have k0 := h0
  have lt0 : ∀ x ∈ p0, x.block < W.heap.size := by obtain ⟨m, hm⟩ := k0; exact DataW.trod_lt m _ _ _ hm
  have k1 := h1
  have lt1 : ∀ x ∈ p1, x.block < W.heap.size := by obtain ⟨m, hm⟩ := k1; exact DataW.trod_lt m _ _ _ hm
  obtain ⟨a0, rfl, rfl, rfl, w0⟩ := open_float Try.underlying34 (hval 0 34 v0 rfl rfl) h0
  obtain ⟨s1, n1, c1, V1, rfl, m1, R1⟩ := open_fpairs Try.underlying35 Try.underlying79 (by kernel_rfl) rfl rfl (by kernel_rfl) (by kernel_rfl) (by kernel_rfl) (by kernel_rfl) (hval 1 35 v1 rfl rfl) h1
  clear hA0 hval0
  refine (fnExactExpand_walk W a0 w0 s1 n1 c1 V1 m1 R1).mono fun e W' ⟨he, bel⟩ => ?_
  subst he
  exact ⟨_, rfl, _, _, _, [], _, [], hW', trodAll_mk1 (shut_bool Try.underlying4 _), (trodAll_cons_mk (Below.trod laidOut (by kernel_rfl) (of_decide_eq_true (by kernel_rfl)) k0 bel lt0) (trodAll_cons_mk (Below.trod laidOut (by kernel_rfl) (of_decide_eq_true (by kernel_rfl)) k1 bel lt1) trodAll_mk0)), rfl, bel.frame _, fun h => by cases h⟩

theorem fnExactExpand_holds : Rows.FnExactExpandSaid :=
  OpenClaim.holds_of_wide 4 Try.f4 rfl rfl rfl rfl rfl rfl rfl ⟨rfl, rfl, rfl, rfl, rfl⟩ rfl rfl rfl rfl rfl (by kernel_rfl) Try.func4 (by kernel_rfl)
    (of_decide_eq_true (by kernel_rfl)) (by unfold Func.isWrapper; first | (rw [if_pos (by decide +kernel)]; kernel_rfl) | (rw [if_neg (by decide +kernel)]; exact ⟨rfl, rfl⟩))
    (fun os started H enc _ => fnExactExpand_lifted os started H enc)
#print axioms fnExactExpand_holds
end Go.Proofs.Ytenibgjoojcpkaa
