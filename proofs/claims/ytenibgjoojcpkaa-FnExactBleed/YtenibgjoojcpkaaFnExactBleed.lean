/-
What is proved: at every flow and every list of shares impl.Bleed answers as the specification's Bleed, leaves the list alone, and its answer owns its memory; no condition.
-/
import Derived.Test.YtenibgjoojcpkaaBleed
import Derived.Test.YtenibgjoojcpkaaOpenI
namespace Go.Proofs.Ytenibgjoojcpkaa
set_option maxRecDepth 40000
open Go.ChangeShapes Go.WideShapes Go.ChangeAt Go.RowKit
set_option linter.unusedVariables false

theorem BleedV.one {F : Int} {n : Nat} {V : Nat → Int} {m m' : Nat} {r r' : Int} (h : BleedV F n V m r) (h' : BleedV F n V m' r') : m = m' ∧ r = r' := by
  rcases h with ⟨rfl, rfl, h⟩ | ⟨rfl, rfl, h⟩ <;> rcases h' with ⟨rfl, rfl, h'⟩ | ⟨rfl, rfl, h'⟩
  · exact ⟨rfl, rfl⟩
  · exact absurd h h'
  · exact absurd h' h
  · exact ⟨rfl, rfl⟩
theorem bleed_some (F : Int) (n : Nat) (V : Nat → Int) : ∃ m r, BleedV F n V m r ∧ m ≤ n := by
  by_cases h : 0 ≤ F ∧ F ≤ 1000000000 ∧ n ≤ 100 ∧ partOk V n
  · exact ⟨n, _, .inl ⟨rfl, rfl, h⟩, Nat.le_refl _⟩
  · exact ⟨0, -1, .inr ⟨rfl, rfl, h⟩, Nat.zero_le _⟩
set_option maxHeartbeats 400000 in
theorem bleed_far1 (w : World) (a0 : Int) (s1 : Option Addr) (n1 c1 : Nat) (h1 : (1048576 : Int) < n1) :
    Calls Try.prog 5 #[.int .i64 a0, .slice s1 n1 c1] w fun e w' => e = .returned (.bool true) ∧ Below w.heap.size w w' := by
  go_enter Try.func5, Try.ntmps5
  go_wp2
  go_ret
  exact ⟨rfl, Below.refl _ _⟩

set_option maxRecDepth 20000 in
set_option maxHeartbeats 4000000 in
theorem bleed_near (w : World) (a0 : Int) (s1 : Option Addr) (n1 c1 : Nat) (V1 : Nat → Int) (hn1 : (n1 : Int) ≤ 1048576) (HR1 : Hid (RowI w s1 n1 V1)) (m : Nat) (U : Nat → Int) (hm : (m : Int) ≤ 1048576) (r1 : Int)
    (H1 : Hid (∀ s1 c1 w, RowI w s1 n1 V1 → Calls Try.prog 27 #[.int .i64 a0, .slice s1 n1 c1] w fun e w' => ∃ s' c', e = .returned (.tuple #[.slice s' m c', .int .i64 r1]) ∧ OwnI w.heap.size w' s' m U ∧ Below w.heap.size w w'))
    (H2 : Hid (∀ s1 c1 w, RowI w s1 n1 V1 → Calls Try.prog 28 #[.int .i64 a0, .slice s1 n1 c1] w fun e w' => ∃ s' c', e = .returned (.tuple #[.slice s' m c', .int .i64 r1]) ∧ OwnI w.heap.size w' s' m U ∧ Below w.heap.size w w')) :
    Calls Try.prog 5 #[.int .i64 a0, .slice s1 n1 c1] w fun e w' => e = .returned (.bool true) ∧ Below w.heap.size w w' := by
  go_enter Try.func5, Try.ntmps5
  have B0 : Below w.heap.size w w := Below.refl _ _
  go_wp2_with fail
  refine (toInt64S_any _ n1 _ V1 _ hn1 (HR1.out.below B0)).mono ?_
  rintro e w1 ⟨rfl, za1z, Oa1, h⟩
  replace B0 : Below w.heap.size w w1 := B0.trans (h.mono B0.size)
  have Pa1 : Hid (OwnI w.heap.size w1 (some ⟨w.heap.size, 0, none⟩) n1 V1) := Oa1
  clear Oa1 h
  clear za1z
  go_wp2_with fail
  refine (H1.out _ _ _ (Pa1.out.row)).mono ?_
  rintro e w2 ⟨sW, cW, rfl, OW, h⟩
  clear Pa1
  replace B0 : Below w.heap.size w w2 := B0.trans (h.mono B0.size)
  have RW : Hid (RowI w2 sW m U) := OW.row
  clear OW
  have Bs : Below w2.heap.size w2 w2 := Below.refl _ _
  clear h
  have l0_1 : w.heap.size ≤ w2.heap.size := B0.size
  have ls_1 : w2.heap.size ≤ w2.heap.size := Bs.size
  go_wp2_with fail
  refine (toInt64S_any _ n1 _ V1 _ hn1 (HR1.out.below B0)).mono ?_
  rintro e w3 ⟨rfl, zx1z, Ox1, h⟩
  replace B0 : Below w.heap.size w w3 := B0.trans (h.mono B0.size)
  replace Bs : Below w2.heap.size w2 w3 := Bs.trans (h.mono Bs.size)
  have Px1 : Hid (OwnI w2.heap.size w3 (some ⟨w2.heap.size, 0, none⟩) n1 V1) := Ox1
  clear Ox1 h
  have zw2 : w2.heap.size < w3.heap.size := zx1z
  clear zx1z
  go_wp2_with fail
  refine (H2.out _ _ _ (Px1.out.row)).mono ?_
  rintro e w4 ⟨sG, cG, rfl, OG, h⟩
  have l0 : w.heap.size ≤ w3.heap.size := B0.size
  have ls : w2.heap.size ≤ w3.heap.size := Bs.size
  have lx1 : w2.heap.size < w3.heap.size := zw2
  have lg : w3.heap.size ≤ w4.heap.size := h.size
  replace B0 : Below w.heap.size w w4 := B0.trans (h.mono B0.size)
  replace Bs : Below w2.heap.size w2 w4 := Bs.trans (h.mono Bs.size)
  replace zw2 : w2.heap.size < w4.heap.size := Nat.lt_of_lt_of_le zw2 h.size
  replace Px1 : Hid (OwnI w2.heap.size w4 (some ⟨w2.heap.size, 0, none⟩) n1 V1) := Px1.out.below h
  have Pg : Hid (OwnI w3.heap.size w4 sG m U) := OG
  clear OG
  clear h
  go_wp2_with fail
  refine (eqInt64S_any _ _ m _ _ U _ hm Pg.out.row (RW.out.below Bs)).mono ?_
  rintro e w5 ⟨rfl, h⟩
  replace B0 : Below w.heap.size w w5 := B0.trans (h.mono B0.size)
  replace Bs : Below w2.heap.size w2 w5 := Bs.trans (h.mono Bs.size)
  replace zw2 : w2.heap.size < w5.heap.size := Nat.lt_of_lt_of_le zw2 h.size
  replace Px1 : Hid (OwnI w2.heap.size w5 (some ⟨w2.heap.size, 0, none⟩) n1 V1) := Px1.out.below h
  replace Pg : Hid (OwnI w3.heap.size w5 sG m U) := Pg.out.below h
  replace lg : w3.heap.size ≤ w5.heap.size := Nat.le_trans lg h.size
  clear h
  go_wp2_with fail
  refine (toInt64S_any _ n1 _ V1 _ hn1 (HR1.out.below B0)).mono ?_
  rintro e w6 ⟨rfl, zy1z, Oy1, h⟩
  replace B0 : Below w.heap.size w w6 := B0.trans (h.mono B0.size)
  replace Bs : Below w2.heap.size w2 w6 := Bs.trans (h.mono Bs.size)
  replace zw2 : w2.heap.size < w6.heap.size := Nat.lt_of_lt_of_le zw2 h.size
  replace Px1 : Hid (OwnI w2.heap.size w6 (some ⟨w2.heap.size, 0, none⟩) n1 V1) := Px1.out.below h
  replace Pg : Hid (OwnI w3.heap.size w6 sG m U) := Pg.out.below h
  have Py1 : Hid (OwnI w5.heap.size w6 (some ⟨w5.heap.size, 0, none⟩) n1 V1) := Oy1
  clear Oy1 h
  replace lg : w3.heap.size ≤ w6.heap.size := by omega
  clear zy1z
  go_wp2_with fail
  refine (eqInt64S_any _ _ n1 _ _ V1 _ hn1 Px1.out.row Py1.out.row).mono ?_
  rintro e w7 ⟨rfl, h⟩
  replace B0 : Below w.heap.size w w7 := B0.trans (h.mono B0.size)
  replace Bs : Below w2.heap.size w2 w7 := Bs.trans (h.mono Bs.size)
  replace zw2 : w2.heap.size < w7.heap.size := Nat.lt_of_lt_of_le zw2 h.size
  replace Px1 : Hid (OwnI w2.heap.size w7 (some ⟨w2.heap.size, 0, none⟩) n1 V1) := Px1.out.below h
  replace Pg : Hid (OwnI w3.heap.size w7 sG m U) := Pg.out.below h
  replace lg : w3.heap.size ≤ w7.heap.size := Nat.le_trans lg h.size
  clear h
  clear Py1
  go_wp2_with fail
  refine (markInt64S_own w2.heap.size _ n1 _ _ V1 _ hn1 (by omega) (by omega) (by omega) Px1.out).mono ?_
  rintro e w8 ⟨rfl, -, h, hs⟩
  have hs := hs _ rfl
  replace B0 : Below w.heap.size w w8 := B0.trans (h.mono (by omega))
  replace Bs : Below w2.heap.size w2 w8 := Bs.trans (h.mono (by omega))
  replace zw2 : w2.heap.size < w8.heap.size := Nat.lt_of_lt_of_le zw2 h.size
  replace lg : w3.heap.size ≤ w8.heap.size := Nat.le_trans lg h.size
  clear Px1
  replace Pg : Hid (OwnI w3.heap.size w8 sG m U) := Pg.out.beside hs (by omega)
  clear h hs
  go_wp2_with fail
  refine (eqInt64S_any _ _ m _ _ U _ hm Pg.out.row (RW.out.below Bs)).mono ?_
  rintro e w9 ⟨rfl, h⟩
  replace B0 : Below w.heap.size w w9 := B0.trans (h.mono B0.size)
  replace Bs : Below w2.heap.size w2 w9 := Bs.trans (h.mono Bs.size)
  replace zw2 : w2.heap.size < w9.heap.size := Nat.lt_of_lt_of_le zw2 h.size
  replace Pg : Hid (OwnI w3.heap.size w9 sG m U) := Pg.out.below h
  replace lg : w3.heap.size ≤ w9.heap.size := Nat.le_trans lg h.size
  clear h
  go_wp2_with fail
  refine (markInt64S_own w3.heap.size _ m _ _ U _ hm (by omega) (by omega) lg Pg.out).mono ?_
  rintro e w10 ⟨rfl, OG, h, -⟩
  clear Pg
  replace B0 : Below w.heap.size w w10 := B0.trans (h.mono l0)
  replace Bs : Below w2.heap.size w2 w10 := Bs.trans (h.mono ls)
  clear h
  have PG : Hid (OwnI w3.heap.size w10 sG m (fun j => 1 + (j : Int))) := OG
  clear OG
  clear lg
  go_wp2_with fail
  refine (heldInt64S_any _ m _ 1 _ hm (by omega) (by omega) PG.out.row).mono ?_
  rintro e w10 ⟨rfl, rfl⟩
  go_wp2_with fail
  refine (toInt64S_any _ n1 _ V1 _ hn1 (HR1.out.below B0)).mono ?_
  rintro e w11 ⟨rfl, zv1z, Ov1, h⟩
  replace B0 : Below w.heap.size w w11 := B0.trans (h.mono B0.size)
  replace Bs : Below w2.heap.size w2 w11 := Bs.trans (h.mono Bs.size)
  replace PG : Hid (OwnI w3.heap.size w11 sG m (fun j => 1 + (j : Int))) := PG.out.below h
  have Pv1 : Hid (OwnI w10.heap.size w11 (some ⟨w10.heap.size, 0, none⟩) n1 V1) := Ov1
  clear Ov1 h
  clear zv1z
  go_wp2_with fail
  refine (H2.out _ _ _ (Pv1.out.row)).mono ?_
  rintro e w12 ⟨sH, cH, rfl, OH, h⟩
  clear Pv1
  replace B0 : Below w.heap.size w w12 := B0.trans (h.mono B0.size)
  replace Bs : Below w2.heap.size w2 w12 := Bs.trans (h.mono Bs.size)
  replace PG : Hid (OwnI w3.heap.size w12 sG m (fun j => 1 + (j : Int))) := PG.out.below h
  have PH : Hid (OwnI w11.heap.size w12 sH m U) := OH
  clear OH h
  go_wp2_with fail
  refine (eqInt64S_any _ _ m _ _ U _ hm PH.out.row (RW.out.below Bs)).mono ?_
  rintro e w13 ⟨rfl, h⟩
  clear PH
  replace B0 : Below w.heap.size w w13 := B0.trans (h.mono B0.size)
  replace Bs : Below w2.heap.size w2 w13 := Bs.trans (h.mono Bs.size)
  replace PG : Hid (OwnI w3.heap.size w13 sG m (fun j => 1 + (j : Int))) := PG.out.below h
  clear h
  go_wp2_with fail
  refine (heldInt64S_any _ m _ 1 _ hm (by omega) (by omega) PG.out.row).mono ?_
  rintro e w13 ⟨rfl, rfl⟩
  go_wp2
  go_ret
  exact ⟨rfl, B0⟩

theorem fnExactBleed_walk (w : World) (a0 : Int) (wa : (Lit.int .i64 a0).wf = true) (s : Option Addr) (n c : Nat) (V : Nat → Int) (hn : n ≤ 9223372036854775807) (R : RowI w s n V) (hV : ∀ j, j < n → -9223372036854775808 ≤ V j ∧ V j ≤ 9223372036854775807) :
    Calls Try.prog 5 #[.int .i64 a0, .slice s n c] w fun e w' => e = .returned (.bool true) ∧ Below w.heap.size w w' := by
  by_cases h : n ≤ 1048576
  · obtain ⟨m, r, hv, hm⟩ := bleed_some a0 n V
    exact bleed_near w a0 s n c V (by omega) R m (tak a0 V) (by omega) r
      (fun s c w q => (specBleed_any a0 s n c V w (by omega) q).mono fun e w' ⟨m', r', s', c', k1, k2, k3, k4⟩ => by obtain ⟨rfl, rfl⟩ := k1.one hv; exact ⟨s', c', k2, k3, k4⟩)
      (fun s c w q => (implBleed_any a0 s n c V w (by omega) q).mono fun e w' ⟨m', r', s', c', k1, k2, k3, k4⟩ => by obtain ⟨rfl, rfl⟩ := k1.one hv; exact ⟨s', c', k2, k3, k4⟩)
  · exact bleed_far1 w a0 s n c (by omega)

set_option maxRecDepth 100000 in
theorem fnExactBleed_lifted (os : Os) (started : os.Started) (H : Type) (enc : TypeId × Value → H) :
    ReturnsInHanded {} Try.checked os 5 .any (Rows.fnExactBleedSpec.pre6 enc Try.prog Try.f5 Rows.fnExactBleedRow.domain false) (Rows.fnExactBleedSpec.post enc Try.prog Try.f5 false true false false) := by
  refine returnsInHanded_of_change (C := Try.checked) own started (by kernel_rfl) Try.func5
    (ChangeSpec.witness6 (enc := enc) (C := Try.checked) false ⟨#[], #[.int .i64 0, .slice none 0 0], []⟩ 8 (by kernel_rfl) (by kernel_rfl) (by kernel_rfl) (by kernel_rfl)) ?_
  intro W base args ds gs before hval0 hW hcnd _
  have hval : ∀ (j : Nat) t v, Try.f5.params[j]? = some t → args[j]? = some v → Value.okWide Try.prog W .any base t v := hval0
  have hW' := hW
  obtain ⟨p, q, hA0, hV, rfl, hfz, hnd⟩ := hW
  have hA : DataW.TrodAll enc Try.prog W 0 (fun _ => true) true Try.f5.params.toList args.toList ds p := hA0
  rw [Try.params5] at hA hval
  obtain ⟨v0, vs0, d0, ds0, p0, q0, hargs, rfl, rfl, h0, r0⟩ := trodAll_cons hA
  obtain ⟨v1, vs1, d1, ds1, p1, q1, rfl, rfl, rfl, h1, r1⟩ := trodAll_cons r0
  obtain ⟨rfl, rfl, rfl⟩ := trodAll_nil r1
  obtain rfl : args = #[v0, v1] := by cases args; simp_all
  obtain ⟨rfl, rfl⟩ := trodVars_none hV
  have k0 := h0
  have lt0 : ∀ x ∈ p0, x.block < W.heap.size := by obtain ⟨m, hm⟩ := k0; exact DataW.trod_lt m _ _ _ hm
  have k1 := h1
  have lt1 : ∀ x ∈ p1, x.block < W.heap.size := by obtain ⟨m, hm⟩ := k1; exact DataW.trod_lt m _ _ _ hm
  obtain ⟨a0, rfl, rfl, rfl, w0⟩ := open_int Try.underlying2 (hval 0 2 v0 rfl rfl) h0
  obtain ⟨s1, n1, c1, V1, rfl, m1, R1, w1⟩ := open_i64s Try.underlying24 Try.underlying2 (by kernel_rfl) (hval 1 24 v1 rfl rfl) h1
  clear hA0 hval0
  refine (fnExactBleed_walk W a0 w0 s1 n1 c1 V1 m1 R1 w1).mono fun e W' ⟨he, bel⟩ => ?_
  subst he
  exact ⟨_, rfl, _, _, _, [], _, [], hW', trodAll_mk1 (shut_bool Try.underlying4 _), (trodAll_cons_mk (Below.trod laidOut (by kernel_rfl) (of_decide_eq_true (by kernel_rfl)) k0 bel lt0) (trodAll_cons_mk (Below.trod laidOut (by kernel_rfl) (of_decide_eq_true (by kernel_rfl)) k1 bel lt1) trodAll_mk0)), rfl, bel.frame _, fun h => by cases h⟩

theorem fnExactBleed_holds : Rows.FnExactBleedSaid :=
  OpenClaim.holds_of_wide 5 Try.f5 rfl rfl rfl rfl rfl rfl rfl ⟨rfl, rfl, rfl, rfl, rfl⟩ rfl rfl rfl rfl rfl (by kernel_rfl) Try.func5 (by kernel_rfl)
    (of_decide_eq_true (by kernel_rfl)) (by unfold Func.isWrapper; first | (rw [if_pos (by decide +kernel)]; kernel_rfl) | (rw [if_neg (by decide +kernel)]; exact ⟨rfl, rfl⟩))
    (fun os started H enc _ => fnExactBleed_lifted os started H enc)
#print axioms fnExactBleed_holds
end Go.Proofs.Ytenibgjoojcpkaa
