/-
What is proved: at every list of wants and every list of locks impl.Permits answers as the specification's Permits, leaves both lists alone, and its answer owns its memory; no condition.
-/
import Derived.Test.YtjkdnlnbkopbpaaPmS
import Derived.Test.YtjkdnlnbkopbpaaLokM
import Derived.Test.YtjkdnlnbkopbpaaBoT
import Derived.Test.YtjkdnlnbkopbpaaOpenB
namespace Go.Proofs.Ytjkdnlnbkopbpaa
set_option maxRecDepth 40000
open Go.ChangeShapes Go.WideShapes Go.ChangeAt Go.RowKit
set_option linter.unusedVariables false
set_option linter.unusedSimpArgs false

set_option maxHeartbeats 400000 in
theorem permits_far0 (w : World) (s0 : Option Addr) (n0 c0 : Nat) (h0 : (1048576 : Int) < n0) (s1 : Option Addr) (n1 c1 : Nat) :
    Calls Try.prog 3 #[.slice s0 n0 c0, .slice s1 n1 c1] w fun e w' => e = .returned (.bool true) ∧ Below w.heap.size w w' := by
  go_enter Try.func3, Try.ntmps3
  go_wp2
  go_ret
  exact ⟨rfl, Below.refl _ _⟩

set_option maxHeartbeats 400000 in
theorem permits_far1 (w : World) (s0 : Option Addr) (n0 c0 : Nat) (h0 : (n0 : Int) ≤ 1048576) (s1 : Option Addr) (n1 c1 : Nat) (hf : 1048576 < (n1 : Int)) (hf2 : (n1 : Int) ≤ 9223372036854775807) :
    Calls Try.prog 3 #[.slice s0 n0 c0, .slice s1 n1 c1] w fun e w' => e = .returned (.bool true) ∧ Below w.heap.size w w' := by
  go_enter Try.func3, Try.ntmps3
  go_wp2_with fail
  refine (szLockS_off _ n1 _ _ _ (by omega) (by omega) hf hf2).mono ?_
  rintro e w ⟨rfl, rfl⟩
  go_wp2
  go_ret
  exact ⟨rfl, Below.refl _ _⟩

set_option maxRecDepth 20000 in
set_option maxHeartbeats 4000000 in
theorem permits_near (w : World) (s0 : Option Addr) (n0 c0 : Nat) (V0 : Nat → Bool) (hn0 : (n0 : Int) ≤ 1048576) (HR0 : Hid (RowB w s0 n0 V0)) (s1 : Option Addr) (n1 c1 : Nat) (V1 : Nat → Int) (hn1 : (n1 : Int) ≤ 1048576) (HR1 : Hid (RowI w s1 (n1 * 2) V1)) (m : Nat) (U : Nat → Bool) (hm : (m : Int) ≤ 1048576)
    (H1 : Hid (∀ s0 c0 s1 c1 w, RowB w s0 n0 V0 → RowI w s1 (n1 * 2) V1 → Calls Try.prog 6 #[.slice s0 n0 c0, .slice s1 n1 c1] w fun e w' => ∃ s' c', e = .returned (.slice s' m c') ∧ OwnB w.heap.size w' s' m U ∧ Below w.heap.size w w'))
    (H2 : Hid (∀ s0 c0 s1 c1 w, RowB w s0 n0 V0 → RowI w s1 (n1 * 2) V1 → Calls Try.prog 9 #[.slice s0 n0 c0, .slice s1 n1 c1] w fun e w' => ∃ s' c', e = .returned (.slice s' m c') ∧ OwnB w.heap.size w' s' m U ∧ Below w.heap.size w w')) :
    Calls Try.prog 3 #[.slice s0 n0 c0, .slice s1 n1 c1] w fun e w' => e = .returned (.bool true) ∧ Below w.heap.size w w' := by
  go_enter Try.func3, Try.ntmps3
  go_wp2_with fail
  refine (szLockS_on _ n1 _ _ _ (by omega) (by omega) (by omega)).mono ?_
  rintro e w ⟨rfl, rfl⟩
  have B0 : Below w.heap.size w w := Below.refl _ _
  go_wp2_with fail
  refine (toBoolS_any _ n0 _ V0 _ hn0 (HR0.out.below B0)).mono ?_
  rintro e w1 ⟨rfl, za0z, Oa0, h⟩
  replace B0 : Below w.heap.size w w1 := B0.trans (h.mono B0.size)
  have Pa0 : Hid (OwnB w.heap.size w1 (some ⟨w.heap.size, 0, none⟩) n0 V0) := Oa0
  clear Oa0 h
  go_wp2_with fail
  refine (toLockS_any _ n1 _ V1 _ hn1 (HR1.out.below B0)).mono ?_
  rintro e w2 ⟨rfl, za1z, Oa1, h⟩
  replace B0 : Below w.heap.size w w2 := B0.trans (h.mono B0.size)
  replace Pa0 : Hid (OwnB w.heap.size w2 (some ⟨w.heap.size, 0, none⟩) n0 V0) := Pa0.out.below h
  have Pa1 : Hid (OwnI w1.heap.size w2 (some ⟨w1.heap.size, 0, none⟩) (n1 * 2) V1) := Oa1
  clear Oa1 h
  clear za0z za1z
  go_wp2_with fail
  refine (H1.out _ _ _ _ _ (Pa0.out.row) (Pa1.out.row)).mono ?_
  rintro e w3 ⟨sW, cW, rfl, OW, h⟩
  clear Pa0
  clear Pa1
  replace B0 : Below w.heap.size w w3 := B0.trans (h.mono B0.size)
  have RW : Hid (RowB w3 sW m U) := OW.row
  clear OW
  have Bs : Below w3.heap.size w3 w3 := Below.refl _ _
  clear h
  have l0_0 : w.heap.size ≤ w3.heap.size := B0.size
  have ls_0 : w3.heap.size ≤ w3.heap.size := Bs.size
  go_wp2_with fail
  refine (toBoolS_any _ n0 _ V0 _ hn0 (HR0.out.below B0)).mono ?_
  rintro e w4 ⟨rfl, zx0z, Ox0, h⟩
  replace B0 : Below w.heap.size w w4 := B0.trans (h.mono B0.size)
  replace Bs : Below w3.heap.size w3 w4 := Bs.trans (h.mono Bs.size)
  have Px0 : Hid (OwnB w3.heap.size w4 (some ⟨w3.heap.size, 0, none⟩) n0 V0) := Ox0
  clear Ox0 h
  have od0 : w3.heap.size < w4.heap.size := zx0z
  have zw3 : w3.heap.size < w4.heap.size := zx0z
  clear zx0z
  have l0_1 : w.heap.size ≤ w4.heap.size := B0.size
  have ls_1 : w3.heap.size ≤ w4.heap.size := Bs.size
  go_wp2_with fail
  refine (toLockS_any _ n1 _ V1 _ hn1 (HR1.out.below B0)).mono ?_
  rintro e w5 ⟨rfl, zx1z, Ox1, h⟩
  replace B0 : Below w.heap.size w w5 := B0.trans (h.mono B0.size)
  replace Bs : Below w3.heap.size w3 w5 := Bs.trans (h.mono Bs.size)
  replace zw3 : w3.heap.size < w5.heap.size := Nat.lt_of_lt_of_le zw3 h.size
  replace Px0 : Hid (OwnB w3.heap.size w5 (some ⟨w3.heap.size, 0, none⟩) n0 V0) := Px0.out.below h
  have Px1 : Hid (OwnI w4.heap.size w5 (some ⟨w4.heap.size, 0, none⟩) (n1 * 2) V1) := Ox1
  clear Ox1 h
  have od1 : w4.heap.size < w5.heap.size := zx1z
  have zw4 : w4.heap.size < w5.heap.size := zx1z
  clear zx1z
  go_wp2_with fail
  refine (H2.out _ _ _ _ _ (Px0.out.row) (Px1.out.row)).mono ?_
  rintro e w6 ⟨sG, cG, rfl, OG, h⟩
  have l0 : w.heap.size ≤ w5.heap.size := B0.size
  have ls : w3.heap.size ≤ w5.heap.size := Bs.size
  have lx0 : w3.heap.size < w5.heap.size := zw3
  have lx1 : w4.heap.size < w5.heap.size := zw4
  have lg : w5.heap.size ≤ w6.heap.size := h.size
  replace B0 : Below w.heap.size w w6 := B0.trans (h.mono B0.size)
  replace Bs : Below w3.heap.size w3 w6 := Bs.trans (h.mono Bs.size)
  replace zw3 : w3.heap.size < w6.heap.size := Nat.lt_of_lt_of_le zw3 h.size
  replace zw4 : w4.heap.size < w6.heap.size := Nat.lt_of_lt_of_le zw4 h.size
  replace Px0 : Hid (OwnB w3.heap.size w6 (some ⟨w3.heap.size, 0, none⟩) n0 V0) := Px0.out.below h
  replace Px1 : Hid (OwnI w4.heap.size w6 (some ⟨w4.heap.size, 0, none⟩) (n1 * 2) V1) := Px1.out.below h
  have Pg : Hid (OwnB w5.heap.size w6 sG m U) := OG
  clear OG
  clear h
  go_wp2_with fail
  refine (eqBoolS_any _ _ m _ _ U _ hm Pg.out.row (RW.out.below Bs)).mono ?_
  rintro e w7 ⟨rfl, h⟩
  replace B0 : Below w.heap.size w w7 := B0.trans (h.mono B0.size)
  replace Bs : Below w3.heap.size w3 w7 := Bs.trans (h.mono Bs.size)
  replace zw3 : w3.heap.size < w7.heap.size := Nat.lt_of_lt_of_le zw3 h.size
  replace zw4 : w4.heap.size < w7.heap.size := Nat.lt_of_lt_of_le zw4 h.size
  replace Px0 : Hid (OwnB w3.heap.size w7 (some ⟨w3.heap.size, 0, none⟩) n0 V0) := Px0.out.below h
  replace Px1 : Hid (OwnI w4.heap.size w7 (some ⟨w4.heap.size, 0, none⟩) (n1 * 2) V1) := Px1.out.below h
  replace Pg : Hid (OwnB w5.heap.size w7 sG m U) := Pg.out.below h
  replace lg : w5.heap.size ≤ w7.heap.size := Nat.le_trans lg h.size
  clear h
  go_wp2_with fail
  refine (toBoolS_any _ n0 _ V0 _ hn0 (HR0.out.below B0)).mono ?_
  rintro e w8 ⟨rfl, zy0z, Oy0, h⟩
  replace B0 : Below w.heap.size w w8 := B0.trans (h.mono B0.size)
  replace Bs : Below w3.heap.size w3 w8 := Bs.trans (h.mono Bs.size)
  replace zw3 : w3.heap.size < w8.heap.size := Nat.lt_of_lt_of_le zw3 h.size
  replace zw4 : w4.heap.size < w8.heap.size := Nat.lt_of_lt_of_le zw4 h.size
  replace Px0 : Hid (OwnB w3.heap.size w8 (some ⟨w3.heap.size, 0, none⟩) n0 V0) := Px0.out.below h
  replace Px1 : Hid (OwnI w4.heap.size w8 (some ⟨w4.heap.size, 0, none⟩) (n1 * 2) V1) := Px1.out.below h
  replace Pg : Hid (OwnB w5.heap.size w8 sG m U) := Pg.out.below h
  have Py0 : Hid (OwnB w7.heap.size w8 (some ⟨w7.heap.size, 0, none⟩) n0 V0) := Oy0
  clear Oy0 h
  replace lg : w5.heap.size ≤ w8.heap.size := by omega
  clear zy0z
  go_wp2_with fail
  refine (eqBoolS_any _ _ n0 _ _ V0 _ hn0 Px0.out.row Py0.out.row).mono ?_
  rintro e w9 ⟨rfl, h⟩
  replace B0 : Below w.heap.size w w9 := B0.trans (h.mono B0.size)
  replace Bs : Below w3.heap.size w3 w9 := Bs.trans (h.mono Bs.size)
  replace zw3 : w3.heap.size < w9.heap.size := Nat.lt_of_lt_of_le zw3 h.size
  replace zw4 : w4.heap.size < w9.heap.size := Nat.lt_of_lt_of_le zw4 h.size
  replace Px0 : Hid (OwnB w3.heap.size w9 (some ⟨w3.heap.size, 0, none⟩) n0 V0) := Px0.out.below h
  replace Px1 : Hid (OwnI w4.heap.size w9 (some ⟨w4.heap.size, 0, none⟩) (n1 * 2) V1) := Px1.out.below h
  replace Pg : Hid (OwnB w5.heap.size w9 sG m U) := Pg.out.below h
  replace lg : w5.heap.size ≤ w9.heap.size := Nat.le_trans lg h.size
  clear h
  clear Py0
  go_wp2_with fail
  refine (toLockS_any _ n1 _ V1 _ hn1 (HR1.out.below B0)).mono ?_
  rintro e w10 ⟨rfl, zy1z, Oy1, h⟩
  replace B0 : Below w.heap.size w w10 := B0.trans (h.mono B0.size)
  replace Bs : Below w3.heap.size w3 w10 := Bs.trans (h.mono Bs.size)
  replace zw3 : w3.heap.size < w10.heap.size := Nat.lt_of_lt_of_le zw3 h.size
  replace zw4 : w4.heap.size < w10.heap.size := Nat.lt_of_lt_of_le zw4 h.size
  replace Px0 : Hid (OwnB w3.heap.size w10 (some ⟨w3.heap.size, 0, none⟩) n0 V0) := Px0.out.below h
  replace Px1 : Hid (OwnI w4.heap.size w10 (some ⟨w4.heap.size, 0, none⟩) (n1 * 2) V1) := Px1.out.below h
  replace Pg : Hid (OwnB w5.heap.size w10 sG m U) := Pg.out.below h
  have Py1 : Hid (OwnI w9.heap.size w10 (some ⟨w9.heap.size, 0, none⟩) (n1 * 2) V1) := Oy1
  clear Oy1 h
  replace lg : w5.heap.size ≤ w10.heap.size := by omega
  clear zy1z
  go_wp2_with fail
  refine (eqLockS_any _ _ n1 _ _ V1 _ hn1 Px1.out.row Py1.out.row).mono ?_
  rintro e w11 ⟨rfl, h⟩
  replace B0 : Below w.heap.size w w11 := B0.trans (h.mono B0.size)
  replace Bs : Below w3.heap.size w3 w11 := Bs.trans (h.mono Bs.size)
  replace zw3 : w3.heap.size < w11.heap.size := Nat.lt_of_lt_of_le zw3 h.size
  replace zw4 : w4.heap.size < w11.heap.size := Nat.lt_of_lt_of_le zw4 h.size
  replace Px0 : Hid (OwnB w3.heap.size w11 (some ⟨w3.heap.size, 0, none⟩) n0 V0) := Px0.out.below h
  replace Px1 : Hid (OwnI w4.heap.size w11 (some ⟨w4.heap.size, 0, none⟩) (n1 * 2) V1) := Px1.out.below h
  replace Pg : Hid (OwnB w5.heap.size w11 sG m U) := Pg.out.below h
  replace lg : w5.heap.size ≤ w11.heap.size := Nat.le_trans lg h.size
  clear h
  clear Py1
  go_wp2_with fail
  refine (markBoolS_own w3.heap.size _ n0 _ _ V0 _ hn0 (by omega) (by omega) (by omega) Px0.out).mono ?_
  rintro e w12 ⟨rfl, -, h, hs⟩
  have hs := hs _ rfl
  replace B0 : Below w.heap.size w w12 := B0.trans (h.mono (by omega))
  replace Bs : Below w3.heap.size w3 w12 := Bs.trans (h.mono (by omega))
  replace zw3 : w3.heap.size < w12.heap.size := Nat.lt_of_lt_of_le zw3 h.size
  replace zw4 : w4.heap.size < w12.heap.size := Nat.lt_of_lt_of_le zw4 h.size
  replace lg : w5.heap.size ≤ w12.heap.size := Nat.le_trans lg h.size
  clear Px0
  replace Px1 : Hid (OwnI w4.heap.size w12 (some ⟨w4.heap.size, 0, none⟩) (n1 * 2) V1) := Px1.out.beside hs (by omega)
  replace Pg : Hid (OwnB w5.heap.size w12 sG m U) := Pg.out.beside hs (by omega)
  clear h hs
  go_wp2_with fail
  refine (markLockS_own w4.heap.size _ n1 _ _ V1 _ hn1 (by omega) (by omega) (by omega) Px1.out).mono ?_
  rintro e w13 ⟨rfl, -, h, hs⟩
  have hs := hs _ rfl
  replace B0 : Below w.heap.size w w13 := B0.trans (h.mono (by omega))
  replace Bs : Below w3.heap.size w3 w13 := Bs.trans (h.mono (by omega))
  replace zw3 : w3.heap.size < w13.heap.size := Nat.lt_of_lt_of_le zw3 h.size
  replace zw4 : w4.heap.size < w13.heap.size := Nat.lt_of_lt_of_le zw4 h.size
  replace lg : w5.heap.size ≤ w13.heap.size := Nat.le_trans lg h.size
  clear Px1
  replace Pg : Hid (OwnB w5.heap.size w13 sG m U) := Pg.out.beside hs (by omega)
  clear h hs
  go_wp2_with fail
  refine (eqBoolS_any _ _ m _ _ U _ hm Pg.out.row (RW.out.below Bs)).mono ?_
  rintro e w14 ⟨rfl, h⟩
  replace B0 : Below w.heap.size w w14 := B0.trans (h.mono B0.size)
  replace Bs : Below w3.heap.size w3 w14 := Bs.trans (h.mono Bs.size)
  replace zw3 : w3.heap.size < w14.heap.size := Nat.lt_of_lt_of_le zw3 h.size
  replace zw4 : w4.heap.size < w14.heap.size := Nat.lt_of_lt_of_le zw4 h.size
  replace Pg : Hid (OwnB w5.heap.size w14 sG m U) := Pg.out.below h
  replace lg : w5.heap.size ≤ w14.heap.size := Nat.le_trans lg h.size
  clear h
  go_wp2_with fail
  refine (markBoolS_own w5.heap.size _ m _ _ U _ hm (by omega) (by omega) lg Pg.out).mono ?_
  rintro e w15 ⟨rfl, OG, h, -⟩
  clear Pg
  replace B0 : Below w.heap.size w w15 := B0.trans (h.mono l0)
  replace Bs : Below w3.heap.size w3 w15 := Bs.trans (h.mono ls)
  clear h
  have PG : Hid (OwnB w5.heap.size w15 sG m (markB 1)) := OG
  clear OG
  clear lg
  go_wp2_with fail
  refine (heldBoolS_any _ m _ 1 _ hm (by omega) (by omega) PG.out.row).mono ?_
  rintro e w15 ⟨rfl, rfl⟩
  go_wp2_with fail
  refine (toBoolS_any _ n0 _ V0 _ hn0 (HR0.out.below B0)).mono ?_
  rintro e w16 ⟨rfl, zv0z, Ov0, h⟩
  replace B0 : Below w.heap.size w w16 := B0.trans (h.mono B0.size)
  replace Bs : Below w3.heap.size w3 w16 := Bs.trans (h.mono Bs.size)
  replace PG : Hid (OwnB w5.heap.size w16 sG m (markB 1)) := PG.out.below h
  have Pv0 : Hid (OwnB w15.heap.size w16 (some ⟨w15.heap.size, 0, none⟩) n0 V0) := Ov0
  clear Ov0 h
  clear zv0z
  go_wp2_with fail
  refine (toLockS_any _ n1 _ V1 _ hn1 (HR1.out.below B0)).mono ?_
  rintro e w17 ⟨rfl, zv1z, Ov1, h⟩
  replace B0 : Below w.heap.size w w17 := B0.trans (h.mono B0.size)
  replace Bs : Below w3.heap.size w3 w17 := Bs.trans (h.mono Bs.size)
  replace PG : Hid (OwnB w5.heap.size w17 sG m (markB 1)) := PG.out.below h
  replace Pv0 : Hid (OwnB w15.heap.size w17 (some ⟨w15.heap.size, 0, none⟩) n0 V0) := Pv0.out.below h
  have Pv1 : Hid (OwnI w16.heap.size w17 (some ⟨w16.heap.size, 0, none⟩) (n1 * 2) V1) := Ov1
  clear Ov1 h
  clear zv1z
  go_wp2_with fail
  refine (H2.out _ _ _ _ _ (Pv0.out.row) (Pv1.out.row)).mono ?_
  rintro e w18 ⟨sH, cH, rfl, OH, h⟩
  clear Pv0
  clear Pv1
  replace B0 : Below w.heap.size w w18 := B0.trans (h.mono B0.size)
  replace Bs : Below w3.heap.size w3 w18 := Bs.trans (h.mono Bs.size)
  replace PG : Hid (OwnB w5.heap.size w18 sG m (markB 1)) := PG.out.below h
  have PH : Hid (OwnB w17.heap.size w18 sH m U) := OH
  clear OH h
  go_wp2_with fail
  refine (eqBoolS_any _ _ m _ _ U _ hm PH.out.row (RW.out.below Bs)).mono ?_
  rintro e w19 ⟨rfl, h⟩
  clear PH
  replace B0 : Below w.heap.size w w19 := B0.trans (h.mono B0.size)
  replace Bs : Below w3.heap.size w3 w19 := Bs.trans (h.mono Bs.size)
  replace PG : Hid (OwnB w5.heap.size w19 sG m (markB 1)) := PG.out.below h
  clear h
  go_wp2_with fail
  refine (heldBoolS_any _ m _ 1 _ hm (by omega) (by omega) PG.out.row).mono ?_
  rintro e w19 ⟨rfl, rfl⟩
  go_wp2
  go_ret
  exact ⟨rfl, B0⟩

theorem fnExactPermits_walk (w : World) (s0 : Option Addr) (n0 c0 : Nat) (V0 : Nat → Bool) (m0 : n0 ≤ 9223372036854775807) (R0 : RowB w s0 n0 V0) (s1 : Option Addr) (n1 c1 : Nat) (V1 : Nat → Int) (m1 : n1 ≤ 9223372036854775807) (R1 : RowI w s1 (n1 * 2) V1) :
    Calls Try.prog 3 #[.slice s0 n0 c0, .slice s1 n1 c1] w fun e w' => e = .returned (.bool true) ∧ Below w.heap.size w w' := by
  by_cases h0 : (n0 : Int) ≤ 1048576
  · by_cases h1 : (n1 : Int) ≤ 1048576
    · exact permits_near w s0 n0 c0 V0 h0 R0 s1 n1 c1 V1 h1 R1 (lenV n0 n1) (perV V0 V1 n1) (by unfold lenV; split <;> omega) (fun s c s' c' w q q' => specPermits_any s s' n0 c n1 c' V0 V1 w h0 h1 q q') (fun s c s' c' w q q' => implPermits_any s s' n0 c n1 c' V0 V1 w h0 h1 q q')
    · exact permits_far1 w s0 n0 c0 h0 s1 n1 c1 (by omega) (by omega)
  · exact permits_far0 w s0 n0 c0 (by omega) s1 n1 c1

set_option maxRecDepth 100000 in
theorem fnExactPermits_lifted (os : Os) (started : os.Started) (H : Type) (enc : TypeId × Value → H) :
    ReturnsInHanded {} Try.checked os 3 .any (Rows.fnExactPermitsSpec.pre6 enc Try.prog Try.f3 Rows.fnExactPermitsRow.domain false) (Rows.fnExactPermitsSpec.post enc Try.prog Try.f3 false true false false) := by
  refine returnsInHanded_of_change (C := Try.checked) own started (by kernel_rfl) Try.func3
    (ChangeSpec.witness6 (enc := enc) (C := Try.checked) false ⟨#[], #[.slice none 0 0, .slice none 0 0], []⟩ 8 (by kernel_rfl) (by kernel_rfl) (by kernel_rfl) (by kernel_rfl)) ?_
  intro W base args ds gs before hval0 hW hcnd _
  have hval : ∀ (j : Nat) t v, Try.f3.params[j]? = some t → args[j]? = some v → Value.okWide Try.prog W .any base t v := hval0
  have hW' := hW
  obtain ⟨p, q, hA0, hV, rfl, hfz, hnd⟩ := hW
  have hA : DataW.TrodAll enc Try.prog W 0 (fun _ => true) true Try.f3.params.toList args.toList ds p := hA0
  rw [Try.params3] at hA hval
  obtain ⟨v0, vs0, d0, ds0, p0, q0, hargs, rfl, rfl, h0, r0⟩ := trodAll_cons hA
  obtain ⟨v1, vs1, d1, ds1, p1, q1, rfl, rfl, rfl, h1, r1⟩ := trodAll_cons r0
  obtain ⟨rfl, rfl, rfl⟩ := trodAll_nil r1
  obtain rfl : args = #[v0, v1] := by cases args; simp_all
  obtain ⟨rfl, rfl⟩ := trodVars_none hV
  have k0 := h0
  have lt0 : ∀ x ∈ p0, x.block < W.heap.size := by obtain ⟨m, hm⟩ := k0; exact DataW.trod_lt m _ _ _ hm
  have k1 := h1
  have lt1 : ∀ x ∈ p1, x.block < W.heap.size := by obtain ⟨m, hm⟩ := k1; exact DataW.trod_lt m _ _ _ hm
  obtain ⟨s0, n0, c0, V0, rfl, m0, R0⟩ := open_bools Try.underlying22 Try.underlying4 (by kernel_rfl) (hval 0 22 v0 rfl rfl) h0
  obtain ⟨s1, n1, c1, V1, rfl, m1, R1⟩ := open_rows2 Try.underlying23 Try.underlying42 (by kernel_rfl) rfl rfl (by kernel_rfl) (by kernel_rfl) (by kernel_rfl) (by kernel_rfl) (hval 1 23 v1 rfl rfl) h1
  clear hA0 hval0
  refine (fnExactPermits_walk W s0 n0 c0 V0 m0 R0 s1 n1 c1 V1 m1 R1).mono fun e W' ⟨he, bel⟩ => ?_
  subst he
  exact ⟨_, rfl, _, _, _, [], _, [], hW', trodAll_mk1 (shut_bool Try.underlying4 _), (trodAll_cons_mk (Below.trod laidOut (by kernel_rfl) (of_decide_eq_true (by kernel_rfl)) k0 bel lt0) (trodAll_cons_mk (Below.trod laidOut (by kernel_rfl) (of_decide_eq_true (by kernel_rfl)) k1 bel lt1) trodAll_mk0)), rfl, bel.frame _, fun h => by cases h⟩

theorem fnExactPermits_holds : Rows.FnExactPermitsSaid :=
  OpenClaim.holds_of_wide 3 Try.f3 rfl rfl rfl rfl rfl rfl rfl ⟨rfl, rfl, rfl, rfl, rfl⟩ rfl rfl rfl rfl rfl (by kernel_rfl) Try.func3 (by kernel_rfl)
    (of_decide_eq_true (by kernel_rfl)) (by unfold Func.isWrapper; first | (rw [if_pos (by decide +kernel)]; kernel_rfl) | (rw [if_neg (by decide +kernel)]; exact ⟨rfl, rfl⟩))
    (fun os started H enc _ => fnExactPermits_lifted os started H enc)
#print axioms fnExactPermits_holds
end Go.Proofs.Ytjkdnlnbkopbpaa
