/-
What is proved: at every list of instructions and every two lists of numbers impl.Exec answers as the specification's Exec, leaves the lists alone, and its answer owns its memory; no condition.
-/
import Derived.Test.YtdbcbhddombheaaExS
import Derived.Test.YtdbcbhddombheaaExI
import Derived.Test.YtdbcbhddombheaaIns2E
import Derived.Test.YtdbcbhddombheaaIns2M
import Derived.Test.YtdbcbhddombheaaOpenI
namespace Go.Proofs.Ytdbcbhddombheaa
set_option maxRecDepth 40000
open Go.ChangeShapes Go.WideShapes Go.ChangeAt Go.RowKit
set_option linter.unusedVariables false
set_option linter.unusedSimpArgs false

set_option maxHeartbeats 400000 in
theorem exec_far1 (w : World) (s0 : Option Addr) (n0 c0 : Nat) (s1 : Option Addr) (n1 c1 : Nat) (h1 : (1048576 : Int) < n1) (s2 : Option Addr) (n2 c2 : Nat) :
    Calls Try.prog 4 #[.slice s0 n0 c0, .slice s1 n1 c1, .slice s2 n2 c2] w fun e w' => e = .returned (.bool true) ∧ Below w.heap.size w w' := by
  go_enter Try.func4, Try.ntmps4
  go_wp2
  go_ret
  exact ⟨rfl, Below.refl _ _⟩

set_option maxHeartbeats 400000 in
theorem exec_far2 (w : World) (s0 : Option Addr) (n0 c0 : Nat) (s1 : Option Addr) (n1 c1 : Nat) (h1 : (n1 : Int) ≤ 1048576) (s2 : Option Addr) (n2 c2 : Nat) (h2 : (1048576 : Int) < n2) :
    Calls Try.prog 4 #[.slice s0 n0 c0, .slice s1 n1 c1, .slice s2 n2 c2] w fun e w' => e = .returned (.bool true) ∧ Below w.heap.size w w' := by
  go_enter Try.func4, Try.ntmps4
  go_wp2
  go_ret
  exact ⟨rfl, Below.refl _ _⟩

set_option maxHeartbeats 400000 in
theorem exec_far0 (w : World) (s0 : Option Addr) (n0 c0 : Nat) (s1 : Option Addr) (n1 c1 : Nat) (h1 : (n1 : Int) ≤ 1048576) (s2 : Option Addr) (n2 c2 : Nat) (h2 : (n2 : Int) ≤ 1048576) (hf : 1048576 < (n0 : Int)) (hf2 : (n0 : Int) ≤ 9223372036854775807) :
    Calls Try.prog 4 #[.slice s0 n0 c0, .slice s1 n1 c1, .slice s2 n2 c2] w fun e w' => e = .returned (.bool true) ∧ Below w.heap.size w w' := by
  go_enter Try.func4, Try.ntmps4
  go_wp2_with fail
  refine (szInstrS_off _ n0 _ _ _ (by omega) (by omega) hf hf2).mono ?_
  rintro e w ⟨rfl, rfl⟩
  go_wp2
  go_ret
  exact ⟨rfl, Below.refl _ _⟩

set_option maxRecDepth 20000 in
set_option maxHeartbeats 4000000 in
theorem exec_near (w : World) (s0 : Option Addr) (n0 c0 : Nat) (V0 : Nat → Int) (hn0 : (n0 : Int) ≤ 1048576) (HR0 : Hid (RowI w s0 (n0 * 2) V0)) (s1 : Option Addr) (n1 c1 : Nat) (V1 : Nat → Int) (hn1 : (n1 : Int) ≤ 1048576) (HR1 : Hid (RowI w s1 n1 V1)) (s2 : Option Addr) (n2 c2 : Nat) (V2 : Nat → Int) (hn2 : (n2 : Int) ≤ 1048576) (HR2 : Hid (RowI w s2 n2 V2)) (m : Nat) (U : Nat → Int) (hm : (m : Int) ≤ 1048576) (r1 : Bool)
    (H1 : Hid (∀ s0 c0 s1 c1 s2 c2 w, RowI w s0 (n0 * 2) V0 → RowI w s1 n1 V1 → RowI w s2 n2 V2 → Calls Try.prog 12 #[.slice s0 n0 c0, .slice s1 n1 c1, .slice s2 n2 c2] w fun e w' => ∃ s' c', e = .returned (.tuple #[(.slice s' m c'), .bool r1]) ∧ OwnI w.heap.size w' s' m U ∧ Below w.heap.size w w'))
    (H2 : Hid (∀ s0 c0 s1 c1 s2 c2 w, RowI w s0 (n0 * 2) V0 → RowI w s1 n1 V1 → RowI w s2 n2 V2 → Calls Try.prog 14 #[.slice s0 n0 c0, .slice s1 n1 c1, .slice s2 n2 c2] w fun e w' => ∃ s' c', e = .returned (.tuple #[(.slice s' m c'), .bool r1]) ∧ OwnI w.heap.size w' s' m U ∧ Below w.heap.size w w')) :
    Calls Try.prog 4 #[.slice s0 n0 c0, .slice s1 n1 c1, .slice s2 n2 c2] w fun e w' => e = .returned (.bool true) ∧ Below w.heap.size w w' := by
  go_enter Try.func4, Try.ntmps4
  go_wp2_with fail
  refine (szInstrS_on _ n0 _ _ _ (by omega) (by omega) (by omega)).mono ?_
  rintro e w ⟨rfl, rfl⟩
  have B0 : Below w.heap.size w w := Below.refl _ _
  go_wp2_with fail
  refine (toInstrS_any _ n0 _ V0 _ hn0 (HR0.out.below B0)).mono ?_
  rintro e w1 ⟨rfl, za0z, Oa0, h⟩
  replace B0 : Below w.heap.size w w1 := B0.trans (h.mono B0.size)
  have Pa0 : Hid (OwnI w.heap.size w1 (some ⟨w.heap.size, 0, none⟩) (n0 * 2) V0) := Oa0
  clear Oa0 h
  go_wp2_with fail
  refine (toInt64S_any _ n1 _ V1 _ hn1 (HR1.out.below B0)).mono ?_
  rintro e w2 ⟨rfl, za1z, Oa1, h⟩
  replace B0 : Below w.heap.size w w2 := B0.trans (h.mono B0.size)
  replace Pa0 : Hid (OwnI w.heap.size w2 (some ⟨w.heap.size, 0, none⟩) (n0 * 2) V0) := Pa0.out.below h
  have Pa1 : Hid (OwnI w1.heap.size w2 (some ⟨w1.heap.size, 0, none⟩) n1 V1) := Oa1
  clear Oa1 h
  go_wp2_with fail
  refine (toInt64S_any _ n2 _ V2 _ hn2 (HR2.out.below B0)).mono ?_
  rintro e w3 ⟨rfl, za2z, Oa2, h⟩
  replace B0 : Below w.heap.size w w3 := B0.trans (h.mono B0.size)
  replace Pa0 : Hid (OwnI w.heap.size w3 (some ⟨w.heap.size, 0, none⟩) (n0 * 2) V0) := Pa0.out.below h
  replace Pa1 : Hid (OwnI w1.heap.size w3 (some ⟨w1.heap.size, 0, none⟩) n1 V1) := Pa1.out.below h
  have Pa2 : Hid (OwnI w2.heap.size w3 (some ⟨w2.heap.size, 0, none⟩) n2 V2) := Oa2
  clear Oa2 h
  clear za0z za1z za2z
  go_wp2_with fail
  refine (H1.out _ _ _ _ _ _ _ (Pa0.out.row) (Pa1.out.row) (Pa2.out.row)).mono ?_
  rintro e w4 ⟨sW, cW, rfl, OW, h⟩
  clear Pa0
  clear Pa1
  clear Pa2
  replace B0 : Below w.heap.size w w4 := B0.trans (h.mono B0.size)
  have RW : Hid (RowI w4 sW m U) := OW.row
  clear OW
  have Bs : Below w4.heap.size w4 w4 := Below.refl _ _
  clear h
  go_wp2_with fail
  have l0_0 : w.heap.size ≤ w4.heap.size := B0.size
  have ls_0 : w4.heap.size ≤ w4.heap.size := Bs.size
  refine (toInstrS_any _ n0 _ V0 _ hn0 (HR0.out.below B0)).mono ?_
  rintro e w5 ⟨rfl, zx0z, Ox0, h⟩
  replace B0 : Below w.heap.size w w5 := B0.trans (h.mono B0.size)
  replace Bs : Below w4.heap.size w4 w5 := Bs.trans (h.mono Bs.size)
  have Px0 : Hid (OwnI w4.heap.size w5 (some ⟨w4.heap.size, 0, none⟩) (n0 * 2) V0) := Ox0
  clear Ox0 h
  have od0 : w4.heap.size < w5.heap.size := zx0z
  have zw4 : w4.heap.size < w5.heap.size := zx0z
  clear zx0z
  go_wp2_with fail
  have l0_1 : w.heap.size ≤ w5.heap.size := B0.size
  have ls_1 : w4.heap.size ≤ w5.heap.size := Bs.size
  refine (toInt64S_any _ n1 _ V1 _ hn1 (HR1.out.below B0)).mono ?_
  rintro e w6 ⟨rfl, zx1z, Ox1, h⟩
  replace B0 : Below w.heap.size w w6 := B0.trans (h.mono B0.size)
  replace Bs : Below w4.heap.size w4 w6 := Bs.trans (h.mono Bs.size)
  replace zw4 : w4.heap.size < w6.heap.size := Nat.lt_of_lt_of_le zw4 h.size
  replace Px0 : Hid (OwnI w4.heap.size w6 (some ⟨w4.heap.size, 0, none⟩) (n0 * 2) V0) := Px0.out.below h
  have Px1 : Hid (OwnI w5.heap.size w6 (some ⟨w5.heap.size, 0, none⟩) n1 V1) := Ox1
  clear Ox1 h
  have od1 : w5.heap.size < w6.heap.size := zx1z
  have zw5 : w5.heap.size < w6.heap.size := zx1z
  clear zx1z
  go_wp2_with fail
  have l0_2 : w.heap.size ≤ w6.heap.size := B0.size
  have ls_2 : w4.heap.size ≤ w6.heap.size := Bs.size
  refine (toInt64S_any _ n2 _ V2 _ hn2 (HR2.out.below B0)).mono ?_
  rintro e w7 ⟨rfl, zx2z, Ox2, h⟩
  replace B0 : Below w.heap.size w w7 := B0.trans (h.mono B0.size)
  replace Bs : Below w4.heap.size w4 w7 := Bs.trans (h.mono Bs.size)
  replace zw4 : w4.heap.size < w7.heap.size := Nat.lt_of_lt_of_le zw4 h.size
  replace zw5 : w5.heap.size < w7.heap.size := Nat.lt_of_lt_of_le zw5 h.size
  replace Px0 : Hid (OwnI w4.heap.size w7 (some ⟨w4.heap.size, 0, none⟩) (n0 * 2) V0) := Px0.out.below h
  replace Px1 : Hid (OwnI w5.heap.size w7 (some ⟨w5.heap.size, 0, none⟩) n1 V1) := Px1.out.below h
  have Px2 : Hid (OwnI w6.heap.size w7 (some ⟨w6.heap.size, 0, none⟩) n2 V2) := Ox2
  clear Ox2 h
  have od2 : w6.heap.size < w7.heap.size := zx2z
  have zw6 : w6.heap.size < w7.heap.size := zx2z
  clear zx2z
  go_wp2_with fail
  refine (H2.out _ _ _ _ _ _ _ (Px0.out.row) (Px1.out.row) (Px2.out.row)).mono ?_
  rintro e w8 ⟨sG, cG, rfl, OG, h⟩
  have l0 : w.heap.size ≤ w7.heap.size := B0.size
  have ls : w4.heap.size ≤ w7.heap.size := Bs.size
  have lx0 : w4.heap.size < w7.heap.size := zw4
  have lx1 : w5.heap.size < w7.heap.size := zw5
  have lx2 : w6.heap.size < w7.heap.size := zw6
  have lg : w7.heap.size ≤ w8.heap.size := h.size
  have lgy : w7.heap.size ≤ w8.heap.size := h.size
  replace B0 : Below w.heap.size w w8 := B0.trans (h.mono B0.size)
  replace Bs : Below w4.heap.size w4 w8 := Bs.trans (h.mono Bs.size)
  replace zw4 : w4.heap.size < w8.heap.size := Nat.lt_of_lt_of_le zw4 h.size
  replace zw5 : w5.heap.size < w8.heap.size := Nat.lt_of_lt_of_le zw5 h.size
  replace zw6 : w6.heap.size < w8.heap.size := Nat.lt_of_lt_of_le zw6 h.size
  replace Px0 : Hid (OwnI w4.heap.size w8 (some ⟨w4.heap.size, 0, none⟩) (n0 * 2) V0) := Px0.out.below h
  replace Px1 : Hid (OwnI w5.heap.size w8 (some ⟨w5.heap.size, 0, none⟩) n1 V1) := Px1.out.below h
  replace Px2 : Hid (OwnI w6.heap.size w8 (some ⟨w6.heap.size, 0, none⟩) n2 V2) := Px2.out.below h
  have Pg : Hid (OwnI w7.heap.size w8 sG m U) := OG
  clear OG
  clear h
  go_wp2_with fail
  refine (eqInt64S_any _ _ m _ _ U _ hm Pg.out.row (RW.out.below Bs)).mono ?_
  rintro e w9 ⟨rfl, h⟩
  replace B0 : Below w.heap.size w w9 := B0.trans (h.mono B0.size)
  replace Bs : Below w4.heap.size w4 w9 := Bs.trans (h.mono Bs.size)
  replace zw4 : w4.heap.size < w9.heap.size := Nat.lt_of_lt_of_le zw4 h.size
  replace zw5 : w5.heap.size < w9.heap.size := Nat.lt_of_lt_of_le zw5 h.size
  replace zw6 : w6.heap.size < w9.heap.size := Nat.lt_of_lt_of_le zw6 h.size
  replace lg : w7.heap.size ≤ w9.heap.size := Nat.le_trans lg h.size
  replace Px0 : Hid (OwnI w4.heap.size w9 (some ⟨w4.heap.size, 0, none⟩) (n0 * 2) V0) := Px0.out.below h
  replace Px1 : Hid (OwnI w5.heap.size w9 (some ⟨w5.heap.size, 0, none⟩) n1 V1) := Px1.out.below h
  replace Px2 : Hid (OwnI w6.heap.size w9 (some ⟨w6.heap.size, 0, none⟩) n2 V2) := Px2.out.below h
  replace Pg : Hid (OwnI w7.heap.size w9 sG m U) := Pg.out.below h
  clear h
  cases r1
  all_goals
    go_wp2_with fail
    refine (toInstrS_any _ n0 _ V0 _ hn0 (HR0.out.below B0)).mono ?_
    rintro e w10 ⟨rfl, zy0z, Oy0, h⟩
    replace B0 : Below w.heap.size w w10 := B0.trans (h.mono B0.size)
    replace Bs : Below w4.heap.size w4 w10 := Bs.trans (h.mono Bs.size)
    replace zw4 : w4.heap.size < w10.heap.size := Nat.lt_of_lt_of_le zw4 h.size
    replace zw5 : w5.heap.size < w10.heap.size := Nat.lt_of_lt_of_le zw5 h.size
    replace zw6 : w6.heap.size < w10.heap.size := Nat.lt_of_lt_of_le zw6 h.size
    replace lg : w7.heap.size ≤ w10.heap.size := Nat.le_trans lg h.size
    replace Px0 : Hid (OwnI w4.heap.size w10 (some ⟨w4.heap.size, 0, none⟩) (n0 * 2) V0) := Px0.out.below h
    replace Px1 : Hid (OwnI w5.heap.size w10 (some ⟨w5.heap.size, 0, none⟩) n1 V1) := Px1.out.below h
    replace Px2 : Hid (OwnI w6.heap.size w10 (some ⟨w6.heap.size, 0, none⟩) n2 V2) := Px2.out.below h
    replace Pg : Hid (OwnI w7.heap.size w10 sG m U) := Pg.out.below h
    have Py0 : Hid (OwnI w9.heap.size w10 (some ⟨w9.heap.size, 0, none⟩) (n0 * 2) V0) := Oy0
    clear Oy0 h
    clear zy0z
    go_wp2_with fail
    refine (eqInstrS_any _ _ n0 _ _ V0 _ hn0 Px0.out.row Py0.out.row).mono ?_
    rintro e w11 ⟨rfl, h⟩
    replace B0 : Below w.heap.size w w11 := B0.trans (h.mono B0.size)
    replace Bs : Below w4.heap.size w4 w11 := Bs.trans (h.mono Bs.size)
    replace zw4 : w4.heap.size < w11.heap.size := Nat.lt_of_lt_of_le zw4 h.size
    replace zw5 : w5.heap.size < w11.heap.size := Nat.lt_of_lt_of_le zw5 h.size
    replace zw6 : w6.heap.size < w11.heap.size := Nat.lt_of_lt_of_le zw6 h.size
    replace lg : w7.heap.size ≤ w11.heap.size := Nat.le_trans lg h.size
    replace Px0 : Hid (OwnI w4.heap.size w11 (some ⟨w4.heap.size, 0, none⟩) (n0 * 2) V0) := Px0.out.below h
    replace Px1 : Hid (OwnI w5.heap.size w11 (some ⟨w5.heap.size, 0, none⟩) n1 V1) := Px1.out.below h
    replace Px2 : Hid (OwnI w6.heap.size w11 (some ⟨w6.heap.size, 0, none⟩) n2 V2) := Px2.out.below h
    replace Pg : Hid (OwnI w7.heap.size w11 sG m U) := Pg.out.below h
    clear h
    clear Py0
    go_wp2_with fail
    refine (toInt64S_any _ n1 _ V1 _ hn1 (HR1.out.below B0)).mono ?_
    rintro e w12 ⟨rfl, zy1z, Oy1, h⟩
    replace B0 : Below w.heap.size w w12 := B0.trans (h.mono B0.size)
    replace Bs : Below w4.heap.size w4 w12 := Bs.trans (h.mono Bs.size)
    replace zw4 : w4.heap.size < w12.heap.size := Nat.lt_of_lt_of_le zw4 h.size
    replace zw5 : w5.heap.size < w12.heap.size := Nat.lt_of_lt_of_le zw5 h.size
    replace zw6 : w6.heap.size < w12.heap.size := Nat.lt_of_lt_of_le zw6 h.size
    replace lg : w7.heap.size ≤ w12.heap.size := Nat.le_trans lg h.size
    replace Px0 : Hid (OwnI w4.heap.size w12 (some ⟨w4.heap.size, 0, none⟩) (n0 * 2) V0) := Px0.out.below h
    replace Px1 : Hid (OwnI w5.heap.size w12 (some ⟨w5.heap.size, 0, none⟩) n1 V1) := Px1.out.below h
    replace Px2 : Hid (OwnI w6.heap.size w12 (some ⟨w6.heap.size, 0, none⟩) n2 V2) := Px2.out.below h
    replace Pg : Hid (OwnI w7.heap.size w12 sG m U) := Pg.out.below h
    have Py1 : Hid (OwnI w11.heap.size w12 (some ⟨w11.heap.size, 0, none⟩) n1 V1) := Oy1
    clear Oy1 h
    clear zy1z
    go_wp2_with fail
    refine (eqInt64S_any _ _ n1 _ _ V1 _ hn1 Px1.out.row Py1.out.row).mono ?_
    rintro e w13 ⟨rfl, h⟩
    replace B0 : Below w.heap.size w w13 := B0.trans (h.mono B0.size)
    replace Bs : Below w4.heap.size w4 w13 := Bs.trans (h.mono Bs.size)
    replace zw4 : w4.heap.size < w13.heap.size := Nat.lt_of_lt_of_le zw4 h.size
    replace zw5 : w5.heap.size < w13.heap.size := Nat.lt_of_lt_of_le zw5 h.size
    replace zw6 : w6.heap.size < w13.heap.size := Nat.lt_of_lt_of_le zw6 h.size
    replace lg : w7.heap.size ≤ w13.heap.size := Nat.le_trans lg h.size
    replace Px0 : Hid (OwnI w4.heap.size w13 (some ⟨w4.heap.size, 0, none⟩) (n0 * 2) V0) := Px0.out.below h
    replace Px1 : Hid (OwnI w5.heap.size w13 (some ⟨w5.heap.size, 0, none⟩) n1 V1) := Px1.out.below h
    replace Px2 : Hid (OwnI w6.heap.size w13 (some ⟨w6.heap.size, 0, none⟩) n2 V2) := Px2.out.below h
    replace Pg : Hid (OwnI w7.heap.size w13 sG m U) := Pg.out.below h
    clear h
    clear Py1
    go_wp2_with fail
    refine (toInt64S_any _ n2 _ V2 _ hn2 (HR2.out.below B0)).mono ?_
    rintro e w14 ⟨rfl, zy2z, Oy2, h⟩
    replace B0 : Below w.heap.size w w14 := B0.trans (h.mono B0.size)
    replace Bs : Below w4.heap.size w4 w14 := Bs.trans (h.mono Bs.size)
    replace zw4 : w4.heap.size < w14.heap.size := Nat.lt_of_lt_of_le zw4 h.size
    replace zw5 : w5.heap.size < w14.heap.size := Nat.lt_of_lt_of_le zw5 h.size
    replace zw6 : w6.heap.size < w14.heap.size := Nat.lt_of_lt_of_le zw6 h.size
    replace lg : w7.heap.size ≤ w14.heap.size := Nat.le_trans lg h.size
    replace Px0 : Hid (OwnI w4.heap.size w14 (some ⟨w4.heap.size, 0, none⟩) (n0 * 2) V0) := Px0.out.below h
    replace Px1 : Hid (OwnI w5.heap.size w14 (some ⟨w5.heap.size, 0, none⟩) n1 V1) := Px1.out.below h
    replace Px2 : Hid (OwnI w6.heap.size w14 (some ⟨w6.heap.size, 0, none⟩) n2 V2) := Px2.out.below h
    replace Pg : Hid (OwnI w7.heap.size w14 sG m U) := Pg.out.below h
    have Py2 : Hid (OwnI w13.heap.size w14 (some ⟨w13.heap.size, 0, none⟩) n2 V2) := Oy2
    clear Oy2 h
    clear zy2z
    go_wp2_with fail
    refine (eqInt64S_any _ _ n2 _ _ V2 _ hn2 Px2.out.row Py2.out.row).mono ?_
    rintro e w15 ⟨rfl, h⟩
    replace B0 : Below w.heap.size w w15 := B0.trans (h.mono B0.size)
    replace Bs : Below w4.heap.size w4 w15 := Bs.trans (h.mono Bs.size)
    replace zw4 : w4.heap.size < w15.heap.size := Nat.lt_of_lt_of_le zw4 h.size
    replace zw5 : w5.heap.size < w15.heap.size := Nat.lt_of_lt_of_le zw5 h.size
    replace zw6 : w6.heap.size < w15.heap.size := Nat.lt_of_lt_of_le zw6 h.size
    replace lg : w7.heap.size ≤ w15.heap.size := Nat.le_trans lg h.size
    replace Px0 : Hid (OwnI w4.heap.size w15 (some ⟨w4.heap.size, 0, none⟩) (n0 * 2) V0) := Px0.out.below h
    replace Px1 : Hid (OwnI w5.heap.size w15 (some ⟨w5.heap.size, 0, none⟩) n1 V1) := Px1.out.below h
    replace Px2 : Hid (OwnI w6.heap.size w15 (some ⟨w6.heap.size, 0, none⟩) n2 V2) := Px2.out.below h
    replace Pg : Hid (OwnI w7.heap.size w15 sG m U) := Pg.out.below h
    clear h
    clear Py2
    go_wp2_with fail
    refine (markInstrS_own w4.heap.size _ n0 _ _ V0 _ hn0 (by omega) (by omega) (by omega) Px0.out).mono ?_
    rintro e w16 ⟨rfl, h, hs⟩
    have hs := hs _ rfl
    replace B0 : Below w.heap.size w w16 := B0.trans (h.mono (by omega))
    replace Bs : Below w4.heap.size w4 w16 := Bs.trans (h.mono (by omega))
    replace zw4 : w4.heap.size < w16.heap.size := Nat.lt_of_lt_of_le zw4 h.size
    replace zw5 : w5.heap.size < w16.heap.size := Nat.lt_of_lt_of_le zw5 h.size
    replace zw6 : w6.heap.size < w16.heap.size := Nat.lt_of_lt_of_le zw6 h.size
    replace lg : w7.heap.size ≤ w16.heap.size := Nat.le_trans lg h.size
    clear Px0
    replace Px1 : Hid (OwnI w5.heap.size w16 (some ⟨w5.heap.size, 0, none⟩) n1 V1) := Px1.out.beside hs (by omega)
    replace Px2 : Hid (OwnI w6.heap.size w16 (some ⟨w6.heap.size, 0, none⟩) n2 V2) := Px2.out.beside hs (by omega)
    replace Pg : Hid (OwnI w7.heap.size w16 sG m U) := Pg.out.beside hs (by omega)
    clear h hs
    go_wp2_with fail
    refine (markInt64S_own w5.heap.size _ n1 _ _ V1 _ hn1 (by omega) (by omega) (by omega) Px1.out).mono ?_
    rintro e w17 ⟨rfl, -, h, hs⟩
    have hs := hs _ rfl
    replace B0 : Below w.heap.size w w17 := B0.trans (h.mono (by omega))
    replace Bs : Below w4.heap.size w4 w17 := Bs.trans (h.mono (by omega))
    replace zw4 : w4.heap.size < w17.heap.size := Nat.lt_of_lt_of_le zw4 h.size
    replace zw5 : w5.heap.size < w17.heap.size := Nat.lt_of_lt_of_le zw5 h.size
    replace zw6 : w6.heap.size < w17.heap.size := Nat.lt_of_lt_of_le zw6 h.size
    replace lg : w7.heap.size ≤ w17.heap.size := Nat.le_trans lg h.size
    clear Px1
    replace Px2 : Hid (OwnI w6.heap.size w17 (some ⟨w6.heap.size, 0, none⟩) n2 V2) := Px2.out.beside hs (by omega)
    replace Pg : Hid (OwnI w7.heap.size w17 sG m U) := Pg.out.beside hs (by omega)
    clear h hs
    go_wp2_with fail
    refine (markInt64S_own w6.heap.size _ n2 _ _ V2 _ hn2 (by omega) (by omega) (by omega) Px2.out).mono ?_
    rintro e w18 ⟨rfl, -, h, hs⟩
    have hs := hs _ rfl
    replace B0 : Below w.heap.size w w18 := B0.trans (h.mono (by omega))
    replace Bs : Below w4.heap.size w4 w18 := Bs.trans (h.mono (by omega))
    replace zw4 : w4.heap.size < w18.heap.size := Nat.lt_of_lt_of_le zw4 h.size
    replace zw5 : w5.heap.size < w18.heap.size := Nat.lt_of_lt_of_le zw5 h.size
    replace zw6 : w6.heap.size < w18.heap.size := Nat.lt_of_lt_of_le zw6 h.size
    replace lg : w7.heap.size ≤ w18.heap.size := Nat.le_trans lg h.size
    clear Px2
    replace Pg : Hid (OwnI w7.heap.size w18 sG m U) := Pg.out.beside hs (by omega)
    clear h hs
    go_wp2_with fail
    refine (eqInt64S_any _ _ m _ _ U _ hm Pg.out.row (RW.out.below Bs)).mono ?_
    rintro e w19 ⟨rfl, h⟩
    replace B0 : Below w.heap.size w w19 := B0.trans (h.mono B0.size)
    replace Bs : Below w4.heap.size w4 w19 := Bs.trans (h.mono Bs.size)
    replace zw4 : w4.heap.size < w19.heap.size := Nat.lt_of_lt_of_le zw4 h.size
    replace zw5 : w5.heap.size < w19.heap.size := Nat.lt_of_lt_of_le zw5 h.size
    replace zw6 : w6.heap.size < w19.heap.size := Nat.lt_of_lt_of_le zw6 h.size
    replace lg : w7.heap.size ≤ w19.heap.size := Nat.le_trans lg h.size
    replace Pg : Hid (OwnI w7.heap.size w19 sG m U) := Pg.out.below h
    clear h
    go_wp2_with fail
    refine (markInt64S_own w7.heap.size _ m _ _ U _ hm (by omega) (by omega) lg Pg.out).mono ?_
    rintro e w20 ⟨rfl, OG, h, -⟩
    clear Pg
    replace B0 : Below w.heap.size w w20 := B0.trans (h.mono l0)
    replace Bs : Below w4.heap.size w4 w20 := Bs.trans (h.mono ls)
    clear h lg
    have PG : Hid (OwnI w7.heap.size w20 sG m (fun j => 1 + (j : Int))) := OG
    clear OG
    go_wp2_with fail
    refine (heldInt64S_any _ m _ 1 _ hm (by omega) (by omega) PG.out.row).mono ?_
    rintro e w20 ⟨rfl, rfl⟩
    go_wp2_with fail
    refine (toInstrS_any _ n0 _ V0 _ hn0 (HR0.out.below B0)).mono ?_
    rintro e w21 ⟨rfl, zv0z, Ov0, h⟩
    replace B0 : Below w.heap.size w w21 := B0.trans (h.mono B0.size)
    replace Bs : Below w4.heap.size w4 w21 := Bs.trans (h.mono Bs.size)
    replace PG : Hid (OwnI w7.heap.size w21 sG m (fun j => 1 + (j : Int))) := PG.out.below h
    have Pv0 : Hid (OwnI w20.heap.size w21 (some ⟨w20.heap.size, 0, none⟩) (n0 * 2) V0) := Ov0
    clear Ov0 h
    clear zv0z
    go_wp2_with fail
    refine (toInt64S_any _ n1 _ V1 _ hn1 (HR1.out.below B0)).mono ?_
    rintro e w22 ⟨rfl, zv1z, Ov1, h⟩
    replace B0 : Below w.heap.size w w22 := B0.trans (h.mono B0.size)
    replace Bs : Below w4.heap.size w4 w22 := Bs.trans (h.mono Bs.size)
    replace PG : Hid (OwnI w7.heap.size w22 sG m (fun j => 1 + (j : Int))) := PG.out.below h
    replace Pv0 : Hid (OwnI w20.heap.size w22 (some ⟨w20.heap.size, 0, none⟩) (n0 * 2) V0) := Pv0.out.below h
    have Pv1 : Hid (OwnI w21.heap.size w22 (some ⟨w21.heap.size, 0, none⟩) n1 V1) := Ov1
    clear Ov1 h
    clear zv1z
    go_wp2_with fail
    refine (toInt64S_any _ n2 _ V2 _ hn2 (HR2.out.below B0)).mono ?_
    rintro e w23 ⟨rfl, zv2z, Ov2, h⟩
    replace B0 : Below w.heap.size w w23 := B0.trans (h.mono B0.size)
    replace Bs : Below w4.heap.size w4 w23 := Bs.trans (h.mono Bs.size)
    replace PG : Hid (OwnI w7.heap.size w23 sG m (fun j => 1 + (j : Int))) := PG.out.below h
    replace Pv0 : Hid (OwnI w20.heap.size w23 (some ⟨w20.heap.size, 0, none⟩) (n0 * 2) V0) := Pv0.out.below h
    replace Pv1 : Hid (OwnI w21.heap.size w23 (some ⟨w21.heap.size, 0, none⟩) n1 V1) := Pv1.out.below h
    have Pv2 : Hid (OwnI w22.heap.size w23 (some ⟨w22.heap.size, 0, none⟩) n2 V2) := Ov2
    clear Ov2 h
    clear zv2z
    go_wp2_with fail
    refine (H2.out _ _ _ _ _ _ _ (Pv0.out.row) (Pv1.out.row) (Pv2.out.row)).mono ?_
    rintro e w24 ⟨sH, cH, rfl, OH, h⟩
    clear Pv0
    clear Pv1
    clear Pv2
    replace B0 : Below w.heap.size w w24 := B0.trans (h.mono B0.size)
    replace Bs : Below w4.heap.size w4 w24 := Bs.trans (h.mono Bs.size)
    replace PG : Hid (OwnI w7.heap.size w24 sG m (fun j => 1 + (j : Int))) := PG.out.below h
    have Ph : Hid (OwnI w23.heap.size w24 sH m U) := OH
    clear OH h
    go_wp2_with fail
    refine (eqInt64S_any _ _ m _ _ U _ hm Ph.out.row (RW.out.below Bs)).mono ?_
    rintro e w25 ⟨rfl, h⟩
    replace B0 : Below w.heap.size w w25 := B0.trans (h.mono B0.size)
    replace Bs : Below w4.heap.size w4 w25 := Bs.trans (h.mono Bs.size)
    replace PG : Hid (OwnI w7.heap.size w25 sG m (fun j => 1 + (j : Int))) := PG.out.below h
    replace Ph : Hid (OwnI w23.heap.size w25 sH m U) := Ph.out.below h
    clear h
    go_wp2_with fail
    refine (heldInt64S_any _ m _ 1 _ hm (by omega) (by omega) PG.out.row).mono ?_
    rintro e w25 ⟨rfl, rfl⟩
    go_wp2
    go_ret
    exact ⟨rfl, B0⟩

theorem exM_le {b : Bool} {a : Nat} (h : (a : Int) ≤ 1048576) : ((if b = true then a else 0 : Nat) : Int) ≤ 1048576 := by split <;> omega
theorem fnExactExec_walk (w : World) (s0 : Option Addr) (n0 c0 : Nat) (V0 : Nat → Int) (m0 : n0 ≤ 9223372036854775807) (R0 : RowI w s0 (n0 * 2) V0) (s1 : Option Addr) (n1 c1 : Nat) (V1 : Nat → Int) (m1 : n1 ≤ 9223372036854775807) (R1 : RowI w s1 n1 V1) (w1 : ∀ j, j < n1 → -9223372036854775808 ≤ V1 j ∧ V1 j ≤ 9223372036854775807) (s2 : Option Addr) (n2 c2 : Nat) (V2 : Nat → Int) (m2 : n2 ≤ 9223372036854775807) (R2 : RowI w s2 n2 V2) (w2 : ∀ j, j < n2 → -9223372036854775808 ≤ V2 j ∧ V2 j ≤ 9223372036854775807) :
    Calls Try.prog 4 #[.slice s0 n0 c0, .slice s1 n1 c1, .slice s2 n2 c2] w fun e w' => e = .returned (.bool true) ∧ Below w.heap.size w w' := by
  by_cases h1 : (n1 : Int) ≤ 1048576
  · by_cases h2 : (n2 : Int) ≤ 1048576
    · by_cases h0 : (n0 : Int) ≤ 1048576
      · exact exec_near w s0 n0 c0 V0 h0 R0 s1 n1 c1 V1 h1 R1 s2 n2 c2 V2 h2 R2 (if exB n0 V0 n1 V1 n2 V2 = true then n1 else 0) (exK V0 V1 V2 n0).N (exM_le h1) (exB n0 V0 n1 V1 n2 V2) (fun s c s2 c2 s3 c3 w q q2 q3 => specExec_any s n0 c V0 s2 n1 c2 V1 s3 n2 c3 V2 w h0 h1 h2 q q2 q3) (fun s c s2 c2 s3 c3 w q q2 q3 => implExec_any s n0 c V0 s2 n1 c2 V1 s3 n2 c3 V2 w h0 h1 h2 q q2 q3)
      · exact exec_far0 w s0 n0 c0 s1 n1 c1 h1 s2 n2 c2 h2 (by omega) (by omega)
    · exact exec_far2 w s0 n0 c0 s1 n1 c1 h1 s2 n2 c2 (by omega)
  · exact exec_far1 w s0 n0 c0 s1 n1 c1 (by omega) s2 n2 c2

set_option maxRecDepth 100000 in
theorem fnExactExec_lifted (os : Os) (started : os.Started) (H : Type) (enc : TypeId × Value → H) :
    ReturnsInHanded {} Try.checked os 4 .any (Rows.fnExactExecSpec.pre6 enc Try.prog Try.f4 Rows.fnExactExecRow.domain false) (Rows.fnExactExecSpec.post enc Try.prog Try.f4 false true false false) := by
  refine returnsInHanded_of_change (C := Try.checked) own started (by kernel_rfl) Try.func4
    (ChangeSpec.witness6 (enc := enc) (C := Try.checked) false ⟨#[], #[.slice none 0 0, .slice none 0 0, .slice none 0 0], []⟩ 8 (by kernel_rfl) (by kernel_rfl) (by kernel_rfl) (by kernel_rfl)) ?_
  intro W base args ds gs before hval0 hW hcnd _
  have hval : ∀ (j : Nat) t v, Try.f4.params[j]? = some t → args[j]? = some v → Value.okWide Try.prog W .any base t v := hval0
  have hW' := hW
  obtain ⟨p, q, hA0, hV, rfl, hfz, hnd⟩ := hW
  have hA : DataW.TrodAll enc Try.prog W 0 (fun _ => true) true Try.f4.params.toList args.toList ds p := hA0
  rw [Try.params4] at hA hval
  obtain ⟨v0, vs0, d0, ds0, p0, q0, hargs, rfl, rfl, h0, r0⟩ := trodAll_cons hA
  obtain ⟨v1, vs1, d1, ds1, p1, q1, rfl, rfl, rfl, h1, r1⟩ := trodAll_cons r0
  obtain ⟨v2, vs2, d2, ds2, p2, q2, rfl, rfl, rfl, h2, r2⟩ := trodAll_cons r1
  obtain ⟨rfl, rfl, rfl⟩ := trodAll_nil r2
  obtain rfl : args = #[v0, v1, v2] := by cases args; simp_all
  obtain ⟨rfl, rfl⟩ := trodVars_none hV
  have k0 := h0
  have lt0 : ∀ x ∈ p0, x.block < W.heap.size := by obtain ⟨m, hm⟩ := k0; exact DataW.trod_lt m _ _ _ hm
  have k1 := h1
  have lt1 : ∀ x ∈ p1, x.block < W.heap.size := by obtain ⟨m, hm⟩ := k1; exact DataW.trod_lt m _ _ _ hm
  have k2 := h2
  have lt2 : ∀ x ∈ p2, x.block < W.heap.size := by obtain ⟨m, hm⟩ := k2; exact DataW.trod_lt m _ _ _ hm
  obtain ⟨s0, n0, c0, V0, rfl, m0, R0⟩ := open_rows2 Try.underlying22 Try.underlying56 (by kernel_rfl) rfl rfl (by kernel_rfl) (by kernel_rfl) (by kernel_rfl) (by kernel_rfl) (hval 0 22 v0 rfl rfl) h0
  obtain ⟨s1, n1, c1, V1, rfl, m1, R1, w1⟩ := open_i64s Try.underlying29 Try.underlying2 (by kernel_rfl) (hval 1 29 v1 rfl rfl) h1
  obtain ⟨s2, n2, c2, V2, rfl, m2, R2, w2⟩ := open_i64s Try.underlying29 Try.underlying2 (by kernel_rfl) (hval 2 29 v2 rfl rfl) h2
  clear hA0 hval0
  refine (fnExactExec_walk W s0 n0 c0 V0 m0 R0 s1 n1 c1 V1 m1 R1 w1 s2 n2 c2 V2 m2 R2 w2).mono fun e W' ⟨he, bel⟩ => ?_
  subst he
  exact ⟨_, rfl, _, _, _, [], _, [], hW', trodAll_mk1 (shut_bool Try.underlying4 _), (trodAll_cons_mk (Below.trod laidOut (by kernel_rfl) (of_decide_eq_true (by kernel_rfl)) k0 bel lt0) (trodAll_cons_mk (Below.trod laidOut (by kernel_rfl) (of_decide_eq_true (by kernel_rfl)) k1 bel lt1) (trodAll_cons_mk (Below.trod laidOut (by kernel_rfl) (of_decide_eq_true (by kernel_rfl)) k2 bel lt2) trodAll_mk0))), rfl, bel.frame _, fun h => by cases h⟩

theorem fnExactExec_holds : Rows.FnExactExecSaid :=
  OpenClaim.holds_of_wide 4 Try.f4 rfl rfl rfl rfl rfl rfl rfl ⟨rfl, rfl, rfl, rfl, rfl⟩ rfl rfl rfl rfl rfl (by kernel_rfl) Try.func4 (by kernel_rfl)
    (of_decide_eq_true (by kernel_rfl)) (by unfold Func.isWrapper; first | (rw [if_pos (by decide +kernel)]; kernel_rfl) | (rw [if_neg (by decide +kernel)]; exact ⟨rfl, rfl⟩))
    (fun os started H enc _ => fnExactExec_lifted os started H enc)
#print axioms fnExactExec_holds
end Go.Proofs.Ytdbcbhddombheaa
