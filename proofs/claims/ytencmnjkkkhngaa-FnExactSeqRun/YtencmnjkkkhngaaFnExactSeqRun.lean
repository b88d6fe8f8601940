/-
What is proved: at every list of steps and every list of ticks impl.SeqRun answers as the specification's SeqRun, leaves the lists alone, and its answer owns its memory; no condition.
-/
import Derived.Test.YtencmnjkkkhngaaSrS
import Derived.Test.YtencmnjkkkhngaaSrI
import Derived.Test.YtencmnjkkkhngaaPlnE
import Derived.Test.YtencmnjkkkhngaaPlnM
import Derived.Test.YtencmnjkkkhngaaTksE
import Derived.Test.YtencmnjkkkhngaaTksM
namespace Go.Proofs.Ytencmnjkkkhngaa
set_option maxRecDepth 40000
open Go.ChangeShapes Go.WideShapes Go.ChangeAt Go.RowKit
set_option linter.unusedVariables false
set_option linter.unusedSimpArgs false

set_option maxHeartbeats 400000 in
theorem seqRun_far0 (w : World) (s0 : Option Addr) (n0 c0 : Nat) (s1 : Option Addr) (n1 c1 : Nat) (hf : 1048576 < (n0 : Int)) (hf2 : (n0 : Int) ≤ 9223372036854775807) :
    Calls Try.prog 5 #[.slice s0 n0 c0, .slice s1 n1 c1] w fun e w' => e = .returned (.bool true) ∧ Below w.heap.size w w' := by
  go_enter Try.func5, Try.ntmps5
  go_wp2_with fail
  refine (szStepS_off _ n0 _ _ _ (by omega) (by omega) hf hf2).mono ?_
  rintro e w ⟨rfl, rfl⟩
  go_wp2
  go_ret
  exact ⟨rfl, Below.refl _ _⟩

set_option maxHeartbeats 400000 in
theorem seqRun_far1 (w : World) (s0 : Option Addr) (n0 c0 : Nat) (h0 : (n0 : Int) ≤ 1048576) (s1 : Option Addr) (n1 c1 : Nat) (hf : 1048576 - (n0 : Int) < (n1 : Int)) (hf2 : (n1 : Int) ≤ 9223372036854775807) :
    Calls Try.prog 5 #[.slice s0 n0 c0, .slice s1 n1 c1] w fun e w' => e = .returned (.bool true) ∧ Below w.heap.size w w' := by
  go_enter Try.func5, Try.ntmps5
  go_wp2_with fail
  refine (szStepS_on _ n0 _ _ _ (by omega) (by omega) (by omega)).mono ?_
  rintro e w ⟨rfl, rfl⟩
  go_wp2_with fail
  refine (szTickS_off _ n1 _ _ _ (by omega) (by omega) hf hf2).mono ?_
  rintro e w ⟨rfl, rfl⟩
  go_wp2
  go_ret
  exact ⟨rfl, Below.refl _ _⟩

set_option maxRecDepth 20000 in
set_option maxHeartbeats 4000000 in
theorem seqRun_near (w : World) (s0 : Option Addr) (n0 c0 : Nat) (V0 : Nat → Int) (hn0 : (n0 : Int) ≤ 1048576) (HR0 : Hid (RowI w s0 (n0 * 5) V0)) (s1 : Option Addr) (n1 c1 : Nat) (V1 : Nat → Int × Bool) (hn1 : (n1 : Int) ≤ 1048576) (HR1 : Hid (RowTick w s1 n1 V1)) (m : Nat) (U : Nat → Int) (hm : (m : Int) ≤ 1048576) (hl1 : (n1 : Int) ≤ 1048576 - (n0 : Int)) (r1_0 : Int) (r1_1 : Int) (r2 : Bool)
    (H1 : Hid (∀ s0 c0 s1 c1 w, RowI w s0 (n0 * 5) V0 → RowTick w s1 n1 V1 → Calls Try.prog 18 #[.slice s0 n0 c0, .slice s1 n1 c1] w fun e w' => ∃ s' c', e = .returned (.tuple #[(.slice s' m c'), .agg #[.int .i64 r1_0, .int .i64 r1_1], .bool r2]) ∧ OwnI w.heap.size w' s' m U ∧ Below w.heap.size w w'))
    (H2 : Hid (∀ s0 c0 s1 c1 w, RowI w s0 (n0 * 5) V0 → RowTick w s1 n1 V1 → Calls Try.prog 20 #[.slice s0 n0 c0, .slice s1 n1 c1] w fun e w' => ∃ s' c', e = .returned (.tuple #[(.slice s' m c'), .agg #[.int .i64 r1_0, .int .i64 r1_1], .bool r2]) ∧ OwnI w.heap.size w' s' m U ∧ Below w.heap.size w w')) :
    Calls Try.prog 5 #[.slice s0 n0 c0, .slice s1 n1 c1] w fun e w' => e = .returned (.bool true) ∧ Below w.heap.size w w' := by
  go_enter Try.func5, Try.ntmps5
  go_wp2_with fail
  refine (szStepS_on _ n0 _ _ _ (by omega) (by omega) (by omega)).mono ?_
  rintro e w ⟨rfl, rfl⟩
  go_wp2_with fail
  refine (szTickS_on _ n1 _ _ _ (by omega) (by omega) (by omega)).mono ?_
  rintro e w ⟨rfl, rfl⟩
  have B0 : Below w.heap.size w w := Below.refl _ _
  go_wp2_with fail
  refine (toStepS_any _ n0 _ V0 _ hn0 (HR0.out.below B0)).mono ?_
  rintro e w1 ⟨rfl, za0z, Oa0, h⟩
  replace B0 : Below w.heap.size w w1 := B0.trans (h.mono B0.size)
  have Pa0 : Hid (OwnI w.heap.size w1 (some ⟨w.heap.size, 0, none⟩) (n0 * 5) V0) := Oa0
  clear Oa0 h
  go_wp2_with fail
  refine (toTickS_any _ n1 _ V1 _ hn1 (HR1.out.below B0)).mono ?_
  rintro e w2 ⟨rfl, za1z, Oa1, h⟩
  replace B0 : Below w.heap.size w w2 := B0.trans (h.mono B0.size)
  replace Pa0 : Hid (OwnI w.heap.size w2 (some ⟨w.heap.size, 0, none⟩) (n0 * 5) V0) := Pa0.out.below h
  have Pa1 : Hid (OwnTick w1.heap.size w2 (some ⟨w1.heap.size, 0, none⟩) n1 V1) := Oa1
  clear Oa1 h
  clear za0z za1z
  go_wp2_with fail
  refine (H1.out _ _ _ _ _ (Pa0.out.row) (Pa1.out.row)).mono ?_
  rintro e w3 ⟨sW, cW, rfl, OW, h⟩
  clear Pa0
  clear Pa1
  replace B0 : Below w.heap.size w w3 := B0.trans (h.mono B0.size)
  have RW : Hid (RowI w3 sW m U) := OW.row
  clear OW
  have Bs : Below w3.heap.size w3 w3 := Below.refl _ _
  clear h
  go_wp2_with fail
  obtain ⟨w4, hw⟩ : ∃ x, x = (w3.alloc (.cells #[.int .i64 r1_0, .int .i64 r1_1] 33)) := ⟨_, rfl⟩
  rw [← hw]
  have h : Below w3.heap.size w3 w4 := by rw [hw]; exact (by repeat (first | with_reducible exact Below.refl _ _ | with_reducible refine Below.setCell ?_ (by first | omega | (simp; done) | (simp; omega)) _ | with_reducible refine bDrewN ?_ _ | with_reducible refine Below.drew ?_ | with_reducible refine Below.alloc ?_ (by first | omega | (simp; done) | (simp; omega)) _))
  have cW1_0 : w4.cell? ⟨w3.heap.size, 0, none⟩ = some (.int .i64 r1_0) := by rw [hw]; simp [go_sem]
  have cW1_1 : w4.cell? ⟨w3.heap.size, 1, none⟩ = some (.int .i64 r1_1) := by rw [hw]; simp [go_sem]
  have zW1 : w3.heap.size < w4.heap.size := by rw [hw]; simp; try omega
  have yW1 : w3.heap.size < w4.heap.size := zW1
  clear hw
  replace B0 : Below w.heap.size w w4 := B0.trans (h.mono B0.size)
  replace Bs : Below w3.heap.size w3 w4 := Bs.trans (h.mono Bs.size)
  clear h
  have l0_0 : w.heap.size ≤ w4.heap.size := B0.size
  have ls_0 : w3.heap.size ≤ w4.heap.size := Bs.size
  refine (toStepS_any _ n0 _ V0 _ hn0 (HR0.out.below B0)).mono ?_
  rintro e w5 ⟨rfl, zx0z, Ox0, h⟩
  replace cW1_0 := (h.cell (p := ⟨w3.heap.size, 0, none⟩) zW1).trans cW1_0
  replace cW1_1 := (h.cell (p := ⟨w3.heap.size, 1, none⟩) zW1).trans cW1_1
  replace zW1 := Nat.lt_of_lt_of_le zW1 h.size
  replace B0 : Below w.heap.size w w5 := B0.trans (h.mono B0.size)
  replace Bs : Below w3.heap.size w3 w5 := Bs.trans (h.mono Bs.size)
  have Px0 : Hid (OwnI w4.heap.size w5 (some ⟨w4.heap.size, 0, none⟩) (n0 * 5) V0) := Ox0
  clear Ox0 h
  have od0 : w4.heap.size < w5.heap.size := zx0z
  have zw4 : w4.heap.size < w5.heap.size := zx0z
  clear zx0z
  go_wp2_with fail
  have l0_1 : w.heap.size ≤ w5.heap.size := B0.size
  have ls_1 : w3.heap.size ≤ w5.heap.size := Bs.size
  refine (toTickS_any _ n1 _ V1 _ hn1 (HR1.out.below B0)).mono ?_
  rintro e w6 ⟨rfl, zx1z, Ox1, h⟩
  replace cW1_0 := (h.cell (p := ⟨w3.heap.size, 0, none⟩) zW1).trans cW1_0
  replace cW1_1 := (h.cell (p := ⟨w3.heap.size, 1, none⟩) zW1).trans cW1_1
  replace zW1 := Nat.lt_of_lt_of_le zW1 h.size
  replace B0 : Below w.heap.size w w6 := B0.trans (h.mono B0.size)
  replace Bs : Below w3.heap.size w3 w6 := Bs.trans (h.mono Bs.size)
  replace zw4 : w4.heap.size < w6.heap.size := Nat.lt_of_lt_of_le zw4 h.size
  replace Px0 : Hid (OwnI w4.heap.size w6 (some ⟨w4.heap.size, 0, none⟩) (n0 * 5) V0) := Px0.out.below h
  have Px1 : Hid (OwnTick w5.heap.size w6 (some ⟨w5.heap.size, 0, none⟩) n1 V1) := Ox1
  clear Ox1 h
  have od1 : w5.heap.size < w6.heap.size := zx1z
  have zw5 : w5.heap.size < w6.heap.size := zx1z
  clear zx1z
  go_wp2_with fail
  refine (H2.out _ _ _ _ _ (Px0.out.row) (Px1.out.row)).mono ?_
  rintro e w7 ⟨sG, cG, rfl, OG, h⟩
  have l0 : w.heap.size ≤ w6.heap.size := B0.size
  have ls : w3.heap.size ≤ w6.heap.size := Bs.size
  have lx0 : w4.heap.size < w6.heap.size := zw4
  have lx1 : w5.heap.size < w6.heap.size := zw5
  have lg : w6.heap.size ≤ w7.heap.size := h.size
  have lgy : w6.heap.size ≤ w7.heap.size := h.size
  replace cW1_0 := (h.cell (p := ⟨w3.heap.size, 0, none⟩) zW1).trans cW1_0
  replace cW1_1 := (h.cell (p := ⟨w3.heap.size, 1, none⟩) zW1).trans cW1_1
  replace zW1 := Nat.lt_of_lt_of_le zW1 h.size
  replace B0 : Below w.heap.size w w7 := B0.trans (h.mono B0.size)
  replace Bs : Below w3.heap.size w3 w7 := Bs.trans (h.mono Bs.size)
  replace zw4 : w4.heap.size < w7.heap.size := Nat.lt_of_lt_of_le zw4 h.size
  replace zw5 : w5.heap.size < w7.heap.size := Nat.lt_of_lt_of_le zw5 h.size
  replace Px0 : Hid (OwnI w4.heap.size w7 (some ⟨w4.heap.size, 0, none⟩) (n0 * 5) V0) := Px0.out.below h
  replace Px1 : Hid (OwnTick w5.heap.size w7 (some ⟨w5.heap.size, 0, none⟩) n1 V1) := Px1.out.below h
  have Pg : Hid (OwnI w6.heap.size w7 sG m U) := OG
  clear OG
  clear h
  go_wp2_with fail
  obtain ⟨w8, hw⟩ : ∃ x, x = (w7.alloc (.cells #[.int .i64 r1_0, .int .i64 r1_1] 33)) := ⟨_, rfl⟩
  rw [← hw]
  have h : Below w7.heap.size w7 w8 := by rw [hw]; exact (by repeat (first | with_reducible exact Below.refl _ _ | with_reducible refine Below.setCell ?_ (by first | omega | (simp; done) | (simp; omega)) _ | with_reducible refine bDrewN ?_ _ | with_reducible refine Below.drew ?_ | with_reducible refine Below.alloc ?_ (by first | omega | (simp; done) | (simp; omega)) _))
  have cG1_0 : w8.cell? ⟨w7.heap.size, 0, none⟩ = some (.int .i64 r1_0) := by rw [hw]; simp [go_sem]
  have cG1_1 : w8.cell? ⟨w7.heap.size, 1, none⟩ = some (.int .i64 r1_1) := by rw [hw]; simp [go_sem]
  have zG1 : w7.heap.size < w8.heap.size := by rw [hw]; simp; try omega
  have yG1 : w7.heap.size < w8.heap.size := zG1
  clear hw
  replace cW1_0 := (h.cell (p := ⟨w3.heap.size, 0, none⟩) zW1).trans cW1_0
  replace cW1_1 := (h.cell (p := ⟨w3.heap.size, 1, none⟩) zW1).trans cW1_1
  replace zW1 := Nat.lt_of_lt_of_le zW1 h.size
  replace B0 : Below w.heap.size w w8 := B0.trans (h.mono B0.size)
  replace Bs : Below w3.heap.size w3 w8 := Bs.trans (h.mono Bs.size)
  replace zw4 : w4.heap.size < w8.heap.size := Nat.lt_of_lt_of_le zw4 h.size
  replace zw5 : w5.heap.size < w8.heap.size := Nat.lt_of_lt_of_le zw5 h.size
  replace lg : w6.heap.size ≤ w8.heap.size := Nat.le_trans lg h.size
  replace Px0 : Hid (OwnI w4.heap.size w8 (some ⟨w4.heap.size, 0, none⟩) (n0 * 5) V0) := Px0.out.below h
  replace Px1 : Hid (OwnTick w5.heap.size w8 (some ⟨w5.heap.size, 0, none⟩) n1 V1) := Px1.out.below h
  replace Pg : Hid (OwnI w6.heap.size w8 sG m U) := Pg.out.below h
  clear h
  refine (eqInt64S_any _ _ m _ _ U _ hm Pg.out.row (RW.out.below Bs)).mono ?_
  rintro e w9 ⟨rfl, h⟩
  replace cW1_0 := (h.cell (p := ⟨w3.heap.size, 0, none⟩) zW1).trans cW1_0
  replace cW1_1 := (h.cell (p := ⟨w3.heap.size, 1, none⟩) zW1).trans cW1_1
  replace zW1 := Nat.lt_of_lt_of_le zW1 h.size
  replace cG1_0 := (h.cell (p := ⟨w7.heap.size, 0, none⟩) zG1).trans cG1_0
  replace cG1_1 := (h.cell (p := ⟨w7.heap.size, 1, none⟩) zG1).trans cG1_1
  replace zG1 := Nat.lt_of_lt_of_le zG1 h.size
  replace B0 : Below w.heap.size w w9 := B0.trans (h.mono B0.size)
  replace Bs : Below w3.heap.size w3 w9 := Bs.trans (h.mono Bs.size)
  replace zw4 : w4.heap.size < w9.heap.size := Nat.lt_of_lt_of_le zw4 h.size
  replace zw5 : w5.heap.size < w9.heap.size := Nat.lt_of_lt_of_le zw5 h.size
  replace lg : w6.heap.size ≤ w9.heap.size := Nat.le_trans lg h.size
  replace Px0 : Hid (OwnI w4.heap.size w9 (some ⟨w4.heap.size, 0, none⟩) (n0 * 5) V0) := Px0.out.below h
  replace Px1 : Hid (OwnTick w5.heap.size w9 (some ⟨w5.heap.size, 0, none⟩) n1 V1) := Px1.out.below h
  replace Pg : Hid (OwnI w6.heap.size w9 sG m U) := Pg.out.below h
  clear h
  go_wp2_with fail
  refine (eqStand_any r1_0 r1_1 _).mono ?_
  rintro e w10 ⟨rfl, h⟩
  replace cW1_0 := (h.cell (p := ⟨w3.heap.size, 0, none⟩) zW1).trans cW1_0
  replace cW1_1 := (h.cell (p := ⟨w3.heap.size, 1, none⟩) zW1).trans cW1_1
  replace zW1 := Nat.lt_of_lt_of_le zW1 h.size
  replace cG1_0 := (h.cell (p := ⟨w7.heap.size, 0, none⟩) zG1).trans cG1_0
  replace cG1_1 := (h.cell (p := ⟨w7.heap.size, 1, none⟩) zG1).trans cG1_1
  replace zG1 := Nat.lt_of_lt_of_le zG1 h.size
  replace B0 : Below w.heap.size w w10 := B0.trans (h.mono B0.size)
  replace Bs : Below w3.heap.size w3 w10 := Bs.trans (h.mono Bs.size)
  replace zw4 : w4.heap.size < w10.heap.size := Nat.lt_of_lt_of_le zw4 h.size
  replace zw5 : w5.heap.size < w10.heap.size := Nat.lt_of_lt_of_le zw5 h.size
  replace lg : w6.heap.size ≤ w10.heap.size := Nat.le_trans lg h.size
  replace Px0 : Hid (OwnI w4.heap.size w10 (some ⟨w4.heap.size, 0, none⟩) (n0 * 5) V0) := Px0.out.below h
  replace Px1 : Hid (OwnTick w5.heap.size w10 (some ⟨w5.heap.size, 0, none⟩) n1 V1) := Px1.out.below h
  replace Pg : Hid (OwnI w6.heap.size w10 sG m U) := Pg.out.below h
  clear h
  cases r2
  all_goals
    go_wp2_with fail
    refine (toStepS_any _ n0 _ V0 _ hn0 (HR0.out.below B0)).mono ?_
    rintro e w11 ⟨rfl, zy0z, Oy0, h⟩
    replace cW1_0 := (h.cell (p := ⟨w3.heap.size, 0, none⟩) zW1).trans cW1_0
    replace cW1_1 := (h.cell (p := ⟨w3.heap.size, 1, none⟩) zW1).trans cW1_1
    replace zW1 := Nat.lt_of_lt_of_le zW1 h.size
    replace cG1_0 := (h.cell (p := ⟨w7.heap.size, 0, none⟩) zG1).trans cG1_0
    replace cG1_1 := (h.cell (p := ⟨w7.heap.size, 1, none⟩) zG1).trans cG1_1
    replace zG1 := Nat.lt_of_lt_of_le zG1 h.size
    replace B0 : Below w.heap.size w w11 := B0.trans (h.mono B0.size)
    replace Bs : Below w3.heap.size w3 w11 := Bs.trans (h.mono Bs.size)
    replace zw4 : w4.heap.size < w11.heap.size := Nat.lt_of_lt_of_le zw4 h.size
    replace zw5 : w5.heap.size < w11.heap.size := Nat.lt_of_lt_of_le zw5 h.size
    replace lg : w6.heap.size ≤ w11.heap.size := Nat.le_trans lg h.size
    replace Px0 : Hid (OwnI w4.heap.size w11 (some ⟨w4.heap.size, 0, none⟩) (n0 * 5) V0) := Px0.out.below h
    replace Px1 : Hid (OwnTick w5.heap.size w11 (some ⟨w5.heap.size, 0, none⟩) n1 V1) := Px1.out.below h
    replace Pg : Hid (OwnI w6.heap.size w11 sG m U) := Pg.out.below h
    have Py0 : Hid (OwnI w10.heap.size w11 (some ⟨w10.heap.size, 0, none⟩) (n0 * 5) V0) := Oy0
    clear Oy0 h
    clear zy0z
    go_wp2_with fail
    refine (eqStepS_any _ _ n0 _ _ V0 _ hn0 Px0.out.row Py0.out.row).mono ?_
    rintro e w12 ⟨rfl, h⟩
    replace cW1_0 := (h.cell (p := ⟨w3.heap.size, 0, none⟩) zW1).trans cW1_0
    replace cW1_1 := (h.cell (p := ⟨w3.heap.size, 1, none⟩) zW1).trans cW1_1
    replace zW1 := Nat.lt_of_lt_of_le zW1 h.size
    replace cG1_0 := (h.cell (p := ⟨w7.heap.size, 0, none⟩) zG1).trans cG1_0
    replace cG1_1 := (h.cell (p := ⟨w7.heap.size, 1, none⟩) zG1).trans cG1_1
    replace zG1 := Nat.lt_of_lt_of_le zG1 h.size
    replace B0 : Below w.heap.size w w12 := B0.trans (h.mono B0.size)
    replace Bs : Below w3.heap.size w3 w12 := Bs.trans (h.mono Bs.size)
    replace zw4 : w4.heap.size < w12.heap.size := Nat.lt_of_lt_of_le zw4 h.size
    replace zw5 : w5.heap.size < w12.heap.size := Nat.lt_of_lt_of_le zw5 h.size
    replace lg : w6.heap.size ≤ w12.heap.size := Nat.le_trans lg h.size
    replace Px0 : Hid (OwnI w4.heap.size w12 (some ⟨w4.heap.size, 0, none⟩) (n0 * 5) V0) := Px0.out.below h
    replace Px1 : Hid (OwnTick w5.heap.size w12 (some ⟨w5.heap.size, 0, none⟩) n1 V1) := Px1.out.below h
    replace Pg : Hid (OwnI w6.heap.size w12 sG m U) := Pg.out.below h
    clear h
    clear Py0
    go_wp2_with fail
    refine (toTickS_any _ n1 _ V1 _ hn1 (HR1.out.below B0)).mono ?_
    rintro e w13 ⟨rfl, zy1z, Oy1, h⟩
    replace cW1_0 := (h.cell (p := ⟨w3.heap.size, 0, none⟩) zW1).trans cW1_0
    replace cW1_1 := (h.cell (p := ⟨w3.heap.size, 1, none⟩) zW1).trans cW1_1
    replace zW1 := Nat.lt_of_lt_of_le zW1 h.size
    replace cG1_0 := (h.cell (p := ⟨w7.heap.size, 0, none⟩) zG1).trans cG1_0
    replace cG1_1 := (h.cell (p := ⟨w7.heap.size, 1, none⟩) zG1).trans cG1_1
    replace zG1 := Nat.lt_of_lt_of_le zG1 h.size
    replace B0 : Below w.heap.size w w13 := B0.trans (h.mono B0.size)
    replace Bs : Below w3.heap.size w3 w13 := Bs.trans (h.mono Bs.size)
    replace zw4 : w4.heap.size < w13.heap.size := Nat.lt_of_lt_of_le zw4 h.size
    replace zw5 : w5.heap.size < w13.heap.size := Nat.lt_of_lt_of_le zw5 h.size
    replace lg : w6.heap.size ≤ w13.heap.size := Nat.le_trans lg h.size
    replace Px0 : Hid (OwnI w4.heap.size w13 (some ⟨w4.heap.size, 0, none⟩) (n0 * 5) V0) := Px0.out.below h
    replace Px1 : Hid (OwnTick w5.heap.size w13 (some ⟨w5.heap.size, 0, none⟩) n1 V1) := Px1.out.below h
    replace Pg : Hid (OwnI w6.heap.size w13 sG m U) := Pg.out.below h
    have Py1 : Hid (OwnTick w12.heap.size w13 (some ⟨w12.heap.size, 0, none⟩) n1 V1) := Oy1
    clear Oy1 h
    clear zy1z
    go_wp2_with fail
    refine (eqTickS_any _ _ n1 _ _ V1 _ hn1 Px1.out.row Py1.out.row).mono ?_
    rintro e w14 ⟨rfl, h⟩
    replace cW1_0 := (h.cell (p := ⟨w3.heap.size, 0, none⟩) zW1).trans cW1_0
    replace cW1_1 := (h.cell (p := ⟨w3.heap.size, 1, none⟩) zW1).trans cW1_1
    replace zW1 := Nat.lt_of_lt_of_le zW1 h.size
    replace cG1_0 := (h.cell (p := ⟨w7.heap.size, 0, none⟩) zG1).trans cG1_0
    replace cG1_1 := (h.cell (p := ⟨w7.heap.size, 1, none⟩) zG1).trans cG1_1
    replace zG1 := Nat.lt_of_lt_of_le zG1 h.size
    replace B0 : Below w.heap.size w w14 := B0.trans (h.mono B0.size)
    replace Bs : Below w3.heap.size w3 w14 := Bs.trans (h.mono Bs.size)
    replace zw4 : w4.heap.size < w14.heap.size := Nat.lt_of_lt_of_le zw4 h.size
    replace zw5 : w5.heap.size < w14.heap.size := Nat.lt_of_lt_of_le zw5 h.size
    replace lg : w6.heap.size ≤ w14.heap.size := Nat.le_trans lg h.size
    replace Px0 : Hid (OwnI w4.heap.size w14 (some ⟨w4.heap.size, 0, none⟩) (n0 * 5) V0) := Px0.out.below h
    replace Px1 : Hid (OwnTick w5.heap.size w14 (some ⟨w5.heap.size, 0, none⟩) n1 V1) := Px1.out.below h
    replace Pg : Hid (OwnI w6.heap.size w14 sG m U) := Pg.out.below h
    clear h
    clear Py1
    go_wp2_with fail
    refine (markStepS_own w4.heap.size _ n0 _ _ V0 _ hn0 (by omega) (by omega) (by omega) Px0.out).mono ?_
    rintro e w15 ⟨rfl, h, hs⟩
    have hs := hs _ rfl
    replace cW1_0 := (hs.cell (p := ⟨w3.heap.size, 0, none⟩) zW1 (by show w3.heap.size ≠ w4.heap.size; omega)).trans cW1_0
    replace cW1_1 := (hs.cell (p := ⟨w3.heap.size, 1, none⟩) zW1 (by show w3.heap.size ≠ w4.heap.size; omega)).trans cW1_1
    replace zW1 := Nat.lt_of_lt_of_le zW1 h.size
    replace cG1_0 := (hs.cell (p := ⟨w7.heap.size, 0, none⟩) zG1 (by show w7.heap.size ≠ w4.heap.size; omega)).trans cG1_0
    replace cG1_1 := (hs.cell (p := ⟨w7.heap.size, 1, none⟩) zG1 (by show w7.heap.size ≠ w4.heap.size; omega)).trans cG1_1
    replace zG1 := Nat.lt_of_lt_of_le zG1 h.size
    replace B0 : Below w.heap.size w w15 := B0.trans (h.mono (by omega))
    replace Bs : Below w3.heap.size w3 w15 := Bs.trans (h.mono (by omega))
    replace zw4 : w4.heap.size < w15.heap.size := Nat.lt_of_lt_of_le zw4 h.size
    replace zw5 : w5.heap.size < w15.heap.size := Nat.lt_of_lt_of_le zw5 h.size
    replace lg : w6.heap.size ≤ w15.heap.size := Nat.le_trans lg h.size
    clear Px0
    replace Px1 : Hid (OwnTick w5.heap.size w15 (some ⟨w5.heap.size, 0, none⟩) n1 V1) := Px1.out.beside hs (by omega)
    replace Pg : Hid (OwnI w6.heap.size w15 sG m U) := Pg.out.beside hs (by omega)
    clear h hs
    go_wp2_with fail
    refine (markTickS_own w5.heap.size _ n1 _ _ V1 _ hn1 (by omega) (by omega) (by omega) Px1.out).mono ?_
    rintro e w16 ⟨rfl, -, h, hs⟩
    have hs := hs _ rfl
    replace cW1_0 := (hs.cell (p := ⟨w3.heap.size, 0, none⟩) zW1 (by show w3.heap.size ≠ w5.heap.size; omega)).trans cW1_0
    replace cW1_1 := (hs.cell (p := ⟨w3.heap.size, 1, none⟩) zW1 (by show w3.heap.size ≠ w5.heap.size; omega)).trans cW1_1
    replace zW1 := Nat.lt_of_lt_of_le zW1 h.size
    replace cG1_0 := (hs.cell (p := ⟨w7.heap.size, 0, none⟩) zG1 (by show w7.heap.size ≠ w5.heap.size; omega)).trans cG1_0
    replace cG1_1 := (hs.cell (p := ⟨w7.heap.size, 1, none⟩) zG1 (by show w7.heap.size ≠ w5.heap.size; omega)).trans cG1_1
    replace zG1 := Nat.lt_of_lt_of_le zG1 h.size
    replace B0 : Below w.heap.size w w16 := B0.trans (h.mono (by omega))
    replace Bs : Below w3.heap.size w3 w16 := Bs.trans (h.mono (by omega))
    replace zw4 : w4.heap.size < w16.heap.size := Nat.lt_of_lt_of_le zw4 h.size
    replace zw5 : w5.heap.size < w16.heap.size := Nat.lt_of_lt_of_le zw5 h.size
    replace lg : w6.heap.size ≤ w16.heap.size := Nat.le_trans lg h.size
    clear Px1
    replace Pg : Hid (OwnI w6.heap.size w16 sG m U) := Pg.out.beside hs (by omega)
    clear h hs
    go_wp2_with fail
    refine (eqInt64S_any _ _ m _ _ U _ hm Pg.out.row (RW.out.below Bs)).mono ?_
    rintro e w17 ⟨rfl, h⟩
    replace cW1_0 := (h.cell (p := ⟨w3.heap.size, 0, none⟩) zW1).trans cW1_0
    replace cW1_1 := (h.cell (p := ⟨w3.heap.size, 1, none⟩) zW1).trans cW1_1
    replace zW1 := Nat.lt_of_lt_of_le zW1 h.size
    replace cG1_0 := (h.cell (p := ⟨w7.heap.size, 0, none⟩) zG1).trans cG1_0
    replace cG1_1 := (h.cell (p := ⟨w7.heap.size, 1, none⟩) zG1).trans cG1_1
    replace zG1 := Nat.lt_of_lt_of_le zG1 h.size
    replace B0 : Below w.heap.size w w17 := B0.trans (h.mono B0.size)
    replace Bs : Below w3.heap.size w3 w17 := Bs.trans (h.mono Bs.size)
    replace zw4 : w4.heap.size < w17.heap.size := Nat.lt_of_lt_of_le zw4 h.size
    replace zw5 : w5.heap.size < w17.heap.size := Nat.lt_of_lt_of_le zw5 h.size
    replace lg : w6.heap.size ≤ w17.heap.size := Nat.le_trans lg h.size
    replace Pg : Hid (OwnI w6.heap.size w17 sG m U) := Pg.out.below h
    clear h
    go_wp2_with fail
    refine (eqStand_any r1_0 r1_1 _).mono ?_
    rintro e w18 ⟨rfl, h⟩
    replace cW1_0 := (h.cell (p := ⟨w3.heap.size, 0, none⟩) zW1).trans cW1_0
    replace cW1_1 := (h.cell (p := ⟨w3.heap.size, 1, none⟩) zW1).trans cW1_1
    replace zW1 := Nat.lt_of_lt_of_le zW1 h.size
    replace cG1_0 := (h.cell (p := ⟨w7.heap.size, 0, none⟩) zG1).trans cG1_0
    replace cG1_1 := (h.cell (p := ⟨w7.heap.size, 1, none⟩) zG1).trans cG1_1
    replace zG1 := Nat.lt_of_lt_of_le zG1 h.size
    replace B0 : Below w.heap.size w w18 := B0.trans (h.mono B0.size)
    replace Bs : Below w3.heap.size w3 w18 := Bs.trans (h.mono Bs.size)
    replace zw4 : w4.heap.size < w18.heap.size := Nat.lt_of_lt_of_le zw4 h.size
    replace zw5 : w5.heap.size < w18.heap.size := Nat.lt_of_lt_of_le zw5 h.size
    replace lg : w6.heap.size ≤ w18.heap.size := Nat.le_trans lg h.size
    replace Pg : Hid (OwnI w6.heap.size w18 sG m U) := Pg.out.below h
    clear h
    go_wp2_with fail
    refine (markInt64S_own w6.heap.size _ m _ _ U _ hm (by omega) (by omega) lg Pg.out).mono ?_
    rintro e w19 ⟨rfl, OG, h, -⟩
    clear Pg
    replace cW1_0 := (h.cell (p := ⟨w3.heap.size, 0, none⟩) (by show w3.heap.size < w6.heap.size; omega)).trans cW1_0
    replace cW1_1 := (h.cell (p := ⟨w3.heap.size, 1, none⟩) (by show w3.heap.size < w6.heap.size; omega)).trans cW1_1
    replace zW1 := Nat.lt_of_lt_of_le zW1 h.size
    clear cG1_0 cG1_1 zG1
    replace B0 : Below w.heap.size w w19 := B0.trans (h.mono l0)
    replace Bs : Below w3.heap.size w3 w19 := Bs.trans (h.mono ls)
    clear h lg
    have PG : Hid (OwnI w6.heap.size w19 sG m (fun j => 1 + (j : Int))) := OG
    clear OG
    go_wp2_with fail
    refine (heldInt64S_any _ m _ 1 _ hm (by omega) (by omega) PG.out.row).mono ?_
    rintro e w19 ⟨rfl, rfl⟩
    go_wp2_with fail
    refine (toStepS_any _ n0 _ V0 _ hn0 (HR0.out.below B0)).mono ?_
    rintro e w20 ⟨rfl, zv0z, Ov0, h⟩
    replace cW1_0 := (h.cell (p := ⟨w3.heap.size, 0, none⟩) zW1).trans cW1_0
    replace cW1_1 := (h.cell (p := ⟨w3.heap.size, 1, none⟩) zW1).trans cW1_1
    replace zW1 := Nat.lt_of_lt_of_le zW1 h.size
    replace B0 : Below w.heap.size w w20 := B0.trans (h.mono B0.size)
    replace Bs : Below w3.heap.size w3 w20 := Bs.trans (h.mono Bs.size)
    replace PG : Hid (OwnI w6.heap.size w20 sG m (fun j => 1 + (j : Int))) := PG.out.below h
    have Pv0 : Hid (OwnI w19.heap.size w20 (some ⟨w19.heap.size, 0, none⟩) (n0 * 5) V0) := Ov0
    clear Ov0 h
    clear zv0z
    go_wp2_with fail
    refine (toTickS_any _ n1 _ V1 _ hn1 (HR1.out.below B0)).mono ?_
    rintro e w21 ⟨rfl, zv1z, Ov1, h⟩
    replace cW1_0 := (h.cell (p := ⟨w3.heap.size, 0, none⟩) zW1).trans cW1_0
    replace cW1_1 := (h.cell (p := ⟨w3.heap.size, 1, none⟩) zW1).trans cW1_1
    replace zW1 := Nat.lt_of_lt_of_le zW1 h.size
    replace B0 : Below w.heap.size w w21 := B0.trans (h.mono B0.size)
    replace Bs : Below w3.heap.size w3 w21 := Bs.trans (h.mono Bs.size)
    replace PG : Hid (OwnI w6.heap.size w21 sG m (fun j => 1 + (j : Int))) := PG.out.below h
    replace Pv0 : Hid (OwnI w19.heap.size w21 (some ⟨w19.heap.size, 0, none⟩) (n0 * 5) V0) := Pv0.out.below h
    have Pv1 : Hid (OwnTick w20.heap.size w21 (some ⟨w20.heap.size, 0, none⟩) n1 V1) := Ov1
    clear Ov1 h
    clear zv1z
    go_wp2_with fail
    refine (H2.out _ _ _ _ _ (Pv0.out.row) (Pv1.out.row)).mono ?_
    rintro e w22 ⟨sH, cH, rfl, OH, h⟩
    clear Pv0
    clear Pv1
    replace cW1_0 := (h.cell (p := ⟨w3.heap.size, 0, none⟩) zW1).trans cW1_0
    replace cW1_1 := (h.cell (p := ⟨w3.heap.size, 1, none⟩) zW1).trans cW1_1
    replace zW1 := Nat.lt_of_lt_of_le zW1 h.size
    replace B0 : Below w.heap.size w w22 := B0.trans (h.mono B0.size)
    replace Bs : Below w3.heap.size w3 w22 := Bs.trans (h.mono Bs.size)
    replace PG : Hid (OwnI w6.heap.size w22 sG m (fun j => 1 + (j : Int))) := PG.out.below h
    have Ph : Hid (OwnI w21.heap.size w22 sH m U) := OH
    clear OH h
    go_wp2_with fail
    obtain ⟨w23, hw⟩ : ∃ x, x = (w22.alloc (.cells #[.int .i64 r1_0, .int .i64 r1_1] 33)) := ⟨_, rfl⟩
    rw [← hw]
    have h : Below w22.heap.size w22 w23 := by rw [hw]; exact (by repeat (first | with_reducible exact Below.refl _ _ | with_reducible refine Below.setCell ?_ (by first | omega | (simp; done) | (simp; omega)) _ | with_reducible refine bDrewN ?_ _ | with_reducible refine Below.drew ?_ | with_reducible refine Below.alloc ?_ (by first | omega | (simp; done) | (simp; omega)) _))
    have cH1_0 : w23.cell? ⟨w22.heap.size, 0, none⟩ = some (.int .i64 r1_0) := by rw [hw]; simp [go_sem]
    have cH1_1 : w23.cell? ⟨w22.heap.size, 1, none⟩ = some (.int .i64 r1_1) := by rw [hw]; simp [go_sem]
    have zH1 : w22.heap.size < w23.heap.size := by rw [hw]; simp; try omega
    have yH1 : w22.heap.size < w23.heap.size := zH1
    clear hw
    replace cW1_0 := (h.cell (p := ⟨w3.heap.size, 0, none⟩) zW1).trans cW1_0
    replace cW1_1 := (h.cell (p := ⟨w3.heap.size, 1, none⟩) zW1).trans cW1_1
    replace zW1 := Nat.lt_of_lt_of_le zW1 h.size
    replace B0 : Below w.heap.size w w23 := B0.trans (h.mono B0.size)
    replace Bs : Below w3.heap.size w3 w23 := Bs.trans (h.mono Bs.size)
    replace PG : Hid (OwnI w6.heap.size w23 sG m (fun j => 1 + (j : Int))) := PG.out.below h
    replace Ph : Hid (OwnI w21.heap.size w23 sH m U) := Ph.out.below h
    clear h
    refine (eqInt64S_any _ _ m _ _ U _ hm Ph.out.row (RW.out.below Bs)).mono ?_
    rintro e w24 ⟨rfl, h⟩
    replace cW1_0 := (h.cell (p := ⟨w3.heap.size, 0, none⟩) zW1).trans cW1_0
    replace cW1_1 := (h.cell (p := ⟨w3.heap.size, 1, none⟩) zW1).trans cW1_1
    replace zW1 := Nat.lt_of_lt_of_le zW1 h.size
    replace cH1_0 := (h.cell (p := ⟨w22.heap.size, 0, none⟩) zH1).trans cH1_0
    replace cH1_1 := (h.cell (p := ⟨w22.heap.size, 1, none⟩) zH1).trans cH1_1
    replace zH1 := Nat.lt_of_lt_of_le zH1 h.size
    replace B0 : Below w.heap.size w w24 := B0.trans (h.mono B0.size)
    replace Bs : Below w3.heap.size w3 w24 := Bs.trans (h.mono Bs.size)
    replace PG : Hid (OwnI w6.heap.size w24 sG m (fun j => 1 + (j : Int))) := PG.out.below h
    replace Ph : Hid (OwnI w21.heap.size w24 sH m U) := Ph.out.below h
    clear h
    go_wp2_with fail
    refine (eqStand_any r1_0 r1_1 _).mono ?_
    rintro e w25 ⟨rfl, h⟩
    replace cW1_0 := (h.cell (p := ⟨w3.heap.size, 0, none⟩) zW1).trans cW1_0
    replace cW1_1 := (h.cell (p := ⟨w3.heap.size, 1, none⟩) zW1).trans cW1_1
    replace zW1 := Nat.lt_of_lt_of_le zW1 h.size
    replace cH1_0 := (h.cell (p := ⟨w22.heap.size, 0, none⟩) zH1).trans cH1_0
    replace cH1_1 := (h.cell (p := ⟨w22.heap.size, 1, none⟩) zH1).trans cH1_1
    replace zH1 := Nat.lt_of_lt_of_le zH1 h.size
    replace B0 : Below w.heap.size w w25 := B0.trans (h.mono B0.size)
    replace Bs : Below w3.heap.size w3 w25 := Bs.trans (h.mono Bs.size)
    replace PG : Hid (OwnI w6.heap.size w25 sG m (fun j => 1 + (j : Int))) := PG.out.below h
    replace Ph : Hid (OwnI w21.heap.size w25 sH m U) := Ph.out.below h
    clear h
    go_wp2_with fail
    refine (heldInt64S_any _ m _ 1 _ hm (by omega) (by omega) PG.out.row).mono ?_
    rintro e w25 ⟨rfl, rfl⟩
    go_wp2
    go_ret
    exact ⟨rfl, B0⟩

theorem srM_le {n : Nat} {V : Nat → Int} {m : Nat} {T : Nat → Int × Bool} (h : (m : Int) ≤ 1048576) : (srM n V m T : Int) ≤ 1048576 := by unfold srM; split <;> omega
theorem fnExactSeqRun_walk (w : World) (s0 : Option Addr) (n0 c0 : Nat) (V0 : Nat → Int) (m0 : n0 ≤ 9223372036854775807) (R0 : RowI w s0 (n0 * 5) V0) (s1 : Option Addr) (n1 c1 : Nat) (V1 : Nat → Int × Bool) (m1 : n1 ≤ 9223372036854775807) (R1 : RowTick w s1 n1 V1) :
    Calls Try.prog 5 #[.slice s0 n0 c0, .slice s1 n1 c1] w fun e w' => e = .returned (.bool true) ∧ Below w.heap.size w w' := by
  by_cases h0 : (n0 : Int) ≤ 1048576
  · by_cases h1 : (n1 : Int) ≤ 1048576 - (n0 : Int)
    · exact seqRun_near w s0 n0 c0 V0 h0 R0 s1 n1 c1 V1 (by omega) R1 (srM n0 V0 n1 V1) (srU V0 V1) (srM_le (by omega)) h1 (srE n0 V0 n1 V1).1 (srE n0 V0 n1 V1).2 (srB n0 V0 n1 V1) (fun s c s2 c2 w q q2 => specSeqRun_any s n0 c V0 s2 n1 c2 V1 w h0 (by omega) q q2) (fun s c s2 c2 w q q2 => implSeqRun_any s n0 c V0 s2 n1 c2 V1 w h0 (by omega) q q2)
    · exact seqRun_far1 w s0 n0 c0 h0 s1 n1 c1 (by omega) (by omega)
  · exact seqRun_far0 w s0 n0 c0 s1 n1 c1 (by omega) (by omega)

set_option maxRecDepth 100000 in
theorem fnExactSeqRun_lifted (os : Os) (started : os.Started) (H : Type) (enc : TypeId × Value → H) :
    ReturnsInHanded {} Try.checked os 5 .any (Rows.fnExactSeqRunSpec.pre6 enc Try.prog Try.f5 Rows.fnExactSeqRunRow.domain false) (Rows.fnExactSeqRunSpec.post enc Try.prog Try.f5 false true false false) := by
  refine returnsInHanded_of_change (C := Try.checked) own started (by kernel_rfl) Try.func5
    (ChangeSpec.witness6 (enc := enc) (C := Try.checked) false ⟨#[], #[.slice none 0 0, .slice none 0 0], []⟩ 8 (by kernel_rfl) (by kernel_rfl) (by kernel_rfl) (by kernel_rfl)) ?_
  intro W base args ds gs before hval0 hW hcnd _
  have hval : ∀ (j : Nat) t v, Try.f5.params[j]? = some t → args[j]? = some v → Value.okWide Try.prog W .any base t v := hval0
  have hW' := hW
  obtain ⟨p, q, hA0, hV, rfl, hfz, hnd⟩ := hW
  have hA : DataW.TrodAll enc Try.prog W 0 (fun _ => true) true Try.f5.params.toList args.toList ds p := hA0
  rw [Try.params5] at hA hval
  obtain ⟨v0, vs0, d0, ds0, p0, q0, hargs, rfl, rfl, h0, r0⟩ := trodAll_cons hA
  obtain ⟨v1, vs1, d1, ds1, p1, q1, rfl, rfl, rfl, h1, r1⟩ := trodAll_cons r0
  obtain ⟨rfl, rfl, rfl⟩ := trodAll_nil r1
  obtain rfl : args = #[v0, v1] := by cases args; simp_all
  obtain ⟨rfl, rfl⟩ := trodVars_none hV
  have k0 := h0
  have lt0 : ∀ x ∈ p0, x.block < W.heap.size := by obtain ⟨m, hm⟩ := k0; exact DataW.trod_lt m _ _ _ hm
  have k1 := h1
  have lt1 : ∀ x ∈ p1, x.block < W.heap.size := by obtain ⟨m, hm⟩ := k1; exact DataW.trod_lt m _ _ _ hm
  obtain ⟨s0, n0, c0, V0, rfl, m0, R0⟩ := open_rows5 Try.underlying22 Try.underlying60 (by kernel_rfl) rfl rfl rfl rfl rfl (by kernel_rfl) (by kernel_rfl) (by kernel_rfl) (by kernel_rfl) (by kernel_rfl) (by kernel_rfl) (by kernel_rfl) (by kernel_rfl) (by kernel_rfl) (by kernel_rfl) (hval 0 22 v0 rfl rfl) h0
  obtain ⟨s1, n1, c1, V1, rfl, m1, R1⟩ := open_TickS Try.underlying41 Try.underlying32 (by kernel_rfl) rfl rfl (by kernel_rfl) (by kernel_rfl) (by kernel_rfl) (by kernel_rfl) (hval 1 41 v1 rfl rfl) h1
  clear hA0 hval0
  refine (fnExactSeqRun_walk W s0 n0 c0 V0 m0 R0 s1 n1 c1 V1 m1 R1).mono fun e W' ⟨he, bel⟩ => ?_
  subst he
  exact ⟨_, rfl, _, _, _, [], _, [], hW', trodAll_mk1 (shut_bool Try.underlying4 _), (trodAll_cons_mk (Below.trod laidOut (by kernel_rfl) (of_decide_eq_true (by kernel_rfl)) k0 bel lt0) (trodAll_cons_mk (Below.trod laidOut (by kernel_rfl) (of_decide_eq_true (by kernel_rfl)) k1 bel lt1) trodAll_mk0)), rfl, bel.frame _, fun h => by cases h⟩

theorem fnExactSeqRun_holds : Rows.FnExactSeqRunSaid :=
  OpenClaim.holds_of_wide 5 Try.f5 rfl rfl rfl rfl rfl rfl rfl ⟨rfl, rfl, rfl, rfl, rfl⟩ rfl rfl rfl rfl rfl (by kernel_rfl) Try.func5 (by kernel_rfl)
    (of_decide_eq_true (by kernel_rfl)) (by unfold Func.isWrapper; first | (rw [if_pos (by decide +kernel)]; kernel_rfl) | (rw [if_neg (by decide +kernel)]; exact ⟨rfl, rfl⟩))
    (fun os started H enc _ => fnExactSeqRun_lifted os started H enc)
#print axioms fnExactSeqRun_holds
end Go.Proofs.Ytencmnjkkkhngaa
