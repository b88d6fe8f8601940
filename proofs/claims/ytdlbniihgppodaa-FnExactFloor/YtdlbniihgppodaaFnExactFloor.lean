/-
What is proved: FnExactFloor.
-/
import Derived.Test.YtdlbniihgppodaaFlrS
import Derived.Test.YtdlbniihgppodaaFlrI
import Derived.Test.YtdlbniihgppodaaPltR
import Derived.Test.YtdlbniihgppodaaI64R2
import Derived.Test.YtdlbniihgppodaaOpenI
import Derived.Deep.RegionHeld3
import Derived.Deep.DeepCutAuto
namespace Go.Proofs.Ytdlbniihgppodaa
set_option maxRecDepth 40000
open Go.ChangeShapes Go.WideShapes Go.ChangeAt Go.RowKit
set_option linter.unusedVariables false
set_option linter.unusedSimpArgs false

set_option maxRecDepth 20000 in
set_option maxHeartbeats 8000000 in
theorem floor_near (w : World) (n0 : Nat) (V0 : Nat → Int × Int × Int × Int × Int) (s0 : Option Addr) (c0 : Nat) (hn0 : (n0 : Int) ≤ 1048576) (HR0 : Hid (RowPlant w s0 n0 V0)) (n1 : Nat) (V1 : Nat → Int) (s1 : Option Addr) (c1 : Nat) (hn1 : (n1 : Int) ≤ 1048576) (HR1 : Hid (RowI w s1 n1 V1)) (gn0 : (n0 : Int) ≤ 1048576) (ar0 : Int)
    (H1 : Hid (∀ (s0 : Option Addr) (c0 : Nat) (s1 : Option Addr) (c1 : Nat) w, RowPlant w s0 n0 V0 → RowI w s1 n1 V1 → Calls Try.prog 26 #[.slice s0 n0 c0, .slice s1 n1 c1] w fun e w' => e = .returned (.int .i64 ar0) ∧ Below w.heap.size w w'))
    (H2 : Hid (∀ (s0 : Option Addr) (c0 : Nat) (s1 : Option Addr) (c1 : Nat) w, RowPlant w s0 n0 V0 → RowI w s1 n1 V1 → Calls Try.prog 27 #[.slice s0 n0 c0, .slice s1 n1 c1] w fun e w' => e = .returned (.int .i64 ar0) ∧ Below w.heap.size w w')) :
    Calls Try.prog 5 #[.slice s0 n0 c0, .slice s1 n1 c1] w fun e w' => e = .returned (.bool true) ∧ Below w.heap.size w w' := by
  have sto := store_slT
  go_enter Try.func5, Try.ntmps5
  go_wp2_with fail
  refine (szPlantS_on _ n0 _ _ _ (by omega) (by omega) (by omega)).mono ?_
  rintro e w ⟨rfl, rfl⟩
  have B0 : Below w.heap.size w w := Below.refl _ _
  go_wp2_with fail
  refine (toPlantS_r s0 n0 c0 V0 _ hn0 (HR0.out.below B0)).mono ?_
  rintro e w1 ⟨st0, St0, rfl, Q, O, hh⟩
  have hb : Below w.heap.size w w1 := Below.trans (by repeat (first | with_reducible exact Below.refl _ _ | with_reducible refine Below.setCell ?_ (by first | omega | (simp; done) | (simp; omega)) _ | with_reducible refine bDrewN ?_ _ | with_reducible refine Below.drew ?_ | with_reducible refine Below.alloc ?_ (by first | omega | (simp; done) | (simp; omega)) _)) (hh.mono (by first | omega | (simp; done) | (simp; omega)))
  have lw1 : w.heap.size ≤ w1.heap.size := hb.size
  replace B0 : Below w.heap.size w w1 := B0.trans (hb.mono B0.size)
  clear hb hh
  have Qt0 : Hid (∀ k, St0 k → w.heap.size ≤ k ∧ k < w1.heap.size) := (show ∀ k, St0 k → w.heap.size ≤ k ∧ k < w1.heap.size from by simpa using Q)
  have Ot0 : Hid (PlantR St0 w1 st0 n0 V0) := O
  clear O Q
  go_wp2_with fail
  refine (toInt64S_r s1 n1 c1 V1 _ hn1 (HR1.out.below B0)).mono ?_
  rintro e w2 ⟨st1, St1, rfl, Q, O, hh⟩
  have hb : Below w1.heap.size w1 w2 := Below.trans (by repeat (first | with_reducible exact Below.refl _ _ | with_reducible refine Below.setCell ?_ (by first | omega | (simp; done) | (simp; omega)) _ | with_reducible refine bDrewN ?_ _ | with_reducible refine Below.drew ?_ | with_reducible refine Below.alloc ?_ (by first | omega | (simp; done) | (simp; omega)) _)) (hh.mono (by first | omega | (simp; done) | (simp; omega)))
  have lw2 : w1.heap.size ≤ w2.heap.size := hb.size
  replace Ot0 : Hid (PlantR St0 w2 st0 n0 V0) := Ot0.out.below hb
  replace B0 : Below w.heap.size w w2 := B0.trans (hb.mono B0.size)
  clear hb hh
  have Qt1 : Hid (∀ k, St1 k → w1.heap.size ≤ k ∧ k < w2.heap.size) := (show ∀ k, St1 k → w1.heap.size ≤ k ∧ k < w2.heap.size from by simpa using Q)
  have Ot1 : Hid (I64R St1 w2 st1 n1 V1) := O
  clear O Q
  go_wp2_with fail
  refine (H1.out st0 _ st1 _ _ (Ot0.out.row) (Ot1.out.row)).mono ?_
  rintro e w3 ⟨rfl, hh⟩
  have hb : Below w2.heap.size w2 w3 := Below.trans (by repeat (first | with_reducible exact Below.refl _ _ | with_reducible refine Below.setCell ?_ (by first | omega | (simp; done) | (simp; omega)) _ | with_reducible refine bDrewN ?_ _ | with_reducible refine Below.drew ?_ | with_reducible refine Below.alloc ?_ (by first | omega | (simp; done) | (simp; omega)) _)) (hh.mono (by first | omega | (simp; done) | (simp; omega)))
  have lw3 : w2.heap.size ≤ w3.heap.size := hb.size
  replace Ot0 : Hid (PlantR St0 w3 st0 n0 V0) := Ot0.out.below hb
  replace Ot1 : Hid (I64R St1 w3 st1 n1 V1) := Ot1.out.below hb
  replace B0 : Below w.heap.size w w3 := B0.trans (hb.mono B0.size)
  clear hb hh
  clear Ot0 Qt0 
  clear Ot1 Qt1 
  have Bs : Below w3.heap.size w3 w3 := Below.refl _ _
  go_wp2_with fail
  refine (toPlantS_r s0 n0 c0 V0 _ hn0 (HR0.out.below B0)).mono ?_
  rintro e w4 ⟨sx0, Sx0, rfl, Q, O, hh⟩
  have hb : Below w3.heap.size w3 w4 := Below.trans (by repeat (first | with_reducible exact Below.refl _ _ | with_reducible refine Below.setCell ?_ (by first | omega | (simp; done) | (simp; omega)) _ | with_reducible refine bDrewN ?_ _ | with_reducible refine Below.drew ?_ | with_reducible refine Below.alloc ?_ (by first | omega | (simp; done) | (simp; omega)) _)) (hh.mono (by first | omega | (simp; done) | (simp; omega)))
  have lw4 : w3.heap.size ≤ w4.heap.size := hb.size
  replace Bs : Below w3.heap.size w3 w4 := Bs.trans (hb.mono Bs.size)
  replace B0 : Below w.heap.size w w4 := B0.trans (hb.mono B0.size)
  clear hb hh
  have Qx0 : Hid (∀ k, Sx0 k → w3.heap.size ≤ k ∧ k < w4.heap.size) := (show ∀ k, Sx0 k → w3.heap.size ≤ k ∧ k < w4.heap.size from by simpa using Q)
  have Ox0 : Hid (PlantR Sx0 w4 sx0 n0 V0) := O
  clear O Q
  go_wp2_with fail
  refine (toInt64S_r s1 n1 c1 V1 _ hn1 (HR1.out.below B0)).mono ?_
  rintro e w5 ⟨sx1, Sx1, rfl, Q, O, hh⟩
  have hb : Below w4.heap.size w4 w5 := Below.trans (by repeat (first | with_reducible exact Below.refl _ _ | with_reducible refine Below.setCell ?_ (by first | omega | (simp; done) | (simp; omega)) _ | with_reducible refine bDrewN ?_ _ | with_reducible refine Below.drew ?_ | with_reducible refine Below.alloc ?_ (by first | omega | (simp; done) | (simp; omega)) _)) (hh.mono (by first | omega | (simp; done) | (simp; omega)))
  have lw5 : w4.heap.size ≤ w5.heap.size := hb.size
  replace Ox0 : Hid (PlantR Sx0 w5 sx0 n0 V0) := Ox0.out.below hb
  replace Bs : Below w3.heap.size w3 w5 := Bs.trans (hb.mono Bs.size)
  replace B0 : Below w.heap.size w w5 := B0.trans (hb.mono B0.size)
  clear hb hh
  have Qx1 : Hid (∀ k, Sx1 k → w4.heap.size ≤ k ∧ k < w5.heap.size) := (show ∀ k, Sx1 k → w4.heap.size ≤ k ∧ k < w5.heap.size from by simpa using Q)
  have Ox1 : Hid (I64R Sx1 w5 sx1 n1 V1) := O
  clear O Q
  go_wp2_with fail
  refine (H2.out sx0 _ sx1 _ _ (Ox0.out.row) (Ox1.out.row)).mono ?_
  rintro e w6 ⟨rfl, hh⟩
  have hb : Below w5.heap.size w5 w6 := Below.trans (by repeat (first | with_reducible exact Below.refl _ _ | with_reducible refine Below.setCell ?_ (by first | omega | (simp; done) | (simp; omega)) _ | with_reducible refine bDrewN ?_ _ | with_reducible refine Below.drew ?_ | with_reducible refine Below.alloc ?_ (by first | omega | (simp; done) | (simp; omega)) _)) (hh.mono (by first | omega | (simp; done) | (simp; omega)))
  have lw6 : w5.heap.size ≤ w6.heap.size := hb.size
  replace Ox0 : Hid (PlantR Sx0 w6 sx0 n0 V0) := Ox0.out.below hb
  replace Ox1 : Hid (I64R Sx1 w6 sx1 n1 V1) := Ox1.out.below hb
  replace Bs : Below w3.heap.size w3 w6 := Bs.trans (hb.mono Bs.size)
  replace B0 : Below w.heap.size w w6 := B0.trans (hb.mono B0.size)
  clear hb hh
  go_wp2_with fail
  refine (toPlantS_r s0 n0 c0 V0 _ hn0 (HR0.out.below B0)).mono ?_
  rintro e w7 ⟨sy0, Sy0, rfl, Q, O, hh⟩
  have hb : Below w6.heap.size w6 w7 := Below.trans (by repeat (first | with_reducible exact Below.refl _ _ | with_reducible refine Below.setCell ?_ (by first | omega | (simp; done) | (simp; omega)) _ | with_reducible refine bDrewN ?_ _ | with_reducible refine Below.drew ?_ | with_reducible refine Below.alloc ?_ (by first | omega | (simp; done) | (simp; omega)) _)) (hh.mono (by first | omega | (simp; done) | (simp; omega)))
  have lw7 : w6.heap.size ≤ w7.heap.size := hb.size
  replace Ox0 : Hid (PlantR Sx0 w7 sx0 n0 V0) := Ox0.out.below hb
  replace Ox1 : Hid (I64R Sx1 w7 sx1 n1 V1) := Ox1.out.below hb
  replace Bs : Below w3.heap.size w3 w7 := Bs.trans (hb.mono Bs.size)
  replace B0 : Below w.heap.size w w7 := B0.trans (hb.mono B0.size)
  clear hb hh
  have Qy0 : Hid (∀ k, Sy0 k → w6.heap.size ≤ k ∧ k < w7.heap.size) := (show ∀ k, Sy0 k → w6.heap.size ≤ k ∧ k < w7.heap.size from by simpa using Q)
  have Oy0 : Hid (PlantR Sy0 w7 sy0 n0 V0) := O
  clear O Q
  go_wp2_with fail
  refine (eqPlantS_any _ _ n0 _ _ V0 _ hn0 (Ox0.out.row) (Oy0.out.row)).mono ?_
  rintro e w8 ⟨rfl, hh⟩
  have hb : Below w7.heap.size w7 w8 := Below.trans (by repeat (first | with_reducible exact Below.refl _ _ | with_reducible refine Below.setCell ?_ (by first | omega | (simp; done) | (simp; omega)) _ | with_reducible refine bDrewN ?_ _ | with_reducible refine Below.drew ?_ | with_reducible refine Below.alloc ?_ (by first | omega | (simp; done) | (simp; omega)) _)) (hh.mono (by first | omega | (simp; done) | (simp; omega)))
  have lw8 : w7.heap.size ≤ w8.heap.size := hb.size
  replace Ox0 : Hid (PlantR Sx0 w8 sx0 n0 V0) := Ox0.out.below hb
  replace Ox1 : Hid (I64R Sx1 w8 sx1 n1 V1) := Ox1.out.below hb
  replace Oy0 : Hid (PlantR Sy0 w8 sy0 n0 V0) := Oy0.out.below hb
  replace Bs : Below w3.heap.size w3 w8 := Bs.trans (hb.mono Bs.size)
  replace B0 : Below w.heap.size w w8 := B0.trans (hb.mono B0.size)
  clear hb hh
  clear Oy0 Qy0 
  go_wp2_with fail
  refine (toInt64S_r s1 n1 c1 V1 _ hn1 (HR1.out.below B0)).mono ?_
  rintro e w9 ⟨sy1, Sy1, rfl, Q, O, hh⟩
  have hb : Below w8.heap.size w8 w9 := Below.trans (by repeat (first | with_reducible exact Below.refl _ _ | with_reducible refine Below.setCell ?_ (by first | omega | (simp; done) | (simp; omega)) _ | with_reducible refine bDrewN ?_ _ | with_reducible refine Below.drew ?_ | with_reducible refine Below.alloc ?_ (by first | omega | (simp; done) | (simp; omega)) _)) (hh.mono (by first | omega | (simp; done) | (simp; omega)))
  have lw9 : w8.heap.size ≤ w9.heap.size := hb.size
  replace Ox0 : Hid (PlantR Sx0 w9 sx0 n0 V0) := Ox0.out.below hb
  replace Ox1 : Hid (I64R Sx1 w9 sx1 n1 V1) := Ox1.out.below hb
  replace Bs : Below w3.heap.size w3 w9 := Bs.trans (hb.mono Bs.size)
  replace B0 : Below w.heap.size w w9 := B0.trans (hb.mono B0.size)
  clear hb hh
  have Qy1 : Hid (∀ k, Sy1 k → w8.heap.size ≤ k ∧ k < w9.heap.size) := (show ∀ k, Sy1 k → w8.heap.size ≤ k ∧ k < w9.heap.size from by simpa using Q)
  have Oy1 : Hid (I64R Sy1 w9 sy1 n1 V1) := O
  clear O Q
  go_wp2_with fail
  refine (eqInt64S_any _ _ n1 _ _ V1 _ hn1 (Ox1.out.row) (Oy1.out.row)).mono ?_
  rintro e w10 ⟨rfl, hh⟩
  have hb : Below w9.heap.size w9 w10 := Below.trans (by repeat (first | with_reducible exact Below.refl _ _ | with_reducible refine Below.setCell ?_ (by first | omega | (simp; done) | (simp; omega)) _ | with_reducible refine bDrewN ?_ _ | with_reducible refine Below.drew ?_ | with_reducible refine Below.alloc ?_ (by first | omega | (simp; done) | (simp; omega)) _)) (hh.mono (by first | omega | (simp; done) | (simp; omega)))
  have lw10 : w9.heap.size ≤ w10.heap.size := hb.size
  replace Ox0 : Hid (PlantR Sx0 w10 sx0 n0 V0) := Ox0.out.below hb
  replace Ox1 : Hid (I64R Sx1 w10 sx1 n1 V1) := Ox1.out.below hb
  replace Oy1 : Hid (I64R Sy1 w10 sy1 n1 V1) := Oy1.out.below hb
  replace Bs : Below w3.heap.size w3 w10 := Bs.trans (hb.mono Bs.size)
  replace B0 : Below w.heap.size w w10 := B0.trans (hb.mono B0.size)
  clear hb hh
  clear Oy1 Qy1 
  go_wp2
  go_ret
  exact ⟨rfl, B0⟩
set_option maxHeartbeats 800000 in
theorem floor_farn1 (w : World) (n0 : Nat) (V0 : Nat → Int × Int × Int × Int × Int) (s0 : Option Addr) (c0 : Nat) (n1 : Nat) (V1 : Nat → Int) (s1 : Option Addr) (c1 : Nat)  (g : (1048576 : Int) < n1) :
    Calls Try.prog 5 #[.slice s0 n0 c0, .slice s1 n1 c1] w fun e w' => e = .returned (.bool true) ∧ Below w.heap.size w w' := by
  go_enter Try.func5, Try.ntmps5
  go_wp2
  go_ret
  exact ⟨rfl, (by repeat (first | with_reducible exact Below.refl _ _ | with_reducible refine Below.setCell ?_ (by first | omega | (simp; done) | (simp; omega)) _ | with_reducible refine bDrewN ?_ _ | with_reducible refine Below.drew ?_ | with_reducible refine Below.alloc ?_ (by first | omega | (simp; done) | (simp; omega)) _))⟩
set_option maxHeartbeats 1600000 in
theorem floor_farn0 (w : World) (n0 : Nat) (V0 : Nat → Int × Int × Int × Int × Int) (s0 : Option Addr) (c0 : Nat) (n1 : Nat) (V1 : Nat → Int) (s1 : Option Addr) (c1 : Nat) (qn1 : (n1 : Int) ≤ 1048576)  (g : 1048576 < (n0 : Int)) (gg : (n0 : Int) ≤ 9223372036854775807)  :
    Calls Try.prog 5 #[.slice s0 n0 c0, .slice s1 n1 c1] w fun e w' => e = .returned (.bool true) ∧ Below w.heap.size w w' := by
  go_enter Try.func5, Try.ntmps5
  go_wp2_with fail
  refine (szPlantS_off _ n0 _ _ _ (by omega) (by omega) (by omega) (by omega)).mono ?_
  rintro e w ⟨rfl, rfl⟩
  go_wp2
  go_ret
  exact ⟨rfl, (by repeat (first | with_reducible exact Below.refl _ _ | with_reducible refine Below.setCell ?_ (by first | omega | (simp; done) | (simp; omega)) _ | with_reducible refine bDrewN ?_ _ | with_reducible refine Below.drew ?_ | with_reducible refine Below.alloc ?_ (by first | omega | (simp; done) | (simp; omega)) _))⟩
theorem fnExactFloor_walk (w : World) (s0 : Option Addr) (n0 c0 : Nat) (V0 : Nat → Int × Int × Int × Int × Int) (m0 : n0 ≤ 9223372036854775807) (R0 : RowPlant w s0 n0 V0) (s1 : Option Addr) (n1 c1 : Nat) (V1 : Nat → Int) (m1 : n1 ≤ 9223372036854775807) (R1 : RowI w s1 n1 V1) (w1 : ∀ j, j < n1 → -9223372036854775808 ≤ V1 j ∧ V1 j ≤ 9223372036854775807) :
    Calls Try.prog 5 #[.slice s0 n0 c0, .slice s1 n1 c1] w fun e w' => e = .returned (.bool true) ∧ Below w.heap.size w w' := by
  by_cases qn1 : (n1 : Int) ≤ 1048576
  case neg => exact floor_farn1 w n0 V0 s0 c0 n1 V1 s1 c1  (by omega)
  by_cases gn0 : (n0 : Int) ≤ 1048576
  case neg => exact floor_farn0 w n0 V0 s0 c0 n1 V1 s1 c1 qn1  (by omega) (by omega) 
  exact floor_near w n0 V0 s0 c0 (by omega) R0 n1 V1 s1 c1 (by omega) R1 (by omega) (floorV n0 V0 n1 V1) (fun s c t d w q r => specFloor_any s n0 c V0 t n1 d V1 w (by omega) (by omega) q r) (fun s c t d w q r => implFloor_any s n0 c V0 t n1 d V1 w (by omega) (by omega) q r)

set_option maxRecDepth 100000 in
theorem fnExactFloor_lifted (os : Os) (started : os.Started) (H : Type) (enc : TypeId × Value → H) :
    ReturnsInHanded {} Try.checked os 5 .any (Rows.fnExactFloorSpec.pre6 enc Try.prog Try.f5 Rows.fnExactFloorRow.domain false) (Rows.fnExactFloorSpec.post enc Try.prog Try.f5 false true false false) := by
  refine returnsInHanded_of_change (C := Try.checked) own started (by kernel_rfl) Try.func5
    (ChangeSpec.witness6 (enc := enc) (C := Try.checked) false ⟨#[], #[.slice none 0 0, .slice none 0 0], []⟩ 8 (by kernel_rfl) (by kernel_rfl) (by kernel_rfl) (by kernel_rfl)) ?_
  intro W base args ds gs before hval0 hW hcnd _
  have hval : ∀ (j : Nat) t v, Try.f5.params[j]? = some t → args[j]? = some v → Value.okWide Try.prog W .any base t v := hval0
  have hW' := hW
  obtain ⟨p, q, hA0, hV, rfl, hfz, hnd⟩ := hW
  have hA : DataW.TrodAll enc Try.prog W 0 (fun _ => true) true Try.f5.params.toList args.toList ds p := hA0
  rw [Try.params5] at hA hval
  obtain ⟨v0, vs0, d0, ds0, p0, q0, hargs, rfl, rfl, h0, r0⟩ := trodAll_cons hA
  obtain ⟨v1, vs1, d1, ds1, p1, q1, rfl, rfl, rfl, h1, r1⟩ := trodAll_cons r0
  obtain ⟨rfl, rfl, rfl⟩ := trodAll_nil r1
  obtain rfl : args = #[v0, v1] := by cases args; simp_all
  obtain ⟨rfl, rfl⟩ := trodVars_none hV
  have k0 := h0
  have lt0 : ∀ x ∈ p0, x.block < W.heap.size := by obtain ⟨m, hm⟩ := k0; exact DataW.trod_lt m _ _ _ hm
  have k1 := h1
  have lt1 : ∀ x ∈ p1, x.block < W.heap.size := by obtain ⟨m, hm⟩ := k1; exact DataW.trod_lt m _ _ _ hm
  obtain ⟨s0, n0, c0, V0, rfl, m0, R0⟩ := open_PlantS Try.underlying22 Try.underlying58 (by kernel_rfl) rfl rfl rfl rfl rfl (by kernel_rfl) (by kernel_rfl) (by kernel_rfl) (by kernel_rfl) (by kernel_rfl) (by kernel_rfl) (by kernel_rfl) (by kernel_rfl) (by kernel_rfl) (by kernel_rfl) (hval 0 22 v0 rfl rfl) h0
  obtain ⟨s1, n1, c1, V1, rfl, m1, R1, w1⟩ := open_i64s Try.underlying25 Try.underlying2 (by kernel_rfl) (hval 1 25 v1 rfl rfl) h1
  clear hA0 hval0
  refine (fnExactFloor_walk W s0 n0 c0 V0 m0 R0 s1 n1 c1 V1 m1 R1 w1).mono fun e W' ⟨he, bel⟩ => ?_
  subst he
  exact ⟨_, rfl, _, _, _, [], _, [], hW', trodAll_mk1 (shut_bool Try.underlying4 _), (trodAll_cons_mk (Below.trod laidOut (by kernel_rfl) (of_decide_eq_true (by kernel_rfl)) k0 bel lt0) (trodAll_cons_mk (Below.trod laidOut (by kernel_rfl) (of_decide_eq_true (by kernel_rfl)) k1 bel lt1) trodAll_mk0)), rfl, bel.frame _, fun h => by cases h⟩

theorem fnExactFloor_holds : Rows.FnExactFloorSaid :=
  OpenClaim.holds_of_wide 5 Try.f5 rfl rfl rfl rfl rfl rfl rfl ⟨rfl, rfl, rfl, rfl, rfl⟩ rfl rfl rfl rfl rfl (by kernel_rfl) Try.func5 (by kernel_rfl)
    (of_decide_eq_true (by kernel_rfl)) (by unfold Func.isWrapper; first | (rw [if_pos (by decide +kernel)]; kernel_rfl) | (rw [if_neg (by decide +kernel)]; exact ⟨rfl, rfl⟩))
    (fun os started H enc _ => fnExactFloor_lifted os started H enc)
#print axioms fnExactFloor_holds
end Go.Proofs.Ytdlbniihgppodaa
