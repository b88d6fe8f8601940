/-
What is proved: at every jobs, crews and beginnings impl.ScheduleOk answers as the specification's ScheduleOk and leaves them as they were, where the variables of errors hold what the program's text lays (the card ties that).
-/
import Derived.Test.YtfhbkfdfggaomaaDoorScS
import Derived.Test.YtfhbkfdfggaomaaDoorJbO
import Derived.Test.YtfhbkfdfggaomaaDoorI64R2
import Derived.Test.YtfhbkfdfggaomaaDoorOpenI
import Derived.Test.YtfhbkfdfggaomaaDoorLaid
import Derived.Stop.LaidErr
import Derived.LaidHandle
namespace Go.Proofs.YtfhbkfdfggaomaaDoor
set_option maxRecDepth 40000
open Go.ChangeShapes Go.WideShapes Go.ChangeAt Go.RowKit
set_option linter.unusedVariables false
set_option linter.unusedSimpArgs false

set_option maxRecDepth 20000 in
set_option maxHeartbeats 8000000 in
theorem scheduleOk_near (w : World) (n0 : Nat) (X0 : Nat → Int) (K0 : Nat → Nat) (V0 : Nat → Nat → Int) (s0 : Option Addr) (c0 : Nat) (hn0 : ((n0 : Int) + (suK K0 n0 : Int)) ≤ 1048576) (HR0 : Hid (RowJbs w s0 n0 X0 K0 V0)) (a1 : Int) (n2 : Nat) (V2 : Nat → Int) (s2 : Option Addr) (c2 : Nat) (hn2 : (n2 : Int) ≤ 1048576) (HR2 : Hid (RowI w s2 n2 V2)) (gn0 : ((n0 : Int) + (suK K0 n0 : Int)) ≤ 1048576) (ar0 : Bool)
    (H1 : Hid (∀ (s0 : Option Addr) (c0 : Nat) (s2 : Option Addr) (c2 : Nat) w, RowJbs w s0 n0 X0 K0 V0 → RowI w s2 n2 V2 → Calls Tryd.prog 42 #[.slice s0 n0 c0, .int .i64 a1, .slice s2 n2 c2] w fun e w' => e = .returned (.bool ar0) ∧ Below w.heap.size w w'))
    (H2 : Hid (∀ (s0 : Option Addr) (c0 : Nat) (s2 : Option Addr) (c2 : Nat) w, RowJbs w s0 n0 X0 K0 V0 → RowI w s2 n2 V2 → ErrS w → Calls Tryd.prog 44 #[.slice s0 n0 c0, .int .i64 a1, .slice s2 n2 c2] w fun e w' => e = .returned (.bool ar0) ∧ Below w.heap.size w w')) (HWd : Hid (ErrS w)) :
    Calls Tryd.prog 7 #[.slice s0 n0 c0, .int .i64 a1, .slice s2 n2 c2] w fun e w' => e = .returned (.bool true) ∧ Below w.heap.size w w' := by
  have sto := store_slT
  go_enter Tryd.func7, Tryd.ntmps7
  go_wp2_with fail
  refine (szJobS_on _ n0 _ X0 K0 V0 _ _ (by omega) (by omega) (by omega) (HR0.out)).mono ?_
  rintro e w1 ⟨rfl, hh⟩
  have hb : Below w.heap.size w w1 := Below.trans (by repeat (first | with_reducible exact Below.refl _ _ | with_reducible refine Below.setCell ?_ (by first | omega | (simp; done) | (simp; omega)) _ | with_reducible refine bDrewN ?_ _ | with_reducible refine Below.drew ?_ | with_reducible refine Below.alloc ?_ (by first | omega | (simp; done) | (simp; omega)) _)) (hh.mono (by first | omega | (simp; done) | (simp; omega)))
  have lw1 : w.heap.size ≤ w1.heap.size := hb.size
  have B0 : Below w.heap.size w w1 := hb
  clear hb hh
  go_wp2_with fail
  refine (toJobS_r s0 n0 c0 X0 K0 V0 _ hn0 (HR0.out.below B0)).mono ?_
  rintro e w2 ⟨st0, St0, rfl, Q, O, hh⟩
  have hb : Below w1.heap.size w1 w2 := Below.trans (by repeat (first | with_reducible exact Below.refl _ _ | with_reducible refine Below.setCell ?_ (by first | omega | (simp; done) | (simp; omega)) _ | with_reducible refine bDrewN ?_ _ | with_reducible refine Below.drew ?_ | with_reducible refine Below.alloc ?_ (by first | omega | (simp; done) | (simp; omega)) _)) (hh.mono (by first | omega | (simp; done) | (simp; omega)))
  have lw2 : w1.heap.size ≤ w2.heap.size := hb.size
  replace B0 : Below w.heap.size w w2 := B0.trans (hb.mono B0.size)
  clear hb hh
  have Qt0 : Hid (∀ k, St0 k → w1.heap.size ≤ k ∧ k < w2.heap.size) := (show ∀ k, St0 k → w1.heap.size ≤ k ∧ k < w2.heap.size from by simpa using Q)
  have Ot0 : Hid (JbsR St0 w2 st0 n0 X0 K0 V0) := O
  clear O Q
  go_wp2_with fail
  refine (toInt64S_r s2 n2 c2 V2 _ hn2 (HR2.out.below B0)).mono ?_
  rintro e w3 ⟨st2, St2, rfl, Q, O, hh⟩
  have hb : Below w2.heap.size w2 w3 := Below.trans (by repeat (first | with_reducible exact Below.refl _ _ | with_reducible refine Below.setCell ?_ (by first | omega | (simp; done) | (simp; omega)) _ | with_reducible refine bDrewN ?_ _ | with_reducible refine Below.drew ?_ | with_reducible refine Below.alloc ?_ (by first | omega | (simp; done) | (simp; omega)) _)) (hh.mono (by first | omega | (simp; done) | (simp; omega)))
  have lw3 : w2.heap.size ≤ w3.heap.size := hb.size
  replace Ot0 : Hid (JbsR St0 w3 st0 n0 X0 K0 V0) := Ot0.out.below hb
  replace B0 : Below w.heap.size w w3 := B0.trans (hb.mono B0.size)
  clear hb hh
  have Qt2 : Hid (∀ k, St2 k → w2.heap.size ≤ k ∧ k < w3.heap.size) := (show ∀ k, St2 k → w2.heap.size ≤ k ∧ k < w3.heap.size from by simpa using Q)
  have Ot2 : Hid (I64R St2 w3 st2 n2 V2) := O
  clear O Q
  go_wp2_with fail
  refine (H1.out st0 _ st2 _ _ (Ot0.out.row) (Ot2.out.row)).mono ?_
  rintro e w4 ⟨rfl, hh⟩
  have hb : Below w3.heap.size w3 w4 := Below.trans (by repeat (first | with_reducible exact Below.refl _ _ | with_reducible refine Below.setCell ?_ (by first | omega | (simp; done) | (simp; omega)) _ | with_reducible refine bDrewN ?_ _ | with_reducible refine Below.drew ?_ | with_reducible refine Below.alloc ?_ (by first | omega | (simp; done) | (simp; omega)) _)) (hh.mono (by first | omega | (simp; done) | (simp; omega)))
  have lw4 : w3.heap.size ≤ w4.heap.size := hb.size
  replace Ot0 : Hid (JbsR St0 w4 st0 n0 X0 K0 V0) := Ot0.out.below hb
  replace Ot2 : Hid (I64R St2 w4 st2 n2 V2) := Ot2.out.below hb
  replace B0 : Below w.heap.size w w4 := B0.trans (hb.mono B0.size)
  clear hb hh
  clear Ot0 Qt0 
  clear Ot2 Qt2 
  have Bs : Below w4.heap.size w4 w4 := Below.refl _ _
  go_wp2_with fail
  refine (toJobS_r s0 n0 c0 X0 K0 V0 _ hn0 (HR0.out.below B0)).mono ?_
  rintro e w5 ⟨sx0, Sx0, rfl, Q, O, hh⟩
  have hb : Below w4.heap.size w4 w5 := Below.trans (by repeat (first | with_reducible exact Below.refl _ _ | with_reducible refine Below.setCell ?_ (by first | omega | (simp; done) | (simp; omega)) _ | with_reducible refine bDrewN ?_ _ | with_reducible refine Below.drew ?_ | with_reducible refine Below.alloc ?_ (by first | omega | (simp; done) | (simp; omega)) _)) (hh.mono (by first | omega | (simp; done) | (simp; omega)))
  have lw5 : w4.heap.size ≤ w5.heap.size := hb.size
  replace Bs : Below w4.heap.size w4 w5 := Bs.trans (hb.mono Bs.size)
  replace B0 : Below w.heap.size w w5 := B0.trans (hb.mono B0.size)
  clear hb hh
  have Qx0 : Hid (∀ k, Sx0 k → w4.heap.size ≤ k ∧ k < w5.heap.size) := (show ∀ k, Sx0 k → w4.heap.size ≤ k ∧ k < w5.heap.size from by simpa using Q)
  have Ox0 : Hid (JbsR Sx0 w5 sx0 n0 X0 K0 V0) := O
  clear O Q
  go_wp2_with fail
  refine (toInt64S_r s2 n2 c2 V2 _ hn2 (HR2.out.below B0)).mono ?_
  rintro e w6 ⟨sx2, Sx2, rfl, Q, O, hh⟩
  have hb : Below w5.heap.size w5 w6 := Below.trans (by repeat (first | with_reducible exact Below.refl _ _ | with_reducible refine Below.setCell ?_ (by first | omega | (simp; done) | (simp; omega)) _ | with_reducible refine bDrewN ?_ _ | with_reducible refine Below.drew ?_ | with_reducible refine Below.alloc ?_ (by first | omega | (simp; done) | (simp; omega)) _)) (hh.mono (by first | omega | (simp; done) | (simp; omega)))
  have lw6 : w5.heap.size ≤ w6.heap.size := hb.size
  replace Ox0 : Hid (JbsR Sx0 w6 sx0 n0 X0 K0 V0) := Ox0.out.below hb
  replace Bs : Below w4.heap.size w4 w6 := Bs.trans (hb.mono Bs.size)
  replace B0 : Below w.heap.size w w6 := B0.trans (hb.mono B0.size)
  clear hb hh
  have Qx2 : Hid (∀ k, Sx2 k → w5.heap.size ≤ k ∧ k < w6.heap.size) := (show ∀ k, Sx2 k → w5.heap.size ≤ k ∧ k < w6.heap.size from by simpa using Q)
  have Ox2 : Hid (I64R Sx2 w6 sx2 n2 V2) := O
  clear O Q
  go_wp2_with fail
  refine (H2.out sx0 _ sx2 _ _ (Ox0.out.row) (Ox2.out.row) (HWd.out.below B0)).mono ?_
  rintro e w7 ⟨rfl, hh⟩
  have hb : Below w6.heap.size w6 w7 := Below.trans (by repeat (first | with_reducible exact Below.refl _ _ | with_reducible refine Below.setCell ?_ (by first | omega | (simp; done) | (simp; omega)) _ | with_reducible refine bDrewN ?_ _ | with_reducible refine Below.drew ?_ | with_reducible refine Below.alloc ?_ (by first | omega | (simp; done) | (simp; omega)) _)) (hh.mono (by first | omega | (simp; done) | (simp; omega)))
  have lw7 : w6.heap.size ≤ w7.heap.size := hb.size
  replace Ox0 : Hid (JbsR Sx0 w7 sx0 n0 X0 K0 V0) := Ox0.out.below hb
  replace Ox2 : Hid (I64R Sx2 w7 sx2 n2 V2) := Ox2.out.below hb
  replace Bs : Below w4.heap.size w4 w7 := Bs.trans (hb.mono Bs.size)
  replace B0 : Below w.heap.size w w7 := B0.trans (hb.mono B0.size)
  clear hb hh
  go_wp2_with fail
  refine (toJobS_r s0 n0 c0 X0 K0 V0 _ hn0 (HR0.out.below B0)).mono ?_
  rintro e w8 ⟨sy0, Sy0, rfl, Q, O, hh⟩
  have hb : Below w7.heap.size w7 w8 := Below.trans (by repeat (first | with_reducible exact Below.refl _ _ | with_reducible refine Below.setCell ?_ (by first | omega | (simp; done) | (simp; omega)) _ | with_reducible refine bDrewN ?_ _ | with_reducible refine Below.drew ?_ | with_reducible refine Below.alloc ?_ (by first | omega | (simp; done) | (simp; omega)) _)) (hh.mono (by first | omega | (simp; done) | (simp; omega)))
  have lw8 : w7.heap.size ≤ w8.heap.size := hb.size
  replace Ox0 : Hid (JbsR Sx0 w8 sx0 n0 X0 K0 V0) := Ox0.out.below hb
  replace Ox2 : Hid (I64R Sx2 w8 sx2 n2 V2) := Ox2.out.below hb
  replace Bs : Below w4.heap.size w4 w8 := Bs.trans (hb.mono Bs.size)
  replace B0 : Below w.heap.size w w8 := B0.trans (hb.mono B0.size)
  clear hb hh
  have Qy0 : Hid (∀ k, Sy0 k → w7.heap.size ≤ k ∧ k < w8.heap.size) := (show ∀ k, Sy0 k → w7.heap.size ≤ k ∧ k < w8.heap.size from by simpa using Q)
  have Oy0 : Hid (JbsR Sy0 w8 sy0 n0 X0 K0 V0) := O
  clear O Q
  go_wp2_with fail
  refine (eqJobS_r _ _ n0 _ _ X0 K0 V0 _ hn0 (Ox0.out.row) (Oy0.out.row)).mono ?_
  rintro e w9 ⟨rfl, hh⟩
  have hb : Below w8.heap.size w8 w9 := Below.trans (by repeat (first | with_reducible exact Below.refl _ _ | with_reducible refine Below.setCell ?_ (by first | omega | (simp; done) | (simp; omega)) _ | with_reducible refine bDrewN ?_ _ | with_reducible refine Below.drew ?_ | with_reducible refine Below.alloc ?_ (by first | omega | (simp; done) | (simp; omega)) _)) (hh.mono (by first | omega | (simp; done) | (simp; omega)))
  have lw9 : w8.heap.size ≤ w9.heap.size := hb.size
  replace Ox0 : Hid (JbsR Sx0 w9 sx0 n0 X0 K0 V0) := Ox0.out.below hb
  replace Ox2 : Hid (I64R Sx2 w9 sx2 n2 V2) := Ox2.out.below hb
  replace Oy0 : Hid (JbsR Sy0 w9 sy0 n0 X0 K0 V0) := Oy0.out.below hb
  replace Bs : Below w4.heap.size w4 w9 := Bs.trans (hb.mono Bs.size)
  replace B0 : Below w.heap.size w w9 := B0.trans (hb.mono B0.size)
  clear hb hh
  clear Oy0 Qy0 
  go_wp2_with fail
  refine (toInt64S_r s2 n2 c2 V2 _ hn2 (HR2.out.below B0)).mono ?_
  rintro e w10 ⟨sy2, Sy2, rfl, Q, O, hh⟩
  have hb : Below w9.heap.size w9 w10 := Below.trans (by repeat (first | with_reducible exact Below.refl _ _ | with_reducible refine Below.setCell ?_ (by first | omega | (simp; done) | (simp; omega)) _ | with_reducible refine bDrewN ?_ _ | with_reducible refine Below.drew ?_ | with_reducible refine Below.alloc ?_ (by first | omega | (simp; done) | (simp; omega)) _)) (hh.mono (by first | omega | (simp; done) | (simp; omega)))
  have lw10 : w9.heap.size ≤ w10.heap.size := hb.size
  replace Ox0 : Hid (JbsR Sx0 w10 sx0 n0 X0 K0 V0) := Ox0.out.below hb
  replace Ox2 : Hid (I64R Sx2 w10 sx2 n2 V2) := Ox2.out.below hb
  replace Bs : Below w4.heap.size w4 w10 := Bs.trans (hb.mono Bs.size)
  replace B0 : Below w.heap.size w w10 := B0.trans (hb.mono B0.size)
  clear hb hh
  have Qy2 : Hid (∀ k, Sy2 k → w9.heap.size ≤ k ∧ k < w10.heap.size) := (show ∀ k, Sy2 k → w9.heap.size ≤ k ∧ k < w10.heap.size from by simpa using Q)
  have Oy2 : Hid (I64R Sy2 w10 sy2 n2 V2) := O
  clear O Q
  go_wp2_with fail
  refine (eqInt64S_any _ _ n2 _ _ V2 _ hn2 (Ox2.out.row) (Oy2.out.row)).mono ?_
  rintro e w11 ⟨rfl, hh⟩
  have hb : Below w10.heap.size w10 w11 := Below.trans (by repeat (first | with_reducible exact Below.refl _ _ | with_reducible refine Below.setCell ?_ (by first | omega | (simp; done) | (simp; omega)) _ | with_reducible refine bDrewN ?_ _ | with_reducible refine Below.drew ?_ | with_reducible refine Below.alloc ?_ (by first | omega | (simp; done) | (simp; omega)) _)) (hh.mono (by first | omega | (simp; done) | (simp; omega)))
  have lw11 : w10.heap.size ≤ w11.heap.size := hb.size
  replace Ox0 : Hid (JbsR Sx0 w11 sx0 n0 X0 K0 V0) := Ox0.out.below hb
  replace Ox2 : Hid (I64R Sx2 w11 sx2 n2 V2) := Ox2.out.below hb
  replace Oy2 : Hid (I64R Sy2 w11 sy2 n2 V2) := Oy2.out.below hb
  replace Bs : Below w4.heap.size w4 w11 := Bs.trans (hb.mono Bs.size)
  replace B0 : Below w.heap.size w w11 := B0.trans (hb.mono B0.size)
  clear hb hh
  clear Oy2 Qy2 
  go_wp2
  go_ret
  exact ⟨rfl, B0⟩
set_option maxHeartbeats 800000 in
theorem scheduleOk_farn2 (w : World) (n0 : Nat) (X0 : Nat → Int) (K0 : Nat → Nat) (V0 : Nat → Nat → Int) (s0 : Option Addr) (c0 : Nat) (a1 : Int) (n2 : Nat) (V2 : Nat → Int) (s2 : Option Addr) (c2 : Nat)  (g : (1048576 : Int) < n2) :
    Calls Tryd.prog 7 #[.slice s0 n0 c0, .int .i64 a1, .slice s2 n2 c2] w fun e w' => e = .returned (.bool true) ∧ Below w.heap.size w w' := by
  go_enter Tryd.func7, Tryd.ntmps7
  go_wp2
  go_ret
  exact ⟨rfl, (by repeat (first | with_reducible exact Below.refl _ _ | with_reducible refine Below.setCell ?_ (by first | omega | (simp; done) | (simp; omega)) _ | with_reducible refine bDrewN ?_ _ | with_reducible refine Below.drew ?_ | with_reducible refine Below.alloc ?_ (by first | omega | (simp; done) | (simp; omega)) _))⟩
set_option maxHeartbeats 1600000 in
theorem scheduleOk_farn0 (w : World) (n0 : Nat) (X0 : Nat → Int) (K0 : Nat → Nat) (V0 : Nat → Nat → Int) (s0 : Option Addr) (c0 : Nat) (a1 : Int) (n2 : Nat) (V2 : Nat → Int) (s2 : Option Addr) (c2 : Nat) (qn2 : (n2 : Int) ≤ 1048576)  (g : 1048576 < ((n0 : Int) + (suK K0 n0 : Int))) (gg : (n0 : Int) ≤ 9223372036854775807) (k63 : ∀ i, i < n0 → (K0 i : Int) ≤ 9223372036854775807) (HR0 : Hid (RowJbs w s0 n0 X0 K0 V0)) :
    Calls Tryd.prog 7 #[.slice s0 n0 c0, .int .i64 a1, .slice s2 n2 c2] w fun e w' => e = .returned (.bool true) ∧ Below w.heap.size w w' := by
  go_enter Tryd.func7, Tryd.ntmps7
  go_wp2_with fail
  refine (szJobS_off _ n0 _ X0 K0 V0 _ _ (by omega) (by omega) (by omega) gg k63 HR0.out).mono ?_
  rintro e u1 ⟨rfl, hh⟩
  have hb : Below w.heap.size w u1 := hh
  have B0 := hb
  clear hb hh
  go_wp2
  go_ret
  exact ⟨rfl, (by repeat (first | with_reducible exact Below.refl _ _ | with_reducible exact B0 | with_reducible refine Below.setCell ?_ (by first | omega | (simp; done) | (simp; omega)) _ | with_reducible refine bDrewN ?_ _ | with_reducible refine Below.drew ?_ | with_reducible refine Below.alloc ?_ (by first | omega | (simp; done) | (simp; omega)) _))⟩
theorem fnExactScheduleOk_walk (w : World) (s0 : Option Addr) (n0 c0 : Nat) (X0 : Nat → Int) (K0 : Nat → Nat) (V0 : Nat → Nat → Int) (m0 : n0 ≤ 9223372036854775807) (mk0 : ∀ i, i < n0 → K0 i ≤ 9223372036854775807) (R0 : RowJbs w s0 n0 X0 K0 V0) (a1 : Int) (w1 : (Lit.int .i64 a1).wf = true) (s2 : Option Addr) (n2 c2 : Nat) (V2 : Nat → Int) (m2 : n2 ≤ 9223372036854775807) (R2 : RowI w s2 n2 V2) (w2 : ∀ j, j < n2 → -9223372036854775808 ≤ V2 j ∧ V2 j ≤ 9223372036854775807) (HWd : ErrS w) :
    Calls Tryd.prog 7 #[.slice s0 n0 c0, .int .i64 a1, .slice s2 n2 c2] w fun e w' => e = .returned (.bool true) ∧ Below w.heap.size w w' := by
  have k60 : ∀ i, i < n0 → (K0 i : Int) ≤ 9223372036854775807 := fun i hi => by have := mk0 i hi; omega
  by_cases qn2 : (n2 : Int) ≤ 1048576
  case neg => exact scheduleOk_farn2 w n0 X0 K0 V0 s0 c0 a1 n2 V2 s2 c2  (by omega)
  by_cases gn0 : ((n0 : Int) + (suK K0 n0 : Int)) ≤ 1048576
  case neg => exact scheduleOk_farn0 w n0 X0 K0 V0 s0 c0 a1 n2 V2 s2 c2 qn2  (by omega) (by omega) k60 R0
  exact scheduleOk_near w n0 X0 K0 V0 s0 c0 (by omega) R0 a1 n2 V2 s2 c2 (by omega) R2 (by omega) (schB n0 X0 K0 V0 a1 n2 V2) (fun s c t d w q r => specScheduleOk_any s t n0 c n2 d X0 K0 V0 a1 V2 w (by omega) (by omega) (Jbs_each (by omega)) q r) (fun s c t d w q r x => implScheduleOk_any s t n0 c n2 d X0 K0 V0 a1 V2 w (by omega) (by omega) (Jbs_each (by omega)) q r x) HWd

theorem fnExactScheduleOk_star : "*" ++ "errors.errorString" = "*errors.errorString" := by decide
theorem fnExactScheduleOk_ptr (u : TypeId) (h : Tryd.prog.typeName? 3 u = some "*errors.errorString") : u = 170 :=
  typeName_ptr_named (nm := "errors.errorString") (by rw [fnExactScheduleOk_star]; kernel_rfl) (by kernel_rfl) (by decide) u (by rw [fnExactScheduleOk_star]; exact h)
theorem fnExactScheduleOk_lt {W : World} {g : Nat} {v : Value} (h : W.cell? ⟨g, 0, none⟩ = some v) : g < W.heap.size := by
  rcases Nat.lt_or_ge g W.heap.size with k | k
  · exact k
  · simp [World.cell?, Array.getElem?_eq_none k] at h
theorem fnExactScheduleOk_errs {W : World} (h : laidMetH Tryd.prog Rows.fnExactScheduleOkRow.laid W) : ErrS W := by
  have h' : laidMet Tryd.prog Rows.fnExactScheduleOkRow.laid.tail W ∧ handlesMet Tryd.prog (Rows.fnExactScheduleOkRow.laid.take 1) W := h
  obtain ⟨name, u, ty, e1, e2, e3, e4, e5⟩ := h'.2 _ (List.mem_singleton.2 rfl)
  have en : name = [101, 114, 114, 111, 114] := (Option.some.inj e1).symm
  subst en
  have eu : u = 155 := by
    have h2 : some u = some 155 := e2.symm.trans (by kernel_rfl)
    exact Option.some.inj h2
  subst eu
  have sz : Tryd.prog.types.size = 209 := by kernel_rfl
  have one : ((List.range 209).filter fun t => Tryd.prog.rowNamed t [101, 114, 114, 111, 114]) = [82] := by kernel_rfl
  have hm : ty ∈ (List.range 209).filter fun t => Tryd.prog.rowNamed t [101, 114, 114, 111, 114] := List.mem_filter.2 ⟨List.mem_range.2 (by rw [← sz]; exact e3), e4⟩
  rw [one] at hm
  obtain rfl := List.mem_singleton.1 hm
  have hh : typeHandle Tryd.prog 82 = .pointer (some ⟨7, 82, none⟩) := by kernel_rfl
  rw [hh] at e5
  have ce : W.cell? ⟨6, 0, none⟩ = some (.iface 155 (.agg #[.pointer (some ⟨7, 82, none⟩)])) := by simpa using World.var?_cell (g := 6) (by kernel_rfl) e5 0
  have l0 := h'.1
  obtain ⟨a0, s0, hv0, -, -, -⟩ := laid_sentinel (g := 0) (ti := 82) (tp := 170) (te := 193) (ts := 9) l0 (by kernel_rfl) (by kernel_rfl) Tryd.underlying82 fnExactScheduleOk_ptr Tryd.underlying170 Tryd.underlying193 rfl rfl Tryd.underlying9 (by kernel_rfl) (by kernel_rfl)
  have c0 : W.cell? ⟨0, 0, none⟩ = some (.iface 170 (.pointer (some a0))) := by simpa using World.var?_cell (g := 0) (by kernel_rfl) hv0 0
  have l1 := cells_of_tail l0
  obtain ⟨a1, s1, hv1, -, -, -⟩ := laid_sentinel (g := 1) (ti := 82) (tp := 170) (te := 193) (ts := 9) l1 (by kernel_rfl) (by kernel_rfl) Tryd.underlying82 fnExactScheduleOk_ptr Tryd.underlying170 Tryd.underlying193 rfl rfl Tryd.underlying9 (by kernel_rfl) (by kernel_rfl)
  have c1 : W.cell? ⟨1, 0, none⟩ = some (.iface 170 (.pointer (some a1))) := by simpa using World.var?_cell (g := 1) (by kernel_rfl) hv1 0
  have l2 := cells_of_tail l1
  obtain ⟨a2, s2, hv2, -, -, -⟩ := laid_sentinel (g := 3) (ti := 82) (tp := 170) (te := 193) (ts := 9) l2 (by kernel_rfl) (by kernel_rfl) Tryd.underlying82 fnExactScheduleOk_ptr Tryd.underlying170 Tryd.underlying193 rfl rfl Tryd.underlying9 (by kernel_rfl) (by kernel_rfl)
  have c2 : W.cell? ⟨3, 0, none⟩ = some (.iface 170 (.pointer (some a2))) := by simpa using World.var?_cell (g := 3) (by kernel_rfl) hv2 0
  have l3 := cells_of_tail l2
  obtain ⟨a3, s3, hv3, -, -, -⟩ := laid_sentinel (g := 4) (ti := 82) (tp := 170) (te := 193) (ts := 9) l3 (by kernel_rfl) (by kernel_rfl) Tryd.underlying82 fnExactScheduleOk_ptr Tryd.underlying170 Tryd.underlying193 rfl rfl Tryd.underlying9 (by kernel_rfl) (by kernel_rfl)
  have c3 : W.cell? ⟨4, 0, none⟩ = some (.iface 170 (.pointer (some a3))) := by simpa using World.var?_cell (g := 4) (by kernel_rfl) hv3 0
  have l4 := cells_of_tail l3
  obtain ⟨a4, s4, hv4, -, -, -⟩ := laid_sentinel (g := 5) (ti := 82) (tp := 170) (te := 193) (ts := 9) l4 (by kernel_rfl) (by kernel_rfl) Tryd.underlying82 fnExactScheduleOk_ptr Tryd.underlying170 Tryd.underlying193 rfl rfl Tryd.underlying9 (by kernel_rfl) (by kernel_rfl)
  have c4 : W.cell? ⟨5, 0, none⟩ = some (.iface 170 (.pointer (some a4))) := by simpa using World.var?_cell (g := 5) (by kernel_rfl) hv4 0
  exact ⟨⟨fnExactScheduleOk_lt ce, ce⟩, ⟨fnExactScheduleOk_lt c0, _, _, c0⟩, ⟨fnExactScheduleOk_lt c1, _, _, c1⟩, ⟨fnExactScheduleOk_lt c2, _, _, c2⟩, ⟨fnExactScheduleOk_lt c3, _, _, c3⟩, ⟨fnExactScheduleOk_lt c4, _, _, c4⟩⟩
theorem fnExactScheduleOk_vars {H : Type} {enc : TypeId × Value → H} {P : Program} {w : World} {sp : Nat → Bool} : ∀ {ns : List String} {gs : List (DataW H)} {ps : List MemPlace}, DataW.TrodVars enc P w sp ns gs ps → gs.length = ns.length
  | [], [], _, _ => rfl
  | [], _ :: _, _, h => h.elim
  | _ :: _, [], _, h => h.elim
  | _ :: _, _ :: _, _, ⟨_, _, _, _, _, _, _, _, _, _, hs, _⟩ => by simp [fnExactScheduleOk_vars hs]
theorem fnExactScheduleOk_contract (H : Type) (enc : TypeId × Value → H) (W : World) (base : Nat) (args : Array Value) (ds gs : List (DataW H)) (before : List MemPlace)
    (hval : ∀ (j : Nat) t v, Tryd.f7.params[j]? = some t → args[j]? = some v → Value.okWide Tryd.prog W .any base t v)
    (hW : DataW.Whole enc Tryd.prog Tryd.f7.params.toList Rows.fnExactScheduleOkSpec.vars false W args.toList ds gs before) (hL : laidMetH Tryd.prog Rows.fnExactScheduleOkRow.laid W) :
    Calls Tryd.prog 7 args W fun e W' => ∃ v, e = .returned v ∧ Rows.fnExactScheduleOkSpec.post enc Tryd.prog Tryd.f7 false true false false W args v W' := by
  have hW' := hW
  obtain ⟨p, q, hA0, hV, rfl, hfz, hnd⟩ := hW
  have hA : DataW.TrodAll enc Tryd.prog W 0 (fun _ => true) true Tryd.f7.params.toList args.toList ds p := hA0
  rw [Tryd.params7] at hA hval
  obtain ⟨v0, vs0, d0, ds0, p0, q0, hargs, rfl, rfl, h0, r0⟩ := trodAll_cons hA
  obtain ⟨v1, vs1, d1, ds1, p1, q1, rfl, rfl, rfl, h1, r1⟩ := trodAll_cons r0
  obtain ⟨v2, vs2, d2, ds2, p2, q2, rfl, rfl, rfl, h2, r2⟩ := trodAll_cons r1
  obtain ⟨rfl, rfl, rfl⟩ := trodAll_nil r2
  obtain rfl : args = #[v0, v1, v2] := by cases args; simp_all
  have hV2 := hV
  have hlen := fnExactScheduleOk_vars hV
  obtain ⟨y0, y1, y2, y3, y4, rfl⟩ : ∃ y0 y1 y2 y3 y4, gs = [y0, y1, y2, y3, y4] := by
    have hl : gs.length = 5 := hlen.trans (by kernel_rfl)
    rcases gs with _ | ⟨y0, _ | ⟨y1, _ | ⟨y2, _ | ⟨y3, _ | ⟨y4, _ | ⟨z, r⟩⟩⟩⟩⟩⟩
    · cases hl
    · cases hl
    · cases hl
    · cases hl
    · cases hl
    · exact ⟨_, _, _, _, _, rfl⟩
    · simp at hl
  have k0 := h0
  have lt0 : ∀ x ∈ p0, x.block < W.heap.size := by obtain ⟨m, hm⟩ := k0; exact DataW.trod_lt m _ _ _ hm
  have k1 := h1
  have lt1 : ∀ x ∈ p1, x.block < W.heap.size := by obtain ⟨m, hm⟩ := k1; exact DataW.trod_lt m _ _ _ hm
  have k2 := h2
  have lt2 : ∀ x ∈ p2, x.block < W.heap.size := by obtain ⟨m, hm⟩ := k2; exact DataW.trod_lt m _ _ _ hm
  obtain ⟨s0, n0, c0, X0, S0, K0, C0, V0, rfl, m0, mk0, RR0⟩ := open_JobS Tryd.underlying57 Tryd.underlying105 (by kernel_rfl) rfl (by kernel_rfl) rfl (by kernel_rfl) Tryd.underlying2 Tryd.underlying48 Tryd.underlying2 (by kernel_rfl) (hval 0 57 v0 rfl rfl) h0
  have R0 := RowJbs.of RR0
  obtain ⟨a1, rfl, rfl, rfl, w1⟩ := open_int Tryd.underlying2 (hval 1 2 v1 rfl rfl) h1
  obtain ⟨s2, n2, c2, V2, rfl, m2, R2, w2⟩ := open_i64s Tryd.underlying48 Tryd.underlying2 (by kernel_rfl) (hval 2 48 v2 rfl rfl) h2
  clear hA0
  refine (fnExactScheduleOk_walk W s0 n0 c0 X0 K0 V0 m0 mk0 R0 a1 w1 s2 n2 c2 V2 m2 R2 w2 (fnExactScheduleOk_errs hL)).mono fun e W' ⟨he, bel⟩ => ?_
  subst he
  exact ⟨_, rfl, _, _, _, [], _, q, hW', trodAll_mk1 (shut_bool Tryd.underlying4 _), (trodAll_cons_mk (Below.trod laidOut (by kernel_rfl) (of_decide_eq_true (by kernel_rfl)) k0 bel lt0) (trodAll_cons_mk (Below.trod laidOut (by kernel_rfl) (of_decide_eq_true (by kernel_rfl)) k1 bel lt1) (trodAll_cons_mk (Below.trod laidOut (by kernel_rfl) (of_decide_eq_true (by kernel_rfl)) k2 bel lt2) trodAll_mk0))), Below.trodVars laidOut bel (by kernel_rfl) hV2, bel.frame _, fun h => by cases h⟩
set_option maxRecDepth 100000 in
theorem fnExactScheduleOk_lifted (os : Os) (started : os.Started) (H : Type) (enc : TypeId × Value → H) (F : Stop.Interp) :
    ReturnsInHanded {} Tryd.checked os 7 .any ((OpenSpec.ofChange Rows.fnExactScheduleOkSpec).preRow enc Tryd.prog Tryd.f7 Rows.fnExactScheduleOkRow.domain false Rows.fnExactScheduleOkRow.laid) (((OpenSpec.ofChange Rows.fnExactScheduleOkSpec).at F).post enc Tryd.prog Tryd.f7 false true false false) := by
  refine returnsInHanded_of_row (C := Tryd.checked) (s := OpenSpec.ofChange Rows.fnExactScheduleOkSpec) own started (by kernel_rfl) Tryd.func7
    (witness_row_at (enc := enc) (C := Tryd.checked) false ({ World.holding Tryd.prog os ⟨#[.cells #[.string { data := #[110, 111, 116, 32, 97, 115, 32, 109, 97, 110, 121, 32, 97, 115, 32, 116, 104, 101, 114, 101, 32, 109, 97, 121, 32, 98, 101] }] 193, .cells #[.string { data := #[97, 32, 110, 117, 109, 98, 101, 114, 32, 116, 104, 97, 116, 32, 105, 115, 32, 111, 117, 116, 32, 111, 102, 32, 105, 116, 115, 32, 98, 111, 117, 110, 100, 115] }] 193, .cells #[.string { data := #[97, 32, 106, 111, 98, 32, 116, 104, 97, 116, 32, 99, 111, 109, 101, 115, 32, 98, 101, 104, 105, 110, 100, 32, 119, 104, 97, 116, 32, 100, 111, 101, 115, 32, 110, 111, 116, 32, 115, 116, 97, 110, 100, 32, 97, 104, 101, 97, 100, 32, 111, 102, 32, 105, 116] }] 193, .cells #[.string { data := #[97, 32, 106, 111, 98, 32, 116, 104, 97, 116, 32, 98, 101, 103, 105, 110, 115, 32, 97, 104, 101, 97, 100, 32, 111, 102, 32, 97, 110, 32, 101, 110, 100, 32, 116, 104, 97, 116, 32, 105, 116, 32, 119, 97, 105, 116, 115, 32, 102, 111, 114] }] 193, .cells #[.string { data := #[109, 111, 114, 101, 32, 106, 111, 98, 115, 32, 117, 110, 100, 101, 114, 32, 119, 97, 121, 32, 116, 104, 97, 110, 32, 99, 114, 101, 119, 115] }] 193], #[], []⟩ with heap := (((((((World.holding Tryd.prog os ⟨#[.cells #[.string { data := #[110, 111, 116, 32, 97, 115, 32, 109, 97, 110, 121, 32, 97, 115, 32, 116, 104, 101, 114, 101, 32, 109, 97, 121, 32, 98, 101] }] 193, .cells #[.string { data := #[97, 32, 110, 117, 109, 98, 101, 114, 32, 116, 104, 97, 116, 32, 105, 115, 32, 111, 117, 116, 32, 111, 102, 32, 105, 116, 115, 32, 98, 111, 117, 110, 100, 115] }] 193, .cells #[.string { data := #[97, 32, 106, 111, 98, 32, 116, 104, 97, 116, 32, 99, 111, 109, 101, 115, 32, 98, 101, 104, 105, 110, 100, 32, 119, 104, 97, 116, 32, 100, 111, 101, 115, 32, 110, 111, 116, 32, 115, 116, 97, 110, 100, 32, 97, 104, 101, 97, 100, 32, 111, 102, 32, 105, 116] }] 193, .cells #[.string { data := #[97, 32, 106, 111, 98, 32, 116, 104, 97, 116, 32, 98, 101, 103, 105, 110, 115, 32, 97, 104, 101, 97, 100, 32, 111, 102, 32, 97, 110, 32, 101, 110, 100, 32, 116, 104, 97, 116, 32, 105, 116, 32, 119, 97, 105, 116, 115, 32, 102, 111, 114] }] 193, .cells #[.string { data := #[109, 111, 114, 101, 32, 106, 111, 98, 115, 32, 117, 110, 100, 101, 114, 32, 119, 97, 121, 32, 116, 104, 97, 110, 32, 99, 114, 101, 119, 115] }] 193], #[], []⟩).heap.modify 6 fun | .cells _ t frozen => .cells #[.iface 155 (.agg #[.pointer (some ⟨7, 82, none⟩)])] t frozen | o => o).modify 0 fun | .cells _ t frozen => .cells #[.iface 170 (.pointer (some ⟨(World.holding Tryd.prog default ⟨#[], #[], []⟩).heap.size + 0, 0, none⟩))] t frozen | o => o).modify 1 fun | .cells _ t frozen => .cells #[.iface 170 (.pointer (some ⟨(World.holding Tryd.prog default ⟨#[], #[], []⟩).heap.size + 1, 0, none⟩))] t frozen | o => o).modify 3 fun | .cells _ t frozen => .cells #[.iface 170 (.pointer (some ⟨(World.holding Tryd.prog default ⟨#[], #[], []⟩).heap.size + 2, 0, none⟩))] t frozen | o => o).modify 4 fun | .cells _ t frozen => .cells #[.iface 170 (.pointer (some ⟨(World.holding Tryd.prog default ⟨#[], #[], []⟩).heap.size + 3, 0, none⟩))] t frozen | o => o).modify 5 fun | .cells _ t frozen => .cells #[.iface 170 (.pointer (some ⟨(World.holding Tryd.prog default ⟨#[], #[], []⟩).heap.size + 4, 0, none⟩))] t frozen | o => o) }) #[.slice none 0 0, .int .i64 0, .slice none 0 0] rfl (by kernel_rfl) (by kernel_rfl) (by kernel_rfl)
      (OpenSpec.preRow_of_B rfl 8 (by kernel_rfl) (by kernel_rfl) (laidMetH_of_parts (laidMet_of_run' 8 (by kernel_rfl) (by kernel_rfl)) (by kernel_rfl)))) ?_
  intro W base args ds gs before hval hW _ _ _ hL _ _
  exact fnExactScheduleOk_contract H enc W base args ds gs before hval hW hL
theorem fnExactScheduleOk_said : Rows.FnExactScheduleOkSaid :=
  OpenClaim.holds_of_cond 7 Tryd.f7 rfl rfl rfl rfl rfl rfl rfl ⟨rfl, rfl, rfl, rfl, rfl⟩ rfl rfl rfl rfl rfl (by kernel_rfl) Tryd.func7 (by kernel_rfl)
    (of_decide_eq_true (by kernel_rfl)) (by unfold Func.isWrapper; first | (rw [if_pos (by decide +kernel)]; kernel_rfl) | (rw [if_neg (by decide +kernel)]; exact ⟨rfl, rfl⟩))
    (fun os started H enc _ F => by rw [OpenClaim.pre_eq_preRow]; exact fnExactScheduleOk_lifted os started H enc F)
theorem fnExactScheduleOk_plain (f : FuncId) (fn : Func) (hf : Tryd.pinned.checked.prog.funcNamed Rows.fnExactScheduleOkRow.func = some f) (hfn : Tryd.pinned.checked.prog.funcs[f]? = some fn) :
    true = Tryd.pinned.checked.prog.looks [] ∧ ∀ (j : Nat) t, fn.params[j]? = some t → Tryd.pinned.checked.prog.wantsStandIn t = false := by
  obtain rfl : f = 7 := Option.some.inj ((show Tryd.prog.funcNamed Rows.fnExactScheduleOkRow.func = some 7 by kernel_rfl).symm.trans hf) |>.symm
  obtain rfl : fn = Tryd.f7 := (Option.some.inj (Tryd.func7.symm.trans hfn)).symm
  refine ⟨by kernel_rfl, fun j t ht => ?_⟩
  have hall : Tryd.f7.params.toList.all (fun t => !Tryd.prog.wantsStandIn t) = true := by kernel_rfl
  have hmem := Array.mem_of_getElem? ht
  have := List.all_eq_true.1 hall t (Array.mem_toList_iff.2 hmem)
  have this2 : Tryd.prog.wantsStandIn t = false := by simpa using this
  exact this2
theorem fnExactScheduleOk_holds : Rows.FnExactScheduleOkCardSaid :=
  Claim7.holds_tied_plain_at .later [] _ _ _ _ fnExactScheduleOk_said (fun _ h => by cases h) (by kernel_rfl) (fun _ h => by cases h) fnExactScheduleOk_row_tie rfl ⟨rfl, rfl⟩ (by kernel_rfl) rfl fnExactScheduleOk_plain (by kernel_rfl)
#print axioms fnExactScheduleOk_holds
end Go.Proofs.YtfhbkfdfggaomaaDoor
