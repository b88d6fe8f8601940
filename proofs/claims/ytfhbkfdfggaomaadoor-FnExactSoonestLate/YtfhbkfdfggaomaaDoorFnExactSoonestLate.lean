/-
What is proved: at every limits and clocks impl.SoonestLate answers as the specification's SoonestLate and leaves them as they were, where the variables of errors hold what the program's text lays (the card ties that).
-/
import Derived.Test.YtfhbkfdfggaomaaDoorSo
import Derived.Test.YtfhbkfdfggaomaaDoorLimE
import Derived.Test.YtfhbkfdfggaomaaDoorClkE
import Derived.Test.YtfhbkfdfggaomaaDoorLaid
import Derived.Stop.LaidErr
import Derived.LaidHandle
namespace Go.Proofs.YtfhbkfdfggaomaaDoor
set_option maxRecDepth 40000
open Go.ChangeShapes Go.WideShapes Go.ChangeAt Go.RowKit
set_option linter.unusedVariables false
set_option linter.unusedSimpArgs false

set_option maxRecDepth 20000 in
set_option maxHeartbeats 8000000 in
theorem soonestLate_near (w : World) (n0 : Nat) (V0 : Nat → Int × Int) (s0 : Option Addr) (c0 : Nat) (hn0 : (n0 : Int) ≤ 1048576) (HR0 : Hid (RowLimit w s0 n0 V0)) (n1 : Nat) (V1 : Nat → Int × Bool) (s1 : Option Addr) (c1 : Nat) (hn1 : (n1 : Int) ≤ 1048576) (HR1 : Hid (RowClock w s1 n1 V1)) (gn0 : (n0 : Int) ≤ 1048576) (gn1 : (n1 : Int) ≤ 1048576 - n0) (ar0 : Int)
    (H1 : Hid (∀ (s0 : Option Addr) (c0 : Nat) (s1 : Option Addr) (c1 : Nat) w, RowLimit w s0 n0 V0 → RowClock w s1 n1 V1 → Calls Tryd.prog 11 #[.slice s0 n0 c0, .slice s1 n1 c1] w fun e w' => e = .returned (.int .i64 ar0) ∧ Below w.heap.size w w'))
    (H2 : Hid (∀ (s0 : Option Addr) (c0 : Nat) (s1 : Option Addr) (c1 : Nat) w, RowLimit w s0 n0 V0 → RowClock w s1 n1 V1 → ErrC w → Calls Tryd.prog 14 #[.slice s0 n0 c0, .slice s1 n1 c1] w fun e w' => e = .returned (.int .i64 ar0) ∧ Below w.heap.size w w')) (HWd : Hid (ErrC w)) :
    Calls Tryd.prog 3 #[.slice s0 n0 c0, .slice s1 n1 c1] w fun e w' => e = .returned (.bool true) ∧ Below w.heap.size w w' := by
  have sto := store_slT
  go_enter Tryd.func3, Tryd.ntmps3
  go_wp2_with fail
  refine (szLimitS_on _ n0 _ _ _ (by omega) (by omega) (by omega)).mono ?_
  rintro e w ⟨rfl, rfl⟩
  go_wp2_with fail
  refine (szClockS_on _ n1 _ _ _ (by omega) (by omega) (by omega)).mono ?_
  rintro e w ⟨rfl, rfl⟩
  have B0 : Below w.heap.size w w := Below.refl _ _
  go_wp2_with fail
  refine (toLimitS_r s0 n0 c0 V0 _ hn0 (HR0.out.below B0)).mono ?_
  rintro e w1 ⟨st0, St0, rfl, Q, O, hh⟩
  have hb : Below w.heap.size w w1 := Below.trans (by repeat (first | with_reducible exact Below.refl _ _ | with_reducible refine Below.setCell ?_ (by first | omega | (simp; done) | (simp; omega)) _ | with_reducible refine bDrewN ?_ _ | with_reducible refine Below.drew ?_ | with_reducible refine Below.alloc ?_ (by first | omega | (simp; done) | (simp; omega)) _)) (hh.mono (by first | omega | (simp; done) | (simp; omega)))
  have lw1 : w.heap.size ≤ w1.heap.size := hb.size
  replace B0 : Below w.heap.size w w1 := B0.trans (hb.mono B0.size)
  clear hb hh
  have Qt0 : Hid (∀ k, St0 k → w.heap.size ≤ k ∧ k < w1.heap.size) := (show ∀ k, St0 k → w.heap.size ≤ k ∧ k < w1.heap.size from by simpa using Q)
  have Ot0 : Hid (LimitR St0 w1 st0 n0 V0) := O
  clear O Q
  go_wp2_with fail
  refine (toClockS_r s1 n1 c1 V1 _ hn1 (HR1.out.below B0)).mono ?_
  rintro e w2 ⟨st1, St1, rfl, Q, O, hh⟩
  have hb : Below w1.heap.size w1 w2 := Below.trans (by repeat (first | with_reducible exact Below.refl _ _ | with_reducible refine Below.setCell ?_ (by first | omega | (simp; done) | (simp; omega)) _ | with_reducible refine bDrewN ?_ _ | with_reducible refine Below.drew ?_ | with_reducible refine Below.alloc ?_ (by first | omega | (simp; done) | (simp; omega)) _)) (hh.mono (by first | omega | (simp; done) | (simp; omega)))
  have lw2 : w1.heap.size ≤ w2.heap.size := hb.size
  replace Ot0 : Hid (LimitR St0 w2 st0 n0 V0) := Ot0.out.below hb
  replace B0 : Below w.heap.size w w2 := B0.trans (hb.mono B0.size)
  clear hb hh
  have Qt1 : Hid (∀ k, St1 k → w1.heap.size ≤ k ∧ k < w2.heap.size) := (show ∀ k, St1 k → w1.heap.size ≤ k ∧ k < w2.heap.size from by simpa using Q)
  have Ot1 : Hid (ClockR St1 w2 st1 n1 V1) := O
  clear O Q
  go_wp2_with fail
  refine (H1.out st0 _ st1 _ _ (Ot0.out.row) (Ot1.out.row)).mono ?_
  rintro e w3 ⟨rfl, hh⟩
  have hb : Below w2.heap.size w2 w3 := Below.trans (by repeat (first | with_reducible exact Below.refl _ _ | with_reducible refine Below.setCell ?_ (by first | omega | (simp; done) | (simp; omega)) _ | with_reducible refine bDrewN ?_ _ | with_reducible refine Below.drew ?_ | with_reducible refine Below.alloc ?_ (by first | omega | (simp; done) | (simp; omega)) _)) (hh.mono (by first | omega | (simp; done) | (simp; omega)))
  have lw3 : w2.heap.size ≤ w3.heap.size := hb.size
  replace Ot0 : Hid (LimitR St0 w3 st0 n0 V0) := Ot0.out.below hb
  replace Ot1 : Hid (ClockR St1 w3 st1 n1 V1) := Ot1.out.below hb
  replace B0 : Below w.heap.size w w3 := B0.trans (hb.mono B0.size)
  clear hb hh
  clear Ot0 Qt0 
  clear Ot1 Qt1 
  have Bs : Below w3.heap.size w3 w3 := Below.refl _ _
  go_wp2_with fail
  refine (toLimitS_r s0 n0 c0 V0 _ hn0 (HR0.out.below B0)).mono ?_
  rintro e w4 ⟨sx0, Sx0, rfl, Q, O, hh⟩
  have hb : Below w3.heap.size w3 w4 := Below.trans (by repeat (first | with_reducible exact Below.refl _ _ | with_reducible refine Below.setCell ?_ (by first | omega | (simp; done) | (simp; omega)) _ | with_reducible refine bDrewN ?_ _ | with_reducible refine Below.drew ?_ | with_reducible refine Below.alloc ?_ (by first | omega | (simp; done) | (simp; omega)) _)) (hh.mono (by first | omega | (simp; done) | (simp; omega)))
  have lw4 : w3.heap.size ≤ w4.heap.size := hb.size
  replace Bs : Below w3.heap.size w3 w4 := Bs.trans (hb.mono Bs.size)
  replace B0 : Below w.heap.size w w4 := B0.trans (hb.mono B0.size)
  clear hb hh
  have Qx0 : Hid (∀ k, Sx0 k → w3.heap.size ≤ k ∧ k < w4.heap.size) := (show ∀ k, Sx0 k → w3.heap.size ≤ k ∧ k < w4.heap.size from by simpa using Q)
  have Ox0 : Hid (LimitR Sx0 w4 sx0 n0 V0) := O
  clear O Q
  go_wp2_with fail
  refine (toClockS_r s1 n1 c1 V1 _ hn1 (HR1.out.below B0)).mono ?_
  rintro e w5 ⟨sx1, Sx1, rfl, Q, O, hh⟩
  have hb : Below w4.heap.size w4 w5 := Below.trans (by repeat (first | with_reducible exact Below.refl _ _ | with_reducible refine Below.setCell ?_ (by first | omega | (simp; done) | (simp; omega)) _ | with_reducible refine bDrewN ?_ _ | with_reducible refine Below.drew ?_ | with_reducible refine Below.alloc ?_ (by first | omega | (simp; done) | (simp; omega)) _)) (hh.mono (by first | omega | (simp; done) | (simp; omega)))
  have lw5 : w4.heap.size ≤ w5.heap.size := hb.size
  replace Ox0 : Hid (LimitR Sx0 w5 sx0 n0 V0) := Ox0.out.below hb
  replace Bs : Below w3.heap.size w3 w5 := Bs.trans (hb.mono Bs.size)
  replace B0 : Below w.heap.size w w5 := B0.trans (hb.mono B0.size)
  clear hb hh
  have Qx1 : Hid (∀ k, Sx1 k → w4.heap.size ≤ k ∧ k < w5.heap.size) := (show ∀ k, Sx1 k → w4.heap.size ≤ k ∧ k < w5.heap.size from by simpa using Q)
  have Ox1 : Hid (ClockR Sx1 w5 sx1 n1 V1) := O
  clear O Q
  go_wp2_with fail
  refine (H2.out sx0 _ sx1 _ _ (Ox0.out.row) (Ox1.out.row) (HWd.out.below B0)).mono ?_
  rintro e w6 ⟨rfl, hh⟩
  have hb : Below w5.heap.size w5 w6 := Below.trans (by repeat (first | with_reducible exact Below.refl _ _ | with_reducible refine Below.setCell ?_ (by first | omega | (simp; done) | (simp; omega)) _ | with_reducible refine bDrewN ?_ _ | with_reducible refine Below.drew ?_ | with_reducible refine Below.alloc ?_ (by first | omega | (simp; done) | (simp; omega)) _)) (hh.mono (by first | omega | (simp; done) | (simp; omega)))
  have lw6 : w5.heap.size ≤ w6.heap.size := hb.size
  replace Ox0 : Hid (LimitR Sx0 w6 sx0 n0 V0) := Ox0.out.below hb
  replace Ox1 : Hid (ClockR Sx1 w6 sx1 n1 V1) := Ox1.out.below hb
  replace Bs : Below w3.heap.size w3 w6 := Bs.trans (hb.mono Bs.size)
  replace B0 : Below w.heap.size w w6 := B0.trans (hb.mono B0.size)
  clear hb hh
  go_wp2_with fail
  refine (toLimitS_r s0 n0 c0 V0 _ hn0 (HR0.out.below B0)).mono ?_
  rintro e w7 ⟨sy0, Sy0, rfl, Q, O, hh⟩
  have hb : Below w6.heap.size w6 w7 := Below.trans (by repeat (first | with_reducible exact Below.refl _ _ | with_reducible refine Below.setCell ?_ (by first | omega | (simp; done) | (simp; omega)) _ | with_reducible refine bDrewN ?_ _ | with_reducible refine Below.drew ?_ | with_reducible refine Below.alloc ?_ (by first | omega | (simp; done) | (simp; omega)) _)) (hh.mono (by first | omega | (simp; done) | (simp; omega)))
  have lw7 : w6.heap.size ≤ w7.heap.size := hb.size
  replace Ox0 : Hid (LimitR Sx0 w7 sx0 n0 V0) := Ox0.out.below hb
  replace Ox1 : Hid (ClockR Sx1 w7 sx1 n1 V1) := Ox1.out.below hb
  replace Bs : Below w3.heap.size w3 w7 := Bs.trans (hb.mono Bs.size)
  replace B0 : Below w.heap.size w w7 := B0.trans (hb.mono B0.size)
  clear hb hh
  have Qy0 : Hid (∀ k, Sy0 k → w6.heap.size ≤ k ∧ k < w7.heap.size) := (show ∀ k, Sy0 k → w6.heap.size ≤ k ∧ k < w7.heap.size from by simpa using Q)
  have Oy0 : Hid (LimitR Sy0 w7 sy0 n0 V0) := O
  clear O Q
  go_wp2_with fail
  refine (eqLimitS_any _ _ n0 _ _ V0 _ hn0 (Ox0.out.row) (Oy0.out.row)).mono ?_
  rintro e w8 ⟨rfl, hh⟩
  have hb : Below w7.heap.size w7 w8 := Below.trans (by repeat (first | with_reducible exact Below.refl _ _ | with_reducible refine Below.setCell ?_ (by first | omega | (simp; done) | (simp; omega)) _ | with_reducible refine bDrewN ?_ _ | with_reducible refine Below.drew ?_ | with_reducible refine Below.alloc ?_ (by first | omega | (simp; done) | (simp; omega)) _)) (hh.mono (by first | omega | (simp; done) | (simp; omega)))
  have lw8 : w7.heap.size ≤ w8.heap.size := hb.size
  replace Ox0 : Hid (LimitR Sx0 w8 sx0 n0 V0) := Ox0.out.below hb
  replace Ox1 : Hid (ClockR Sx1 w8 sx1 n1 V1) := Ox1.out.below hb
  replace Oy0 : Hid (LimitR Sy0 w8 sy0 n0 V0) := Oy0.out.below hb
  replace Bs : Below w3.heap.size w3 w8 := Bs.trans (hb.mono Bs.size)
  replace B0 : Below w.heap.size w w8 := B0.trans (hb.mono B0.size)
  clear hb hh
  clear Oy0 Qy0 
  go_wp2_with fail
  refine (toClockS_r s1 n1 c1 V1 _ hn1 (HR1.out.below B0)).mono ?_
  rintro e w9 ⟨sy1, Sy1, rfl, Q, O, hh⟩
  have hb : Below w8.heap.size w8 w9 := Below.trans (by repeat (first | with_reducible exact Below.refl _ _ | with_reducible refine Below.setCell ?_ (by first | omega | (simp; done) | (simp; omega)) _ | with_reducible refine bDrewN ?_ _ | with_reducible refine Below.drew ?_ | with_reducible refine Below.alloc ?_ (by first | omega | (simp; done) | (simp; omega)) _)) (hh.mono (by first | omega | (simp; done) | (simp; omega)))
  have lw9 : w8.heap.size ≤ w9.heap.size := hb.size
  replace Ox0 : Hid (LimitR Sx0 w9 sx0 n0 V0) := Ox0.out.below hb
  replace Ox1 : Hid (ClockR Sx1 w9 sx1 n1 V1) := Ox1.out.below hb
  replace Bs : Below w3.heap.size w3 w9 := Bs.trans (hb.mono Bs.size)
  replace B0 : Below w.heap.size w w9 := B0.trans (hb.mono B0.size)
  clear hb hh
  have Qy1 : Hid (∀ k, Sy1 k → w8.heap.size ≤ k ∧ k < w9.heap.size) := (show ∀ k, Sy1 k → w8.heap.size ≤ k ∧ k < w9.heap.size from by simpa using Q)
  have Oy1 : Hid (ClockR Sy1 w9 sy1 n1 V1) := O
  clear O Q
  go_wp2_with fail
  refine (eqClockS_any _ _ n1 _ _ V1 _ hn1 (Ox1.out.row) (Oy1.out.row)).mono ?_
  rintro e w10 ⟨rfl, hh⟩
  have hb : Below w9.heap.size w9 w10 := Below.trans (by repeat (first | with_reducible exact Below.refl _ _ | with_reducible refine Below.setCell ?_ (by first | omega | (simp; done) | (simp; omega)) _ | with_reducible refine bDrewN ?_ _ | with_reducible refine Below.drew ?_ | with_reducible refine Below.alloc ?_ (by first | omega | (simp; done) | (simp; omega)) _)) (hh.mono (by first | omega | (simp; done) | (simp; omega)))
  have lw10 : w9.heap.size ≤ w10.heap.size := hb.size
  replace Ox0 : Hid (LimitR Sx0 w10 sx0 n0 V0) := Ox0.out.below hb
  replace Ox1 : Hid (ClockR Sx1 w10 sx1 n1 V1) := Ox1.out.below hb
  replace Oy1 : Hid (ClockR Sy1 w10 sy1 n1 V1) := Oy1.out.below hb
  replace Bs : Below w3.heap.size w3 w10 := Bs.trans (hb.mono Bs.size)
  replace B0 : Below w.heap.size w w10 := B0.trans (hb.mono B0.size)
  clear hb hh
  clear Oy1 Qy1 
  go_wp2
  go_ret
  exact ⟨rfl, B0⟩
set_option maxHeartbeats 1600000 in
theorem soonestLate_farn0 (w : World) (n0 : Nat) (V0 : Nat → Int × Int) (s0 : Option Addr) (c0 : Nat) (n1 : Nat) (V1 : Nat → Int × Bool) (s1 : Option Addr) (c1 : Nat)   (g : 1048576 < (n0 : Int)) (gg : (n0 : Int) ≤ 9223372036854775807)  :
    Calls Tryd.prog 3 #[.slice s0 n0 c0, .slice s1 n1 c1] w fun e w' => e = .returned (.bool true) ∧ Below w.heap.size w w' := by
  go_enter Tryd.func3, Tryd.ntmps3
  go_wp2_with fail
  refine (szLimitS_off _ n0 _ _ _ (by omega) (by omega) (by omega) (by omega)).mono ?_
  rintro e w ⟨rfl, rfl⟩
  go_wp2
  go_ret
  exact ⟨rfl, (by repeat (first | with_reducible exact Below.refl _ _ | with_reducible refine Below.setCell ?_ (by first | omega | (simp; done) | (simp; omega)) _ | with_reducible refine bDrewN ?_ _ | with_reducible refine Below.drew ?_ | with_reducible refine Below.alloc ?_ (by first | omega | (simp; done) | (simp; omega)) _))⟩
set_option maxHeartbeats 1600000 in
theorem soonestLate_farn1 (w : World) (n0 : Nat) (V0 : Nat → Int × Int) (s0 : Option Addr) (c0 : Nat) (n1 : Nat) (V1 : Nat → Int × Bool) (s1 : Option Addr) (c1 : Nat)  (gn0 : (n0 : Int) ≤ 1048576) (g : 1048576 - n0 < (n1 : Int)) (gg : (n1 : Int) ≤ 9223372036854775807)  :
    Calls Tryd.prog 3 #[.slice s0 n0 c0, .slice s1 n1 c1] w fun e w' => e = .returned (.bool true) ∧ Below w.heap.size w w' := by
  go_enter Tryd.func3, Tryd.ntmps3
  go_wp2_with fail
  refine (szLimitS_on _ n0 _ _ _ (by omega) (by omega) (by omega)).mono ?_
  rintro e w ⟨rfl, rfl⟩
  go_wp2_with fail
  refine (szClockS_off _ n1 _ _ _ (by omega) (by omega) (by omega) (by omega)).mono ?_
  rintro e w ⟨rfl, rfl⟩
  go_wp2
  go_ret
  exact ⟨rfl, (by repeat (first | with_reducible exact Below.refl _ _ | with_reducible refine Below.setCell ?_ (by first | omega | (simp; done) | (simp; omega)) _ | with_reducible refine bDrewN ?_ _ | with_reducible refine Below.drew ?_ | with_reducible refine Below.alloc ?_ (by first | omega | (simp; done) | (simp; omega)) _))⟩
theorem fnExactSoonestLate_walk (w : World) (s0 : Option Addr) (n0 c0 : Nat) (V0 : Nat → Int × Int) (m0 : n0 ≤ 9223372036854775807) (R0 : RowLimit w s0 n0 V0) (s1 : Option Addr) (n1 c1 : Nat) (V1 : Nat → Int × Bool) (m1 : n1 ≤ 9223372036854775807) (R1 : RowClock w s1 n1 V1) (HWd : ErrC w) :
    Calls Tryd.prog 3 #[.slice s0 n0 c0, .slice s1 n1 c1] w fun e w' => e = .returned (.bool true) ∧ Below w.heap.size w w' := by
  by_cases gn0 : (n0 : Int) ≤ 1048576
  case neg => exact soonestLate_farn0 w n0 V0 s0 c0 n1 V1 s1 c1   (by omega) (by omega) 
  by_cases gn1 : (n1 : Int) ≤ 1048576 - n0
  case neg => exact soonestLate_farn1 w n0 V0 s0 c0 n1 V1 s1 c1  gn0 (by omega) (by omega) 
  exact soonestLate_near w n0 V0 s0 c0 (by omega) R0 n1 V1 s1 c1 (by omega) R1 (by omega) (by omega) (sooV n0 V0 n1 V1) (fun s c t d w q r => specSoonest_any s t n0 c n1 d V0 V1 w (by omega) (by omega) q r) (fun s c t d w q r x => implSoonest_any s t n0 c n1 d V0 V1 w (by omega) (by omega) q r x) HWd

theorem fnExactSoonestLate_star : "*" ++ "errors.errorString" = "*errors.errorString" := by decide
theorem fnExactSoonestLate_ptr (u : TypeId) (h : Tryd.prog.typeName? 3 u = some "*errors.errorString") : u = 170 :=
  typeName_ptr_named (nm := "errors.errorString") (by rw [fnExactSoonestLate_star]; kernel_rfl) (by kernel_rfl) (by decide) u (by rw [fnExactSoonestLate_star]; exact h)
theorem fnExactSoonestLate_lt {W : World} {g : Nat} {v : Value} (h : W.cell? ⟨g, 0, none⟩ = some v) : g < W.heap.size := by
  rcases Nat.lt_or_ge g W.heap.size with k | k
  · exact k
  · simp [World.cell?, Array.getElem?_eq_none k] at h
theorem fnExactSoonestLate_errs {W : World} (h : laidMetH Tryd.prog Rows.fnExactSoonestLateRow.laid W) : ErrC W := by
  have h' : laidMet Tryd.prog Rows.fnExactSoonestLateRow.laid.tail W ∧ handlesMet Tryd.prog (Rows.fnExactSoonestLateRow.laid.take 1) W := h
  obtain ⟨name, u, ty, e1, e2, e3, e4, e5⟩ := h'.2 _ (List.mem_singleton.2 rfl)
  have en : name = [101, 114, 114, 111, 114] := (Option.some.inj e1).symm
  subst en
  have eu : u = 155 := by
    have h2 : some u = some 155 := e2.symm.trans (by kernel_rfl)
    exact Option.some.inj h2
  subst eu
  have sz : Tryd.prog.types.size = 209 := by kernel_rfl
  have one : ((List.range 209).filter fun t => Tryd.prog.rowNamed t [101, 114, 114, 111, 114]) = [82] := by kernel_rfl
  have hm : ty ∈ (List.range 209).filter fun t => Tryd.prog.rowNamed t [101, 114, 114, 111, 114] := List.mem_filter.2 ⟨List.mem_range.2 (by rw [← sz]; exact e3), e4⟩
  rw [one] at hm
  obtain rfl := List.mem_singleton.1 hm
  have hh : typeHandle Tryd.prog 82 = .pointer (some ⟨7, 82, none⟩) := by kernel_rfl
  rw [hh] at e5
  have ce : W.cell? ⟨6, 0, none⟩ = some (.iface 155 (.agg #[.pointer (some ⟨7, 82, none⟩)])) := by simpa using World.var?_cell (g := 6) (by kernel_rfl) e5 0
  have l0 := h'.1
  obtain ⟨a0, s0, hv0, -, -, -⟩ := laid_sentinel (g := 0) (ti := 82) (tp := 170) (te := 193) (ts := 9) l0 (by kernel_rfl) (by kernel_rfl) Tryd.underlying82 fnExactSoonestLate_ptr Tryd.underlying170 Tryd.underlying193 rfl rfl Tryd.underlying9 (by kernel_rfl) (by kernel_rfl)
  have c0 : W.cell? ⟨0, 0, none⟩ = some (.iface 170 (.pointer (some a0))) := by simpa using World.var?_cell (g := 0) (by kernel_rfl) hv0 0
  have l1 := cells_of_tail l0
  obtain ⟨a1, s1, hv1, -, -, -⟩ := laid_sentinel (g := 1) (ti := 82) (tp := 170) (te := 193) (ts := 9) l1 (by kernel_rfl) (by kernel_rfl) Tryd.underlying82 fnExactSoonestLate_ptr Tryd.underlying170 Tryd.underlying193 rfl rfl Tryd.underlying9 (by kernel_rfl) (by kernel_rfl)
  have c1 : W.cell? ⟨1, 0, none⟩ = some (.iface 170 (.pointer (some a1))) := by simpa using World.var?_cell (g := 1) (by kernel_rfl) hv1 0
  have l2 := cells_of_tail l1
  obtain ⟨a2, s2, hv2, -, -, -⟩ := laid_sentinel (g := 2) (ti := 82) (tp := 170) (te := 193) (ts := 9) l2 (by kernel_rfl) (by kernel_rfl) Tryd.underlying82 fnExactSoonestLate_ptr Tryd.underlying170 Tryd.underlying193 rfl rfl Tryd.underlying9 (by kernel_rfl) (by kernel_rfl)
  have c2 : W.cell? ⟨2, 0, none⟩ = some (.iface 170 (.pointer (some a2))) := by simpa using World.var?_cell (g := 2) (by kernel_rfl) hv2 0
  exact ⟨⟨fnExactSoonestLate_lt ce, ce⟩, ⟨fnExactSoonestLate_lt c0, _, _, c0⟩, ⟨fnExactSoonestLate_lt c1, _, _, c1⟩, ⟨fnExactSoonestLate_lt c2, _, _, c2⟩⟩
theorem fnExactSoonestLate_vars {H : Type} {enc : TypeId × Value → H} {P : Program} {w : World} {sp : Nat → Bool} : ∀ {ns : List String} {gs : List (DataW H)} {ps : List MemPlace}, DataW.TrodVars enc P w sp ns gs ps → gs.length = ns.length
  | [], [], _, _ => rfl
  | [], _ :: _, _, h => h.elim
  | _ :: _, [], _, h => h.elim
  | _ :: _, _ :: _, _, ⟨_, _, _, _, _, _, _, _, _, _, hs, _⟩ => by simp [fnExactSoonestLate_vars hs]
theorem fnExactSoonestLate_contract (H : Type) (enc : TypeId × Value → H) (W : World) (base : Nat) (args : Array Value) (ds gs : List (DataW H)) (before : List MemPlace)
    (hval : ∀ (j : Nat) t v, Tryd.f3.params[j]? = some t → args[j]? = some v → Value.okWide Tryd.prog W .any base t v)
    (hW : DataW.Whole enc Tryd.prog Tryd.f3.params.toList Rows.fnExactSoonestLateSpec.vars false W args.toList ds gs before) (hL : laidMetH Tryd.prog Rows.fnExactSoonestLateRow.laid W) :
    Calls Tryd.prog 3 args W fun e W' => ∃ v, e = .returned v ∧ Rows.fnExactSoonestLateSpec.post enc Tryd.prog Tryd.f3 false true false false W args v W' := by
  have hW' := hW
  obtain ⟨p, q, hA0, hV, rfl, hfz, hnd⟩ := hW
  have hA : DataW.TrodAll enc Tryd.prog W 0 (fun _ => true) true Tryd.f3.params.toList args.toList ds p := hA0
  rw [Tryd.params3] at hA hval
  obtain ⟨v0, vs0, d0, ds0, p0, q0, hargs, rfl, rfl, h0, r0⟩ := trodAll_cons hA
  obtain ⟨v1, vs1, d1, ds1, p1, q1, rfl, rfl, rfl, h1, r1⟩ := trodAll_cons r0
  obtain ⟨rfl, rfl, rfl⟩ := trodAll_nil r1
  obtain rfl : args = #[v0, v1] := by cases args; simp_all
  have hV2 := hV
  have hlen := fnExactSoonestLate_vars hV
  obtain ⟨y0, y1, y2, rfl⟩ : ∃ y0 y1 y2, gs = [y0, y1, y2] := by
    have hl : gs.length = 3 := hlen.trans (by kernel_rfl)
    rcases gs with _ | ⟨y0, _ | ⟨y1, _ | ⟨y2, _ | ⟨z, r⟩⟩⟩⟩
    · cases hl
    · cases hl
    · cases hl
    · exact ⟨_, _, _, rfl⟩
    · simp at hl
  have k0 := h0
  have lt0 : ∀ x ∈ p0, x.block < W.heap.size := by obtain ⟨m, hm⟩ := k0; exact DataW.trod_lt m _ _ _ hm
  have k1 := h1
  have lt1 : ∀ x ∈ p1, x.block < W.heap.size := by obtain ⟨m, hm⟩ := k1; exact DataW.trod_lt m _ _ _ hm
  obtain ⟨s0, n0, c0, V0, rfl, m0, R0⟩ := open_LimitS Tryd.underlying22 Tryd.underlying77 (by kernel_rfl) rfl rfl (by kernel_rfl) (by kernel_rfl) (by kernel_rfl) (by kernel_rfl) (hval 0 22 v0 rfl rfl) h0
  obtain ⟨s1, n1, c1, V1, rfl, m1, R1⟩ := open_ClockS Tryd.underlying23 Tryd.underlying79 (by kernel_rfl) rfl rfl (by kernel_rfl) (by kernel_rfl) (by kernel_rfl) (by kernel_rfl) (hval 1 23 v1 rfl rfl) h1
  clear hA0
  refine (fnExactSoonestLate_walk W s0 n0 c0 V0 m0 R0 s1 n1 c1 V1 m1 R1 (fnExactSoonestLate_errs hL)).mono fun e W' ⟨he, bel⟩ => ?_
  subst he
  exact ⟨_, rfl, _, _, _, [], _, q, hW', trodAll_mk1 (shut_bool Tryd.underlying4 _), (trodAll_cons_mk (Below.trod laidOut (by kernel_rfl) (of_decide_eq_true (by kernel_rfl)) k0 bel lt0) (trodAll_cons_mk (Below.trod laidOut (by kernel_rfl) (of_decide_eq_true (by kernel_rfl)) k1 bel lt1) trodAll_mk0)), Below.trodVars laidOut bel (by kernel_rfl) hV2, bel.frame _, fun h => by cases h⟩
set_option maxRecDepth 100000 in
theorem fnExactSoonestLate_lifted (os : Os) (started : os.Started) (H : Type) (enc : TypeId × Value → H) (F : Stop.Interp) :
    ReturnsInHanded {} Tryd.checked os 3 .any ((OpenSpec.ofChange Rows.fnExactSoonestLateSpec).preRow enc Tryd.prog Tryd.f3 Rows.fnExactSoonestLateRow.domain false Rows.fnExactSoonestLateRow.laid) (((OpenSpec.ofChange Rows.fnExactSoonestLateSpec).at F).post enc Tryd.prog Tryd.f3 false true false false) := by
  refine returnsInHanded_of_row (C := Tryd.checked) (s := OpenSpec.ofChange Rows.fnExactSoonestLateSpec) own started (by kernel_rfl) Tryd.func3
    (witness_row_at (enc := enc) (C := Tryd.checked) false ({ World.holding Tryd.prog os ⟨#[.cells #[.string { data := #[110, 111, 116, 32, 97, 115, 32, 109, 97, 110, 121, 32, 97, 115, 32, 116, 104, 101, 114, 101, 32, 109, 97, 121, 32, 98, 101] }] 193, .cells #[.string { data := #[97, 32, 110, 117, 109, 98, 101, 114, 32, 116, 104, 97, 116, 32, 105, 115, 32, 111, 117, 116, 32, 111, 102, 32, 105, 116, 115, 32, 98, 111, 117, 110, 100, 115] }] 193, .cells #[.string { data := #[97, 32, 99, 108, 111, 99, 107, 32, 116, 104, 97, 116, 32, 100, 111, 101, 115, 32, 110, 111, 116, 32, 98, 101, 108, 111, 110, 103, 32, 116, 111, 32, 105, 116, 115, 32, 108, 105, 109, 105, 116] }] 193], #[], []⟩ with heap := (((((World.holding Tryd.prog os ⟨#[.cells #[.string { data := #[110, 111, 116, 32, 97, 115, 32, 109, 97, 110, 121, 32, 97, 115, 32, 116, 104, 101, 114, 101, 32, 109, 97, 121, 32, 98, 101] }] 193, .cells #[.string { data := #[97, 32, 110, 117, 109, 98, 101, 114, 32, 116, 104, 97, 116, 32, 105, 115, 32, 111, 117, 116, 32, 111, 102, 32, 105, 116, 115, 32, 98, 111, 117, 110, 100, 115] }] 193, .cells #[.string { data := #[97, 32, 99, 108, 111, 99, 107, 32, 116, 104, 97, 116, 32, 100, 111, 101, 115, 32, 110, 111, 116, 32, 98, 101, 108, 111, 110, 103, 32, 116, 111, 32, 105, 116, 115, 32, 108, 105, 109, 105, 116] }] 193], #[], []⟩).heap.modify 6 fun | .cells _ t frozen => .cells #[.iface 155 (.agg #[.pointer (some ⟨7, 82, none⟩)])] t frozen | o => o).modify 0 fun | .cells _ t frozen => .cells #[.iface 170 (.pointer (some ⟨(World.holding Tryd.prog default ⟨#[], #[], []⟩).heap.size + 0, 0, none⟩))] t frozen | o => o).modify 1 fun | .cells _ t frozen => .cells #[.iface 170 (.pointer (some ⟨(World.holding Tryd.prog default ⟨#[], #[], []⟩).heap.size + 1, 0, none⟩))] t frozen | o => o).modify 2 fun | .cells _ t frozen => .cells #[.iface 170 (.pointer (some ⟨(World.holding Tryd.prog default ⟨#[], #[], []⟩).heap.size + 2, 0, none⟩))] t frozen | o => o) }) #[.slice none 0 0, .slice none 0 0] rfl (by kernel_rfl) (by kernel_rfl) (by kernel_rfl)
      (OpenSpec.preRow_of_B rfl 8 (by kernel_rfl) (by kernel_rfl) (laidMetH_of_parts (laidMet_of_run' 8 (by kernel_rfl) (by kernel_rfl)) (by kernel_rfl)))) ?_
  intro W base args ds gs before hval hW _ _ _ hL _ _
  exact fnExactSoonestLate_contract H enc W base args ds gs before hval hW hL
theorem fnExactSoonestLate_said : Rows.FnExactSoonestLateSaid :=
  OpenClaim.holds_of_cond 3 Tryd.f3 rfl rfl rfl rfl rfl rfl rfl ⟨rfl, rfl, rfl, rfl, rfl⟩ rfl rfl rfl rfl rfl (by kernel_rfl) Tryd.func3 (by kernel_rfl)
    (of_decide_eq_true (by kernel_rfl)) (by unfold Func.isWrapper; first | (rw [if_pos (by decide +kernel)]; kernel_rfl) | (rw [if_neg (by decide +kernel)]; exact ⟨rfl, rfl⟩))
    (fun os started H enc _ F => by rw [OpenClaim.pre_eq_preRow]; exact fnExactSoonestLate_lifted os started H enc F)
theorem fnExactSoonestLate_plain (f : FuncId) (fn : Func) (hf : Tryd.pinned.checked.prog.funcNamed Rows.fnExactSoonestLateRow.func = some f) (hfn : Tryd.pinned.checked.prog.funcs[f]? = some fn) :
    true = Tryd.pinned.checked.prog.looks [] ∧ ∀ (j : Nat) t, fn.params[j]? = some t → Tryd.pinned.checked.prog.wantsStandIn t = false := by
  obtain rfl : f = 3 := Option.some.inj ((show Tryd.prog.funcNamed Rows.fnExactSoonestLateRow.func = some 3 by kernel_rfl).symm.trans hf) |>.symm
  obtain rfl : fn = Tryd.f3 := (Option.some.inj (Tryd.func3.symm.trans hfn)).symm
  refine ⟨by kernel_rfl, fun j t ht => ?_⟩
  have hall : Tryd.f3.params.toList.all (fun t => !Tryd.prog.wantsStandIn t) = true := by kernel_rfl
  have hmem := Array.mem_of_getElem? ht
  have := List.all_eq_true.1 hall t (Array.mem_toList_iff.2 hmem)
  have this2 : Tryd.prog.wantsStandIn t = false := by simpa using this
  exact this2
theorem fnExactSoonestLate_holds : Rows.FnExactSoonestLateCardSaid :=
  Claim7.holds_tied_plain_at .later [] _ _ _ _ fnExactSoonestLate_said (fun _ h => by cases h) (by kernel_rfl) (fun _ h => by cases h) fnExactSoonestLate_row_tie rfl ⟨rfl, rfl⟩ (by kernel_rfl) rfl fnExactSoonestLate_plain (by kernel_rfl)
#print axioms fnExactSoonestLate_holds
end Go.Proofs.YtfhbkfdfggaomaaDoor
