/-
What is proved: at every tests and moment impl.DueTests answers as the specification's DueTests and leaves the tests as they were; its answer is new memory; where the variables of errors hold what the program's text lays (the card ties that).
-/
import Derived.Test.YtfhbkfdfggaomaaDoorDtS
import Derived.Test.YtfhbkfdfggaomaaDoorTstE
import Derived.Test.YtfhbkfdfggaomaaDoorI64R2
import Derived.Test.YtfhbkfdfggaomaaDoorOpenI
import Derived.Test.YtfhbkfdfggaomaaDoorLaid
import Derived.Stop.LaidErr
import Derived.LaidHandle
namespace Go.Proofs.YtfhbkfdfggaomaaDoor
set_option maxRecDepth 40000
open Go.ChangeShapes Go.WideShapes Go.ChangeAt Go.RowKit
set_option linter.unusedVariables false
set_option linter.unusedSimpArgs false

theorem due_fit {n : Nat} {V : Nat → Int × Int} {now : Int} {KI : Nat} {FI : Nat → Int} (HF : ∀ k W, DueR n V now k W → k = KI ∧ ∀ i, i < k → W i = FI i) {w : World} {e : Ending} {w' : World} (h : DuePost n V now w e w') : ∃ (s : Option Addr) (c : Nat) (S : Nat → Prop), e = .returned (.slice s KI c) ∧ (∀ k, S k → w.heap.size ≤ k ∧ k < w'.heap.size) ∧ I64R S w' s KI FI ∧ Below w.heap.size w w' := by
  obtain ⟨s, c, k, W, h1, h2, h3, h4⟩ := h
  obtain ⟨rfl, h5⟩ := HF k W h3
  exact ⟨s, c, _, h1, fun k hk => hk, I64R.of (h2.congr h5), h4⟩
set_option maxRecDepth 20000 in
set_option maxHeartbeats 8000000 in
theorem dueTests_near (w : World) (n0 : Nat) (V0 : Nat → Int × Int) (s0 : Option Addr) (c0 : Nat) (hn0 : (n0 : Int) ≤ 1048576) (HR0 : Hid (RowTest w s0 n0 V0)) (a1 : Int) (gn0 : (n0 : Int) ≤ 1048576) (nr0 : Nat) (Vr0 : Nat → Int) (hnr0 : (nr0 : Int) ≤ 1048576)
    (H1 : Hid (∀ (s0 : Option Addr) (c0 : Nat) w, RowTest w s0 n0 V0 → Calls Tryd.prog 29 #[.slice s0 n0 c0, .int .i64 a1] w fun e w' => ∃ (s'r0 : Option Addr) (c'r0 : Nat) (S0 : Nat → Prop), e = .returned (.slice s'r0 nr0 c'r0) ∧ (∀ k, S0 k → w.heap.size ≤ k ∧ k < w'.heap.size) ∧ I64R S0 w' s'r0 nr0 Vr0 ∧ Below w.heap.size w w'))
    (H2 : Hid (∀ (s0 : Option Addr) (c0 : Nat) w, RowTest w s0 n0 V0 → ErrT w → Calls Tryd.prog 31 #[.slice s0 n0 c0, .int .i64 a1] w fun e w' => ∃ (s'r0 : Option Addr) (c'r0 : Nat) (S0 : Nat → Prop), e = .returned (.slice s'r0 nr0 c'r0) ∧ (∀ k, S0 k → w.heap.size ≤ k ∧ k < w'.heap.size) ∧ I64R S0 w' s'r0 nr0 Vr0 ∧ Below w.heap.size w w')) (HWd : Hid (ErrT w)) :
    Calls Tryd.prog 5 #[.slice s0 n0 c0, .int .i64 a1] w fun e w' => e = .returned (.bool true) ∧ Below w.heap.size w w' := by
  have sto := store_slT
  go_enter Tryd.func5, Tryd.ntmps5
  go_wp2_with fail
  refine (szTestS_on _ n0 _ _ _ (by omega) (by omega) (by omega)).mono ?_
  rintro e w ⟨rfl, rfl⟩
  have B0 : Below w.heap.size w w := Below.refl _ _
  go_wp2_with fail
  refine (toTestS_r s0 n0 c0 V0 _ hn0 (HR0.out.below B0)).mono ?_
  rintro e w1 ⟨st0, St0, rfl, Q, O, hh⟩
  have hb : Below w.heap.size w w1 := Below.trans (by repeat (first | with_reducible exact Below.refl _ _ | with_reducible refine Below.setCell ?_ (by first | omega | (simp; done) | (simp; omega)) _ | with_reducible refine bDrewN ?_ _ | with_reducible refine Below.drew ?_ | with_reducible refine Below.alloc ?_ (by first | omega | (simp; done) | (simp; omega)) _)) (hh.mono (by first | omega | (simp; done) | (simp; omega)))
  have lw1 : w.heap.size ≤ w1.heap.size := hb.size
  replace B0 : Below w.heap.size w w1 := B0.trans (hb.mono B0.size)
  clear hb hh
  have Qt0 : Hid (∀ k, St0 k → w.heap.size ≤ k ∧ k < w1.heap.size) := (show ∀ k, St0 k → w.heap.size ≤ k ∧ k < w1.heap.size from by simpa using Q)
  have Ot0 : Hid (TestR St0 w1 st0 n0 V0) := O
  clear O Q
  go_wp2_with fail
  refine (H1.out st0 _ _ (Ot0.out.row)).mono ?_
  rintro e w2 ⟨sWr0, cWr0, SW0, rfl, Q0, O0, hh⟩
  have hb : Below w1.heap.size w1 w2 := Below.trans (by repeat (first | with_reducible exact Below.refl _ _ | with_reducible refine Below.setCell ?_ (by first | omega | (simp; done) | (simp; omega)) _ | with_reducible refine bDrewN ?_ _ | with_reducible refine Below.drew ?_ | with_reducible refine Below.alloc ?_ (by first | omega | (simp; done) | (simp; omega)) _)) (hh.mono (by first | omega | (simp; done) | (simp; omega)))
  have lw2 : w1.heap.size ≤ w2.heap.size := hb.size
  replace Ot0 : Hid (TestR St0 w2 st0 n0 V0) := Ot0.out.below hb
  replace B0 : Below w.heap.size w w2 := B0.trans (hb.mono B0.size)
  clear hb hh
  clear Ot0 Qt0 
  have Bs : Below w2.heap.size w2 w2 := Below.refl _ _
  have RW0 : Hid (RowI w2 sWr0 nr0 Vr0) := O0.row
  clear O0 Q0 
  go_wp2_with fail
  refine (toTestS_r s0 n0 c0 V0 _ hn0 (HR0.out.below B0)).mono ?_
  rintro e w3 ⟨sx0, Sx0, rfl, Q, O, hh⟩
  have hb : Below w2.heap.size w2 w3 := Below.trans (by repeat (first | with_reducible exact Below.refl _ _ | with_reducible refine Below.setCell ?_ (by first | omega | (simp; done) | (simp; omega)) _ | with_reducible refine bDrewN ?_ _ | with_reducible refine Below.drew ?_ | with_reducible refine Below.alloc ?_ (by first | omega | (simp; done) | (simp; omega)) _)) (hh.mono (by first | omega | (simp; done) | (simp; omega)))
  have lw3 : w2.heap.size ≤ w3.heap.size := hb.size
  replace Bs : Below w2.heap.size w2 w3 := Bs.trans (hb.mono Bs.size)
  replace B0 : Below w.heap.size w w3 := B0.trans (hb.mono B0.size)
  clear hb hh
  have Qx0 : Hid (∀ k, Sx0 k → w2.heap.size ≤ k ∧ k < w3.heap.size) := (show ∀ k, Sx0 k → w2.heap.size ≤ k ∧ k < w3.heap.size from by simpa using Q)
  have Ox0 : Hid (TestR Sx0 w3 sx0 n0 V0) := O
  clear O Q
  go_wp2_with fail
  refine (H2.out sx0 _ _ (Ox0.out.row) (HWd.out.below B0)).mono ?_
  rintro e w4 ⟨sgr0, cgr0, Sg0, rfl, Q0, O0, hh⟩
  have hb : Below w3.heap.size w3 w4 := Below.trans (by repeat (first | with_reducible exact Below.refl _ _ | with_reducible refine Below.setCell ?_ (by first | omega | (simp; done) | (simp; omega)) _ | with_reducible refine bDrewN ?_ _ | with_reducible refine Below.drew ?_ | with_reducible refine Below.alloc ?_ (by first | omega | (simp; done) | (simp; omega)) _)) (hh.mono (by first | omega | (simp; done) | (simp; omega)))
  have lw4 : w3.heap.size ≤ w4.heap.size := hb.size
  replace Ox0 : Hid (TestR Sx0 w4 sx0 n0 V0) := Ox0.out.below hb
  replace Bs : Below w2.heap.size w2 w4 := Bs.trans (hb.mono Bs.size)
  replace B0 : Below w.heap.size w w4 := B0.trans (hb.mono B0.size)
  clear hb hh
  have Qg0 : Hid (∀ k, Sg0 k → w3.heap.size ≤ k ∧ k < w4.heap.size) := (show ∀ k, Sg0 k → w3.heap.size ≤ k ∧ k < w4.heap.size from by simpa using Q0)
  have Og0 : Hid (I64R Sg0 w4 sgr0 nr0 Vr0) := O0
  clear O0 Q0
  go_wp2_with fail
  refine (eqInt64S_any sgr0 sWr0 nr0 _ _ Vr0 _ hnr0 (Og0.out.row) (RW0.out.below Bs)).mono ?_
  rintro e w5 ⟨rfl, hh⟩
  have hb : Below w4.heap.size w4 w5 := Below.trans (by repeat (first | with_reducible exact Below.refl _ _ | with_reducible refine Below.setCell ?_ (by first | omega | (simp; done) | (simp; omega)) _ | with_reducible refine bDrewN ?_ _ | with_reducible refine Below.drew ?_ | with_reducible refine Below.alloc ?_ (by first | omega | (simp; done) | (simp; omega)) _)) (hh.mono (by first | omega | (simp; done) | (simp; omega)))
  have lw5 : w4.heap.size ≤ w5.heap.size := hb.size
  replace Ox0 : Hid (TestR Sx0 w5 sx0 n0 V0) := Ox0.out.below hb
  replace Og0 : Hid (I64R Sg0 w5 sgr0 nr0 Vr0) := Og0.out.below hb
  replace Bs : Below w2.heap.size w2 w5 := Bs.trans (hb.mono Bs.size)
  replace B0 : Below w.heap.size w w5 := B0.trans (hb.mono B0.size)
  clear hb hh
  go_wp2_with fail
  refine (toTestS_r s0 n0 c0 V0 _ hn0 (HR0.out.below B0)).mono ?_
  rintro e w6 ⟨sy0, Sy0, rfl, Q, O, hh⟩
  have hb : Below w5.heap.size w5 w6 := Below.trans (by repeat (first | with_reducible exact Below.refl _ _ | with_reducible refine Below.setCell ?_ (by first | omega | (simp; done) | (simp; omega)) _ | with_reducible refine bDrewN ?_ _ | with_reducible refine Below.drew ?_ | with_reducible refine Below.alloc ?_ (by first | omega | (simp; done) | (simp; omega)) _)) (hh.mono (by first | omega | (simp; done) | (simp; omega)))
  have lw6 : w5.heap.size ≤ w6.heap.size := hb.size
  replace Ox0 : Hid (TestR Sx0 w6 sx0 n0 V0) := Ox0.out.below hb
  replace Og0 : Hid (I64R Sg0 w6 sgr0 nr0 Vr0) := Og0.out.below hb
  replace Bs : Below w2.heap.size w2 w6 := Bs.trans (hb.mono Bs.size)
  replace B0 : Below w.heap.size w w6 := B0.trans (hb.mono B0.size)
  clear hb hh
  have Qy0 : Hid (∀ k, Sy0 k → w5.heap.size ≤ k ∧ k < w6.heap.size) := (show ∀ k, Sy0 k → w5.heap.size ≤ k ∧ k < w6.heap.size from by simpa using Q)
  have Oy0 : Hid (TestR Sy0 w6 sy0 n0 V0) := O
  clear O Q
  go_wp2_with fail
  refine (eqTestS_any _ _ n0 _ _ V0 _ hn0 (Ox0.out.row) (Oy0.out.row)).mono ?_
  rintro e w7 ⟨rfl, hh⟩
  have hb : Below w6.heap.size w6 w7 := Below.trans (by repeat (first | with_reducible exact Below.refl _ _ | with_reducible refine Below.setCell ?_ (by first | omega | (simp; done) | (simp; omega)) _ | with_reducible refine bDrewN ?_ _ | with_reducible refine Below.drew ?_ | with_reducible refine Below.alloc ?_ (by first | omega | (simp; done) | (simp; omega)) _)) (hh.mono (by first | omega | (simp; done) | (simp; omega)))
  have lw7 : w6.heap.size ≤ w7.heap.size := hb.size
  replace Ox0 : Hid (TestR Sx0 w7 sx0 n0 V0) := Ox0.out.below hb
  replace Og0 : Hid (I64R Sg0 w7 sgr0 nr0 Vr0) := Og0.out.below hb
  replace Oy0 : Hid (TestR Sy0 w7 sy0 n0 V0) := Oy0.out.below hb
  replace Bs : Below w2.heap.size w2 w7 := Bs.trans (hb.mono Bs.size)
  replace B0 : Below w.heap.size w w7 := B0.trans (hb.mono B0.size)
  clear hb hh
  clear Oy0 Qy0 
  go_wp2_with fail
  refine (markTestS_r Sx0 _ n0 _ (1) V0 _ hn0 (by omega) (by omega) Ox0.out).mono ?_
  rintro e w8 ⟨rfl, -, T⟩
  have lw8 : w7.heap.size ≤ w8.heap.size := T.size
  replace Og0 : Hid (I64R Sg0 w8 sgr0 nr0 Vr0) := Og0.out.keep T.size (fun k hk hl => T.2.2.2.2 k hl (fun q => by have := Qx0.out k q; have := Qg0.out k hk; omega))
  replace Bs : Below w2.heap.size w2 w8 := Bs.trans (T.below (fun k q => by have := Qx0.out k q; omega) (by omega))
  replace B0 : Below w.heap.size w w8 := B0.trans (T.below (fun k q => by have := Qx0.out k q; omega) (by omega))
  clear T Ox0
  go_wp2_with fail
  refine (eqInt64S_any sgr0 sWr0 nr0 _ _ Vr0 _ hnr0 (Og0.out.row) (RW0.out.below Bs)).mono ?_
  rintro e w9 ⟨rfl, hh⟩
  have hb : Below w8.heap.size w8 w9 := Below.trans (by repeat (first | with_reducible exact Below.refl _ _ | with_reducible refine Below.setCell ?_ (by first | omega | (simp; done) | (simp; omega)) _ | with_reducible refine bDrewN ?_ _ | with_reducible refine Below.drew ?_ | with_reducible refine Below.alloc ?_ (by first | omega | (simp; done) | (simp; omega)) _)) (hh.mono (by first | omega | (simp; done) | (simp; omega)))
  have lw9 : w8.heap.size ≤ w9.heap.size := hb.size
  replace Og0 : Hid (I64R Sg0 w9 sgr0 nr0 Vr0) := Og0.out.below hb
  replace Bs : Below w2.heap.size w2 w9 := Bs.trans (hb.mono Bs.size)
  replace B0 : Below w.heap.size w w9 := B0.trans (hb.mono B0.size)
  clear hb hh
  clear Qx0
  go_wp2_with fail
  refine (markInt64S_r Sg0 _ nr0 _ (1) Vr0 _ hnr0 (by omega) (by omega) Og0.out).mono ?_
  rintro e w10 ⟨rfl, OM, T⟩
  have lw10 : w9.heap.size ≤ w10.heap.size := T.size
  replace Bs : Below w2.heap.size w2 w10 := Bs.trans (T.below (fun k q => by have := Qg0.out k q; omega) (by omega))
  replace B0 : Below w.heap.size w w10 := B0.trans (T.below (fun k q => by have := Qg0.out k q; omega) (by omega))
  replace Og0 : Hid (I64R Sg0 w10 sgr0 nr0 (fun j => (1) + (j : Int))) := OM
  clear T OM
  go_wp2_with fail
  refine (heldInt64S_any _ nr0 _ (1) _ hnr0 (by omega) (by omega) (Og0.out.row)).mono ?_
  rintro e w10 ⟨rfl, rfl⟩
  go_wp2_with fail
  refine (toTestS_r s0 n0 c0 V0 _ hn0 (HR0.out.below B0)).mono ?_
  rintro e w11 ⟨sv0, Sv0, rfl, Q, O, hh⟩
  have hb : Below w10.heap.size w10 w11 := Below.trans (by repeat (first | with_reducible exact Below.refl _ _ | with_reducible refine Below.setCell ?_ (by first | omega | (simp; done) | (simp; omega)) _ | with_reducible refine bDrewN ?_ _ | with_reducible refine Below.drew ?_ | with_reducible refine Below.alloc ?_ (by first | omega | (simp; done) | (simp; omega)) _)) (hh.mono (by first | omega | (simp; done) | (simp; omega)))
  have lw11 : w10.heap.size ≤ w11.heap.size := hb.size
  replace Og0 : Hid (I64R Sg0 w11 sgr0 nr0 (fun j => (1) + (j : Int))) := Og0.out.below hb
  replace Bs : Below w2.heap.size w2 w11 := Bs.trans (hb.mono Bs.size)
  replace B0 : Below w.heap.size w w11 := B0.trans (hb.mono B0.size)
  clear hb hh
  have Qv0 : Hid (∀ k, Sv0 k → w10.heap.size ≤ k ∧ k < w11.heap.size) := (show ∀ k, Sv0 k → w10.heap.size ≤ k ∧ k < w11.heap.size from by simpa using Q)
  have Ov0 : Hid (TestR Sv0 w11 sv0 n0 V0) := O
  clear O Q
  go_wp2_with fail
  refine (H2.out sv0 _ _ (Ov0.out.row) (HWd.out.below B0)).mono ?_
  rintro e w12 ⟨shr0, chr0, Sh0, rfl, Q0, O0, hh⟩
  have hb : Below w11.heap.size w11 w12 := Below.trans (by repeat (first | with_reducible exact Below.refl _ _ | with_reducible refine Below.setCell ?_ (by first | omega | (simp; done) | (simp; omega)) _ | with_reducible refine bDrewN ?_ _ | with_reducible refine Below.drew ?_ | with_reducible refine Below.alloc ?_ (by first | omega | (simp; done) | (simp; omega)) _)) (hh.mono (by first | omega | (simp; done) | (simp; omega)))
  have lw12 : w11.heap.size ≤ w12.heap.size := hb.size
  replace Og0 : Hid (I64R Sg0 w12 sgr0 nr0 (fun j => (1) + (j : Int))) := Og0.out.below hb
  replace Ov0 : Hid (TestR Sv0 w12 sv0 n0 V0) := Ov0.out.below hb
  replace Bs : Below w2.heap.size w2 w12 := Bs.trans (hb.mono Bs.size)
  replace B0 : Below w.heap.size w w12 := B0.trans (hb.mono B0.size)
  clear hb hh
  clear Ov0 Qv0 
  have Rh0 : Hid (RowI w12 shr0 nr0 Vr0) := O0.row
  clear O0 Q0 
  have Bh : Below w12.heap.size w12 w12 := Below.refl _ _
  go_wp2_with fail
  refine (eqInt64S_any shr0 sWr0 nr0 _ _ Vr0 _ hnr0 ((Rh0.out.below (Below.mono (B := w12.heap.size) (Bh) (Nat.le_refl _)))) (RW0.out.below Bs)).mono ?_
  rintro e w13 ⟨rfl, hh⟩
  have hb : Below w12.heap.size w12 w13 := Below.trans (by repeat (first | with_reducible exact Below.refl _ _ | with_reducible refine Below.setCell ?_ (by first | omega | (simp; done) | (simp; omega)) _ | with_reducible refine bDrewN ?_ _ | with_reducible refine Below.drew ?_ | with_reducible refine Below.alloc ?_ (by first | omega | (simp; done) | (simp; omega)) _)) (hh.mono (by first | omega | (simp; done) | (simp; omega)))
  have lw13 : w12.heap.size ≤ w13.heap.size := hb.size
  replace Og0 : Hid (I64R Sg0 w13 sgr0 nr0 (fun j => (1) + (j : Int))) := Og0.out.below hb
  replace Bs : Below w2.heap.size w2 w13 := Bs.trans (hb.mono Bs.size)
  replace B0 : Below w.heap.size w w13 := B0.trans (hb.mono B0.size)
  replace Bh : Below w12.heap.size w12 w13 := Bh.trans (hb.mono Bh.size)
  clear hb hh
  go_wp2_with fail
  refine (heldInt64S_any _ nr0 _ (1) _ hnr0 (by omega) (by omega) (Og0.out.row)).mono ?_
  rintro e w13 ⟨rfl, rfl⟩
  go_wp2
  go_ret
  exact ⟨rfl, B0⟩
set_option maxHeartbeats 1600000 in
theorem dueTests_farn0 (w : World) (n0 : Nat) (V0 : Nat → Int × Int) (s0 : Option Addr) (c0 : Nat) (a1 : Int)   (g : 1048576 < (n0 : Int)) (gg : (n0 : Int) ≤ 9223372036854775807)  :
    Calls Tryd.prog 5 #[.slice s0 n0 c0, .int .i64 a1] w fun e w' => e = .returned (.bool true) ∧ Below w.heap.size w w' := by
  go_enter Tryd.func5, Tryd.ntmps5
  go_wp2_with fail
  refine (szTestS_off _ n0 _ _ _ (by omega) (by omega) (by omega) (by omega)).mono ?_
  rintro e w ⟨rfl, rfl⟩
  go_wp2
  go_ret
  exact ⟨rfl, (by repeat (first | with_reducible exact Below.refl _ _ | with_reducible refine Below.setCell ?_ (by first | omega | (simp; done) | (simp; omega)) _ | with_reducible refine bDrewN ?_ _ | with_reducible refine Below.drew ?_ | with_reducible refine Below.alloc ?_ (by first | omega | (simp; done) | (simp; omega)) _))⟩
theorem fnExactDueTests_walk (w : World) (s0 : Option Addr) (n0 c0 : Nat) (V0 : Nat → Int × Int) (m0 : n0 ≤ 9223372036854775807) (R0 : RowTest w s0 n0 V0) (a1 : Int) (w1 : (Lit.int .i64 a1).wf = true) (HWd : ErrT w) :
    Calls Tryd.prog 5 #[.slice s0 n0 c0, .int .i64 a1] w fun e w' => e = .returned (.bool true) ∧ Below w.heap.size w w' := by
  by_cases gn0 : (n0 : Int) ≤ 1048576
  case neg => exact dueTests_farn0 w n0 V0 s0 c0 a1   (by omega) (by omega) 
  obtain ⟨KI, FI, hKI, HFI⟩ := due_ex n0 V0 a1
  exact dueTests_near w n0 V0 s0 c0 (by omega) R0 a1 (by omega) KI FI (by omega) (fun s c w q => (specDue_any s n0 c V0 a1 w (by omega) q).mono fun e w' h => due_fit HFI h) (fun s c w q x => (implDue_any s n0 c V0 a1 w (by omega) q x).mono fun e w' h => due_fit HFI h) HWd

theorem fnExactDueTests_star : "*" ++ "errors.errorString" = "*errors.errorString" := by decide
theorem fnExactDueTests_ptr (u : TypeId) (h : Tryd.prog.typeName? 3 u = some "*errors.errorString") : u = 170 :=
  typeName_ptr_named (nm := "errors.errorString") (by rw [fnExactDueTests_star]; kernel_rfl) (by kernel_rfl) (by decide) u (by rw [fnExactDueTests_star]; exact h)
theorem fnExactDueTests_lt {W : World} {g : Nat} {v : Value} (h : W.cell? ⟨g, 0, none⟩ = some v) : g < W.heap.size := by
  rcases Nat.lt_or_ge g W.heap.size with k | k
  · exact k
  · simp [World.cell?, Array.getElem?_eq_none k] at h
theorem fnExactDueTests_errs {W : World} (h : laidMetH Tryd.prog Rows.fnExactDueTestsRow.laid W) : ErrT W := by
  have h' : laidMet Tryd.prog Rows.fnExactDueTestsRow.laid.tail W ∧ handlesMet Tryd.prog (Rows.fnExactDueTestsRow.laid.take 1) W := h
  obtain ⟨name, u, ty, e1, e2, e3, e4, e5⟩ := h'.2 _ (List.mem_singleton.2 rfl)
  have en : name = [101, 114, 114, 111, 114] := (Option.some.inj e1).symm
  subst en
  have eu : u = 155 := by
    have h2 : some u = some 155 := e2.symm.trans (by kernel_rfl)
    exact Option.some.inj h2
  subst eu
  have sz : Tryd.prog.types.size = 209 := by kernel_rfl
  have one : ((List.range 209).filter fun t => Tryd.prog.rowNamed t [101, 114, 114, 111, 114]) = [82] := by kernel_rfl
  have hm : ty ∈ (List.range 209).filter fun t => Tryd.prog.rowNamed t [101, 114, 114, 111, 114] := List.mem_filter.2 ⟨List.mem_range.2 (by rw [← sz]; exact e3), e4⟩
  rw [one] at hm
  obtain rfl := List.mem_singleton.1 hm
  have hh : typeHandle Tryd.prog 82 = .pointer (some ⟨7, 82, none⟩) := by kernel_rfl
  rw [hh] at e5
  have ce : W.cell? ⟨6, 0, none⟩ = some (.iface 155 (.agg #[.pointer (some ⟨7, 82, none⟩)])) := by simpa using World.var?_cell (g := 6) (by kernel_rfl) e5 0
  have l0 := h'.1
  obtain ⟨a0, s0, hv0, -, -, -⟩ := laid_sentinel (g := 0) (ti := 82) (tp := 170) (te := 193) (ts := 9) l0 (by kernel_rfl) (by kernel_rfl) Tryd.underlying82 fnExactDueTests_ptr Tryd.underlying170 Tryd.underlying193 rfl rfl Tryd.underlying9 (by kernel_rfl) (by kernel_rfl)
  have c0 : W.cell? ⟨0, 0, none⟩ = some (.iface 170 (.pointer (some a0))) := by simpa using World.var?_cell (g := 0) (by kernel_rfl) hv0 0
  have l1 := cells_of_tail l0
  obtain ⟨a1, s1, hv1, -, -, -⟩ := laid_sentinel (g := 1) (ti := 82) (tp := 170) (te := 193) (ts := 9) l1 (by kernel_rfl) (by kernel_rfl) Tryd.underlying82 fnExactDueTests_ptr Tryd.underlying170 Tryd.underlying193 rfl rfl Tryd.underlying9 (by kernel_rfl) (by kernel_rfl)
  have c1 : W.cell? ⟨1, 0, none⟩ = some (.iface 170 (.pointer (some a1))) := by simpa using World.var?_cell (g := 1) (by kernel_rfl) hv1 0
  exact ⟨⟨fnExactDueTests_lt ce, ce⟩, ⟨fnExactDueTests_lt c0, _, _, c0⟩, ⟨fnExactDueTests_lt c1, _, _, c1⟩⟩
theorem fnExactDueTests_vars {H : Type} {enc : TypeId × Value → H} {P : Program} {w : World} {sp : Nat → Bool} : ∀ {ns : List String} {gs : List (DataW H)} {ps : List MemPlace}, DataW.TrodVars enc P w sp ns gs ps → gs.length = ns.length
  | [], [], _, _ => rfl
  | [], _ :: _, _, h => h.elim
  | _ :: _, [], _, h => h.elim
  | _ :: _, _ :: _, _, ⟨_, _, _, _, _, _, _, _, _, _, hs, _⟩ => by simp [fnExactDueTests_vars hs]
theorem fnExactDueTests_contract (H : Type) (enc : TypeId × Value → H) (W : World) (base : Nat) (args : Array Value) (ds gs : List (DataW H)) (before : List MemPlace)
    (hval : ∀ (j : Nat) t v, Tryd.f5.params[j]? = some t → args[j]? = some v → Value.okWide Tryd.prog W .any base t v)
    (hW : DataW.Whole enc Tryd.prog Tryd.f5.params.toList Rows.fnExactDueTestsSpec.vars false W args.toList ds gs before) (hL : laidMetH Tryd.prog Rows.fnExactDueTestsRow.laid W) :
    Calls Tryd.prog 5 args W fun e W' => ∃ v, e = .returned v ∧ Rows.fnExactDueTestsSpec.post enc Tryd.prog Tryd.f5 false true false false W args v W' := by
  have hW' := hW
  obtain ⟨p, q, hA0, hV, rfl, hfz, hnd⟩ := hW
  have hA : DataW.TrodAll enc Tryd.prog W 0 (fun _ => true) true Tryd.f5.params.toList args.toList ds p := hA0
  rw [Tryd.params5] at hA hval
  obtain ⟨v0, vs0, d0, ds0, p0, q0, hargs, rfl, rfl, h0, r0⟩ := trodAll_cons hA
  obtain ⟨v1, vs1, d1, ds1, p1, q1, rfl, rfl, rfl, h1, r1⟩ := trodAll_cons r0
  obtain ⟨rfl, rfl, rfl⟩ := trodAll_nil r1
  obtain rfl : args = #[v0, v1] := by cases args; simp_all
  have hV2 := hV
  have hlen := fnExactDueTests_vars hV
  obtain ⟨y0, y1, rfl⟩ : ∃ y0 y1, gs = [y0, y1] := by
    have hl : gs.length = 2 := hlen.trans (by kernel_rfl)
    rcases gs with _ | ⟨y0, _ | ⟨y1, _ | ⟨z, r⟩⟩⟩
    · cases hl
    · cases hl
    · exact ⟨_, _, rfl⟩
    · simp at hl
  have k0 := h0
  have lt0 : ∀ x ∈ p0, x.block < W.heap.size := by obtain ⟨m, hm⟩ := k0; exact DataW.trod_lt m _ _ _ hm
  have k1 := h1
  have lt1 : ∀ x ∈ p1, x.block < W.heap.size := by obtain ⟨m, hm⟩ := k1; exact DataW.trod_lt m _ _ _ hm
  obtain ⟨s0, n0, c0, V0, rfl, m0, R0⟩ := open_TestS Tryd.underlying46 Tryd.underlying97 (by kernel_rfl) rfl rfl (by kernel_rfl) (by kernel_rfl) (by kernel_rfl) (by kernel_rfl) (hval 0 46 v0 rfl rfl) h0
  obtain ⟨a1, rfl, rfl, rfl, w1⟩ := open_int Tryd.underlying2 (hval 1 2 v1 rfl rfl) h1
  clear hA0
  refine (fnExactDueTests_walk W s0 n0 c0 V0 m0 R0 a1 w1 (fnExactDueTests_errs hL)).mono fun e W' ⟨he, bel⟩ => ?_
  subst he
  exact ⟨_, rfl, _, _, _, [], _, q, hW', trodAll_mk1 (shut_bool Tryd.underlying4 _), (trodAll_cons_mk (Below.trod laidOut (by kernel_rfl) (of_decide_eq_true (by kernel_rfl)) k0 bel lt0) (trodAll_cons_mk (Below.trod laidOut (by kernel_rfl) (of_decide_eq_true (by kernel_rfl)) k1 bel lt1) trodAll_mk0)), Below.trodVars laidOut bel (by kernel_rfl) hV2, bel.frame _, fun h => by cases h⟩
set_option maxRecDepth 100000 in
theorem fnExactDueTests_lifted (os : Os) (started : os.Started) (H : Type) (enc : TypeId × Value → H) (F : Stop.Interp) :
    ReturnsInHanded {} Tryd.checked os 5 .any ((OpenSpec.ofChange Rows.fnExactDueTestsSpec).preRow enc Tryd.prog Tryd.f5 Rows.fnExactDueTestsRow.domain false Rows.fnExactDueTestsRow.laid) (((OpenSpec.ofChange Rows.fnExactDueTestsSpec).at F).post enc Tryd.prog Tryd.f5 false true false false) := by
  refine returnsInHanded_of_row (C := Tryd.checked) (s := OpenSpec.ofChange Rows.fnExactDueTestsSpec) own started (by kernel_rfl) Tryd.func5
    (witness_row_at (enc := enc) (C := Tryd.checked) false ({ World.holding Tryd.prog os ⟨#[.cells #[.string { data := #[110, 111, 116, 32, 97, 115, 32, 109, 97, 110, 121, 32, 97, 115, 32, 116, 104, 101, 114, 101, 32, 109, 97, 121, 32, 98, 101] }] 193, .cells #[.string { data := #[97, 32, 110, 117, 109, 98, 101, 114, 32, 116, 104, 97, 116, 32, 105, 115, 32, 111, 117, 116, 32, 111, 102, 32, 105, 116, 115, 32, 98, 111, 117, 110, 100, 115] }] 193], #[], []⟩ with heap := ((((World.holding Tryd.prog os ⟨#[.cells #[.string { data := #[110, 111, 116, 32, 97, 115, 32, 109, 97, 110, 121, 32, 97, 115, 32, 116, 104, 101, 114, 101, 32, 109, 97, 121, 32, 98, 101] }] 193, .cells #[.string { data := #[97, 32, 110, 117, 109, 98, 101, 114, 32, 116, 104, 97, 116, 32, 105, 115, 32, 111, 117, 116, 32, 111, 102, 32, 105, 116, 115, 32, 98, 111, 117, 110, 100, 115] }] 193], #[], []⟩).heap.modify 6 fun | .cells _ t frozen => .cells #[.iface 155 (.agg #[.pointer (some ⟨7, 82, none⟩)])] t frozen | o => o).modify 0 fun | .cells _ t frozen => .cells #[.iface 170 (.pointer (some ⟨(World.holding Tryd.prog default ⟨#[], #[], []⟩).heap.size + 0, 0, none⟩))] t frozen | o => o).modify 1 fun | .cells _ t frozen => .cells #[.iface 170 (.pointer (some ⟨(World.holding Tryd.prog default ⟨#[], #[], []⟩).heap.size + 1, 0, none⟩))] t frozen | o => o) }) #[.slice none 0 0, .int .i64 0] rfl (by kernel_rfl) (by kernel_rfl) (by kernel_rfl)
      (OpenSpec.preRow_of_B rfl 8 (by kernel_rfl) (by kernel_rfl) (laidMetH_of_parts (laidMet_of_run' 8 (by kernel_rfl) (by kernel_rfl)) (by kernel_rfl)))) ?_
  intro W base args ds gs before hval hW _ _ _ hL _ _
  exact fnExactDueTests_contract H enc W base args ds gs before hval hW hL
theorem fnExactDueTests_said : Rows.FnExactDueTestsSaid :=
  OpenClaim.holds_of_cond 5 Tryd.f5 rfl rfl rfl rfl rfl rfl rfl ⟨rfl, rfl, rfl, rfl, rfl⟩ rfl rfl rfl rfl rfl (by kernel_rfl) Tryd.func5 (by kernel_rfl)
    (of_decide_eq_true (by kernel_rfl)) (by unfold Func.isWrapper; first | (rw [if_pos (by decide +kernel)]; kernel_rfl) | (rw [if_neg (by decide +kernel)]; exact ⟨rfl, rfl⟩))
    (fun os started H enc _ F => by rw [OpenClaim.pre_eq_preRow]; exact fnExactDueTests_lifted os started H enc F)
theorem fnExactDueTests_plain (f : FuncId) (fn : Func) (hf : Tryd.pinned.checked.prog.funcNamed Rows.fnExactDueTestsRow.func = some f) (hfn : Tryd.pinned.checked.prog.funcs[f]? = some fn) :
    true = Tryd.pinned.checked.prog.looks [] ∧ ∀ (j : Nat) t, fn.params[j]? = some t → Tryd.pinned.checked.prog.wantsStandIn t = false := by
  obtain rfl : f = 5 := Option.some.inj ((show Tryd.prog.funcNamed Rows.fnExactDueTestsRow.func = some 5 by kernel_rfl).symm.trans hf) |>.symm
  obtain rfl : fn = Tryd.f5 := (Option.some.inj (Tryd.func5.symm.trans hfn)).symm
  refine ⟨by kernel_rfl, fun j t ht => ?_⟩
  have hall : Tryd.f5.params.toList.all (fun t => !Tryd.prog.wantsStandIn t) = true := by kernel_rfl
  have hmem := Array.mem_of_getElem? ht
  have := List.all_eq_true.1 hall t (Array.mem_toList_iff.2 hmem)
  have this2 : Tryd.prog.wantsStandIn t = false := by simpa using this
  exact this2
theorem fnExactDueTests_holds : Rows.FnExactDueTestsCardSaid :=
  Claim7.holds_tied_plain_at .later [] _ _ _ _ fnExactDueTests_said (fun _ h => by cases h) (by kernel_rfl) (fun _ h => by cases h) fnExactDueTests_row_tie rfl ⟨rfl, rfl⟩ (by kernel_rfl) rfl fnExactDueTests_plain (by kernel_rfl)
#print axioms fnExactDueTests_holds
end Go.Proofs.YtfhbkfdfggaomaaDoor
