/-
What is proved: at every jobs and crews impl.Schedule answers as the specification's Schedule and leaves the jobs as they were; its answer is new memory; where the variables of errors hold what the program's text lays (the card ties that).
-/
import Derived.Test.YtfhbkfdfggaomaaDoorSdS
import Derived.Test.YtfhbkfdfggaomaaDoorJbO
import Derived.Test.YtfhbkfdfggaomaaDoorJbM
import Derived.Test.YtfhbkfdfggaomaaDoorI64R2
import Derived.Test.YtfhbkfdfggaomaaDoorLaid
import Derived.Stop.LaidErr
import Derived.LaidHandle
namespace Go.Proofs.YtfhbkfdfggaomaaDoor
set_option maxRecDepth 40000
open Go.ChangeShapes Go.WideShapes Go.ChangeAt Go.RowKit
set_option linter.unusedVariables false
set_option linter.unusedSimpArgs false

theorem sd_fit {n : Nat} {X : Nat → Int} {K : Nat → Nat} {V : Nat → Nat → Int} {cr : Int} {FI : Nat → Int} {w : World} {e : Ending} {w' : World} (h : SdPost n X K V cr FI w e w') : ∃ (s : Option Addr) (c : Nat) (S : Nat → Prop), e = .returned (.tuple #[.slice s (sdN n X K V cr) c, .int .i64 (sdE n X K V cr FI)]) ∧ (∀ k, S k → w.heap.size ≤ k ∧ k < w'.heap.size) ∧ I64R S w' s (sdN n X K V cr) FI ∧ Below w.heap.size w w' := by
  obtain ⟨s, c, h1, h2, h3⟩ := h
  exact ⟨s, c, _, h1, fun k hk => hk, I64R.of h2, h3⟩
theorem sdN_le (n : Nat) (X : Nat → Int) (K : Nat → Nat) (V : Nat → Nat → Int) (cr : Int) (h : (n : Int) ≤ 1048576) : ((sdN n X K V cr : Nat) : Int) ≤ 1048576 := by
  unfold sdN
  split
  · exact h
  · decide
set_option maxRecDepth 20000 in
set_option maxHeartbeats 8000000 in
theorem schedule_near (w : World) (n0 : Nat) (X0 : Nat → Int) (K0 : Nat → Nat) (V0 : Nat → Nat → Int) (s0 : Option Addr) (c0 : Nat) (hn0 : ((n0 : Int) + (suK K0 n0 : Int)) ≤ 1048576) (HR0 : Hid (RowJbs w s0 n0 X0 K0 V0)) (a1 : Int) (gn0 : ((n0 : Int) + (suK K0 n0 : Int)) ≤ 1048576) (nr0 : Nat) (Vr0 : Nat → Int) (hnr0 : (nr0 : Int) ≤ 1048576) (ar1 : Int)
    (H1 : Hid (∀ (s0 : Option Addr) (c0 : Nat) w, RowJbs w s0 n0 X0 K0 V0 → Calls Tryd.prog 45 #[.slice s0 n0 c0, .int .i64 a1] w fun e w' => ∃ (s'r0 : Option Addr) (c'r0 : Nat) (S0 : Nat → Prop), e = .returned (.tuple #[.slice s'r0 nr0 c'r0, .int .i64 ar1]) ∧ (∀ k, S0 k → w.heap.size ≤ k ∧ k < w'.heap.size) ∧ I64R S0 w' s'r0 nr0 Vr0 ∧ Below w.heap.size w w'))
    (H2 : Hid (∀ (s0 : Option Addr) (c0 : Nat) w, RowJbs w s0 n0 X0 K0 V0 → ErrJ w → Calls Tryd.prog 46 #[.slice s0 n0 c0, .int .i64 a1] w fun e w' => ∃ (s'r0 : Option Addr) (c'r0 : Nat) (S0 : Nat → Prop), e = .returned (.tuple #[.slice s'r0 nr0 c'r0, .int .i64 ar1]) ∧ (∀ k, S0 k → w.heap.size ≤ k ∧ k < w'.heap.size) ∧ I64R S0 w' s'r0 nr0 Vr0 ∧ Below w.heap.size w w')) (HWd : Hid (ErrJ w)) :
    Calls Tryd.prog 8 #[.slice s0 n0 c0, .int .i64 a1] w fun e w' => e = .returned (.bool true) ∧ Below w.heap.size w w' := by
  have sto := store_slT
  go_enter Tryd.func8, Tryd.ntmps8
  go_wp2_with fail
  refine (szJobS_on _ n0 _ X0 K0 V0 _ _ (by omega) (by omega) (by omega) (HR0.out)).mono ?_
  rintro e w1 ⟨rfl, hh⟩
  have hb : Below w.heap.size w w1 := Below.trans (by repeat (first | with_reducible exact Below.refl _ _ | with_reducible refine Below.setCell ?_ (by first | omega | (simp; done) | (simp; omega)) _ | with_reducible refine bDrewN ?_ _ | with_reducible refine Below.drew ?_ | with_reducible refine Below.alloc ?_ (by first | omega | (simp; done) | (simp; omega)) _)) (hh.mono (by first | omega | (simp; done) | (simp; omega)))
  have lw1 : w.heap.size ≤ w1.heap.size := hb.size
  have B0 : Below w.heap.size w w1 := hb
  clear hb hh
  go_wp2_with fail
  refine (toJobS_r s0 n0 c0 X0 K0 V0 _ hn0 (HR0.out.below B0)).mono ?_
  rintro e w2 ⟨st0, St0, rfl, Q, O, hh⟩
  have hb : Below w1.heap.size w1 w2 := Below.trans (by repeat (first | with_reducible exact Below.refl _ _ | with_reducible refine Below.setCell ?_ (by first | omega | (simp; done) | (simp; omega)) _ | with_reducible refine bDrewN ?_ _ | with_reducible refine Below.drew ?_ | with_reducible refine Below.alloc ?_ (by first | omega | (simp; done) | (simp; omega)) _)) (hh.mono (by first | omega | (simp; done) | (simp; omega)))
  have lw2 : w1.heap.size ≤ w2.heap.size := hb.size
  replace B0 : Below w.heap.size w w2 := B0.trans (hb.mono B0.size)
  clear hb hh
  have Qt0 : Hid (∀ k, St0 k → w1.heap.size ≤ k ∧ k < w2.heap.size) := (show ∀ k, St0 k → w1.heap.size ≤ k ∧ k < w2.heap.size from by simpa using Q)
  have Ot0 : Hid (JbsR St0 w2 st0 n0 X0 K0 V0) := O
  clear O Q
  go_wp2_with fail
  refine (H1.out st0 _ _ (Ot0.out.row)).mono ?_
  rintro e w3 ⟨sWr0, cWr0, SW0, rfl, Q0, O0, hh⟩
  have hb : Below w2.heap.size w2 w3 := Below.trans (by repeat (first | with_reducible exact Below.refl _ _ | with_reducible refine Below.setCell ?_ (by first | omega | (simp; done) | (simp; omega)) _ | with_reducible refine bDrewN ?_ _ | with_reducible refine Below.drew ?_ | with_reducible refine Below.alloc ?_ (by first | omega | (simp; done) | (simp; omega)) _)) (hh.mono (by first | omega | (simp; done) | (simp; omega)))
  have lw3 : w2.heap.size ≤ w3.heap.size := hb.size
  replace Ot0 : Hid (JbsR St0 w3 st0 n0 X0 K0 V0) := Ot0.out.below hb
  replace B0 : Below w.heap.size w w3 := B0.trans (hb.mono B0.size)
  clear hb hh
  clear Ot0 Qt0 
  have Bs : Below w3.heap.size w3 w3 := Below.refl _ _
  have RW0 : Hid (RowI w3 sWr0 nr0 Vr0) := O0.row
  clear O0 Q0 
  go_wp2_with fail
  refine (toJobS_r s0 n0 c0 X0 K0 V0 _ hn0 (HR0.out.below B0)).mono ?_
  rintro e w4 ⟨sx0, Sx0, rfl, Q, O, hh⟩
  have hb : Below w3.heap.size w3 w4 := Below.trans (by repeat (first | with_reducible exact Below.refl _ _ | with_reducible refine Below.setCell ?_ (by first | omega | (simp; done) | (simp; omega)) _ | with_reducible refine bDrewN ?_ _ | with_reducible refine Below.drew ?_ | with_reducible refine Below.alloc ?_ (by first | omega | (simp; done) | (simp; omega)) _)) (hh.mono (by first | omega | (simp; done) | (simp; omega)))
  have lw4 : w3.heap.size ≤ w4.heap.size := hb.size
  replace Bs : Below w3.heap.size w3 w4 := Bs.trans (hb.mono Bs.size)
  replace B0 : Below w.heap.size w w4 := B0.trans (hb.mono B0.size)
  clear hb hh
  have Qx0 : Hid (∀ k, Sx0 k → w3.heap.size ≤ k ∧ k < w4.heap.size) := (show ∀ k, Sx0 k → w3.heap.size ≤ k ∧ k < w4.heap.size from by simpa using Q)
  have Ox0 : Hid (JbsR Sx0 w4 sx0 n0 X0 K0 V0) := O
  clear O Q
  go_wp2_with fail
  refine (H2.out sx0 _ _ (Ox0.out.row) (HWd.out.below B0)).mono ?_
  rintro e w5 ⟨sgr0, cgr0, Sg0, rfl, Q0, O0, hh⟩
  have hb : Below w4.heap.size w4 w5 := Below.trans (by repeat (first | with_reducible exact Below.refl _ _ | with_reducible refine Below.setCell ?_ (by first | omega | (simp; done) | (simp; omega)) _ | with_reducible refine bDrewN ?_ _ | with_reducible refine Below.drew ?_ | with_reducible refine Below.alloc ?_ (by first | omega | (simp; done) | (simp; omega)) _)) (hh.mono (by first | omega | (simp; done) | (simp; omega)))
  have lw5 : w4.heap.size ≤ w5.heap.size := hb.size
  replace Ox0 : Hid (JbsR Sx0 w5 sx0 n0 X0 K0 V0) := Ox0.out.below hb
  replace Bs : Below w3.heap.size w3 w5 := Bs.trans (hb.mono Bs.size)
  replace B0 : Below w.heap.size w w5 := B0.trans (hb.mono B0.size)
  clear hb hh
  have Qg0 : Hid (∀ k, Sg0 k → w4.heap.size ≤ k ∧ k < w5.heap.size) := (show ∀ k, Sg0 k → w4.heap.size ≤ k ∧ k < w5.heap.size from by simpa using Q0)
  have Og0 : Hid (I64R Sg0 w5 sgr0 nr0 Vr0) := O0
  clear O0 Q0
  go_wp2_with fail
  refine (eqInt64S_any sgr0 sWr0 nr0 _ _ Vr0 _ hnr0 (Og0.out.row) (RW0.out.below Bs)).mono ?_
  rintro e w6 ⟨rfl, hh⟩
  have hb : Below w5.heap.size w5 w6 := Below.trans (by repeat (first | with_reducible exact Below.refl _ _ | with_reducible refine Below.setCell ?_ (by first | omega | (simp; done) | (simp; omega)) _ | with_reducible refine bDrewN ?_ _ | with_reducible refine Below.drew ?_ | with_reducible refine Below.alloc ?_ (by first | omega | (simp; done) | (simp; omega)) _)) (hh.mono (by first | omega | (simp; done) | (simp; omega)))
  have lw6 : w5.heap.size ≤ w6.heap.size := hb.size
  replace Ox0 : Hid (JbsR Sx0 w6 sx0 n0 X0 K0 V0) := Ox0.out.below hb
  replace Og0 : Hid (I64R Sg0 w6 sgr0 nr0 Vr0) := Og0.out.below hb
  replace Bs : Below w3.heap.size w3 w6 := Bs.trans (hb.mono Bs.size)
  replace B0 : Below w.heap.size w w6 := B0.trans (hb.mono B0.size)
  clear hb hh
  go_wp2_with fail
  refine (toJobS_r s0 n0 c0 X0 K0 V0 _ hn0 (HR0.out.below B0)).mono ?_
  rintro e w7 ⟨sy0, Sy0, rfl, Q, O, hh⟩
  have hb : Below w6.heap.size w6 w7 := Below.trans (by repeat (first | with_reducible exact Below.refl _ _ | with_reducible refine Below.setCell ?_ (by first | omega | (simp; done) | (simp; omega)) _ | with_reducible refine bDrewN ?_ _ | with_reducible refine Below.drew ?_ | with_reducible refine Below.alloc ?_ (by first | omega | (simp; done) | (simp; omega)) _)) (hh.mono (by first | omega | (simp; done) | (simp; omega)))
  have lw7 : w6.heap.size ≤ w7.heap.size := hb.size
  replace Ox0 : Hid (JbsR Sx0 w7 sx0 n0 X0 K0 V0) := Ox0.out.below hb
  replace Og0 : Hid (I64R Sg0 w7 sgr0 nr0 Vr0) := Og0.out.below hb
  replace Bs : Below w3.heap.size w3 w7 := Bs.trans (hb.mono Bs.size)
  replace B0 : Below w.heap.size w w7 := B0.trans (hb.mono B0.size)
  clear hb hh
  have Qy0 : Hid (∀ k, Sy0 k → w6.heap.size ≤ k ∧ k < w7.heap.size) := (show ∀ k, Sy0 k → w6.heap.size ≤ k ∧ k < w7.heap.size from by simpa using Q)
  have Oy0 : Hid (JbsR Sy0 w7 sy0 n0 X0 K0 V0) := O
  clear O Q
  go_wp2_with fail
  refine (eqJobS_r _ _ n0 _ _ X0 K0 V0 _ hn0 (Ox0.out.row) (Oy0.out.row)).mono ?_
  rintro e w8 ⟨rfl, hh⟩
  have hb : Below w7.heap.size w7 w8 := Below.trans (by repeat (first | with_reducible exact Below.refl _ _ | with_reducible refine Below.setCell ?_ (by first | omega | (simp; done) | (simp; omega)) _ | with_reducible refine bDrewN ?_ _ | with_reducible refine Below.drew ?_ | with_reducible refine Below.alloc ?_ (by first | omega | (simp; done) | (simp; omega)) _)) (hh.mono (by first | omega | (simp; done) | (simp; omega)))
  have lw8 : w7.heap.size ≤ w8.heap.size := hb.size
  replace Ox0 : Hid (JbsR Sx0 w8 sx0 n0 X0 K0 V0) := Ox0.out.below hb
  replace Og0 : Hid (I64R Sg0 w8 sgr0 nr0 Vr0) := Og0.out.below hb
  replace Oy0 : Hid (JbsR Sy0 w8 sy0 n0 X0 K0 V0) := Oy0.out.below hb
  replace Bs : Below w3.heap.size w3 w8 := Bs.trans (hb.mono Bs.size)
  replace B0 : Below w.heap.size w w8 := B0.trans (hb.mono B0.size)
  clear hb hh
  clear Oy0 Qy0 
  go_wp2_with fail
  refine (markJobS_r Sx0 _ n0 _ (1) X0 K0 V0 _ hn0 (by omega) (by omega) Ox0.out).mono ?_
  rintro e w9 ⟨rfl, -, T⟩
  have lw9 : w8.heap.size ≤ w9.heap.size := T.size
  replace Og0 : Hid (I64R Sg0 w9 sgr0 nr0 Vr0) := Og0.out.keep T.size (fun k hk hl => T.2.2.2.2 k hl (fun q => by have := Qx0.out k q; have := Qg0.out k hk; omega))
  replace Bs : Below w3.heap.size w3 w9 := Bs.trans (T.below (fun k q => by have := Qx0.out k q; omega) (by omega))
  replace B0 : Below w.heap.size w w9 := B0.trans (T.below (fun k q => by have := Qx0.out k q; omega) (by omega))
  clear T Ox0
  go_wp2_with fail
  refine (eqInt64S_any sgr0 sWr0 nr0 _ _ Vr0 _ hnr0 (Og0.out.row) (RW0.out.below Bs)).mono ?_
  rintro e w10 ⟨rfl, hh⟩
  have hb : Below w9.heap.size w9 w10 := Below.trans (by repeat (first | with_reducible exact Below.refl _ _ | with_reducible refine Below.setCell ?_ (by first | omega | (simp; done) | (simp; omega)) _ | with_reducible refine bDrewN ?_ _ | with_reducible refine Below.drew ?_ | with_reducible refine Below.alloc ?_ (by first | omega | (simp; done) | (simp; omega)) _)) (hh.mono (by first | omega | (simp; done) | (simp; omega)))
  have lw10 : w9.heap.size ≤ w10.heap.size := hb.size
  replace Og0 : Hid (I64R Sg0 w10 sgr0 nr0 Vr0) := Og0.out.below hb
  replace Bs : Below w3.heap.size w3 w10 := Bs.trans (hb.mono Bs.size)
  replace B0 : Below w.heap.size w w10 := B0.trans (hb.mono B0.size)
  clear hb hh
  clear Qx0
  go_wp2_with fail
  refine (markInt64S_r Sg0 _ nr0 _ (1) Vr0 _ hnr0 (by omega) (by omega) Og0.out).mono ?_
  rintro e w11 ⟨rfl, OM, T⟩
  have lw11 : w10.heap.size ≤ w11.heap.size := T.size
  replace Bs : Below w3.heap.size w3 w11 := Bs.trans (T.below (fun k q => by have := Qg0.out k q; omega) (by omega))
  replace B0 : Below w.heap.size w w11 := B0.trans (T.below (fun k q => by have := Qg0.out k q; omega) (by omega))
  replace Og0 : Hid (I64R Sg0 w11 sgr0 nr0 (fun j => (1) + (j : Int))) := OM
  clear T OM
  go_wp2_with fail
  refine (heldInt64S_any _ nr0 _ (1) _ hnr0 (by omega) (by omega) (Og0.out.row)).mono ?_
  rintro e w11 ⟨rfl, rfl⟩
  go_wp2_with fail
  refine (toJobS_r s0 n0 c0 X0 K0 V0 _ hn0 (HR0.out.below B0)).mono ?_
  rintro e w12 ⟨sv0, Sv0, rfl, Q, O, hh⟩
  have hb : Below w11.heap.size w11 w12 := Below.trans (by repeat (first | with_reducible exact Below.refl _ _ | with_reducible refine Below.setCell ?_ (by first | omega | (simp; done) | (simp; omega)) _ | with_reducible refine bDrewN ?_ _ | with_reducible refine Below.drew ?_ | with_reducible refine Below.alloc ?_ (by first | omega | (simp; done) | (simp; omega)) _)) (hh.mono (by first | omega | (simp; done) | (simp; omega)))
  have lw12 : w11.heap.size ≤ w12.heap.size := hb.size
  replace Og0 : Hid (I64R Sg0 w12 sgr0 nr0 (fun j => (1) + (j : Int))) := Og0.out.below hb
  replace Bs : Below w3.heap.size w3 w12 := Bs.trans (hb.mono Bs.size)
  replace B0 : Below w.heap.size w w12 := B0.trans (hb.mono B0.size)
  clear hb hh
  have Qv0 : Hid (∀ k, Sv0 k → w11.heap.size ≤ k ∧ k < w12.heap.size) := (show ∀ k, Sv0 k → w11.heap.size ≤ k ∧ k < w12.heap.size from by simpa using Q)
  have Ov0 : Hid (JbsR Sv0 w12 sv0 n0 X0 K0 V0) := O
  clear O Q
  go_wp2_with fail
  refine (H2.out sv0 _ _ (Ov0.out.row) (HWd.out.below B0)).mono ?_
  rintro e w13 ⟨shr0, chr0, Sh0, rfl, Q0, O0, hh⟩
  have hb : Below w12.heap.size w12 w13 := Below.trans (by repeat (first | with_reducible exact Below.refl _ _ | with_reducible refine Below.setCell ?_ (by first | omega | (simp; done) | (simp; omega)) _ | with_reducible refine bDrewN ?_ _ | with_reducible refine Below.drew ?_ | with_reducible refine Below.alloc ?_ (by first | omega | (simp; done) | (simp; omega)) _)) (hh.mono (by first | omega | (simp; done) | (simp; omega)))
  have lw13 : w12.heap.size ≤ w13.heap.size := hb.size
  replace Og0 : Hid (I64R Sg0 w13 sgr0 nr0 (fun j => (1) + (j : Int))) := Og0.out.below hb
  replace Ov0 : Hid (JbsR Sv0 w13 sv0 n0 X0 K0 V0) := Ov0.out.below hb
  replace Bs : Below w3.heap.size w3 w13 := Bs.trans (hb.mono Bs.size)
  replace B0 : Below w.heap.size w w13 := B0.trans (hb.mono B0.size)
  clear hb hh
  clear Ov0 Qv0 
  have Rh0 : Hid (RowI w13 shr0 nr0 Vr0) := O0.row
  clear O0 Q0 
  have Bh : Below w13.heap.size w13 w13 := Below.refl _ _
  go_wp2_with fail
  refine (eqInt64S_any shr0 sWr0 nr0 _ _ Vr0 _ hnr0 ((Rh0.out.below (Below.mono (B := w13.heap.size) (Bh) (Nat.le_refl _)))) (RW0.out.below Bs)).mono ?_
  rintro e w14 ⟨rfl, hh⟩
  have hb : Below w13.heap.size w13 w14 := Below.trans (by repeat (first | with_reducible exact Below.refl _ _ | with_reducible refine Below.setCell ?_ (by first | omega | (simp; done) | (simp; omega)) _ | with_reducible refine bDrewN ?_ _ | with_reducible refine Below.drew ?_ | with_reducible refine Below.alloc ?_ (by first | omega | (simp; done) | (simp; omega)) _)) (hh.mono (by first | omega | (simp; done) | (simp; omega)))
  have lw14 : w13.heap.size ≤ w14.heap.size := hb.size
  replace Og0 : Hid (I64R Sg0 w14 sgr0 nr0 (fun j => (1) + (j : Int))) := Og0.out.below hb
  replace Bs : Below w3.heap.size w3 w14 := Bs.trans (hb.mono Bs.size)
  replace B0 : Below w.heap.size w w14 := B0.trans (hb.mono B0.size)
  replace Bh : Below w13.heap.size w13 w14 := Bh.trans (hb.mono Bh.size)
  clear hb hh
  go_wp2_with fail
  refine (heldInt64S_any _ nr0 _ (1) _ hnr0 (by omega) (by omega) (Og0.out.row)).mono ?_
  rintro e w14 ⟨rfl, rfl⟩
  go_wp2
  go_ret
  exact ⟨rfl, B0⟩
set_option maxHeartbeats 1600000 in
theorem schedule_farn0 (w : World) (n0 : Nat) (X0 : Nat → Int) (K0 : Nat → Nat) (V0 : Nat → Nat → Int) (s0 : Option Addr) (c0 : Nat) (a1 : Int)   (g : 1048576 < ((n0 : Int) + (suK K0 n0 : Int))) (gg : (n0 : Int) ≤ 9223372036854775807) (k63 : ∀ i, i < n0 → (K0 i : Int) ≤ 9223372036854775807) (HR0 : Hid (RowJbs w s0 n0 X0 K0 V0)) :
    Calls Tryd.prog 8 #[.slice s0 n0 c0, .int .i64 a1] w fun e w' => e = .returned (.bool true) ∧ Below w.heap.size w w' := by
  go_enter Tryd.func8, Tryd.ntmps8
  go_wp2_with fail
  refine (szJobS_off _ n0 _ X0 K0 V0 _ _ (by omega) (by omega) (by omega) gg k63 HR0.out).mono ?_
  rintro e u1 ⟨rfl, hh⟩
  have hb : Below w.heap.size w u1 := hh
  have B0 := hb
  clear hb hh
  go_wp2
  go_ret
  exact ⟨rfl, (by repeat (first | with_reducible exact Below.refl _ _ | with_reducible exact B0 | with_reducible refine Below.setCell ?_ (by first | omega | (simp; done) | (simp; omega)) _ | with_reducible refine bDrewN ?_ _ | with_reducible refine Below.drew ?_ | with_reducible refine Below.alloc ?_ (by first | omega | (simp; done) | (simp; omega)) _))⟩
theorem fnExactSchedule_walk (w : World) (s0 : Option Addr) (n0 c0 : Nat) (X0 : Nat → Int) (K0 : Nat → Nat) (V0 : Nat → Nat → Int) (m0 : n0 ≤ 9223372036854775807) (mk0 : ∀ i, i < n0 → K0 i ≤ 9223372036854775807) (R0 : RowJbs w s0 n0 X0 K0 V0) (a1 : Int) (w1 : (Lit.int .i64 a1).wf = true) (HWd : ErrJ w) :
    Calls Tryd.prog 8 #[.slice s0 n0 c0, .int .i64 a1] w fun e w' => e = .returned (.bool true) ∧ Below w.heap.size w w' := by
  have k60 : ∀ i, i < n0 → (K0 i : Int) ≤ 9223372036854775807 := fun i hi => by have := mk0 i hi; omega
  by_cases gn0 : ((n0 : Int) + (suK K0 n0 : Int)) ≤ 1048576
  case neg => exact schedule_farn0 w n0 X0 K0 V0 s0 c0 a1   (by omega) (by omega) k60 R0
  obtain ⟨FI, HFI⟩ := sched_ex n0 X0 K0 V0 a1
  exact schedule_near w n0 X0 K0 V0 s0 c0 (by omega) R0 a1 (by omega) (sdN n0 X0 K0 V0 a1) FI (sdN_le _ _ _ _ _ (by omega)) (sdE n0 X0 K0 V0 a1 FI) (fun s c w q => (specSchedule_any s n0 c X0 K0 V0 a1 FI w (by omega) (Jbs_each (by omega)) HFI q).mono fun e w' h => sd_fit h) (fun s c w q x => (implSchedule_any s n0 c X0 K0 V0 a1 FI w (by omega) (Jbs_each (by omega)) HFI q x).mono fun e w' h => sd_fit h) HWd

theorem fnExactSchedule_star : "*" ++ "errors.errorString" = "*errors.errorString" := by decide
theorem fnExactSchedule_ptr (u : TypeId) (h : Tryd.prog.typeName? 3 u = some "*errors.errorString") : u = 170 :=
  typeName_ptr_named (nm := "errors.errorString") (by rw [fnExactSchedule_star]; kernel_rfl) (by kernel_rfl) (by decide) u (by rw [fnExactSchedule_star]; exact h)
theorem fnExactSchedule_lt {W : World} {g : Nat} {v : Value} (h : W.cell? ⟨g, 0, none⟩ = some v) : g < W.heap.size := by
  rcases Nat.lt_or_ge g W.heap.size with k | k
  · exact k
  · simp [World.cell?, Array.getElem?_eq_none k] at h
theorem fnExactSchedule_errs {W : World} (h : laidMetH Tryd.prog Rows.fnExactScheduleRow.laid W) : ErrJ W := by
  have h' : laidMet Tryd.prog Rows.fnExactScheduleRow.laid.tail W ∧ handlesMet Tryd.prog (Rows.fnExactScheduleRow.laid.take 1) W := h
  obtain ⟨name, u, ty, e1, e2, e3, e4, e5⟩ := h'.2 _ (List.mem_singleton.2 rfl)
  have en : name = [101, 114, 114, 111, 114] := (Option.some.inj e1).symm
  subst en
  have eu : u = 155 := by
    have h2 : some u = some 155 := e2.symm.trans (by kernel_rfl)
    exact Option.some.inj h2
  subst eu
  have sz : Tryd.prog.types.size = 209 := by kernel_rfl
  have one : ((List.range 209).filter fun t => Tryd.prog.rowNamed t [101, 114, 114, 111, 114]) = [82] := by kernel_rfl
  have hm : ty ∈ (List.range 209).filter fun t => Tryd.prog.rowNamed t [101, 114, 114, 111, 114] := List.mem_filter.2 ⟨List.mem_range.2 (by rw [← sz]; exact e3), e4⟩
  rw [one] at hm
  obtain rfl := List.mem_singleton.1 hm
  have hh : typeHandle Tryd.prog 82 = .pointer (some ⟨7, 82, none⟩) := by kernel_rfl
  rw [hh] at e5
  have ce : W.cell? ⟨6, 0, none⟩ = some (.iface 155 (.agg #[.pointer (some ⟨7, 82, none⟩)])) := by simpa using World.var?_cell (g := 6) (by kernel_rfl) e5 0
  have l0 := h'.1
  obtain ⟨a0, s0, hv0, -, -, -⟩ := laid_sentinel (g := 0) (ti := 82) (tp := 170) (te := 193) (ts := 9) l0 (by kernel_rfl) (by kernel_rfl) Tryd.underlying82 fnExactSchedule_ptr Tryd.underlying170 Tryd.underlying193 rfl rfl Tryd.underlying9 (by kernel_rfl) (by kernel_rfl)
  have c0 : W.cell? ⟨0, 0, none⟩ = some (.iface 170 (.pointer (some a0))) := by simpa using World.var?_cell (g := 0) (by kernel_rfl) hv0 0
  have l1 := cells_of_tail l0
  obtain ⟨a1, s1, hv1, -, -, -⟩ := laid_sentinel (g := 1) (ti := 82) (tp := 170) (te := 193) (ts := 9) l1 (by kernel_rfl) (by kernel_rfl) Tryd.underlying82 fnExactSchedule_ptr Tryd.underlying170 Tryd.underlying193 rfl rfl Tryd.underlying9 (by kernel_rfl) (by kernel_rfl)
  have c1 : W.cell? ⟨1, 0, none⟩ = some (.iface 170 (.pointer (some a1))) := by simpa using World.var?_cell (g := 1) (by kernel_rfl) hv1 0
  have l2 := cells_of_tail l1
  obtain ⟨a2, s2, hv2, -, -, -⟩ := laid_sentinel (g := 3) (ti := 82) (tp := 170) (te := 193) (ts := 9) l2 (by kernel_rfl) (by kernel_rfl) Tryd.underlying82 fnExactSchedule_ptr Tryd.underlying170 Tryd.underlying193 rfl rfl Tryd.underlying9 (by kernel_rfl) (by kernel_rfl)
  have c2 : W.cell? ⟨3, 0, none⟩ = some (.iface 170 (.pointer (some a2))) := by simpa using World.var?_cell (g := 3) (by kernel_rfl) hv2 0
  exact ⟨⟨fnExactSchedule_lt ce, ce⟩, ⟨fnExactSchedule_lt c0, _, _, c0⟩, ⟨fnExactSchedule_lt c1, _, _, c1⟩, ⟨fnExactSchedule_lt c2, _, _, c2⟩⟩
theorem fnExactSchedule_vars {H : Type} {enc : TypeId × Value → H} {P : Program} {w : World} {sp : Nat → Bool} : ∀ {ns : List String} {gs : List (DataW H)} {ps : List MemPlace}, DataW.TrodVars enc P w sp ns gs ps → gs.length = ns.length
  | [], [], _, _ => rfl
  | [], _ :: _, _, h => h.elim
  | _ :: _, [], _, h => h.elim
  | _ :: _, _ :: _, _, ⟨_, _, _, _, _, _, _, _, _, _, hs, _⟩ => by simp [fnExactSchedule_vars hs]
theorem fnExactSchedule_contract (H : Type) (enc : TypeId × Value → H) (W : World) (base : Nat) (args : Array Value) (ds gs : List (DataW H)) (before : List MemPlace)
    (hval : ∀ (j : Nat) t v, Tryd.f8.params[j]? = some t → args[j]? = some v → Value.okWide Tryd.prog W .any base t v)
    (hW : DataW.Whole enc Tryd.prog Tryd.f8.params.toList Rows.fnExactScheduleSpec.vars false W args.toList ds gs before) (hL : laidMetH Tryd.prog Rows.fnExactScheduleRow.laid W) :
    Calls Tryd.prog 8 args W fun e W' => ∃ v, e = .returned v ∧ Rows.fnExactScheduleSpec.post enc Tryd.prog Tryd.f8 false true false false W args v W' := by
  have hW' := hW
  obtain ⟨p, q, hA0, hV, rfl, hfz, hnd⟩ := hW
  have hA : DataW.TrodAll enc Tryd.prog W 0 (fun _ => true) true Tryd.f8.params.toList args.toList ds p := hA0
  rw [Tryd.params8] at hA hval
  obtain ⟨v0, vs0, d0, ds0, p0, q0, hargs, rfl, rfl, h0, r0⟩ := trodAll_cons hA
  obtain ⟨v1, vs1, d1, ds1, p1, q1, rfl, rfl, rfl, h1, r1⟩ := trodAll_cons r0
  obtain ⟨rfl, rfl, rfl⟩ := trodAll_nil r1
  obtain rfl : args = #[v0, v1] := by cases args; simp_all
  have hV2 := hV
  have hlen := fnExactSchedule_vars hV
  obtain ⟨y0, y1, y2, rfl⟩ : ∃ y0 y1 y2, gs = [y0, y1, y2] := by
    have hl : gs.length = 3 := hlen.trans (by kernel_rfl)
    rcases gs with _ | ⟨y0, _ | ⟨y1, _ | ⟨y2, _ | ⟨z, r⟩⟩⟩⟩
    · cases hl
    · cases hl
    · cases hl
    · exact ⟨_, _, _, rfl⟩
    · simp at hl
  have k0 := h0
  have lt0 : ∀ x ∈ p0, x.block < W.heap.size := by obtain ⟨m, hm⟩ := k0; exact DataW.trod_lt m _ _ _ hm
  have k1 := h1
  have lt1 : ∀ x ∈ p1, x.block < W.heap.size := by obtain ⟨m, hm⟩ := k1; exact DataW.trod_lt m _ _ _ hm
  obtain ⟨s0, n0, c0, X0, S0, K0, C0, V0, rfl, m0, mk0, RR0⟩ := open_JobS Tryd.underlying57 Tryd.underlying105 (by kernel_rfl) rfl (by kernel_rfl) rfl (by kernel_rfl) Tryd.underlying2 Tryd.underlying48 Tryd.underlying2 (by kernel_rfl) (hval 0 57 v0 rfl rfl) h0
  have R0 := RowJbs.of RR0
  obtain ⟨a1, rfl, rfl, rfl, w1⟩ := open_int Tryd.underlying2 (hval 1 2 v1 rfl rfl) h1
  clear hA0
  refine (fnExactSchedule_walk W s0 n0 c0 X0 K0 V0 m0 mk0 R0 a1 w1 (fnExactSchedule_errs hL)).mono fun e W' ⟨he, bel⟩ => ?_
  subst he
  exact ⟨_, rfl, _, _, _, [], _, q, hW', trodAll_mk1 (shut_bool Tryd.underlying4 _), (trodAll_cons_mk (Below.trod laidOut (by kernel_rfl) (of_decide_eq_true (by kernel_rfl)) k0 bel lt0) (trodAll_cons_mk (Below.trod laidOut (by kernel_rfl) (of_decide_eq_true (by kernel_rfl)) k1 bel lt1) trodAll_mk0)), Below.trodVars laidOut bel (by kernel_rfl) hV2, bel.frame _, fun h => by cases h⟩
set_option maxRecDepth 100000 in
theorem fnExactSchedule_lifted (os : Os) (started : os.Started) (H : Type) (enc : TypeId × Value → H) (F : Stop.Interp) :
    ReturnsInHanded {} Tryd.checked os 8 .any ((OpenSpec.ofChange Rows.fnExactScheduleSpec).preRow enc Tryd.prog Tryd.f8 Rows.fnExactScheduleRow.domain false Rows.fnExactScheduleRow.laid) (((OpenSpec.ofChange Rows.fnExactScheduleSpec).at F).post enc Tryd.prog Tryd.f8 false true false false) := by
  refine returnsInHanded_of_row (C := Tryd.checked) (s := OpenSpec.ofChange Rows.fnExactScheduleSpec) own started (by kernel_rfl) Tryd.func8
    (witness_row_at (enc := enc) (C := Tryd.checked) false ({ World.holding Tryd.prog os ⟨#[.cells #[.string { data := #[110, 111, 116, 32, 97, 115, 32, 109, 97, 110, 121, 32, 97, 115, 32, 116, 104, 101, 114, 101, 32, 109, 97, 121, 32, 98, 101] }] 193, .cells #[.string { data := #[97, 32, 110, 117, 109, 98, 101, 114, 32, 116, 104, 97, 116, 32, 105, 115, 32, 111, 117, 116, 32, 111, 102, 32, 105, 116, 115, 32, 98, 111, 117, 110, 100, 115] }] 193, .cells #[.string { data := #[97, 32, 106, 111, 98, 32, 116, 104, 97, 116, 32, 99, 111, 109, 101, 115, 32, 98, 101, 104, 105, 110, 100, 32, 119, 104, 97, 116, 32, 100, 111, 101, 115, 32, 110, 111, 116, 32, 115, 116, 97, 110, 100, 32, 97, 104, 101, 97, 100, 32, 111, 102, 32, 105, 116] }] 193], #[], []⟩ with heap := (((((World.holding Tryd.prog os ⟨#[.cells #[.string { data := #[110, 111, 116, 32, 97, 115, 32, 109, 97, 110, 121, 32, 97, 115, 32, 116, 104, 101, 114, 101, 32, 109, 97, 121, 32, 98, 101] }] 193, .cells #[.string { data := #[97, 32, 110, 117, 109, 98, 101, 114, 32, 116, 104, 97, 116, 32, 105, 115, 32, 111, 117, 116, 32, 111, 102, 32, 105, 116, 115, 32, 98, 111, 117, 110, 100, 115] }] 193, .cells #[.string { data := #[97, 32, 106, 111, 98, 32, 116, 104, 97, 116, 32, 99, 111, 109, 101, 115, 32, 98, 101, 104, 105, 110, 100, 32, 119, 104, 97, 116, 32, 100, 111, 101, 115, 32, 110, 111, 116, 32, 115, 116, 97, 110, 100, 32, 97, 104, 101, 97, 100, 32, 111, 102, 32, 105, 116] }] 193], #[], []⟩).heap.modify 6 fun | .cells _ t frozen => .cells #[.iface 155 (.agg #[.pointer (some ⟨7, 82, none⟩)])] t frozen | o => o).modify 0 fun | .cells _ t frozen => .cells #[.iface 170 (.pointer (some ⟨(World.holding Tryd.prog default ⟨#[], #[], []⟩).heap.size + 0, 0, none⟩))] t frozen | o => o).modify 1 fun | .cells _ t frozen => .cells #[.iface 170 (.pointer (some ⟨(World.holding Tryd.prog default ⟨#[], #[], []⟩).heap.size + 1, 0, none⟩))] t frozen | o => o).modify 3 fun | .cells _ t frozen => .cells #[.iface 170 (.pointer (some ⟨(World.holding Tryd.prog default ⟨#[], #[], []⟩).heap.size + 2, 0, none⟩))] t frozen | o => o) }) #[.slice none 0 0, .int .i64 0] rfl (by kernel_rfl) (by kernel_rfl) (by kernel_rfl)
      (OpenSpec.preRow_of_B rfl 8 (by kernel_rfl) (by kernel_rfl) (laidMetH_of_parts (laidMet_of_run' 8 (by kernel_rfl) (by kernel_rfl)) (by kernel_rfl)))) ?_
  intro W base args ds gs before hval hW _ _ _ hL _ _
  exact fnExactSchedule_contract H enc W base args ds gs before hval hW hL
theorem fnExactSchedule_said : Rows.FnExactScheduleSaid :=
  OpenClaim.holds_of_cond 8 Tryd.f8 rfl rfl rfl rfl rfl rfl rfl ⟨rfl, rfl, rfl, rfl, rfl⟩ rfl rfl rfl rfl rfl (by kernel_rfl) Tryd.func8 (by kernel_rfl)
    (of_decide_eq_true (by kernel_rfl)) (by unfold Func.isWrapper; first | (rw [if_pos (by decide +kernel)]; kernel_rfl) | (rw [if_neg (by decide +kernel)]; exact ⟨rfl, rfl⟩))
    (fun os started H enc _ F => by rw [OpenClaim.pre_eq_preRow]; exact fnExactSchedule_lifted os started H enc F)
theorem fnExactSchedule_plain (f : FuncId) (fn : Func) (hf : Tryd.pinned.checked.prog.funcNamed Rows.fnExactScheduleRow.func = some f) (hfn : Tryd.pinned.checked.prog.funcs[f]? = some fn) :
    true = Tryd.pinned.checked.prog.looks [] ∧ ∀ (j : Nat) t, fn.params[j]? = some t → Tryd.pinned.checked.prog.wantsStandIn t = false := by
  obtain rfl : f = 8 := Option.some.inj ((show Tryd.prog.funcNamed Rows.fnExactScheduleRow.func = some 8 by kernel_rfl).symm.trans hf) |>.symm
  obtain rfl : fn = Tryd.f8 := (Option.some.inj (Tryd.func8.symm.trans hfn)).symm
  refine ⟨by kernel_rfl, fun j t ht => ?_⟩
  have hall : Tryd.f8.params.toList.all (fun t => !Tryd.prog.wantsStandIn t) = true := by kernel_rfl
  have hmem := Array.mem_of_getElem? ht
  have := List.all_eq_true.1 hall t (Array.mem_toList_iff.2 hmem)
  have this2 : Tryd.prog.wantsStandIn t = false := by simpa using this
  exact this2
theorem fnExactSchedule_holds : Rows.FnExactScheduleCardSaid :=
  Claim7.holds_tied_plain_at .later [] _ _ _ _ fnExactSchedule_said (fun _ h => by cases h) (by kernel_rfl) (fun _ h => by cases h) fnExactSchedule_row_tie rfl ⟨rfl, rfl⟩ (by kernel_rfl) rfl fnExactSchedule_plain (by kernel_rfl)
#print axioms fnExactSchedule_holds
end Go.Proofs.YtfhbkfdfggaomaaDoor
