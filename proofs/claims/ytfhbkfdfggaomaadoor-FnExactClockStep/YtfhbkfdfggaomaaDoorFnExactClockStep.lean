/-
What is proved: at every limits, clocks, mode and flags impl.ClockStep answers as the specification's ClockStep and leaves them as they were; its answers are new memory; where the variables of errors hold what the program's text lays (the card ties that).
-/
import Derived.Test.YtfhbkfdfggaomaaDoorCkS
import Derived.Test.YtfhbkfdfggaomaaDoorLimE
import Derived.Test.YtfhbkfdfggaomaaDoorClkE
import Derived.Test.YtfhbkfdfggaomaaDoorBooR
import Derived.Test.YtfhbkfdfggaomaaDoorOpenBN
import Derived.Test.YtfhbkfdfggaomaaDoorLaid
import Derived.Stop.LaidErr
import Derived.LaidHandle
namespace Go.Proofs.YtfhbkfdfggaomaaDoor
set_option maxRecDepth 40000
open Go.ChangeShapes Go.WideShapes Go.ChangeAt Go.RowKit
set_option linter.unusedVariables false
set_option linter.unusedSimpArgs false

theorem ck_fit {n : Nat} {V : Nat → Int × Int} {m : Nat} {U : Nat → Int × Bool} {mo : Int} {nb : Nat} {O : Nat → Bool} {w : World} {ev : Ending} {w' : World} (h : CkPost n V m U mo nb O w ev w') : ∃ (s : Option Addr) (c : Nat) (t : Option Addr) (d : Nat) (S T : Nat → Prop), ev = .returned (.tuple #[.slice s (ckN n V m U mo nb O) c, .slice t (ckT n V m U mo nb O).length d, .bool (ckB n V m U mo nb O)]) ∧ (∀ k, S k → w.heap.size ≤ k ∧ k < w'.heap.size) ∧ ClockR S w' s (ckN n V m U mo nb O) (nxC V U O mo) ∧ (∀ k, T k → w.heap.size ≤ k ∧ k < w'.heap.size) ∧ NoteR T w' t (ckT n V m U mo nb O).length (fun j => (ckT n V m U mo nb O).getD j (0, 0)) ∧ (∀ k, S k → ¬ T k) ∧ Below w.heap.size w w' := by
  obtain ⟨s, c, t, d, h1, h2, h3, h4, h5⟩ := h
  refine ⟨s, c, t, d, fun k => s = some ⟨k, 0, none⟩ ∧ w.heap.size ≤ k ∧ k < w'.heap.size, fun k => t = some ⟨k, 0, none⟩ ∧ w.heap.size ≤ k ∧ k < w'.heap.size, h1, fun k hk => hk.2, ⟨h2.mono (Nat.zero_le _), fun hn b e => ?_⟩, fun k hk => hk.2, ⟨h3.mono (Nat.zero_le _), fun hn b e => ?_⟩, fun k hk hk2 => h4 k k hk.1 hk2.1 rfl, h5⟩
  · obtain ⟨b', e', hb, hl, _⟩ := h2 0 hn
    rw [e] at e'
    cases e'
    exact ⟨e, hb, hl⟩
  · obtain ⟨b', e', hb, hl, _⟩ := h3 0 hn
    rw [e] at e'
    cases e'
    exact ⟨e, hb, hl⟩
theorem ckN_le {n : Nat} {V : Nat → Int × Int} {m : Nat} {U : Nat → Int × Bool} {mo : Int} {nb : Nat} {O : Nat → Bool} (h : (n : Int) ≤ 1048576) : ((ckN n V m U mo nb O : Nat) : Int) ≤ 1048576 := by
  unfold ckN
  split
  · exact h
  · decide
theorem ckT_le {n : Nat} {V : Nat → Int × Int} {m : Nat} {U : Nat → Int × Bool} {mo : Int} {nb : Nat} {O : Nat → Bool} (h : (n : Int) ≤ 1048576) : (((ckT n V m U mo nb O).length : Nat) : Int) ≤ 1048576 := by
  unfold ckT
  split
  · have := ntP_len (whC V U O mo) n; omega
  · decide
set_option maxRecDepth 20000 in
set_option maxHeartbeats 8000000 in
theorem clockStep_near (w : World) (n0 : Nat) (V0 : Nat → Int × Int) (s0 : Option Addr) (c0 : Nat) (hn0 : (n0 : Int) ≤ 1048576) (HR0 : Hid (RowLimit w s0 n0 V0)) (n1 : Nat) (V1 : Nat → Int × Bool) (s1 : Option Addr) (c1 : Nat) (hn1 : (n1 : Int) ≤ 1048576) (HR1 : Hid (RowClock w s1 n1 V1)) (a2 : Int) (n3 : Nat) (V3 : Nat → Bool) (s3 : Option Addr) (c3 : Nat) (hn3 : (n3 : Int) ≤ 1048576) (HR3 : Hid (RowB w s3 n3 V3)) (gn0 : (n0 : Int) ≤ 1048576) (gn1 : (n1 : Int) ≤ 1048576 - n0) (nr0 : Nat) (Vr0 : Nat → Int × Bool) (hnr0 : (nr0 : Int) ≤ 1048576) (nr1 : Nat) (Vr1 : Nat → Int × Int) (hnr1 : (nr1 : Int) ≤ 1048576) (ar2 : Bool)
    (H1 : Hid (∀ (s0 : Option Addr) (c0 : Nat) (s1 : Option Addr) (c1 : Nat) (s3 : Option Addr) (c3 : Nat) w, RowLimit w s0 n0 V0 → RowClock w s1 n1 V1 → RowB w s3 n3 V3 → Calls Tryd.prog 17 #[.slice s0 n0 c0, .slice s1 n1 c1, .int .i64 a2, .slice s3 n3 c3] w fun e w' => ∃ (s'r0 : Option Addr) (c'r0 : Nat) (s'r1 : Option Addr) (c'r1 : Nat) (S0 : Nat → Prop) (S1 : Nat → Prop), e = .returned (.tuple #[.slice s'r0 nr0 c'r0, .slice s'r1 nr1 c'r1, .bool ar2]) ∧ (∀ k, S0 k → w.heap.size ≤ k ∧ k < w'.heap.size) ∧ ClockR S0 w' s'r0 nr0 Vr0 ∧ (∀ k, S1 k → w.heap.size ≤ k ∧ k < w'.heap.size) ∧ NoteR S1 w' s'r1 nr1 Vr1 ∧ (∀ k, S0 k → ¬ S1 k) ∧ Below w.heap.size w w'))
    (H2 : Hid (∀ (s0 : Option Addr) (c0 : Nat) (s1 : Option Addr) (c1 : Nat) (s3 : Option Addr) (c3 : Nat) w, RowLimit w s0 n0 V0 → RowClock w s1 n1 V1 → RowB w s3 n3 V3 → ErrC w → Calls Tryd.prog 19 #[.slice s0 n0 c0, .slice s1 n1 c1, .int .i64 a2, .slice s3 n3 c3] w fun e w' => ∃ (s'r0 : Option Addr) (c'r0 : Nat) (s'r1 : Option Addr) (c'r1 : Nat) (S0 : Nat → Prop) (S1 : Nat → Prop), e = .returned (.tuple #[.slice s'r0 nr0 c'r0, .slice s'r1 nr1 c'r1, .bool ar2]) ∧ (∀ k, S0 k → w.heap.size ≤ k ∧ k < w'.heap.size) ∧ ClockR S0 w' s'r0 nr0 Vr0 ∧ (∀ k, S1 k → w.heap.size ≤ k ∧ k < w'.heap.size) ∧ NoteR S1 w' s'r1 nr1 Vr1 ∧ (∀ k, S0 k → ¬ S1 k) ∧ Below w.heap.size w w')) (HWd : Hid (ErrC w)) :
    Calls Tryd.prog 4 #[.slice s0 n0 c0, .slice s1 n1 c1, .int .i64 a2, .slice s3 n3 c3] w fun e w' => e = .returned (.bool true) ∧ Below w.heap.size w w' := by
  have sto := store_slT
  go_enter Tryd.func4, Tryd.ntmps4
  go_wp2_with fail
  refine (szLimitS_on _ n0 _ _ _ (by omega) (by omega) (by omega)).mono ?_
  rintro e w ⟨rfl, rfl⟩
  go_wp2_with fail
  refine (szClockS_on _ n1 _ _ _ (by omega) (by omega) (by omega)).mono ?_
  rintro e w ⟨rfl, rfl⟩
  have B0 : Below w.heap.size w w := Below.refl _ _
  go_wp2_with fail
  refine (toLimitS_r s0 n0 c0 V0 _ hn0 (HR0.out.below B0)).mono ?_
  rintro e w1 ⟨st0, St0, rfl, Q, O, hh⟩
  have hb : Below w.heap.size w w1 := Below.trans (by repeat (first | with_reducible exact Below.refl _ _ | with_reducible refine Below.setCell ?_ (by first | omega | (simp; done) | (simp; omega)) _ | with_reducible refine bDrewN ?_ _ | with_reducible refine Below.drew ?_ | with_reducible refine Below.alloc ?_ (by first | omega | (simp; done) | (simp; omega)) _)) (hh.mono (by first | omega | (simp; done) | (simp; omega)))
  have lw1 : w.heap.size ≤ w1.heap.size := hb.size
  replace B0 : Below w.heap.size w w1 := B0.trans (hb.mono B0.size)
  clear hb hh
  have Qt0 : Hid (∀ k, St0 k → w.heap.size ≤ k ∧ k < w1.heap.size) := (show ∀ k, St0 k → w.heap.size ≤ k ∧ k < w1.heap.size from by simpa using Q)
  have Ot0 : Hid (LimitR St0 w1 st0 n0 V0) := O
  clear O Q
  go_wp2_with fail
  refine (toClockS_r s1 n1 c1 V1 _ hn1 (HR1.out.below B0)).mono ?_
  rintro e w2 ⟨st1, St1, rfl, Q, O, hh⟩
  have hb : Below w1.heap.size w1 w2 := Below.trans (by repeat (first | with_reducible exact Below.refl _ _ | with_reducible refine Below.setCell ?_ (by first | omega | (simp; done) | (simp; omega)) _ | with_reducible refine bDrewN ?_ _ | with_reducible refine Below.drew ?_ | with_reducible refine Below.alloc ?_ (by first | omega | (simp; done) | (simp; omega)) _)) (hh.mono (by first | omega | (simp; done) | (simp; omega)))
  have lw2 : w1.heap.size ≤ w2.heap.size := hb.size
  replace Ot0 : Hid (LimitR St0 w2 st0 n0 V0) := Ot0.out.below hb
  replace B0 : Below w.heap.size w w2 := B0.trans (hb.mono B0.size)
  clear hb hh
  have Qt1 : Hid (∀ k, St1 k → w1.heap.size ≤ k ∧ k < w2.heap.size) := (show ∀ k, St1 k → w1.heap.size ≤ k ∧ k < w2.heap.size from by simpa using Q)
  have Ot1 : Hid (ClockR St1 w2 st1 n1 V1) := O
  clear O Q
  go_wp2_with fail
  refine (toBoolS_r s3 n3 c3 V3 _ hn3 (HR3.out.below B0)).mono ?_
  rintro e w3 ⟨st3, St3, rfl, Q, O, hh⟩
  have hb : Below w2.heap.size w2 w3 := Below.trans (by repeat (first | with_reducible exact Below.refl _ _ | with_reducible refine Below.setCell ?_ (by first | omega | (simp; done) | (simp; omega)) _ | with_reducible refine bDrewN ?_ _ | with_reducible refine Below.drew ?_ | with_reducible refine Below.alloc ?_ (by first | omega | (simp; done) | (simp; omega)) _)) (hh.mono (by first | omega | (simp; done) | (simp; omega)))
  have lw3 : w2.heap.size ≤ w3.heap.size := hb.size
  replace Ot0 : Hid (LimitR St0 w3 st0 n0 V0) := Ot0.out.below hb
  replace Ot1 : Hid (ClockR St1 w3 st1 n1 V1) := Ot1.out.below hb
  replace B0 : Below w.heap.size w w3 := B0.trans (hb.mono B0.size)
  clear hb hh
  have Qt3 : Hid (∀ k, St3 k → w2.heap.size ≤ k ∧ k < w3.heap.size) := (show ∀ k, St3 k → w2.heap.size ≤ k ∧ k < w3.heap.size from by simpa using Q)
  have Ot3 : Hid (BooR St3 w3 st3 n3 V3) := O
  clear O Q
  go_wp2_with fail
  refine (H1.out st0 _ st1 _ st3 _ _ (Ot0.out.row) (Ot1.out.row) (Ot3.out.row)).mono ?_
  rintro e w4 ⟨sWr0, cWr0, sWr1, cWr1, SW0, SW1, rfl, Q0, O0, Q1, O1, D0_1, hh⟩
  have hb : Below w3.heap.size w3 w4 := Below.trans (by repeat (first | with_reducible exact Below.refl _ _ | with_reducible refine Below.setCell ?_ (by first | omega | (simp; done) | (simp; omega)) _ | with_reducible refine bDrewN ?_ _ | with_reducible refine Below.drew ?_ | with_reducible refine Below.alloc ?_ (by first | omega | (simp; done) | (simp; omega)) _)) (hh.mono (by first | omega | (simp; done) | (simp; omega)))
  have lw4 : w3.heap.size ≤ w4.heap.size := hb.size
  replace Ot0 : Hid (LimitR St0 w4 st0 n0 V0) := Ot0.out.below hb
  replace Ot1 : Hid (ClockR St1 w4 st1 n1 V1) := Ot1.out.below hb
  replace Ot3 : Hid (BooR St3 w4 st3 n3 V3) := Ot3.out.below hb
  replace B0 : Below w.heap.size w w4 := B0.trans (hb.mono B0.size)
  clear hb hh
  clear Ot0 Qt0 
  clear Ot1 Qt1 
  clear Ot3 Qt3 
  have Bs : Below w4.heap.size w4 w4 := Below.refl _ _
  have RW0 : Hid (RowClock w4 sWr0 nr0 Vr0) := O0.row
  have RW1 : Hid (RowNote w4 sWr1 nr1 Vr1) := O1.row
  clear O0 Q0 O1 Q1 D0_1
  go_wp2_with fail
  refine (toLimitS_r s0 n0 c0 V0 _ hn0 (HR0.out.below B0)).mono ?_
  rintro e w5 ⟨sx0, Sx0, rfl, Q, O, hh⟩
  have hb : Below w4.heap.size w4 w5 := Below.trans (by repeat (first | with_reducible exact Below.refl _ _ | with_reducible refine Below.setCell ?_ (by first | omega | (simp; done) | (simp; omega)) _ | with_reducible refine bDrewN ?_ _ | with_reducible refine Below.drew ?_ | with_reducible refine Below.alloc ?_ (by first | omega | (simp; done) | (simp; omega)) _)) (hh.mono (by first | omega | (simp; done) | (simp; omega)))
  have lw5 : w4.heap.size ≤ w5.heap.size := hb.size
  replace Bs : Below w4.heap.size w4 w5 := Bs.trans (hb.mono Bs.size)
  replace B0 : Below w.heap.size w w5 := B0.trans (hb.mono B0.size)
  clear hb hh
  have Qx0 : Hid (∀ k, Sx0 k → w4.heap.size ≤ k ∧ k < w5.heap.size) := (show ∀ k, Sx0 k → w4.heap.size ≤ k ∧ k < w5.heap.size from by simpa using Q)
  have Ox0 : Hid (LimitR Sx0 w5 sx0 n0 V0) := O
  clear O Q
  go_wp2_with fail
  refine (toClockS_r s1 n1 c1 V1 _ hn1 (HR1.out.below B0)).mono ?_
  rintro e w6 ⟨sx1, Sx1, rfl, Q, O, hh⟩
  have hb : Below w5.heap.size w5 w6 := Below.trans (by repeat (first | with_reducible exact Below.refl _ _ | with_reducible refine Below.setCell ?_ (by first | omega | (simp; done) | (simp; omega)) _ | with_reducible refine bDrewN ?_ _ | with_reducible refine Below.drew ?_ | with_reducible refine Below.alloc ?_ (by first | omega | (simp; done) | (simp; omega)) _)) (hh.mono (by first | omega | (simp; done) | (simp; omega)))
  have lw6 : w5.heap.size ≤ w6.heap.size := hb.size
  replace Ox0 : Hid (LimitR Sx0 w6 sx0 n0 V0) := Ox0.out.below hb
  replace Bs : Below w4.heap.size w4 w6 := Bs.trans (hb.mono Bs.size)
  replace B0 : Below w.heap.size w w6 := B0.trans (hb.mono B0.size)
  clear hb hh
  have Qx1 : Hid (∀ k, Sx1 k → w5.heap.size ≤ k ∧ k < w6.heap.size) := (show ∀ k, Sx1 k → w5.heap.size ≤ k ∧ k < w6.heap.size from by simpa using Q)
  have Ox1 : Hid (ClockR Sx1 w6 sx1 n1 V1) := O
  clear O Q
  go_wp2_with fail
  refine (toBoolS_r s3 n3 c3 V3 _ hn3 (HR3.out.below B0)).mono ?_
  rintro e w7 ⟨sx3, Sx3, rfl, Q, O, hh⟩
  have hb : Below w6.heap.size w6 w7 := Below.trans (by repeat (first | with_reducible exact Below.refl _ _ | with_reducible refine Below.setCell ?_ (by first | omega | (simp; done) | (simp; omega)) _ | with_reducible refine bDrewN ?_ _ | with_reducible refine Below.drew ?_ | with_reducible refine Below.alloc ?_ (by first | omega | (simp; done) | (simp; omega)) _)) (hh.mono (by first | omega | (simp; done) | (simp; omega)))
  have lw7 : w6.heap.size ≤ w7.heap.size := hb.size
  replace Ox0 : Hid (LimitR Sx0 w7 sx0 n0 V0) := Ox0.out.below hb
  replace Ox1 : Hid (ClockR Sx1 w7 sx1 n1 V1) := Ox1.out.below hb
  replace Bs : Below w4.heap.size w4 w7 := Bs.trans (hb.mono Bs.size)
  replace B0 : Below w.heap.size w w7 := B0.trans (hb.mono B0.size)
  clear hb hh
  have Qx3 : Hid (∀ k, Sx3 k → w6.heap.size ≤ k ∧ k < w7.heap.size) := (show ∀ k, Sx3 k → w6.heap.size ≤ k ∧ k < w7.heap.size from by simpa using Q)
  have Ox3 : Hid (BooR Sx3 w7 sx3 n3 V3) := O
  clear O Q
  go_wp2_with fail
  refine (H2.out sx0 _ sx1 _ sx3 _ _ (Ox0.out.row) (Ox1.out.row) (Ox3.out.row) (HWd.out.below B0)).mono ?_
  rintro e w8 ⟨sgr0, cgr0, sgr1, cgr1, Sg0, Sg1, rfl, Q0, O0, Q1, O1, D0_1, hh⟩
  have hb : Below w7.heap.size w7 w8 := Below.trans (by repeat (first | with_reducible exact Below.refl _ _ | with_reducible refine Below.setCell ?_ (by first | omega | (simp; done) | (simp; omega)) _ | with_reducible refine bDrewN ?_ _ | with_reducible refine Below.drew ?_ | with_reducible refine Below.alloc ?_ (by first | omega | (simp; done) | (simp; omega)) _)) (hh.mono (by first | omega | (simp; done) | (simp; omega)))
  have lw8 : w7.heap.size ≤ w8.heap.size := hb.size
  replace Ox0 : Hid (LimitR Sx0 w8 sx0 n0 V0) := Ox0.out.below hb
  replace Ox1 : Hid (ClockR Sx1 w8 sx1 n1 V1) := Ox1.out.below hb
  replace Ox3 : Hid (BooR Sx3 w8 sx3 n3 V3) := Ox3.out.below hb
  replace Bs : Below w4.heap.size w4 w8 := Bs.trans (hb.mono Bs.size)
  replace B0 : Below w.heap.size w w8 := B0.trans (hb.mono B0.size)
  clear hb hh
  have Qg0 : Hid (∀ k, Sg0 k → w7.heap.size ≤ k ∧ k < w8.heap.size) := (show ∀ k, Sg0 k → w7.heap.size ≤ k ∧ k < w8.heap.size from by simpa using Q0)
  have Og0 : Hid (ClockR Sg0 w8 sgr0 nr0 Vr0) := O0
  clear O0 Q0
  have Qg1 : Hid (∀ k, Sg1 k → w7.heap.size ≤ k ∧ k < w8.heap.size) := (show ∀ k, Sg1 k → w7.heap.size ≤ k ∧ k < w8.heap.size from by simpa using Q1)
  have Og1 : Hid (NoteR Sg1 w8 sgr1 nr1 Vr1) := O1
  clear O1 Q1
  have Dg0_g1 : Hid (∀ k, Sg0 k → ¬ Sg1 k) := D0_1
  clear D0_1
  go_wp2_with fail
  refine (eqClockS_any sgr0 sWr0 nr0 _ _ Vr0 _ hnr0 (Og0.out.row) (RW0.out.below Bs)).mono ?_
  rintro e w9 ⟨rfl, hh⟩
  have hb : Below w8.heap.size w8 w9 := Below.trans (by repeat (first | with_reducible exact Below.refl _ _ | with_reducible refine Below.setCell ?_ (by first | omega | (simp; done) | (simp; omega)) _ | with_reducible refine bDrewN ?_ _ | with_reducible refine Below.drew ?_ | with_reducible refine Below.alloc ?_ (by first | omega | (simp; done) | (simp; omega)) _)) (hh.mono (by first | omega | (simp; done) | (simp; omega)))
  have lw9 : w8.heap.size ≤ w9.heap.size := hb.size
  replace Ox0 : Hid (LimitR Sx0 w9 sx0 n0 V0) := Ox0.out.below hb
  replace Ox1 : Hid (ClockR Sx1 w9 sx1 n1 V1) := Ox1.out.below hb
  replace Ox3 : Hid (BooR Sx3 w9 sx3 n3 V3) := Ox3.out.below hb
  replace Og0 : Hid (ClockR Sg0 w9 sgr0 nr0 Vr0) := Og0.out.below hb
  replace Og1 : Hid (NoteR Sg1 w9 sgr1 nr1 Vr1) := Og1.out.below hb
  replace Bs : Below w4.heap.size w4 w9 := Bs.trans (hb.mono Bs.size)
  replace B0 : Below w.heap.size w w9 := B0.trans (hb.mono B0.size)
  clear hb hh
  go_wp2_with fail
  refine (eqNoteS_any sgr1 sWr1 nr1 _ _ Vr1 _ hnr1 (Og1.out.row) (RW1.out.below Bs)).mono ?_
  rintro e w10 ⟨rfl, hh⟩
  have hb : Below w9.heap.size w9 w10 := Below.trans (by repeat (first | with_reducible exact Below.refl _ _ | with_reducible refine Below.setCell ?_ (by first | omega | (simp; done) | (simp; omega)) _ | with_reducible refine bDrewN ?_ _ | with_reducible refine Below.drew ?_ | with_reducible refine Below.alloc ?_ (by first | omega | (simp; done) | (simp; omega)) _)) (hh.mono (by first | omega | (simp; done) | (simp; omega)))
  have lw10 : w9.heap.size ≤ w10.heap.size := hb.size
  replace Ox0 : Hid (LimitR Sx0 w10 sx0 n0 V0) := Ox0.out.below hb
  replace Ox1 : Hid (ClockR Sx1 w10 sx1 n1 V1) := Ox1.out.below hb
  replace Ox3 : Hid (BooR Sx3 w10 sx3 n3 V3) := Ox3.out.below hb
  replace Og0 : Hid (ClockR Sg0 w10 sgr0 nr0 Vr0) := Og0.out.below hb
  replace Og1 : Hid (NoteR Sg1 w10 sgr1 nr1 Vr1) := Og1.out.below hb
  replace Bs : Below w4.heap.size w4 w10 := Bs.trans (hb.mono Bs.size)
  replace B0 : Below w.heap.size w w10 := B0.trans (hb.mono B0.size)
  clear hb hh
  go_wp2_with fail
  refine (toLimitS_r s0 n0 c0 V0 _ hn0 (HR0.out.below B0)).mono ?_
  rintro e w11 ⟨sy0, Sy0, rfl, Q, O, hh⟩
  have hb : Below w10.heap.size w10 w11 := Below.trans (by repeat (first | with_reducible exact Below.refl _ _ | with_reducible refine Below.setCell ?_ (by first | omega | (simp; done) | (simp; omega)) _ | with_reducible refine bDrewN ?_ _ | with_reducible refine Below.drew ?_ | with_reducible refine Below.alloc ?_ (by first | omega | (simp; done) | (simp; omega)) _)) (hh.mono (by first | omega | (simp; done) | (simp; omega)))
  have lw11 : w10.heap.size ≤ w11.heap.size := hb.size
  replace Ox0 : Hid (LimitR Sx0 w11 sx0 n0 V0) := Ox0.out.below hb
  replace Ox1 : Hid (ClockR Sx1 w11 sx1 n1 V1) := Ox1.out.below hb
  replace Ox3 : Hid (BooR Sx3 w11 sx3 n3 V3) := Ox3.out.below hb
  replace Og0 : Hid (ClockR Sg0 w11 sgr0 nr0 Vr0) := Og0.out.below hb
  replace Og1 : Hid (NoteR Sg1 w11 sgr1 nr1 Vr1) := Og1.out.below hb
  replace Bs : Below w4.heap.size w4 w11 := Bs.trans (hb.mono Bs.size)
  replace B0 : Below w.heap.size w w11 := B0.trans (hb.mono B0.size)
  clear hb hh
  have Qy0 : Hid (∀ k, Sy0 k → w10.heap.size ≤ k ∧ k < w11.heap.size) := (show ∀ k, Sy0 k → w10.heap.size ≤ k ∧ k < w11.heap.size from by simpa using Q)
  have Oy0 : Hid (LimitR Sy0 w11 sy0 n0 V0) := O
  clear O Q
  go_wp2_with fail
  refine (eqLimitS_any _ _ n0 _ _ V0 _ hn0 (Ox0.out.row) (Oy0.out.row)).mono ?_
  rintro e w12 ⟨rfl, hh⟩
  have hb : Below w11.heap.size w11 w12 := Below.trans (by repeat (first | with_reducible exact Below.refl _ _ | with_reducible refine Below.setCell ?_ (by first | omega | (simp; done) | (simp; omega)) _ | with_reducible refine bDrewN ?_ _ | with_reducible refine Below.drew ?_ | with_reducible refine Below.alloc ?_ (by first | omega | (simp; done) | (simp; omega)) _)) (hh.mono (by first | omega | (simp; done) | (simp; omega)))
  have lw12 : w11.heap.size ≤ w12.heap.size := hb.size
  replace Ox0 : Hid (LimitR Sx0 w12 sx0 n0 V0) := Ox0.out.below hb
  replace Ox1 : Hid (ClockR Sx1 w12 sx1 n1 V1) := Ox1.out.below hb
  replace Ox3 : Hid (BooR Sx3 w12 sx3 n3 V3) := Ox3.out.below hb
  replace Og0 : Hid (ClockR Sg0 w12 sgr0 nr0 Vr0) := Og0.out.below hb
  replace Og1 : Hid (NoteR Sg1 w12 sgr1 nr1 Vr1) := Og1.out.below hb
  replace Oy0 : Hid (LimitR Sy0 w12 sy0 n0 V0) := Oy0.out.below hb
  replace Bs : Below w4.heap.size w4 w12 := Bs.trans (hb.mono Bs.size)
  replace B0 : Below w.heap.size w w12 := B0.trans (hb.mono B0.size)
  clear hb hh
  clear Oy0 Qy0 
  go_wp2_with fail
  refine (toClockS_r s1 n1 c1 V1 _ hn1 (HR1.out.below B0)).mono ?_
  rintro e w13 ⟨sy1, Sy1, rfl, Q, O, hh⟩
  have hb : Below w12.heap.size w12 w13 := Below.trans (by repeat (first | with_reducible exact Below.refl _ _ | with_reducible refine Below.setCell ?_ (by first | omega | (simp; done) | (simp; omega)) _ | with_reducible refine bDrewN ?_ _ | with_reducible refine Below.drew ?_ | with_reducible refine Below.alloc ?_ (by first | omega | (simp; done) | (simp; omega)) _)) (hh.mono (by first | omega | (simp; done) | (simp; omega)))
  have lw13 : w12.heap.size ≤ w13.heap.size := hb.size
  replace Ox0 : Hid (LimitR Sx0 w13 sx0 n0 V0) := Ox0.out.below hb
  replace Ox1 : Hid (ClockR Sx1 w13 sx1 n1 V1) := Ox1.out.below hb
  replace Ox3 : Hid (BooR Sx3 w13 sx3 n3 V3) := Ox3.out.below hb
  replace Og0 : Hid (ClockR Sg0 w13 sgr0 nr0 Vr0) := Og0.out.below hb
  replace Og1 : Hid (NoteR Sg1 w13 sgr1 nr1 Vr1) := Og1.out.below hb
  replace Bs : Below w4.heap.size w4 w13 := Bs.trans (hb.mono Bs.size)
  replace B0 : Below w.heap.size w w13 := B0.trans (hb.mono B0.size)
  clear hb hh
  have Qy1 : Hid (∀ k, Sy1 k → w12.heap.size ≤ k ∧ k < w13.heap.size) := (show ∀ k, Sy1 k → w12.heap.size ≤ k ∧ k < w13.heap.size from by simpa using Q)
  have Oy1 : Hid (ClockR Sy1 w13 sy1 n1 V1) := O
  clear O Q
  go_wp2_with fail
  refine (eqClockS_any _ _ n1 _ _ V1 _ hn1 (Ox1.out.row) (Oy1.out.row)).mono ?_
  rintro e w14 ⟨rfl, hh⟩
  have hb : Below w13.heap.size w13 w14 := Below.trans (by repeat (first | with_reducible exact Below.refl _ _ | with_reducible refine Below.setCell ?_ (by first | omega | (simp; done) | (simp; omega)) _ | with_reducible refine bDrewN ?_ _ | with_reducible refine Below.drew ?_ | with_reducible refine Below.alloc ?_ (by first | omega | (simp; done) | (simp; omega)) _)) (hh.mono (by first | omega | (simp; done) | (simp; omega)))
  have lw14 : w13.heap.size ≤ w14.heap.size := hb.size
  replace Ox0 : Hid (LimitR Sx0 w14 sx0 n0 V0) := Ox0.out.below hb
  replace Ox1 : Hid (ClockR Sx1 w14 sx1 n1 V1) := Ox1.out.below hb
  replace Ox3 : Hid (BooR Sx3 w14 sx3 n3 V3) := Ox3.out.below hb
  replace Og0 : Hid (ClockR Sg0 w14 sgr0 nr0 Vr0) := Og0.out.below hb
  replace Og1 : Hid (NoteR Sg1 w14 sgr1 nr1 Vr1) := Og1.out.below hb
  replace Oy1 : Hid (ClockR Sy1 w14 sy1 n1 V1) := Oy1.out.below hb
  replace Bs : Below w4.heap.size w4 w14 := Bs.trans (hb.mono Bs.size)
  replace B0 : Below w.heap.size w w14 := B0.trans (hb.mono B0.size)
  clear hb hh
  clear Oy1 Qy1 
  go_wp2_with fail
  refine (toBoolS_r s3 n3 c3 V3 _ hn3 (HR3.out.below B0)).mono ?_
  rintro e w15 ⟨sy3, Sy3, rfl, Q, O, hh⟩
  have hb : Below w14.heap.size w14 w15 := Below.trans (by repeat (first | with_reducible exact Below.refl _ _ | with_reducible refine Below.setCell ?_ (by first | omega | (simp; done) | (simp; omega)) _ | with_reducible refine bDrewN ?_ _ | with_reducible refine Below.drew ?_ | with_reducible refine Below.alloc ?_ (by first | omega | (simp; done) | (simp; omega)) _)) (hh.mono (by first | omega | (simp; done) | (simp; omega)))
  have lw15 : w14.heap.size ≤ w15.heap.size := hb.size
  replace Ox0 : Hid (LimitR Sx0 w15 sx0 n0 V0) := Ox0.out.below hb
  replace Ox1 : Hid (ClockR Sx1 w15 sx1 n1 V1) := Ox1.out.below hb
  replace Ox3 : Hid (BooR Sx3 w15 sx3 n3 V3) := Ox3.out.below hb
  replace Og0 : Hid (ClockR Sg0 w15 sgr0 nr0 Vr0) := Og0.out.below hb
  replace Og1 : Hid (NoteR Sg1 w15 sgr1 nr1 Vr1) := Og1.out.below hb
  replace Bs : Below w4.heap.size w4 w15 := Bs.trans (hb.mono Bs.size)
  replace B0 : Below w.heap.size w w15 := B0.trans (hb.mono B0.size)
  clear hb hh
  have Qy3 : Hid (∀ k, Sy3 k → w14.heap.size ≤ k ∧ k < w15.heap.size) := (show ∀ k, Sy3 k → w14.heap.size ≤ k ∧ k < w15.heap.size from by simpa using Q)
  have Oy3 : Hid (BooR Sy3 w15 sy3 n3 V3) := O
  clear O Q
  go_wp2_with fail
  refine (eqBoolS_any _ _ n3 _ _ V3 _ hn3 (Ox3.out.row) (Oy3.out.row)).mono ?_
  rintro e w16 ⟨rfl, hh⟩
  have hb : Below w15.heap.size w15 w16 := Below.trans (by repeat (first | with_reducible exact Below.refl _ _ | with_reducible refine Below.setCell ?_ (by first | omega | (simp; done) | (simp; omega)) _ | with_reducible refine bDrewN ?_ _ | with_reducible refine Below.drew ?_ | with_reducible refine Below.alloc ?_ (by first | omega | (simp; done) | (simp; omega)) _)) (hh.mono (by first | omega | (simp; done) | (simp; omega)))
  have lw16 : w15.heap.size ≤ w16.heap.size := hb.size
  replace Ox0 : Hid (LimitR Sx0 w16 sx0 n0 V0) := Ox0.out.below hb
  replace Ox1 : Hid (ClockR Sx1 w16 sx1 n1 V1) := Ox1.out.below hb
  replace Ox3 : Hid (BooR Sx3 w16 sx3 n3 V3) := Ox3.out.below hb
  replace Og0 : Hid (ClockR Sg0 w16 sgr0 nr0 Vr0) := Og0.out.below hb
  replace Og1 : Hid (NoteR Sg1 w16 sgr1 nr1 Vr1) := Og1.out.below hb
  replace Oy3 : Hid (BooR Sy3 w16 sy3 n3 V3) := Oy3.out.below hb
  replace Bs : Below w4.heap.size w4 w16 := Bs.trans (hb.mono Bs.size)
  replace B0 : Below w.heap.size w w16 := B0.trans (hb.mono B0.size)
  clear hb hh
  clear Oy3 Qy3 
  go_wp2_with fail
  refine (markLimitS_r Sx0 _ n0 _ (1) V0 _ hn0 (by omega) (by omega) Ox0.out).mono ?_
  rintro e w17 ⟨rfl, -, T⟩
  have lw17 : w16.heap.size ≤ w17.heap.size := T.size
  replace Ox1 : Hid (ClockR Sx1 w17 sx1 n1 V1) := Ox1.out.keep T.size (fun k hk hl => T.2.2.2.2 k hl (fun q => by have := Qx0.out k q; have := Qx1.out k hk; omega))
  replace Ox3 : Hid (BooR Sx3 w17 sx3 n3 V3) := Ox3.out.keep T.size (fun k hk hl => T.2.2.2.2 k hl (fun q => by have := Qx0.out k q; have := Qx3.out k hk; omega))
  replace Og0 : Hid (ClockR Sg0 w17 sgr0 nr0 Vr0) := Og0.out.keep T.size (fun k hk hl => T.2.2.2.2 k hl (fun q => by have := Qx0.out k q; have := Qg0.out k hk; omega))
  replace Og1 : Hid (NoteR Sg1 w17 sgr1 nr1 Vr1) := Og1.out.keep T.size (fun k hk hl => T.2.2.2.2 k hl (fun q => by have := Qx0.out k q; have := Qg1.out k hk; omega))
  replace Bs : Below w4.heap.size w4 w17 := Bs.trans (T.below (fun k q => by have := Qx0.out k q; omega) (by omega))
  replace B0 : Below w.heap.size w w17 := B0.trans (T.below (fun k q => by have := Qx0.out k q; omega) (by omega))
  clear T Ox0
  go_wp2_with fail
  refine (markClockS_r Sx1 _ n1 _ (1 + (n0 * 2 : Nat)) V1 _ hn1 (by omega) (by omega) Ox1.out).mono ?_
  rintro e w18 ⟨rfl, -, T⟩
  have lw18 : w17.heap.size ≤ w18.heap.size := T.size
  replace Ox3 : Hid (BooR Sx3 w18 sx3 n3 V3) := Ox3.out.keep T.size (fun k hk hl => T.2.2.2.2 k hl (fun q => by have := Qx1.out k q; have := Qx3.out k hk; omega))
  replace Og0 : Hid (ClockR Sg0 w18 sgr0 nr0 Vr0) := Og0.out.keep T.size (fun k hk hl => T.2.2.2.2 k hl (fun q => by have := Qx1.out k q; have := Qg0.out k hk; omega))
  replace Og1 : Hid (NoteR Sg1 w18 sgr1 nr1 Vr1) := Og1.out.keep T.size (fun k hk hl => T.2.2.2.2 k hl (fun q => by have := Qx1.out k q; have := Qg1.out k hk; omega))
  replace Bs : Below w4.heap.size w4 w18 := Bs.trans (T.below (fun k q => by have := Qx1.out k q; omega) (by omega))
  replace B0 : Below w.heap.size w w18 := B0.trans (T.below (fun k q => by have := Qx1.out k q; omega) (by omega))
  clear T Ox1
  go_wp2_with fail
  refine (markBoolS_r Sx3 _ n3 _ (1 + (n0 * 2 : Nat) + (n1 * 2 : Nat)) V3 _ hn3 (by omega) (by omega) Ox3.out).mono ?_
  rintro e w19 ⟨rfl, -, T⟩
  have lw19 : w18.heap.size ≤ w19.heap.size := T.size
  replace Og0 : Hid (ClockR Sg0 w19 sgr0 nr0 Vr0) := Og0.out.keep T.size (fun k hk hl => T.2.2.2.2 k hl (fun q => by have := Qx3.out k q; have := Qg0.out k hk; omega))
  replace Og1 : Hid (NoteR Sg1 w19 sgr1 nr1 Vr1) := Og1.out.keep T.size (fun k hk hl => T.2.2.2.2 k hl (fun q => by have := Qx3.out k q; have := Qg1.out k hk; omega))
  replace Bs : Below w4.heap.size w4 w19 := Bs.trans (T.below (fun k q => by have := Qx3.out k q; omega) (by omega))
  replace B0 : Below w.heap.size w w19 := B0.trans (T.below (fun k q => by have := Qx3.out k q; omega) (by omega))
  clear T Ox3
  go_wp2_with fail
  refine (eqClockS_any sgr0 sWr0 nr0 _ _ Vr0 _ hnr0 (Og0.out.row) (RW0.out.below Bs)).mono ?_
  rintro e w20 ⟨rfl, hh⟩
  have hb : Below w19.heap.size w19 w20 := Below.trans (by repeat (first | with_reducible exact Below.refl _ _ | with_reducible refine Below.setCell ?_ (by first | omega | (simp; done) | (simp; omega)) _ | with_reducible refine bDrewN ?_ _ | with_reducible refine Below.drew ?_ | with_reducible refine Below.alloc ?_ (by first | omega | (simp; done) | (simp; omega)) _)) (hh.mono (by first | omega | (simp; done) | (simp; omega)))
  have lw20 : w19.heap.size ≤ w20.heap.size := hb.size
  replace Og0 : Hid (ClockR Sg0 w20 sgr0 nr0 Vr0) := Og0.out.below hb
  replace Og1 : Hid (NoteR Sg1 w20 sgr1 nr1 Vr1) := Og1.out.below hb
  replace Bs : Below w4.heap.size w4 w20 := Bs.trans (hb.mono Bs.size)
  replace B0 : Below w.heap.size w w20 := B0.trans (hb.mono B0.size)
  clear hb hh
  go_wp2_with fail
  refine (eqNoteS_any sgr1 sWr1 nr1 _ _ Vr1 _ hnr1 (Og1.out.row) (RW1.out.below Bs)).mono ?_
  rintro e w21 ⟨rfl, hh⟩
  have hb : Below w20.heap.size w20 w21 := Below.trans (by repeat (first | with_reducible exact Below.refl _ _ | with_reducible refine Below.setCell ?_ (by first | omega | (simp; done) | (simp; omega)) _ | with_reducible refine bDrewN ?_ _ | with_reducible refine Below.drew ?_ | with_reducible refine Below.alloc ?_ (by first | omega | (simp; done) | (simp; omega)) _)) (hh.mono (by first | omega | (simp; done) | (simp; omega)))
  have lw21 : w20.heap.size ≤ w21.heap.size := hb.size
  replace Og0 : Hid (ClockR Sg0 w21 sgr0 nr0 Vr0) := Og0.out.below hb
  replace Og1 : Hid (NoteR Sg1 w21 sgr1 nr1 Vr1) := Og1.out.below hb
  replace Bs : Below w4.heap.size w4 w21 := Bs.trans (hb.mono Bs.size)
  replace B0 : Below w.heap.size w w21 := B0.trans (hb.mono B0.size)
  clear hb hh
  clear Qx0
  clear Qx1
  clear Qx3
  go_wp2_with fail
  refine (markClockS_x Sg0 _ nr0 _ (1) Vr0 _ hnr0 (by omega) (by omega) Og0.out).mono ?_
  rintro e w22 ⟨rfl, OM, T⟩
  have lw22 : w21.heap.size ≤ w22.heap.size := T.size
  replace Og1 : Hid (NoteR Sg1 w22 sgr1 nr1 Vr1) := Og1.out.keep T.size (fun k hk hl => T.2.2.2.2 k hl (fun q => Dg0_g1.out k q hk))
  replace Bs : Below w4.heap.size w4 w22 := Bs.trans (T.below (fun k q => by have := Qg0.out k q; omega) (by omega))
  replace B0 : Below w.heap.size w w22 := B0.trans (T.below (fun k q => by have := Qg0.out k q; omega) (by omega))
  replace Og0 : Hid (ClockR Sg0 w22 sgr0 nr0 (eCl (1))) := OM
  clear T OM
  go_wp2_with fail
  refine (markNoteS_x Sg1 _ nr1 _ (1 + (nr0 * 2 : Nat)) Vr1 _ hnr1 (by omega) (by omega) Og1.out).mono ?_
  rintro e w23 ⟨rfl, OM, T⟩
  have lw23 : w22.heap.size ≤ w23.heap.size := T.size
  replace Og0 : Hid (ClockR Sg0 w23 sgr0 nr0 (eCl (1))) := Og0.out.keep T.size (fun k hk hl => T.2.2.2.2 k hl (fun q => Dg0_g1.out k hk q))
  replace Bs : Below w4.heap.size w4 w23 := Bs.trans (T.below (fun k q => by have := Qg1.out k q; omega) (by omega))
  replace B0 : Below w.heap.size w w23 := B0.trans (T.below (fun k q => by have := Qg1.out k q; omega) (by omega))
  replace Og1 : Hid (NoteR Sg1 w23 sgr1 nr1 (eNo (1 + (nr0 * 2 : Nat)))) := OM
  clear T OM
  go_wp2_with fail
  refine (heldClockS_any _ nr0 _ (1) _ hnr0 (by omega) (by omega) (Og0.out.row)).mono ?_
  rintro e w23 ⟨rfl, rfl⟩
  go_wp2_with fail
  refine (heldNoteS_any _ nr1 _ (1 + (nr0 * 2 : Nat)) _ hnr1 (by omega) (by omega) (Og1.out.row)).mono ?_
  rintro e w23 ⟨rfl, rfl⟩
  go_wp2_with fail
  refine (toLimitS_r s0 n0 c0 V0 _ hn0 (HR0.out.below B0)).mono ?_
  rintro e w24 ⟨sv0, Sv0, rfl, Q, O, hh⟩
  have hb : Below w23.heap.size w23 w24 := Below.trans (by repeat (first | with_reducible exact Below.refl _ _ | with_reducible refine Below.setCell ?_ (by first | omega | (simp; done) | (simp; omega)) _ | with_reducible refine bDrewN ?_ _ | with_reducible refine Below.drew ?_ | with_reducible refine Below.alloc ?_ (by first | omega | (simp; done) | (simp; omega)) _)) (hh.mono (by first | omega | (simp; done) | (simp; omega)))
  have lw24 : w23.heap.size ≤ w24.heap.size := hb.size
  replace Og0 : Hid (ClockR Sg0 w24 sgr0 nr0 (eCl (1))) := Og0.out.below hb
  replace Og1 : Hid (NoteR Sg1 w24 sgr1 nr1 (eNo (1 + (nr0 * 2 : Nat)))) := Og1.out.below hb
  replace Bs : Below w4.heap.size w4 w24 := Bs.trans (hb.mono Bs.size)
  replace B0 : Below w.heap.size w w24 := B0.trans (hb.mono B0.size)
  clear hb hh
  have Qv0 : Hid (∀ k, Sv0 k → w23.heap.size ≤ k ∧ k < w24.heap.size) := (show ∀ k, Sv0 k → w23.heap.size ≤ k ∧ k < w24.heap.size from by simpa using Q)
  have Ov0 : Hid (LimitR Sv0 w24 sv0 n0 V0) := O
  clear O Q
  go_wp2_with fail
  refine (toClockS_r s1 n1 c1 V1 _ hn1 (HR1.out.below B0)).mono ?_
  rintro e w25 ⟨sv1, Sv1, rfl, Q, O, hh⟩
  have hb : Below w24.heap.size w24 w25 := Below.trans (by repeat (first | with_reducible exact Below.refl _ _ | with_reducible refine Below.setCell ?_ (by first | omega | (simp; done) | (simp; omega)) _ | with_reducible refine bDrewN ?_ _ | with_reducible refine Below.drew ?_ | with_reducible refine Below.alloc ?_ (by first | omega | (simp; done) | (simp; omega)) _)) (hh.mono (by first | omega | (simp; done) | (simp; omega)))
  have lw25 : w24.heap.size ≤ w25.heap.size := hb.size
  replace Og0 : Hid (ClockR Sg0 w25 sgr0 nr0 (eCl (1))) := Og0.out.below hb
  replace Og1 : Hid (NoteR Sg1 w25 sgr1 nr1 (eNo (1 + (nr0 * 2 : Nat)))) := Og1.out.below hb
  replace Ov0 : Hid (LimitR Sv0 w25 sv0 n0 V0) := Ov0.out.below hb
  replace Bs : Below w4.heap.size w4 w25 := Bs.trans (hb.mono Bs.size)
  replace B0 : Below w.heap.size w w25 := B0.trans (hb.mono B0.size)
  clear hb hh
  have Qv1 : Hid (∀ k, Sv1 k → w24.heap.size ≤ k ∧ k < w25.heap.size) := (show ∀ k, Sv1 k → w24.heap.size ≤ k ∧ k < w25.heap.size from by simpa using Q)
  have Ov1 : Hid (ClockR Sv1 w25 sv1 n1 V1) := O
  clear O Q
  go_wp2_with fail
  refine (toBoolS_r s3 n3 c3 V3 _ hn3 (HR3.out.below B0)).mono ?_
  rintro e w26 ⟨sv3, Sv3, rfl, Q, O, hh⟩
  have hb : Below w25.heap.size w25 w26 := Below.trans (by repeat (first | with_reducible exact Below.refl _ _ | with_reducible refine Below.setCell ?_ (by first | omega | (simp; done) | (simp; omega)) _ | with_reducible refine bDrewN ?_ _ | with_reducible refine Below.drew ?_ | with_reducible refine Below.alloc ?_ (by first | omega | (simp; done) | (simp; omega)) _)) (hh.mono (by first | omega | (simp; done) | (simp; omega)))
  have lw26 : w25.heap.size ≤ w26.heap.size := hb.size
  replace Og0 : Hid (ClockR Sg0 w26 sgr0 nr0 (eCl (1))) := Og0.out.below hb
  replace Og1 : Hid (NoteR Sg1 w26 sgr1 nr1 (eNo (1 + (nr0 * 2 : Nat)))) := Og1.out.below hb
  replace Ov0 : Hid (LimitR Sv0 w26 sv0 n0 V0) := Ov0.out.below hb
  replace Ov1 : Hid (ClockR Sv1 w26 sv1 n1 V1) := Ov1.out.below hb
  replace Bs : Below w4.heap.size w4 w26 := Bs.trans (hb.mono Bs.size)
  replace B0 : Below w.heap.size w w26 := B0.trans (hb.mono B0.size)
  clear hb hh
  have Qv3 : Hid (∀ k, Sv3 k → w25.heap.size ≤ k ∧ k < w26.heap.size) := (show ∀ k, Sv3 k → w25.heap.size ≤ k ∧ k < w26.heap.size from by simpa using Q)
  have Ov3 : Hid (BooR Sv3 w26 sv3 n3 V3) := O
  clear O Q
  go_wp2_with fail
  refine (H2.out sv0 _ sv1 _ sv3 _ _ (Ov0.out.row) (Ov1.out.row) (Ov3.out.row) (HWd.out.below B0)).mono ?_
  rintro e w27 ⟨shr0, chr0, shr1, chr1, Sh0, Sh1, rfl, Q0, O0, Q1, O1, D0_1, hh⟩
  have hb : Below w26.heap.size w26 w27 := Below.trans (by repeat (first | with_reducible exact Below.refl _ _ | with_reducible refine Below.setCell ?_ (by first | omega | (simp; done) | (simp; omega)) _ | with_reducible refine bDrewN ?_ _ | with_reducible refine Below.drew ?_ | with_reducible refine Below.alloc ?_ (by first | omega | (simp; done) | (simp; omega)) _)) (hh.mono (by first | omega | (simp; done) | (simp; omega)))
  have lw27 : w26.heap.size ≤ w27.heap.size := hb.size
  replace Og0 : Hid (ClockR Sg0 w27 sgr0 nr0 (eCl (1))) := Og0.out.below hb
  replace Og1 : Hid (NoteR Sg1 w27 sgr1 nr1 (eNo (1 + (nr0 * 2 : Nat)))) := Og1.out.below hb
  replace Ov0 : Hid (LimitR Sv0 w27 sv0 n0 V0) := Ov0.out.below hb
  replace Ov1 : Hid (ClockR Sv1 w27 sv1 n1 V1) := Ov1.out.below hb
  replace Ov3 : Hid (BooR Sv3 w27 sv3 n3 V3) := Ov3.out.below hb
  replace Bs : Below w4.heap.size w4 w27 := Bs.trans (hb.mono Bs.size)
  replace B0 : Below w.heap.size w w27 := B0.trans (hb.mono B0.size)
  clear hb hh
  clear Ov0 Qv0 
  clear Ov1 Qv1 
  clear Ov3 Qv3 
  have Rh0 : Hid (RowClock w27 shr0 nr0 Vr0) := O0.row
  have Rh1 : Hid (RowNote w27 shr1 nr1 Vr1) := O1.row
  clear O0 Q0 O1 Q1 D0_1
  have Bh : Below w27.heap.size w27 w27 := Below.refl _ _
  go_wp2_with fail
  refine (eqClockS_any shr0 sWr0 nr0 _ _ Vr0 _ hnr0 ((Rh0.out.below (Below.mono (B := w27.heap.size) (Bh) (Nat.le_refl _)))) (RW0.out.below Bs)).mono ?_
  rintro e w28 ⟨rfl, hh⟩
  have hb : Below w27.heap.size w27 w28 := Below.trans (by repeat (first | with_reducible exact Below.refl _ _ | with_reducible refine Below.setCell ?_ (by first | omega | (simp; done) | (simp; omega)) _ | with_reducible refine bDrewN ?_ _ | with_reducible refine Below.drew ?_ | with_reducible refine Below.alloc ?_ (by first | omega | (simp; done) | (simp; omega)) _)) (hh.mono (by first | omega | (simp; done) | (simp; omega)))
  have lw28 : w27.heap.size ≤ w28.heap.size := hb.size
  replace Og0 : Hid (ClockR Sg0 w28 sgr0 nr0 (eCl (1))) := Og0.out.below hb
  replace Og1 : Hid (NoteR Sg1 w28 sgr1 nr1 (eNo (1 + (nr0 * 2 : Nat)))) := Og1.out.below hb
  replace Bs : Below w4.heap.size w4 w28 := Bs.trans (hb.mono Bs.size)
  replace B0 : Below w.heap.size w w28 := B0.trans (hb.mono B0.size)
  replace Bh : Below w27.heap.size w27 w28 := Bh.trans (hb.mono Bh.size)
  clear hb hh
  go_wp2_with fail
  refine (eqNoteS_any shr1 sWr1 nr1 _ _ Vr1 _ hnr1 ((Rh1.out.below (Below.mono (B := w27.heap.size) (Bh) (Nat.le_refl _)))) (RW1.out.below Bs)).mono ?_
  rintro e w29 ⟨rfl, hh⟩
  have hb : Below w28.heap.size w28 w29 := Below.trans (by repeat (first | with_reducible exact Below.refl _ _ | with_reducible refine Below.setCell ?_ (by first | omega | (simp; done) | (simp; omega)) _ | with_reducible refine bDrewN ?_ _ | with_reducible refine Below.drew ?_ | with_reducible refine Below.alloc ?_ (by first | omega | (simp; done) | (simp; omega)) _)) (hh.mono (by first | omega | (simp; done) | (simp; omega)))
  have lw29 : w28.heap.size ≤ w29.heap.size := hb.size
  replace Og0 : Hid (ClockR Sg0 w29 sgr0 nr0 (eCl (1))) := Og0.out.below hb
  replace Og1 : Hid (NoteR Sg1 w29 sgr1 nr1 (eNo (1 + (nr0 * 2 : Nat)))) := Og1.out.below hb
  replace Bs : Below w4.heap.size w4 w29 := Bs.trans (hb.mono Bs.size)
  replace B0 : Below w.heap.size w w29 := B0.trans (hb.mono B0.size)
  replace Bh : Below w27.heap.size w27 w29 := Bh.trans (hb.mono Bh.size)
  clear hb hh
  go_wp2_with fail
  refine (heldClockS_any _ nr0 _ (1) _ hnr0 (by omega) (by omega) (Og0.out.row)).mono ?_
  rintro e w29 ⟨rfl, rfl⟩
  go_wp2_with fail
  refine (heldNoteS_any _ nr1 _ (1 + (nr0 * 2 : Nat)) _ hnr1 (by omega) (by omega) (Og1.out.row)).mono ?_
  rintro e w29 ⟨rfl, rfl⟩
  go_wp2
  go_ret
  exact ⟨rfl, B0⟩
set_option maxHeartbeats 800000 in
theorem clockStep_farn3 (w : World) (n0 : Nat) (V0 : Nat → Int × Int) (s0 : Option Addr) (c0 : Nat) (n1 : Nat) (V1 : Nat → Int × Bool) (s1 : Option Addr) (c1 : Nat) (a2 : Int) (n3 : Nat) (V3 : Nat → Bool) (s3 : Option Addr) (c3 : Nat)  (g : (1048576 : Int) < n3) :
    Calls Tryd.prog 4 #[.slice s0 n0 c0, .slice s1 n1 c1, .int .i64 a2, .slice s3 n3 c3] w fun e w' => e = .returned (.bool true) ∧ Below w.heap.size w w' := by
  go_enter Tryd.func4, Tryd.ntmps4
  go_wp2
  go_ret
  exact ⟨rfl, (by repeat (first | with_reducible exact Below.refl _ _ | with_reducible refine Below.setCell ?_ (by first | omega | (simp; done) | (simp; omega)) _ | with_reducible refine bDrewN ?_ _ | with_reducible refine Below.drew ?_ | with_reducible refine Below.alloc ?_ (by first | omega | (simp; done) | (simp; omega)) _))⟩
set_option maxHeartbeats 1600000 in
theorem clockStep_farn0 (w : World) (n0 : Nat) (V0 : Nat → Int × Int) (s0 : Option Addr) (c0 : Nat) (n1 : Nat) (V1 : Nat → Int × Bool) (s1 : Option Addr) (c1 : Nat) (a2 : Int) (n3 : Nat) (V3 : Nat → Bool) (s3 : Option Addr) (c3 : Nat) (qn3 : (n3 : Int) ≤ 1048576)  (g : 1048576 < (n0 : Int)) (gg : (n0 : Int) ≤ 9223372036854775807)  :
    Calls Tryd.prog 4 #[.slice s0 n0 c0, .slice s1 n1 c1, .int .i64 a2, .slice s3 n3 c3] w fun e w' => e = .returned (.bool true) ∧ Below w.heap.size w w' := by
  go_enter Tryd.func4, Tryd.ntmps4
  go_wp2_with fail
  refine (szLimitS_off _ n0 _ _ _ (by omega) (by omega) (by omega) (by omega)).mono ?_
  rintro e w ⟨rfl, rfl⟩
  go_wp2
  go_ret
  exact ⟨rfl, (by repeat (first | with_reducible exact Below.refl _ _ | with_reducible refine Below.setCell ?_ (by first | omega | (simp; done) | (simp; omega)) _ | with_reducible refine bDrewN ?_ _ | with_reducible refine Below.drew ?_ | with_reducible refine Below.alloc ?_ (by first | omega | (simp; done) | (simp; omega)) _))⟩
set_option maxHeartbeats 1600000 in
theorem clockStep_farn1 (w : World) (n0 : Nat) (V0 : Nat → Int × Int) (s0 : Option Addr) (c0 : Nat) (n1 : Nat) (V1 : Nat → Int × Bool) (s1 : Option Addr) (c1 : Nat) (a2 : Int) (n3 : Nat) (V3 : Nat → Bool) (s3 : Option Addr) (c3 : Nat) (qn3 : (n3 : Int) ≤ 1048576) (gn0 : (n0 : Int) ≤ 1048576) (g : 1048576 - n0 < (n1 : Int)) (gg : (n1 : Int) ≤ 9223372036854775807)  :
    Calls Tryd.prog 4 #[.slice s0 n0 c0, .slice s1 n1 c1, .int .i64 a2, .slice s3 n3 c3] w fun e w' => e = .returned (.bool true) ∧ Below w.heap.size w w' := by
  go_enter Tryd.func4, Tryd.ntmps4
  go_wp2_with fail
  refine (szLimitS_on _ n0 _ _ _ (by omega) (by omega) (by omega)).mono ?_
  rintro e w ⟨rfl, rfl⟩
  go_wp2_with fail
  refine (szClockS_off _ n1 _ _ _ (by omega) (by omega) (by omega) (by omega)).mono ?_
  rintro e w ⟨rfl, rfl⟩
  go_wp2
  go_ret
  exact ⟨rfl, (by repeat (first | with_reducible exact Below.refl _ _ | with_reducible refine Below.setCell ?_ (by first | omega | (simp; done) | (simp; omega)) _ | with_reducible refine bDrewN ?_ _ | with_reducible refine Below.drew ?_ | with_reducible refine Below.alloc ?_ (by first | omega | (simp; done) | (simp; omega)) _))⟩
theorem fnExactClockStep_walk (w : World) (s0 : Option Addr) (n0 c0 : Nat) (V0 : Nat → Int × Int) (m0 : n0 ≤ 9223372036854775807) (R0 : RowLimit w s0 n0 V0) (s1 : Option Addr) (n1 c1 : Nat) (V1 : Nat → Int × Bool) (m1 : n1 ≤ 9223372036854775807) (R1 : RowClock w s1 n1 V1) (a2 : Int) (w2 : (Lit.int .i64 a2).wf = true) (s3 : Option Addr) (n3 c3 : Nat) (V3 : Nat → Bool) (m3 : n3 ≤ 9223372036854775807) (R3 : RowB w s3 n3 V3) (HWd : ErrC w) :
    Calls Tryd.prog 4 #[.slice s0 n0 c0, .slice s1 n1 c1, .int .i64 a2, .slice s3 n3 c3] w fun e w' => e = .returned (.bool true) ∧ Below w.heap.size w w' := by
  by_cases qn3 : (n3 : Int) ≤ 1048576
  case neg => exact clockStep_farn3 w n0 V0 s0 c0 n1 V1 s1 c1 a2 n3 V3 s3 c3  (by omega)
  by_cases gn0 : (n0 : Int) ≤ 1048576
  case neg => exact clockStep_farn0 w n0 V0 s0 c0 n1 V1 s1 c1 a2 n3 V3 s3 c3 qn3  (by omega) (by omega) 
  by_cases gn1 : (n1 : Int) ≤ 1048576 - n0
  case neg => exact clockStep_farn1 w n0 V0 s0 c0 n1 V1 s1 c1 a2 n3 V3 s3 c3 qn3 gn0 (by omega) (by omega) 
  exact clockStep_near w n0 V0 s0 c0 (by omega) R0 n1 V1 s1 c1 (by omega) R1 a2 n3 V3 s3 c3 (by omega) R3 (by omega) (by omega) (ckN n0 V0 n1 V1 a2 n3 V3) (nxC V0 V1 V3 a2) (ckN_le (by omega)) (ckT n0 V0 n1 V1 a2 n3 V3).length (fun j => (ckT n0 V0 n1 V1 a2 n3 V3).getD j (0, 0)) (ckT_le (by omega)) (ckB n0 V0 n1 V1 a2 n3 V3) (fun s c t d q e w x y z => (specClockStep_any s t q n0 c n1 d n3 e V0 V1 a2 V3 w (by omega) (by omega) x y z).mono fun ev w' h => ck_fit h) (fun s c t d q e w x y z u => (implClockStep_any s t q n0 c n1 d n3 e V0 V1 a2 V3 w (by omega) (by omega) x y z u).mono fun ev w' h => ck_fit h) HWd

theorem fnExactClockStep_star : "*" ++ "errors.errorString" = "*errors.errorString" := by decide
theorem fnExactClockStep_ptr (u : TypeId) (h : Tryd.prog.typeName? 3 u = some "*errors.errorString") : u = 170 :=
  typeName_ptr_named (nm := "errors.errorString") (by rw [fnExactClockStep_star]; kernel_rfl) (by kernel_rfl) (by decide) u (by rw [fnExactClockStep_star]; exact h)
theorem fnExactClockStep_lt {W : World} {g : Nat} {v : Value} (h : W.cell? ⟨g, 0, none⟩ = some v) : g < W.heap.size := by
  rcases Nat.lt_or_ge g W.heap.size with k | k
  · exact k
  · simp [World.cell?, Array.getElem?_eq_none k] at h
theorem fnExactClockStep_errs {W : World} (h : laidMetH Tryd.prog Rows.fnExactClockStepRow.laid W) : ErrC W := by
  have h' : laidMet Tryd.prog Rows.fnExactClockStepRow.laid.tail W ∧ handlesMet Tryd.prog (Rows.fnExactClockStepRow.laid.take 1) W := h
  obtain ⟨name, u, ty, e1, e2, e3, e4, e5⟩ := h'.2 _ (List.mem_singleton.2 rfl)
  have en : name = [101, 114, 114, 111, 114] := (Option.some.inj e1).symm
  subst en
  have eu : u = 155 := by
    have h2 : some u = some 155 := e2.symm.trans (by kernel_rfl)
    exact Option.some.inj h2
  subst eu
  have sz : Tryd.prog.types.size = 209 := by kernel_rfl
  have one : ((List.range 209).filter fun t => Tryd.prog.rowNamed t [101, 114, 114, 111, 114]) = [82] := by kernel_rfl
  have hm : ty ∈ (List.range 209).filter fun t => Tryd.prog.rowNamed t [101, 114, 114, 111, 114] := List.mem_filter.2 ⟨List.mem_range.2 (by rw [← sz]; exact e3), e4⟩
  rw [one] at hm
  obtain rfl := List.mem_singleton.1 hm
  have hh : typeHandle Tryd.prog 82 = .pointer (some ⟨7, 82, none⟩) := by kernel_rfl
  rw [hh] at e5
  have ce : W.cell? ⟨6, 0, none⟩ = some (.iface 155 (.agg #[.pointer (some ⟨7, 82, none⟩)])) := by simpa using World.var?_cell (g := 6) (by kernel_rfl) e5 0
  have l0 := h'.1
  obtain ⟨a0, s0, hv0, -, -, -⟩ := laid_sentinel (g := 0) (ti := 82) (tp := 170) (te := 193) (ts := 9) l0 (by kernel_rfl) (by kernel_rfl) Tryd.underlying82 fnExactClockStep_ptr Tryd.underlying170 Tryd.underlying193 rfl rfl Tryd.underlying9 (by kernel_rfl) (by kernel_rfl)
  have c0 : W.cell? ⟨0, 0, none⟩ = some (.iface 170 (.pointer (some a0))) := by simpa using World.var?_cell (g := 0) (by kernel_rfl) hv0 0
  have l1 := cells_of_tail l0
  obtain ⟨a1, s1, hv1, -, -, -⟩ := laid_sentinel (g := 1) (ti := 82) (tp := 170) (te := 193) (ts := 9) l1 (by kernel_rfl) (by kernel_rfl) Tryd.underlying82 fnExactClockStep_ptr Tryd.underlying170 Tryd.underlying193 rfl rfl Tryd.underlying9 (by kernel_rfl) (by kernel_rfl)
  have c1 : W.cell? ⟨1, 0, none⟩ = some (.iface 170 (.pointer (some a1))) := by simpa using World.var?_cell (g := 1) (by kernel_rfl) hv1 0
  have l2 := cells_of_tail l1
  obtain ⟨a2, s2, hv2, -, -, -⟩ := laid_sentinel (g := 2) (ti := 82) (tp := 170) (te := 193) (ts := 9) l2 (by kernel_rfl) (by kernel_rfl) Tryd.underlying82 fnExactClockStep_ptr Tryd.underlying170 Tryd.underlying193 rfl rfl Tryd.underlying9 (by kernel_rfl) (by kernel_rfl)
  have c2 : W.cell? ⟨2, 0, none⟩ = some (.iface 170 (.pointer (some a2))) := by simpa using World.var?_cell (g := 2) (by kernel_rfl) hv2 0
  exact ⟨⟨fnExactClockStep_lt ce, ce⟩, ⟨fnExactClockStep_lt c0, _, _, c0⟩, ⟨fnExactClockStep_lt c1, _, _, c1⟩, ⟨fnExactClockStep_lt c2, _, _, c2⟩⟩
theorem fnExactClockStep_vars {H : Type} {enc : TypeId × Value → H} {P : Program} {w : World} {sp : Nat → Bool} : ∀ {ns : List String} {gs : List (DataW H)} {ps : List MemPlace}, DataW.TrodVars enc P w sp ns gs ps → gs.length = ns.length
  | [], [], _, _ => rfl
  | [], _ :: _, _, h => h.elim
  | _ :: _, [], _, h => h.elim
  | _ :: _, _ :: _, _, ⟨_, _, _, _, _, _, _, _, _, _, hs, _⟩ => by simp [fnExactClockStep_vars hs]
theorem fnExactClockStep_contract (H : Type) (enc : TypeId × Value → H) (W : World) (base : Nat) (args : Array Value) (ds gs : List (DataW H)) (before : List MemPlace)
    (hval : ∀ (j : Nat) t v, Tryd.f4.params[j]? = some t → args[j]? = some v → Value.okWide Tryd.prog W .any base t v)
    (hW : DataW.Whole enc Tryd.prog Tryd.f4.params.toList Rows.fnExactClockStepSpec.vars false W args.toList ds gs before) (hL : laidMetH Tryd.prog Rows.fnExactClockStepRow.laid W) :
    Calls Tryd.prog 4 args W fun e W' => ∃ v, e = .returned v ∧ Rows.fnExactClockStepSpec.post enc Tryd.prog Tryd.f4 false true false false W args v W' := by
  have hW' := hW
  obtain ⟨p, q, hA0, hV, rfl, hfz, hnd⟩ := hW
  have hA : DataW.TrodAll enc Tryd.prog W 0 (fun _ => true) true Tryd.f4.params.toList args.toList ds p := hA0
  rw [Tryd.params4] at hA hval
  obtain ⟨v0, vs0, d0, ds0, p0, q0, hargs, rfl, rfl, h0, r0⟩ := trodAll_cons hA
  obtain ⟨v1, vs1, d1, ds1, p1, q1, rfl, rfl, rfl, h1, r1⟩ := trodAll_cons r0
  obtain ⟨v2, vs2, d2, ds2, p2, q2, rfl, rfl, rfl, h2, r2⟩ := trodAll_cons r1
  obtain ⟨v3, vs3, d3, ds3, p3, q3, rfl, rfl, rfl, h3, r3⟩ := trodAll_cons r2
  obtain ⟨rfl, rfl, rfl⟩ := trodAll_nil r3
  obtain rfl : args = #[v0, v1, v2, v3] := by cases args; simp_all
  have hV2 := hV
  have hlen := fnExactClockStep_vars hV
  obtain ⟨y0, y1, y2, rfl⟩ : ∃ y0 y1 y2, gs = [y0, y1, y2] := by
    have hl : gs.length = 3 := hlen.trans (by kernel_rfl)
    rcases gs with _ | ⟨y0, _ | ⟨y1, _ | ⟨y2, _ | ⟨z, r⟩⟩⟩⟩
    · cases hl
    · cases hl
    · cases hl
    · exact ⟨_, _, _, rfl⟩
    · simp at hl
  have k0 := h0
  have lt0 : ∀ x ∈ p0, x.block < W.heap.size := by obtain ⟨m, hm⟩ := k0; exact DataW.trod_lt m _ _ _ hm
  have k1 := h1
  have lt1 : ∀ x ∈ p1, x.block < W.heap.size := by obtain ⟨m, hm⟩ := k1; exact DataW.trod_lt m _ _ _ hm
  have k2 := h2
  have lt2 : ∀ x ∈ p2, x.block < W.heap.size := by obtain ⟨m, hm⟩ := k2; exact DataW.trod_lt m _ _ _ hm
  have k3 := h3
  have lt3 : ∀ x ∈ p3, x.block < W.heap.size := by obtain ⟨m, hm⟩ := k3; exact DataW.trod_lt m _ _ _ hm
  obtain ⟨s0, n0, c0, V0, rfl, m0, R0⟩ := open_LimitS Tryd.underlying22 Tryd.underlying77 (by kernel_rfl) rfl rfl (by kernel_rfl) (by kernel_rfl) (by kernel_rfl) (by kernel_rfl) (hval 0 22 v0 rfl rfl) h0
  obtain ⟨s1, n1, c1, V1, rfl, m1, R1⟩ := open_ClockS Tryd.underlying23 Tryd.underlying79 (by kernel_rfl) rfl rfl (by kernel_rfl) (by kernel_rfl) (by kernel_rfl) (by kernel_rfl) (hval 1 23 v1 rfl rfl) h1
  obtain ⟨a2, rfl, rfl, rfl, w2⟩ := open_int Tryd.underlying2 (hval 2 2 v2 rfl rfl) h2
  obtain ⟨s3, n3, c3, V3, rfl, m3, R3⟩ := open_bools Tryd.underlying34 Tryd.underlying4 (by kernel_rfl) (hval 3 34 v3 rfl rfl) h3
  clear hA0
  refine (fnExactClockStep_walk W s0 n0 c0 V0 m0 R0 s1 n1 c1 V1 m1 R1 a2 w2 s3 n3 c3 V3 m3 R3 (fnExactClockStep_errs hL)).mono fun e W' ⟨he, bel⟩ => ?_
  subst he
  exact ⟨_, rfl, _, _, _, [], _, q, hW', trodAll_mk1 (shut_bool Tryd.underlying4 _), (trodAll_cons_mk (Below.trod laidOut (by kernel_rfl) (of_decide_eq_true (by kernel_rfl)) k0 bel lt0) (trodAll_cons_mk (Below.trod laidOut (by kernel_rfl) (of_decide_eq_true (by kernel_rfl)) k1 bel lt1) (trodAll_cons_mk (Below.trod laidOut (by kernel_rfl) (of_decide_eq_true (by kernel_rfl)) k2 bel lt2) (trodAll_cons_mk (Below.trod laidOut (by kernel_rfl) (of_decide_eq_true (by kernel_rfl)) k3 bel lt3) trodAll_mk0)))), Below.trodVars laidOut bel (by kernel_rfl) hV2, bel.frame _, fun h => by cases h⟩
set_option maxRecDepth 100000 in
theorem fnExactClockStep_lifted (os : Os) (started : os.Started) (H : Type) (enc : TypeId × Value → H) (F : Stop.Interp) :
    ReturnsInHanded {} Tryd.checked os 4 .any ((OpenSpec.ofChange Rows.fnExactClockStepSpec).preRow enc Tryd.prog Tryd.f4 Rows.fnExactClockStepRow.domain false Rows.fnExactClockStepRow.laid) (((OpenSpec.ofChange Rows.fnExactClockStepSpec).at F).post enc Tryd.prog Tryd.f4 false true false false) := by
  refine returnsInHanded_of_row (C := Tryd.checked) (s := OpenSpec.ofChange Rows.fnExactClockStepSpec) own started (by kernel_rfl) Tryd.func4
    (witness_row_at (enc := enc) (C := Tryd.checked) false ({ World.holding Tryd.prog os ⟨#[.cells #[.string { data := #[110, 111, 116, 32, 97, 115, 32, 109, 97, 110, 121, 32, 97, 115, 32, 116, 104, 101, 114, 101, 32, 109, 97, 121, 32, 98, 101] }] 193, .cells #[.string { data := #[97, 32, 110, 117, 109, 98, 101, 114, 32, 116, 104, 97, 116, 32, 105, 115, 32, 111, 117, 116, 32, 111, 102, 32, 105, 116, 115, 32, 98, 111, 117, 110, 100, 115] }] 193, .cells #[.string { data := #[97, 32, 99, 108, 111, 99, 107, 32, 116, 104, 97, 116, 32, 100, 111, 101, 115, 32, 110, 111, 116, 32, 98, 101, 108, 111, 110, 103, 32, 116, 111, 32, 105, 116, 115, 32, 108, 105, 109, 105, 116] }] 193], #[], []⟩ with heap := (((((World.holding Tryd.prog os ⟨#[.cells #[.string { data := #[110, 111, 116, 32, 97, 115, 32, 109, 97, 110, 121, 32, 97, 115, 32, 116, 104, 101, 114, 101, 32, 109, 97, 121, 32, 98, 101] }] 193, .cells #[.string { data := #[97, 32, 110, 117, 109, 98, 101, 114, 32, 116, 104, 97, 116, 32, 105, 115, 32, 111, 117, 116, 32, 111, 102, 32, 105, 116, 115, 32, 98, 111, 117, 110, 100, 115] }] 193, .cells #[.string { data := #[97, 32, 99, 108, 111, 99, 107, 32, 116, 104, 97, 116, 32, 100, 111, 101, 115, 32, 110, 111, 116, 32, 98, 101, 108, 111, 110, 103, 32, 116, 111, 32, 105, 116, 115, 32, 108, 105, 109, 105, 116] }] 193], #[], []⟩).heap.modify 6 fun | .cells _ t frozen => .cells #[.iface 155 (.agg #[.pointer (some ⟨7, 82, none⟩)])] t frozen | o => o).modify 0 fun | .cells _ t frozen => .cells #[.iface 170 (.pointer (some ⟨(World.holding Tryd.prog default ⟨#[], #[], []⟩).heap.size + 0, 0, none⟩))] t frozen | o => o).modify 1 fun | .cells _ t frozen => .cells #[.iface 170 (.pointer (some ⟨(World.holding Tryd.prog default ⟨#[], #[], []⟩).heap.size + 1, 0, none⟩))] t frozen | o => o).modify 2 fun | .cells _ t frozen => .cells #[.iface 170 (.pointer (some ⟨(World.holding Tryd.prog default ⟨#[], #[], []⟩).heap.size + 2, 0, none⟩))] t frozen | o => o) }) #[.slice none 0 0, .slice none 0 0, .int .i64 0, .slice none 0 0] rfl (by kernel_rfl) (by kernel_rfl) (by kernel_rfl)
      (OpenSpec.preRow_of_B rfl 8 (by kernel_rfl) (by kernel_rfl) (laidMetH_of_parts (laidMet_of_run' 8 (by kernel_rfl) (by kernel_rfl)) (by kernel_rfl)))) ?_
  intro W base args ds gs before hval hW _ _ _ hL _ _
  exact fnExactClockStep_contract H enc W base args ds gs before hval hW hL
theorem fnExactClockStep_said : Rows.FnExactClockStepSaid :=
  OpenClaim.holds_of_cond 4 Tryd.f4 rfl rfl rfl rfl rfl rfl rfl ⟨rfl, rfl, rfl, rfl, rfl⟩ rfl rfl rfl rfl rfl (by kernel_rfl) Tryd.func4 (by kernel_rfl)
    (of_decide_eq_true (by kernel_rfl)) (by unfold Func.isWrapper; first | (rw [if_pos (by decide +kernel)]; kernel_rfl) | (rw [if_neg (by decide +kernel)]; exact ⟨rfl, rfl⟩))
    (fun os started H enc _ F => by rw [OpenClaim.pre_eq_preRow]; exact fnExactClockStep_lifted os started H enc F)
theorem fnExactClockStep_plain (f : FuncId) (fn : Func) (hf : Tryd.pinned.checked.prog.funcNamed Rows.fnExactClockStepRow.func = some f) (hfn : Tryd.pinned.checked.prog.funcs[f]? = some fn) :
    true = Tryd.pinned.checked.prog.looks [] ∧ ∀ (j : Nat) t, fn.params[j]? = some t → Tryd.pinned.checked.prog.wantsStandIn t = false := by
  obtain rfl : f = 4 := Option.some.inj ((show Tryd.prog.funcNamed Rows.fnExactClockStepRow.func = some 4 by kernel_rfl).symm.trans hf) |>.symm
  obtain rfl : fn = Tryd.f4 := (Option.some.inj (Tryd.func4.symm.trans hfn)).symm
  refine ⟨by kernel_rfl, fun j t ht => ?_⟩
  have hall : Tryd.f4.params.toList.all (fun t => !Tryd.prog.wantsStandIn t) = true := by kernel_rfl
  have hmem := Array.mem_of_getElem? ht
  have := List.all_eq_true.1 hall t (Array.mem_toList_iff.2 hmem)
  have this2 : Tryd.prog.wantsStandIn t = false := by simpa using this
  exact this2
theorem fnExactClockStep_holds : Rows.FnExactClockStepCardSaid :=
  Claim7.holds_tied_plain_at .later [] _ _ _ _ fnExactClockStep_said (fun _ h => by cases h) (by kernel_rfl) (fun _ h => by cases h) fnExactClockStep_row_tie rfl ⟨rfl, rfl⟩ (by kernel_rfl) rfl fnExactClockStep_plain (by kernel_rfl)
#print axioms fnExactClockStep_holds
end Go.Proofs.YtfhbkfdfggaomaaDoor
