/-
What is proved: at every machines, flags and load impl.Merit answers as the specification's Merit and leaves them as they were; its answer is new memory; no condition.
-/
import Derived.Test.YtoljghhcgphgmaaMtS
import Derived.Test.YtoljghhcgphgmaaPltE
import Derived.Test.YtoljghhcgphgmaaBooR
import Derived.Test.YtoljghhcgphgmaaOpenBN
import Derived.Test.YtoljghhcgphgmaaI64R2
namespace Go.Proofs.Ytoljghhcgphgmaa
set_option maxRecDepth 40000
open Go.ChangeShapes Go.WideShapes Go.ChangeAt Go.RowKit
set_option linter.unusedVariables false
set_option linter.unusedSimpArgs false

theorem me_fit {w : World} {n : Nat} {U : Nat → Int} {b : Bool} {e : Ending} {w' : World} (h : MePost w n U b e w') : ∃ (s : Option Addr) (c : Nat) (S : Nat → Prop), e = .returned (.tuple #[.slice s n c, .bool b]) ∧ (∀ k, S k → w.heap.size ≤ k ∧ k < w'.heap.size) ∧ I64R S w' s n U ∧ Below w.heap.size w w' := by
  obtain ⟨s, c, h1, h2, h3⟩ := h
  exact ⟨s, c, _, h1, fun k hk => hk, I64R.of h2, h3⟩
theorem wf_inM {n : Int} (h : (Lit.int .i64 n).wf = true) : -9223372036854775808 ≤ n ∧ n ≤ 9223372036854775807 := by
  simp [Lit.wf, IntKind.min, IntKind.max, IntKind.bits, IntKind.signed] at h
  omega
theorem me_le (n : Nat) (V : Nat → Int × Int × Int × Int × Int) (O : Nat → Bool) (no : Nat) (ld : Int) (h : (n : Int) ≤ 1048576) : (meN n V O no ld : Int) ≤ 1048576 := by
  unfold meN
  split
  · exact h
  · decide
set_option maxRecDepth 20000 in
set_option maxHeartbeats 8000000 in
theorem merit_near (w : World) (n0 : Nat) (V0 : Nat → Int × Int × Int × Int × Int) (s0 : Option Addr) (c0 : Nat) (hn0 : (n0 : Int) ≤ 1048576) (HR0 : Hid (RowPlant w s0 n0 V0)) (n1 : Nat) (V1 : Nat → Bool) (s1 : Option Addr) (c1 : Nat) (hn1 : (n1 : Int) ≤ 1048576) (HR1 : Hid (RowB w s1 n1 V1)) (a2 : Int) (gn0 : (n0 : Int) ≤ 1048576) (nr0 : Nat) (Vr0 : Nat → Int) (hnr0 : (nr0 : Int) ≤ 1048576) (ar1 : Bool)
    (H1 : Hid (∀ (s0 : Option Addr) (c0 : Nat) (s1 : Option Addr) (c1 : Nat) w, RowPlant w s0 n0 V0 → RowB w s1 n1 V1 → Calls Try.prog 9 #[.slice s0 n0 c0, .slice s1 n1 c1, .int .i64 a2] w fun e w' => ∃ (s'r0 : Option Addr) (c'r0 : Nat) (S0 : Nat → Prop), e = .returned (.tuple #[.slice s'r0 nr0 c'r0, .bool ar1]) ∧ (∀ k, S0 k → w.heap.size ≤ k ∧ k < w'.heap.size) ∧ I64R S0 w' s'r0 nr0 Vr0 ∧ Below w.heap.size w w'))
    (H2 : Hid (∀ (s0 : Option Addr) (c0 : Nat) (s1 : Option Addr) (c1 : Nat) w, RowPlant w s0 n0 V0 → RowB w s1 n1 V1 → Calls Try.prog 12 #[.slice s0 n0 c0, .slice s1 n1 c1, .int .i64 a2] w fun e w' => ∃ (s'r0 : Option Addr) (c'r0 : Nat) (S0 : Nat → Prop), e = .returned (.tuple #[.slice s'r0 nr0 c'r0, .bool ar1]) ∧ (∀ k, S0 k → w.heap.size ≤ k ∧ k < w'.heap.size) ∧ I64R S0 w' s'r0 nr0 Vr0 ∧ Below w.heap.size w w')) :
    Calls Try.prog 3 #[.slice s0 n0 c0, .slice s1 n1 c1, .int .i64 a2] w fun e w' => e = .returned (.bool true) ∧ Below w.heap.size w w' := by
  have sto := store_slT
  go_enter Try.func3, Try.ntmps3
  go_wp2_with fail
  refine (szPlantS_on _ n0 _ _ _ (by omega) (by omega) (by omega)).mono ?_
  rintro e w ⟨rfl, rfl⟩
  have B0 : Below w.heap.size w w := Below.refl _ _
  go_wp2_with fail
  refine (toPlantS_r s0 n0 c0 V0 _ hn0 (HR0.out.below B0)).mono ?_
  rintro e w1 ⟨st0, St0, rfl, Q, O, hh⟩
  have hb : Below w.heap.size w w1 := Below.trans (by repeat (first | with_reducible exact Below.refl _ _ | with_reducible refine Below.setCell ?_ (by first | omega | (simp; done) | (simp; omega)) _ | with_reducible refine bDrewN ?_ _ | with_reducible refine Below.drew ?_ | with_reducible refine Below.alloc ?_ (by first | omega | (simp; done) | (simp; omega)) _)) (hh.mono (by first | omega | (simp; done) | (simp; omega)))
  have lw1 : w.heap.size ≤ w1.heap.size := hb.size
  replace B0 : Below w.heap.size w w1 := B0.trans (hb.mono B0.size)
  clear hb hh
  have Qt0 : Hid (∀ k, St0 k → w.heap.size ≤ k ∧ k < w1.heap.size) := (show ∀ k, St0 k → w.heap.size ≤ k ∧ k < w1.heap.size from by simpa using Q)
  have Ot0 : Hid (PlantR St0 w1 st0 n0 V0) := O
  clear O Q
  go_wp2_with fail
  refine (toBoolS_r s1 n1 c1 V1 _ hn1 (HR1.out.below B0)).mono ?_
  rintro e w2 ⟨st1, St1, rfl, Q, O, hh⟩
  have hb : Below w1.heap.size w1 w2 := Below.trans (by repeat (first | with_reducible exact Below.refl _ _ | with_reducible refine Below.setCell ?_ (by first | omega | (simp; done) | (simp; omega)) _ | with_reducible refine bDrewN ?_ _ | with_reducible refine Below.drew ?_ | with_reducible refine Below.alloc ?_ (by first | omega | (simp; done) | (simp; omega)) _)) (hh.mono (by first | omega | (simp; done) | (simp; omega)))
  have lw2 : w1.heap.size ≤ w2.heap.size := hb.size
  replace Ot0 : Hid (PlantR St0 w2 st0 n0 V0) := Ot0.out.below hb
  replace B0 : Below w.heap.size w w2 := B0.trans (hb.mono B0.size)
  clear hb hh
  have Qt1 : Hid (∀ k, St1 k → w1.heap.size ≤ k ∧ k < w2.heap.size) := (show ∀ k, St1 k → w1.heap.size ≤ k ∧ k < w2.heap.size from by simpa using Q)
  have Ot1 : Hid (BooR St1 w2 st1 n1 V1) := O
  clear O Q
  go_wp2_with fail
  refine (H1.out st0 _ st1 _ _ (Ot0.out.row) (Ot1.out.row)).mono ?_
  rintro e w3 ⟨sWr0, cWr0, SW0, rfl, Q0, O0, hh⟩
  have hb : Below w2.heap.size w2 w3 := Below.trans (by repeat (first | with_reducible exact Below.refl _ _ | with_reducible refine Below.setCell ?_ (by first | omega | (simp; done) | (simp; omega)) _ | with_reducible refine bDrewN ?_ _ | with_reducible refine Below.drew ?_ | with_reducible refine Below.alloc ?_ (by first | omega | (simp; done) | (simp; omega)) _)) (hh.mono (by first | omega | (simp; done) | (simp; omega)))
  have lw3 : w2.heap.size ≤ w3.heap.size := hb.size
  replace Ot0 : Hid (PlantR St0 w3 st0 n0 V0) := Ot0.out.below hb
  replace Ot1 : Hid (BooR St1 w3 st1 n1 V1) := Ot1.out.below hb
  replace B0 : Below w.heap.size w w3 := B0.trans (hb.mono B0.size)
  clear hb hh
  clear Ot0 Qt0 
  clear Ot1 Qt1 
  have Bs : Below w3.heap.size w3 w3 := Below.refl _ _
  have RW0 : Hid (RowI w3 sWr0 nr0 Vr0) := O0.row
  clear O0 Q0 
  go_wp2_with fail
  refine (toPlantS_r s0 n0 c0 V0 _ hn0 (HR0.out.below B0)).mono ?_
  rintro e w4 ⟨sx0, Sx0, rfl, Q, O, hh⟩
  have hb : Below w3.heap.size w3 w4 := Below.trans (by repeat (first | with_reducible exact Below.refl _ _ | with_reducible refine Below.setCell ?_ (by first | omega | (simp; done) | (simp; omega)) _ | with_reducible refine bDrewN ?_ _ | with_reducible refine Below.drew ?_ | with_reducible refine Below.alloc ?_ (by first | omega | (simp; done) | (simp; omega)) _)) (hh.mono (by first | omega | (simp; done) | (simp; omega)))
  have lw4 : w3.heap.size ≤ w4.heap.size := hb.size
  replace Bs : Below w3.heap.size w3 w4 := Bs.trans (hb.mono Bs.size)
  replace B0 : Below w.heap.size w w4 := B0.trans (hb.mono B0.size)
  clear hb hh
  have Qx0 : Hid (∀ k, Sx0 k → w3.heap.size ≤ k ∧ k < w4.heap.size) := (show ∀ k, Sx0 k → w3.heap.size ≤ k ∧ k < w4.heap.size from by simpa using Q)
  have Ox0 : Hid (PlantR Sx0 w4 sx0 n0 V0) := O
  clear O Q
  go_wp2_with fail
  refine (toBoolS_r s1 n1 c1 V1 _ hn1 (HR1.out.below B0)).mono ?_
  rintro e w5 ⟨sx1, Sx1, rfl, Q, O, hh⟩
  have hb : Below w4.heap.size w4 w5 := Below.trans (by repeat (first | with_reducible exact Below.refl _ _ | with_reducible refine Below.setCell ?_ (by first | omega | (simp; done) | (simp; omega)) _ | with_reducible refine bDrewN ?_ _ | with_reducible refine Below.drew ?_ | with_reducible refine Below.alloc ?_ (by first | omega | (simp; done) | (simp; omega)) _)) (hh.mono (by first | omega | (simp; done) | (simp; omega)))
  have lw5 : w4.heap.size ≤ w5.heap.size := hb.size
  replace Ox0 : Hid (PlantR Sx0 w5 sx0 n0 V0) := Ox0.out.below hb
  replace Bs : Below w3.heap.size w3 w5 := Bs.trans (hb.mono Bs.size)
  replace B0 : Below w.heap.size w w5 := B0.trans (hb.mono B0.size)
  clear hb hh
  have Qx1 : Hid (∀ k, Sx1 k → w4.heap.size ≤ k ∧ k < w5.heap.size) := (show ∀ k, Sx1 k → w4.heap.size ≤ k ∧ k < w5.heap.size from by simpa using Q)
  have Ox1 : Hid (BooR Sx1 w5 sx1 n1 V1) := O
  clear O Q
  go_wp2_with fail
  refine (H2.out sx0 _ sx1 _ _ (Ox0.out.row) (Ox1.out.row)).mono ?_
  rintro e w6 ⟨sgr0, cgr0, Sg0, rfl, Q0, O0, hh⟩
  have hb : Below w5.heap.size w5 w6 := Below.trans (by repeat (first | with_reducible exact Below.refl _ _ | with_reducible refine Below.setCell ?_ (by first | omega | (simp; done) | (simp; omega)) _ | with_reducible refine bDrewN ?_ _ | with_reducible refine Below.drew ?_ | with_reducible refine Below.alloc ?_ (by first | omega | (simp; done) | (simp; omega)) _)) (hh.mono (by first | omega | (simp; done) | (simp; omega)))
  have lw6 : w5.heap.size ≤ w6.heap.size := hb.size
  replace Ox0 : Hid (PlantR Sx0 w6 sx0 n0 V0) := Ox0.out.below hb
  replace Ox1 : Hid (BooR Sx1 w6 sx1 n1 V1) := Ox1.out.below hb
  replace Bs : Below w3.heap.size w3 w6 := Bs.trans (hb.mono Bs.size)
  replace B0 : Below w.heap.size w w6 := B0.trans (hb.mono B0.size)
  clear hb hh
  have Qg0 : Hid (∀ k, Sg0 k → w5.heap.size ≤ k ∧ k < w6.heap.size) := (show ∀ k, Sg0 k → w5.heap.size ≤ k ∧ k < w6.heap.size from by simpa using Q0)
  have Og0 : Hid (I64R Sg0 w6 sgr0 nr0 Vr0) := O0
  clear O0 Q0
  go_wp2_with fail
  refine (eqInt64S_any sgr0 sWr0 nr0 _ _ Vr0 _ hnr0 (Og0.out.row) (RW0.out.below Bs)).mono ?_
  rintro e w7 ⟨rfl, hh⟩
  have hb : Below w6.heap.size w6 w7 := Below.trans (by repeat (first | with_reducible exact Below.refl _ _ | with_reducible refine Below.setCell ?_ (by first | omega | (simp; done) | (simp; omega)) _ | with_reducible refine bDrewN ?_ _ | with_reducible refine Below.drew ?_ | with_reducible refine Below.alloc ?_ (by first | omega | (simp; done) | (simp; omega)) _)) (hh.mono (by first | omega | (simp; done) | (simp; omega)))
  have lw7 : w6.heap.size ≤ w7.heap.size := hb.size
  replace Ox0 : Hid (PlantR Sx0 w7 sx0 n0 V0) := Ox0.out.below hb
  replace Ox1 : Hid (BooR Sx1 w7 sx1 n1 V1) := Ox1.out.below hb
  replace Og0 : Hid (I64R Sg0 w7 sgr0 nr0 Vr0) := Og0.out.below hb
  replace Bs : Below w3.heap.size w3 w7 := Bs.trans (hb.mono Bs.size)
  replace B0 : Below w.heap.size w w7 := B0.trans (hb.mono B0.size)
  clear hb hh
  go_wp2_with fail
  refine (toPlantS_r s0 n0 c0 V0 _ hn0 (HR0.out.below B0)).mono ?_
  rintro e w8 ⟨sy0, Sy0, rfl, Q, O, hh⟩
  have hb : Below w7.heap.size w7 w8 := Below.trans (by repeat (first | with_reducible exact Below.refl _ _ | with_reducible refine Below.setCell ?_ (by first | omega | (simp; done) | (simp; omega)) _ | with_reducible refine bDrewN ?_ _ | with_reducible refine Below.drew ?_ | with_reducible refine Below.alloc ?_ (by first | omega | (simp; done) | (simp; omega)) _)) (hh.mono (by first | omega | (simp; done) | (simp; omega)))
  have lw8 : w7.heap.size ≤ w8.heap.size := hb.size
  replace Ox0 : Hid (PlantR Sx0 w8 sx0 n0 V0) := Ox0.out.below hb
  replace Ox1 : Hid (BooR Sx1 w8 sx1 n1 V1) := Ox1.out.below hb
  replace Og0 : Hid (I64R Sg0 w8 sgr0 nr0 Vr0) := Og0.out.below hb
  replace Bs : Below w3.heap.size w3 w8 := Bs.trans (hb.mono Bs.size)
  replace B0 : Below w.heap.size w w8 := B0.trans (hb.mono B0.size)
  clear hb hh
  have Qy0 : Hid (∀ k, Sy0 k → w7.heap.size ≤ k ∧ k < w8.heap.size) := (show ∀ k, Sy0 k → w7.heap.size ≤ k ∧ k < w8.heap.size from by simpa using Q)
  have Oy0 : Hid (PlantR Sy0 w8 sy0 n0 V0) := O
  clear O Q
  go_wp2_with fail
  refine (eqPlantS_any _ _ n0 _ _ V0 _ hn0 (Ox0.out.row) (Oy0.out.row)).mono ?_
  rintro e w9 ⟨rfl, hh⟩
  have hb : Below w8.heap.size w8 w9 := Below.trans (by repeat (first | with_reducible exact Below.refl _ _ | with_reducible refine Below.setCell ?_ (by first | omega | (simp; done) | (simp; omega)) _ | with_reducible refine bDrewN ?_ _ | with_reducible refine Below.drew ?_ | with_reducible refine Below.alloc ?_ (by first | omega | (simp; done) | (simp; omega)) _)) (hh.mono (by first | omega | (simp; done) | (simp; omega)))
  have lw9 : w8.heap.size ≤ w9.heap.size := hb.size
  replace Ox0 : Hid (PlantR Sx0 w9 sx0 n0 V0) := Ox0.out.below hb
  replace Ox1 : Hid (BooR Sx1 w9 sx1 n1 V1) := Ox1.out.below hb
  replace Og0 : Hid (I64R Sg0 w9 sgr0 nr0 Vr0) := Og0.out.below hb
  replace Oy0 : Hid (PlantR Sy0 w9 sy0 n0 V0) := Oy0.out.below hb
  replace Bs : Below w3.heap.size w3 w9 := Bs.trans (hb.mono Bs.size)
  replace B0 : Below w.heap.size w w9 := B0.trans (hb.mono B0.size)
  clear hb hh
  clear Oy0 Qy0 
  go_wp2_with fail
  refine (toBoolS_r s1 n1 c1 V1 _ hn1 (HR1.out.below B0)).mono ?_
  rintro e w10 ⟨sy1, Sy1, rfl, Q, O, hh⟩
  have hb : Below w9.heap.size w9 w10 := Below.trans (by repeat (first | with_reducible exact Below.refl _ _ | with_reducible refine Below.setCell ?_ (by first | omega | (simp; done) | (simp; omega)) _ | with_reducible refine bDrewN ?_ _ | with_reducible refine Below.drew ?_ | with_reducible refine Below.alloc ?_ (by first | omega | (simp; done) | (simp; omega)) _)) (hh.mono (by first | omega | (simp; done) | (simp; omega)))
  have lw10 : w9.heap.size ≤ w10.heap.size := hb.size
  replace Ox0 : Hid (PlantR Sx0 w10 sx0 n0 V0) := Ox0.out.below hb
  replace Ox1 : Hid (BooR Sx1 w10 sx1 n1 V1) := Ox1.out.below hb
  replace Og0 : Hid (I64R Sg0 w10 sgr0 nr0 Vr0) := Og0.out.below hb
  replace Bs : Below w3.heap.size w3 w10 := Bs.trans (hb.mono Bs.size)
  replace B0 : Below w.heap.size w w10 := B0.trans (hb.mono B0.size)
  clear hb hh
  have Qy1 : Hid (∀ k, Sy1 k → w9.heap.size ≤ k ∧ k < w10.heap.size) := (show ∀ k, Sy1 k → w9.heap.size ≤ k ∧ k < w10.heap.size from by simpa using Q)
  have Oy1 : Hid (BooR Sy1 w10 sy1 n1 V1) := O
  clear O Q
  go_wp2_with fail
  refine (eqBoolS_any _ _ n1 _ _ V1 _ hn1 (Ox1.out.row) (Oy1.out.row)).mono ?_
  rintro e w11 ⟨rfl, hh⟩
  have hb : Below w10.heap.size w10 w11 := Below.trans (by repeat (first | with_reducible exact Below.refl _ _ | with_reducible refine Below.setCell ?_ (by first | omega | (simp; done) | (simp; omega)) _ | with_reducible refine bDrewN ?_ _ | with_reducible refine Below.drew ?_ | with_reducible refine Below.alloc ?_ (by first | omega | (simp; done) | (simp; omega)) _)) (hh.mono (by first | omega | (simp; done) | (simp; omega)))
  have lw11 : w10.heap.size ≤ w11.heap.size := hb.size
  replace Ox0 : Hid (PlantR Sx0 w11 sx0 n0 V0) := Ox0.out.below hb
  replace Ox1 : Hid (BooR Sx1 w11 sx1 n1 V1) := Ox1.out.below hb
  replace Og0 : Hid (I64R Sg0 w11 sgr0 nr0 Vr0) := Og0.out.below hb
  replace Oy1 : Hid (BooR Sy1 w11 sy1 n1 V1) := Oy1.out.below hb
  replace Bs : Below w3.heap.size w3 w11 := Bs.trans (hb.mono Bs.size)
  replace B0 : Below w.heap.size w w11 := B0.trans (hb.mono B0.size)
  clear hb hh
  clear Oy1 Qy1 
  go_wp2_with fail
  refine (markPlantS_r Sx0 _ n0 _ (1) V0 _ hn0 (by omega) (by omega) Ox0.out).mono ?_
  rintro e w12 ⟨rfl, -, T⟩
  have lw12 : w11.heap.size ≤ w12.heap.size := T.size
  replace Ox1 : Hid (BooR Sx1 w12 sx1 n1 V1) := Ox1.out.keep T.size (fun k hk hl => T.2.2.2.2 k hl (fun q => by have := Qx0.out k q; have := Qx1.out k hk; omega))
  replace Og0 : Hid (I64R Sg0 w12 sgr0 nr0 Vr0) := Og0.out.keep T.size (fun k hk hl => T.2.2.2.2 k hl (fun q => by have := Qx0.out k q; have := Qg0.out k hk; omega))
  replace Bs : Below w3.heap.size w3 w12 := Bs.trans (T.below (fun k q => by have := Qx0.out k q; omega) (by omega))
  replace B0 : Below w.heap.size w w12 := B0.trans (T.below (fun k q => by have := Qx0.out k q; omega) (by omega))
  clear T Ox0
  go_wp2_with fail
  refine (markBoolS_r Sx1 _ n1 _ (1 + (n0 * 5 : Nat)) V1 _ hn1 (by omega) (by omega) Ox1.out).mono ?_
  rintro e w13 ⟨rfl, -, T⟩
  have lw13 : w12.heap.size ≤ w13.heap.size := T.size
  replace Og0 : Hid (I64R Sg0 w13 sgr0 nr0 Vr0) := Og0.out.keep T.size (fun k hk hl => T.2.2.2.2 k hl (fun q => by have := Qx1.out k q; have := Qg0.out k hk; omega))
  replace Bs : Below w3.heap.size w3 w13 := Bs.trans (T.below (fun k q => by have := Qx1.out k q; omega) (by omega))
  replace B0 : Below w.heap.size w w13 := B0.trans (T.below (fun k q => by have := Qx1.out k q; omega) (by omega))
  clear T Ox1
  go_wp2_with fail
  refine (eqInt64S_any sgr0 sWr0 nr0 _ _ Vr0 _ hnr0 (Og0.out.row) (RW0.out.below Bs)).mono ?_
  rintro e w14 ⟨rfl, hh⟩
  have hb : Below w13.heap.size w13 w14 := Below.trans (by repeat (first | with_reducible exact Below.refl _ _ | with_reducible refine Below.setCell ?_ (by first | omega | (simp; done) | (simp; omega)) _ | with_reducible refine bDrewN ?_ _ | with_reducible refine Below.drew ?_ | with_reducible refine Below.alloc ?_ (by first | omega | (simp; done) | (simp; omega)) _)) (hh.mono (by first | omega | (simp; done) | (simp; omega)))
  have lw14 : w13.heap.size ≤ w14.heap.size := hb.size
  replace Og0 : Hid (I64R Sg0 w14 sgr0 nr0 Vr0) := Og0.out.below hb
  replace Bs : Below w3.heap.size w3 w14 := Bs.trans (hb.mono Bs.size)
  replace B0 : Below w.heap.size w w14 := B0.trans (hb.mono B0.size)
  clear hb hh
  clear Qx0
  clear Qx1
  go_wp2_with fail
  refine (markInt64S_r Sg0 _ nr0 _ (1) Vr0 _ hnr0 (by omega) (by omega) Og0.out).mono ?_
  rintro e w15 ⟨rfl, OM, T⟩
  have lw15 : w14.heap.size ≤ w15.heap.size := T.size
  replace Bs : Below w3.heap.size w3 w15 := Bs.trans (T.below (fun k q => by have := Qg0.out k q; omega) (by omega))
  replace B0 : Below w.heap.size w w15 := B0.trans (T.below (fun k q => by have := Qg0.out k q; omega) (by omega))
  replace Og0 : Hid (I64R Sg0 w15 sgr0 nr0 (fun j => (1) + (j : Int))) := OM
  clear T OM
  go_wp2_with fail
  refine (heldInt64S_any _ nr0 _ (1) _ hnr0 (by omega) (by omega) (Og0.out.row)).mono ?_
  rintro e w15 ⟨rfl, rfl⟩
  go_wp2_with fail
  refine (toPlantS_r s0 n0 c0 V0 _ hn0 (HR0.out.below B0)).mono ?_
  rintro e w16 ⟨sv0, Sv0, rfl, Q, O, hh⟩
  have hb : Below w15.heap.size w15 w16 := Below.trans (by repeat (first | with_reducible exact Below.refl _ _ | with_reducible refine Below.setCell ?_ (by first | omega | (simp; done) | (simp; omega)) _ | with_reducible refine bDrewN ?_ _ | with_reducible refine Below.drew ?_ | with_reducible refine Below.alloc ?_ (by first | omega | (simp; done) | (simp; omega)) _)) (hh.mono (by first | omega | (simp; done) | (simp; omega)))
  have lw16 : w15.heap.size ≤ w16.heap.size := hb.size
  replace Og0 : Hid (I64R Sg0 w16 sgr0 nr0 (fun j => (1) + (j : Int))) := Og0.out.below hb
  replace Bs : Below w3.heap.size w3 w16 := Bs.trans (hb.mono Bs.size)
  replace B0 : Below w.heap.size w w16 := B0.trans (hb.mono B0.size)
  clear hb hh
  have Qv0 : Hid (∀ k, Sv0 k → w15.heap.size ≤ k ∧ k < w16.heap.size) := (show ∀ k, Sv0 k → w15.heap.size ≤ k ∧ k < w16.heap.size from by simpa using Q)
  have Ov0 : Hid (PlantR Sv0 w16 sv0 n0 V0) := O
  clear O Q
  go_wp2_with fail
  refine (toBoolS_r s1 n1 c1 V1 _ hn1 (HR1.out.below B0)).mono ?_
  rintro e w17 ⟨sv1, Sv1, rfl, Q, O, hh⟩
  have hb : Below w16.heap.size w16 w17 := Below.trans (by repeat (first | with_reducible exact Below.refl _ _ | with_reducible refine Below.setCell ?_ (by first | omega | (simp; done) | (simp; omega)) _ | with_reducible refine bDrewN ?_ _ | with_reducible refine Below.drew ?_ | with_reducible refine Below.alloc ?_ (by first | omega | (simp; done) | (simp; omega)) _)) (hh.mono (by first | omega | (simp; done) | (simp; omega)))
  have lw17 : w16.heap.size ≤ w17.heap.size := hb.size
  replace Og0 : Hid (I64R Sg0 w17 sgr0 nr0 (fun j => (1) + (j : Int))) := Og0.out.below hb
  replace Ov0 : Hid (PlantR Sv0 w17 sv0 n0 V0) := Ov0.out.below hb
  replace Bs : Below w3.heap.size w3 w17 := Bs.trans (hb.mono Bs.size)
  replace B0 : Below w.heap.size w w17 := B0.trans (hb.mono B0.size)
  clear hb hh
  have Qv1 : Hid (∀ k, Sv1 k → w16.heap.size ≤ k ∧ k < w17.heap.size) := (show ∀ k, Sv1 k → w16.heap.size ≤ k ∧ k < w17.heap.size from by simpa using Q)
  have Ov1 : Hid (BooR Sv1 w17 sv1 n1 V1) := O
  clear O Q
  go_wp2_with fail
  refine (H2.out sv0 _ sv1 _ _ (Ov0.out.row) (Ov1.out.row)).mono ?_
  rintro e w18 ⟨shr0, chr0, Sh0, rfl, Q0, O0, hh⟩
  have hb : Below w17.heap.size w17 w18 := Below.trans (by repeat (first | with_reducible exact Below.refl _ _ | with_reducible refine Below.setCell ?_ (by first | omega | (simp; done) | (simp; omega)) _ | with_reducible refine bDrewN ?_ _ | with_reducible refine Below.drew ?_ | with_reducible refine Below.alloc ?_ (by first | omega | (simp; done) | (simp; omega)) _)) (hh.mono (by first | omega | (simp; done) | (simp; omega)))
  have lw18 : w17.heap.size ≤ w18.heap.size := hb.size
  replace Og0 : Hid (I64R Sg0 w18 sgr0 nr0 (fun j => (1) + (j : Int))) := Og0.out.below hb
  replace Ov0 : Hid (PlantR Sv0 w18 sv0 n0 V0) := Ov0.out.below hb
  replace Ov1 : Hid (BooR Sv1 w18 sv1 n1 V1) := Ov1.out.below hb
  replace Bs : Below w3.heap.size w3 w18 := Bs.trans (hb.mono Bs.size)
  replace B0 : Below w.heap.size w w18 := B0.trans (hb.mono B0.size)
  clear hb hh
  clear Ov0 Qv0 
  clear Ov1 Qv1 
  have Rh0 : Hid (RowI w18 shr0 nr0 Vr0) := O0.row
  clear O0 Q0 
  have Bh : Below w18.heap.size w18 w18 := Below.refl _ _
  go_wp2_with fail
  refine (eqInt64S_any shr0 sWr0 nr0 _ _ Vr0 _ hnr0 ((Rh0.out.below (Below.mono (B := w18.heap.size) (Bh) (Nat.le_refl _)))) (RW0.out.below Bs)).mono ?_
  rintro e w19 ⟨rfl, hh⟩
  have hb : Below w18.heap.size w18 w19 := Below.trans (by repeat (first | with_reducible exact Below.refl _ _ | with_reducible refine Below.setCell ?_ (by first | omega | (simp; done) | (simp; omega)) _ | with_reducible refine bDrewN ?_ _ | with_reducible refine Below.drew ?_ | with_reducible refine Below.alloc ?_ (by first | omega | (simp; done) | (simp; omega)) _)) (hh.mono (by first | omega | (simp; done) | (simp; omega)))
  have lw19 : w18.heap.size ≤ w19.heap.size := hb.size
  replace Og0 : Hid (I64R Sg0 w19 sgr0 nr0 (fun j => (1) + (j : Int))) := Og0.out.below hb
  replace Bs : Below w3.heap.size w3 w19 := Bs.trans (hb.mono Bs.size)
  replace B0 : Below w.heap.size w w19 := B0.trans (hb.mono B0.size)
  replace Bh : Below w18.heap.size w18 w19 := Bh.trans (hb.mono Bh.size)
  clear hb hh
  go_wp2_with fail
  refine (heldInt64S_any _ nr0 _ (1) _ hnr0 (by omega) (by omega) (Og0.out.row)).mono ?_
  rintro e w19 ⟨rfl, rfl⟩
  go_wp2
  go_ret
  exact ⟨rfl, B0⟩
set_option maxHeartbeats 800000 in
theorem merit_farn1 (w : World) (n0 : Nat) (V0 : Nat → Int × Int × Int × Int × Int) (s0 : Option Addr) (c0 : Nat) (n1 : Nat) (V1 : Nat → Bool) (s1 : Option Addr) (c1 : Nat) (a2 : Int)  (g : (1048576 : Int) < n1) :
    Calls Try.prog 3 #[.slice s0 n0 c0, .slice s1 n1 c1, .int .i64 a2] w fun e w' => e = .returned (.bool true) ∧ Below w.heap.size w w' := by
  go_enter Try.func3, Try.ntmps3
  go_wp2
  go_ret
  exact ⟨rfl, (by repeat (first | with_reducible exact Below.refl _ _ | with_reducible refine Below.setCell ?_ (by first | omega | (simp; done) | (simp; omega)) _ | with_reducible refine bDrewN ?_ _ | with_reducible refine Below.drew ?_ | with_reducible refine Below.alloc ?_ (by first | omega | (simp; done) | (simp; omega)) _))⟩
set_option maxHeartbeats 1600000 in
theorem merit_farn0 (w : World) (n0 : Nat) (V0 : Nat → Int × Int × Int × Int × Int) (s0 : Option Addr) (c0 : Nat) (n1 : Nat) (V1 : Nat → Bool) (s1 : Option Addr) (c1 : Nat) (a2 : Int) (qn1 : (n1 : Int) ≤ 1048576)  (g : 1048576 < (n0 : Int)) (gg : (n0 : Int) ≤ 9223372036854775807)  :
    Calls Try.prog 3 #[.slice s0 n0 c0, .slice s1 n1 c1, .int .i64 a2] w fun e w' => e = .returned (.bool true) ∧ Below w.heap.size w w' := by
  go_enter Try.func3, Try.ntmps3
  go_wp2_with fail
  refine (szPlantS_off _ n0 _ _ _ (by omega) (by omega) (by omega) (by omega)).mono ?_
  rintro e w ⟨rfl, rfl⟩
  go_wp2
  go_ret
  exact ⟨rfl, (by repeat (first | with_reducible exact Below.refl _ _ | with_reducible refine Below.setCell ?_ (by first | omega | (simp; done) | (simp; omega)) _ | with_reducible refine bDrewN ?_ _ | with_reducible refine Below.drew ?_ | with_reducible refine Below.alloc ?_ (by first | omega | (simp; done) | (simp; omega)) _))⟩
theorem fnExactMerit_walk (w : World) (s0 : Option Addr) (n0 c0 : Nat) (V0 : Nat → Int × Int × Int × Int × Int) (m0 : n0 ≤ 9223372036854775807) (R0 : RowPlant w s0 n0 V0) (s1 : Option Addr) (n1 c1 : Nat) (V1 : Nat → Bool) (m1 : n1 ≤ 9223372036854775807) (R1 : RowB w s1 n1 V1) (a2 : Int) (w2 : (Lit.int .i64 a2).wf = true) :
    Calls Try.prog 3 #[.slice s0 n0 c0, .slice s1 n1 c1, .int .i64 a2] w fun e w' => e = .returned (.bool true) ∧ Below w.heap.size w w' := by
  by_cases qn1 : (n1 : Int) ≤ 1048576
  case neg => exact merit_farn1 w n0 V0 s0 c0 n1 V1 s1 c1 a2  (by omega)
  by_cases gn0 : (n0 : Int) ≤ 1048576
  case neg => exact merit_farn0 w n0 V0 s0 c0 n1 V1 s1 c1 a2 qn1  (by omega) (by omega) 
  exact merit_near w n0 V0 s0 c0 (by omega) R0 n1 V1 s1 c1 (by omega) R1 a2 (by omega) (meN n0 V0 V1 n1 a2) (outV n0 V0 V1 a2) (me_le _ _ _ _ _ (by omega)) (meB n0 V0 V1 n1 a2) (fun s c t d w q r => (specMerit_any s n0 c V0 t n1 d V1 a2 w (by omega) (by omega) (wf_inM w2).1 (wf_inM w2).2 q r).mono fun e w' h => me_fit h) (fun s c t d w q r => (implMerit_any s n0 c V0 t n1 d V1 a2 w (by omega) (by omega) (wf_inM w2).1 (wf_inM w2).2 q r).mono fun e w' h => me_fit h)

set_option maxRecDepth 100000 in
theorem fnExactMerit_lifted (os : Os) (started : os.Started) (H : Type) (enc : TypeId × Value → H) :
    ReturnsInHanded {} Try.checked os 3 .any (Rows.fnExactMeritSpec.pre6 enc Try.prog Try.f3 Rows.fnExactMeritRow.domain false) (Rows.fnExactMeritSpec.post enc Try.prog Try.f3 false true false false) := by
  refine returnsInHanded_of_change (C := Try.checked) own started (by kernel_rfl) Try.func3
    (ChangeSpec.witness6 (enc := enc) (C := Try.checked) false ⟨#[], #[.slice none 0 0, .slice none 0 0, .int .i64 0], []⟩ 8 (by kernel_rfl) (by kernel_rfl) (by kernel_rfl) (by kernel_rfl)) ?_
  intro W base args ds gs before hval0 hW hcnd _
  have hval : ∀ (j : Nat) t v, Try.f3.params[j]? = some t → args[j]? = some v → Value.okWide Try.prog W .any base t v := hval0
  have hW' := hW
  obtain ⟨p, q, hA0, hV, rfl, hfz, hnd⟩ := hW
  have hA : DataW.TrodAll enc Try.prog W 0 (fun _ => true) true Try.f3.params.toList args.toList ds p := hA0
  rw [Try.params3] at hA hval
  obtain ⟨v0, vs0, d0, ds0, p0, q0, hargs, rfl, rfl, h0, r0⟩ := trodAll_cons hA
  obtain ⟨v1, vs1, d1, ds1, p1, q1, rfl, rfl, rfl, h1, r1⟩ := trodAll_cons r0
  obtain ⟨v2, vs2, d2, ds2, p2, q2, rfl, rfl, rfl, h2, r2⟩ := trodAll_cons r1
  obtain ⟨rfl, rfl, rfl⟩ := trodAll_nil r2
  obtain rfl : args = #[v0, v1, v2] := by cases args; simp_all
  obtain ⟨rfl, rfl⟩ := trodVars_none hV
  have k0 := h0
  have lt0 : ∀ x ∈ p0, x.block < W.heap.size := by obtain ⟨m, hm⟩ := k0; exact DataW.trod_lt m _ _ _ hm
  have k1 := h1
  have lt1 : ∀ x ∈ p1, x.block < W.heap.size := by obtain ⟨m, hm⟩ := k1; exact DataW.trod_lt m _ _ _ hm
  have k2 := h2
  have lt2 : ∀ x ∈ p2, x.block < W.heap.size := by obtain ⟨m, hm⟩ := k2; exact DataW.trod_lt m _ _ _ hm
  obtain ⟨s0, n0, c0, V0, rfl, m0, R0⟩ := open_PlantS Try.underlying22 Try.underlying58 (by kernel_rfl) rfl rfl rfl rfl rfl (by kernel_rfl) (by kernel_rfl) (by kernel_rfl) (by kernel_rfl) (by kernel_rfl) (by kernel_rfl) (by kernel_rfl) (by kernel_rfl) (by kernel_rfl) (by kernel_rfl) (hval 0 22 v0 rfl rfl) h0
  obtain ⟨s1, n1, c1, V1, rfl, m1, R1⟩ := open_bools Try.underlying23 Try.underlying4 (by kernel_rfl) (hval 1 23 v1 rfl rfl) h1
  obtain ⟨a2, rfl, rfl, rfl, w2⟩ := open_int Try.underlying2 (hval 2 2 v2 rfl rfl) h2
  clear hA0 hval0
  refine (fnExactMerit_walk W s0 n0 c0 V0 m0 R0 s1 n1 c1 V1 m1 R1 a2 w2).mono fun e W' ⟨he, bel⟩ => ?_
  subst he
  exact ⟨_, rfl, _, _, _, [], _, [], hW', trodAll_mk1 (shut_bool Try.underlying4 _), (trodAll_cons_mk (Below.trod laidOut (by kernel_rfl) (of_decide_eq_true (by kernel_rfl)) k0 bel lt0) (trodAll_cons_mk (Below.trod laidOut (by kernel_rfl) (of_decide_eq_true (by kernel_rfl)) k1 bel lt1) (trodAll_cons_mk (Below.trod laidOut (by kernel_rfl) (of_decide_eq_true (by kernel_rfl)) k2 bel lt2) trodAll_mk0))), rfl, bel.frame _, fun h => by cases h⟩

theorem fnExactMerit_holds : Rows.FnExactMeritSaid :=
  OpenClaim.holds_of_wide 3 Try.f3 rfl rfl rfl rfl rfl rfl rfl ⟨rfl, rfl, rfl, rfl, rfl⟩ rfl rfl rfl rfl rfl (by kernel_rfl) Try.func3 (by kernel_rfl)
    (of_decide_eq_true (by kernel_rfl)) (by unfold Func.isWrapper; first | (rw [if_pos (by decide +kernel)]; kernel_rfl) | (rw [if_neg (by decide +kernel)]; exact ⟨rfl, rfl⟩))
    (fun os started H enc _ => fnExactMerit_lifted os started H enc)
#print axioms fnExactMerit_holds
end Go.Proofs.Ytoljghhcgphgmaa
