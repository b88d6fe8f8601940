/-
What is proved: at every course impl.Rain answers as the specification's Rain, leaves the course alone, and its answer owns its memory; no condition.
-/
import Derived.Test.YthengechoaodcaaRnS
import Derived.Test.YthengechoaodcaaRnI
import Derived.Test.YthengechoaodcaaSwgX
import Derived.Test.YthengechoaodcaaI64R2
import Derived.Test.YthengechoaodcaaOpenI
namespace Go.Proofs.Ythengechoaodcaa
set_option maxRecDepth 40000
open Go.ChangeShapes Go.WideShapes Go.ChangeAt Go.RowKit
set_option linter.unusedVariables false
set_option linter.unusedSimpArgs false

theorem rain_fit {w : World} {L : List (Int × Int)} {ev : Ending} {w' : World} (h : RainP w L ev w') : ∃ (s : Option Addr) (c : Nat) (S : Nat → Prop), ev = .returned (.slice s L.length c) ∧ (∀ k, S k → w.heap.size ≤ k ∧ k < w'.heap.size) ∧ SwingR S w' s L.length (fun j => L.getD j (0, 0)) ∧ Below w.heap.size w w' := by
  obtain ⟨s, c, h1, h2, h3⟩ := h
  refine ⟨s, c, fun k => s = some ⟨k, 0, none⟩ ∧ w.heap.size ≤ k ∧ k < w'.heap.size, h1, fun k hk => hk.2, ⟨h2.mono (Nat.zero_le _), fun hn b e => ?_⟩, h3⟩
  obtain ⟨b', e', hb, hl, _⟩ := h2 0 hn
  rw [e] at e'
  cases e'
  exact ⟨e, hb, hl⟩
theorem rainL_lt (n : Nat) (V : Nat → Int) : (((rainL (turnL n V)).length : Nat) : Int) ≤ 1048576 := by
  have h1 := rainL_le (turnL n V)
  have h2 := turnL_400 n V
  omega
set_option maxRecDepth 20000 in
set_option maxHeartbeats 8000000 in
theorem rain_near (w : World) (n0 : Nat) (V0 : Nat → Int) (s0 : Option Addr) (c0 : Nat) (hn0 : (n0 : Int) ≤ 1048576) (HR0 : Hid (RowI w s0 n0 V0))  (nr0 : Nat) (Vr0 : Nat → Int × Int) (hnr0 : (nr0 : Int) ≤ 1048576)
    (H1 : Hid (∀ (s0 : Option Addr) (c0 : Nat) w, RowI w s0 n0 V0 → Calls Try.prog 9 #[.slice s0 n0 c0] w fun e w' => ∃ (s'r0 : Option Addr) (c'r0 : Nat) (S0 : Nat → Prop), e = .returned (.slice s'r0 nr0 c'r0) ∧ (∀ k, S0 k → w.heap.size ≤ k ∧ k < w'.heap.size) ∧ SwingR S0 w' s'r0 nr0 Vr0 ∧ Below w.heap.size w w'))
    (H2 : Hid (∀ (s0 : Option Addr) (c0 : Nat) w, RowI w s0 n0 V0 → Calls Try.prog 11 #[.slice s0 n0 c0] w fun e w' => ∃ (s'r0 : Option Addr) (c'r0 : Nat) (S0 : Nat → Prop), e = .returned (.slice s'r0 nr0 c'r0) ∧ (∀ k, S0 k → w.heap.size ≤ k ∧ k < w'.heap.size) ∧ SwingR S0 w' s'r0 nr0 Vr0 ∧ Below w.heap.size w w')) :
    Calls Try.prog 3 #[.slice s0 n0 c0] w fun e w' => e = .returned (.bool true) ∧ Below w.heap.size w w' := by
  have sto := store_slT
  go_enter Try.func3, Try.ntmps3
  have B0 : Below w.heap.size w w := Below.refl _ _
  go_wp2_with fail
  refine (toInt64S_r s0 n0 c0 V0 _ hn0 (HR0.out.below B0)).mono ?_
  rintro e w1 ⟨st0, St0, rfl, Q, O, hh⟩
  have hb : Below w.heap.size w w1 := Below.trans (by repeat (first | with_reducible exact Below.refl _ _ | with_reducible refine Below.setCell ?_ (by first | omega | (simp; done) | (simp; omega)) _ | with_reducible refine bDrewN ?_ _ | with_reducible refine Below.drew ?_ | with_reducible refine Below.alloc ?_ (by first | omega | (simp; done) | (simp; omega)) _)) (hh.mono (by first | omega | (simp; done) | (simp; omega)))
  have lw1 : w.heap.size ≤ w1.heap.size := hb.size
  replace B0 : Below w.heap.size w w1 := B0.trans (hb.mono B0.size)
  clear hb hh
  have Qt0 : Hid (∀ k, St0 k → w.heap.size ≤ k ∧ k < w1.heap.size) := (show ∀ k, St0 k → w.heap.size ≤ k ∧ k < w1.heap.size from by simpa using Q)
  have Ot0 : Hid (I64R St0 w1 st0 n0 V0) := O
  clear O Q
  go_wp2_with fail
  refine (H1.out st0 _ _ (Ot0.out.row)).mono ?_
  rintro e w2 ⟨sWr0, cWr0, SW0, rfl, Q0, O0, hh⟩
  have hb : Below w1.heap.size w1 w2 := Below.trans (by repeat (first | with_reducible exact Below.refl _ _ | with_reducible refine Below.setCell ?_ (by first | omega | (simp; done) | (simp; omega)) _ | with_reducible refine bDrewN ?_ _ | with_reducible refine Below.drew ?_ | with_reducible refine Below.alloc ?_ (by first | omega | (simp; done) | (simp; omega)) _)) (hh.mono (by first | omega | (simp; done) | (simp; omega)))
  have lw2 : w1.heap.size ≤ w2.heap.size := hb.size
  replace Ot0 : Hid (I64R St0 w2 st0 n0 V0) := Ot0.out.below hb
  replace B0 : Below w.heap.size w w2 := B0.trans (hb.mono B0.size)
  clear hb hh
  clear Ot0 Qt0 
  have Bs : Below w2.heap.size w2 w2 := Below.refl _ _
  have RW0 : Hid (RowSwing w2 sWr0 nr0 Vr0) := O0.row
  clear O0 Q0 
  go_wp2_with fail
  refine (toInt64S_r s0 n0 c0 V0 _ hn0 (HR0.out.below B0)).mono ?_
  rintro e w3 ⟨sx0, Sx0, rfl, Q, O, hh⟩
  have hb : Below w2.heap.size w2 w3 := Below.trans (by repeat (first | with_reducible exact Below.refl _ _ | with_reducible refine Below.setCell ?_ (by first | omega | (simp; done) | (simp; omega)) _ | with_reducible refine bDrewN ?_ _ | with_reducible refine Below.drew ?_ | with_reducible refine Below.alloc ?_ (by first | omega | (simp; done) | (simp; omega)) _)) (hh.mono (by first | omega | (simp; done) | (simp; omega)))
  have lw3 : w2.heap.size ≤ w3.heap.size := hb.size
  replace Bs : Below w2.heap.size w2 w3 := Bs.trans (hb.mono Bs.size)
  replace B0 : Below w.heap.size w w3 := B0.trans (hb.mono B0.size)
  clear hb hh
  have Qx0 : Hid (∀ k, Sx0 k → w2.heap.size ≤ k ∧ k < w3.heap.size) := (show ∀ k, Sx0 k → w2.heap.size ≤ k ∧ k < w3.heap.size from by simpa using Q)
  have Ox0 : Hid (I64R Sx0 w3 sx0 n0 V0) := O
  clear O Q
  go_wp2_with fail
  refine (H2.out sx0 _ _ (Ox0.out.row)).mono ?_
  rintro e w4 ⟨sgr0, cgr0, Sg0, rfl, Q0, O0, hh⟩
  have hb : Below w3.heap.size w3 w4 := Below.trans (by repeat (first | with_reducible exact Below.refl _ _ | with_reducible refine Below.setCell ?_ (by first | omega | (simp; done) | (simp; omega)) _ | with_reducible refine bDrewN ?_ _ | with_reducible refine Below.drew ?_ | with_reducible refine Below.alloc ?_ (by first | omega | (simp; done) | (simp; omega)) _)) (hh.mono (by first | omega | (simp; done) | (simp; omega)))
  have lw4 : w3.heap.size ≤ w4.heap.size := hb.size
  replace Ox0 : Hid (I64R Sx0 w4 sx0 n0 V0) := Ox0.out.below hb
  replace Bs : Below w2.heap.size w2 w4 := Bs.trans (hb.mono Bs.size)
  replace B0 : Below w.heap.size w w4 := B0.trans (hb.mono B0.size)
  clear hb hh
  have Qg0 : Hid (∀ k, Sg0 k → w3.heap.size ≤ k ∧ k < w4.heap.size) := (show ∀ k, Sg0 k → w3.heap.size ≤ k ∧ k < w4.heap.size from by simpa using Q0)
  have Og0 : Hid (SwingR Sg0 w4 sgr0 nr0 Vr0) := O0
  clear O0 Q0
  go_wp2_with fail
  refine (eqSwingS_any sgr0 sWr0 nr0 _ _ Vr0 _ hnr0 (Og0.out.row) (RW0.out.below Bs)).mono ?_
  rintro e w5 ⟨rfl, hh⟩
  have hb : Below w4.heap.size w4 w5 := Below.trans (by repeat (first | with_reducible exact Below.refl _ _ | with_reducible refine Below.setCell ?_ (by first | omega | (simp; done) | (simp; omega)) _ | with_reducible refine bDrewN ?_ _ | with_reducible refine Below.drew ?_ | with_reducible refine Below.alloc ?_ (by first | omega | (simp; done) | (simp; omega)) _)) (hh.mono (by first | omega | (simp; done) | (simp; omega)))
  have lw5 : w4.heap.size ≤ w5.heap.size := hb.size
  replace Ox0 : Hid (I64R Sx0 w5 sx0 n0 V0) := Ox0.out.below hb
  replace Og0 : Hid (SwingR Sg0 w5 sgr0 nr0 Vr0) := Og0.out.below hb
  replace Bs : Below w2.heap.size w2 w5 := Bs.trans (hb.mono Bs.size)
  replace B0 : Below w.heap.size w w5 := B0.trans (hb.mono B0.size)
  clear hb hh
  go_wp2_with fail
  refine (toInt64S_r s0 n0 c0 V0 _ hn0 (HR0.out.below B0)).mono ?_
  rintro e w6 ⟨sy0, Sy0, rfl, Q, O, hh⟩
  have hb : Below w5.heap.size w5 w6 := Below.trans (by repeat (first | with_reducible exact Below.refl _ _ | with_reducible refine Below.setCell ?_ (by first | omega | (simp; done) | (simp; omega)) _ | with_reducible refine bDrewN ?_ _ | with_reducible refine Below.drew ?_ | with_reducible refine Below.alloc ?_ (by first | omega | (simp; done) | (simp; omega)) _)) (hh.mono (by first | omega | (simp; done) | (simp; omega)))
  have lw6 : w5.heap.size ≤ w6.heap.size := hb.size
  replace Ox0 : Hid (I64R Sx0 w6 sx0 n0 V0) := Ox0.out.below hb
  replace Og0 : Hid (SwingR Sg0 w6 sgr0 nr0 Vr0) := Og0.out.below hb
  replace Bs : Below w2.heap.size w2 w6 := Bs.trans (hb.mono Bs.size)
  replace B0 : Below w.heap.size w w6 := B0.trans (hb.mono B0.size)
  clear hb hh
  have Qy0 : Hid (∀ k, Sy0 k → w5.heap.size ≤ k ∧ k < w6.heap.size) := (show ∀ k, Sy0 k → w5.heap.size ≤ k ∧ k < w6.heap.size from by simpa using Q)
  have Oy0 : Hid (I64R Sy0 w6 sy0 n0 V0) := O
  clear O Q
  go_wp2_with fail
  refine (eqInt64S_any _ _ n0 _ _ V0 _ hn0 (Ox0.out.row) (Oy0.out.row)).mono ?_
  rintro e w7 ⟨rfl, hh⟩
  have hb : Below w6.heap.size w6 w7 := Below.trans (by repeat (first | with_reducible exact Below.refl _ _ | with_reducible refine Below.setCell ?_ (by first | omega | (simp; done) | (simp; omega)) _ | with_reducible refine bDrewN ?_ _ | with_reducible refine Below.drew ?_ | with_reducible refine Below.alloc ?_ (by first | omega | (simp; done) | (simp; omega)) _)) (hh.mono (by first | omega | (simp; done) | (simp; omega)))
  have lw7 : w6.heap.size ≤ w7.heap.size := hb.size
  replace Ox0 : Hid (I64R Sx0 w7 sx0 n0 V0) := Ox0.out.below hb
  replace Og0 : Hid (SwingR Sg0 w7 sgr0 nr0 Vr0) := Og0.out.below hb
  replace Oy0 : Hid (I64R Sy0 w7 sy0 n0 V0) := Oy0.out.below hb
  replace Bs : Below w2.heap.size w2 w7 := Bs.trans (hb.mono Bs.size)
  replace B0 : Below w.heap.size w w7 := B0.trans (hb.mono B0.size)
  clear hb hh
  clear Oy0 Qy0 
  go_wp2_with fail
  refine (markInt64S_r Sx0 _ n0 _ (1) V0 _ hn0 (by omega) (by omega) Ox0.out).mono ?_
  rintro e w8 ⟨rfl, -, T⟩
  have lw8 : w7.heap.size ≤ w8.heap.size := T.size
  replace Og0 : Hid (SwingR Sg0 w8 sgr0 nr0 Vr0) := Og0.out.keep T.size (fun k hk hl => T.2.2.2.2 k hl (fun q => by have := Qx0.out k q; have := Qg0.out k hk; omega))
  replace Bs : Below w2.heap.size w2 w8 := Bs.trans (T.below (fun k q => by have := Qx0.out k q; omega) (by omega))
  replace B0 : Below w.heap.size w w8 := B0.trans (T.below (fun k q => by have := Qx0.out k q; omega) (by omega))
  clear T Ox0
  go_wp2_with fail
  refine (eqSwingS_any sgr0 sWr0 nr0 _ _ Vr0 _ hnr0 (Og0.out.row) (RW0.out.below Bs)).mono ?_
  rintro e w9 ⟨rfl, hh⟩
  have hb : Below w8.heap.size w8 w9 := Below.trans (by repeat (first | with_reducible exact Below.refl _ _ | with_reducible refine Below.setCell ?_ (by first | omega | (simp; done) | (simp; omega)) _ | with_reducible refine bDrewN ?_ _ | with_reducible refine Below.drew ?_ | with_reducible refine Below.alloc ?_ (by first | omega | (simp; done) | (simp; omega)) _)) (hh.mono (by first | omega | (simp; done) | (simp; omega)))
  have lw9 : w8.heap.size ≤ w9.heap.size := hb.size
  replace Og0 : Hid (SwingR Sg0 w9 sgr0 nr0 Vr0) := Og0.out.below hb
  replace Bs : Below w2.heap.size w2 w9 := Bs.trans (hb.mono Bs.size)
  replace B0 : Below w.heap.size w w9 := B0.trans (hb.mono B0.size)
  clear hb hh
  clear Qx0
  go_wp2_with fail
  refine (markSwingS_x Sg0 _ nr0 _ (1) Vr0 _ hnr0 (by omega) (by omega) Og0.out).mono ?_
  rintro e w10 ⟨rfl, OM, T⟩
  have lw10 : w9.heap.size ≤ w10.heap.size := T.size
  replace Bs : Below w2.heap.size w2 w10 := Bs.trans (T.below (fun k q => by have := Qg0.out k q; omega) (by omega))
  replace B0 : Below w.heap.size w w10 := B0.trans (T.below (fun k q => by have := Qg0.out k q; omega) (by omega))
  replace Og0 : Hid (SwingR Sg0 w10 sgr0 nr0 (eSw (1))) := OM
  clear T OM
  go_wp2_with fail
  refine (heldSwingS_any _ nr0 _ (1) _ hnr0 (by omega) (by omega) (Og0.out.row)).mono ?_
  rintro e w10 ⟨rfl, rfl⟩
  go_wp2_with fail
  refine (toInt64S_r s0 n0 c0 V0 _ hn0 (HR0.out.below B0)).mono ?_
  rintro e w11 ⟨sv0, Sv0, rfl, Q, O, hh⟩
  have hb : Below w10.heap.size w10 w11 := Below.trans (by repeat (first | with_reducible exact Below.refl _ _ | with_reducible refine Below.setCell ?_ (by first | omega | (simp; done) | (simp; omega)) _ | with_reducible refine bDrewN ?_ _ | with_reducible refine Below.drew ?_ | with_reducible refine Below.alloc ?_ (by first | omega | (simp; done) | (simp; omega)) _)) (hh.mono (by first | omega | (simp; done) | (simp; omega)))
  have lw11 : w10.heap.size ≤ w11.heap.size := hb.size
  replace Og0 : Hid (SwingR Sg0 w11 sgr0 nr0 (eSw (1))) := Og0.out.below hb
  replace Bs : Below w2.heap.size w2 w11 := Bs.trans (hb.mono Bs.size)
  replace B0 : Below w.heap.size w w11 := B0.trans (hb.mono B0.size)
  clear hb hh
  have Qv0 : Hid (∀ k, Sv0 k → w10.heap.size ≤ k ∧ k < w11.heap.size) := (show ∀ k, Sv0 k → w10.heap.size ≤ k ∧ k < w11.heap.size from by simpa using Q)
  have Ov0 : Hid (I64R Sv0 w11 sv0 n0 V0) := O
  clear O Q
  go_wp2_with fail
  refine (H2.out sv0 _ _ (Ov0.out.row)).mono ?_
  rintro e w12 ⟨shr0, chr0, Sh0, rfl, Q0, O0, hh⟩
  have hb : Below w11.heap.size w11 w12 := Below.trans (by repeat (first | with_reducible exact Below.refl _ _ | with_reducible refine Below.setCell ?_ (by first | omega | (simp; done) | (simp; omega)) _ | with_reducible refine bDrewN ?_ _ | with_reducible refine Below.drew ?_ | with_reducible refine Below.alloc ?_ (by first | omega | (simp; done) | (simp; omega)) _)) (hh.mono (by first | omega | (simp; done) | (simp; omega)))
  have lw12 : w11.heap.size ≤ w12.heap.size := hb.size
  replace Og0 : Hid (SwingR Sg0 w12 sgr0 nr0 (eSw (1))) := Og0.out.below hb
  replace Ov0 : Hid (I64R Sv0 w12 sv0 n0 V0) := Ov0.out.below hb
  replace Bs : Below w2.heap.size w2 w12 := Bs.trans (hb.mono Bs.size)
  replace B0 : Below w.heap.size w w12 := B0.trans (hb.mono B0.size)
  clear hb hh
  clear Ov0 Qv0 
  have Rh0 : Hid (RowSwing w12 shr0 nr0 Vr0) := O0.row
  clear O0 Q0 
  have Bh : Below w12.heap.size w12 w12 := Below.refl _ _
  go_wp2_with fail
  refine (eqSwingS_any shr0 sWr0 nr0 _ _ Vr0 _ hnr0 ((Rh0.out.below (Below.mono (B := w12.heap.size) (Bh) (Nat.le_refl _)))) (RW0.out.below Bs)).mono ?_
  rintro e w13 ⟨rfl, hh⟩
  have hb : Below w12.heap.size w12 w13 := Below.trans (by repeat (first | with_reducible exact Below.refl _ _ | with_reducible refine Below.setCell ?_ (by first | omega | (simp; done) | (simp; omega)) _ | with_reducible refine bDrewN ?_ _ | with_reducible refine Below.drew ?_ | with_reducible refine Below.alloc ?_ (by first | omega | (simp; done) | (simp; omega)) _)) (hh.mono (by first | omega | (simp; done) | (simp; omega)))
  have lw13 : w12.heap.size ≤ w13.heap.size := hb.size
  replace Og0 : Hid (SwingR Sg0 w13 sgr0 nr0 (eSw (1))) := Og0.out.below hb
  replace Bs : Below w2.heap.size w2 w13 := Bs.trans (hb.mono Bs.size)
  replace B0 : Below w.heap.size w w13 := B0.trans (hb.mono B0.size)
  replace Bh : Below w12.heap.size w12 w13 := Bh.trans (hb.mono Bh.size)
  clear hb hh
  go_wp2_with fail
  refine (heldSwingS_any _ nr0 _ (1) _ hnr0 (by omega) (by omega) (Og0.out.row)).mono ?_
  rintro e w13 ⟨rfl, rfl⟩
  go_wp2
  go_ret
  exact ⟨rfl, B0⟩
set_option maxHeartbeats 800000 in
theorem rain_farn0 (w : World) (n0 : Nat) (V0 : Nat → Int) (s0 : Option Addr) (c0 : Nat)  (g : (1048576 : Int) < n0) :
    Calls Try.prog 3 #[.slice s0 n0 c0] w fun e w' => e = .returned (.bool true) ∧ Below w.heap.size w w' := by
  go_enter Try.func3, Try.ntmps3
  go_wp2
  go_ret
  exact ⟨rfl, (by repeat (first | with_reducible exact Below.refl _ _ | with_reducible refine Below.setCell ?_ (by first | omega | (simp; done) | (simp; omega)) _ | with_reducible refine bDrewN ?_ _ | with_reducible refine Below.drew ?_ | with_reducible refine Below.alloc ?_ (by first | omega | (simp; done) | (simp; omega)) _))⟩
theorem fnExactRain_walk (w : World) (s0 : Option Addr) (n0 c0 : Nat) (V0 : Nat → Int) (m0 : n0 ≤ 9223372036854775807) (R0 : RowI w s0 n0 V0) (w0 : ∀ j, j < n0 → -9223372036854775808 ≤ V0 j ∧ V0 j ≤ 9223372036854775807) :
    Calls Try.prog 3 #[.slice s0 n0 c0] w fun e w' => e = .returned (.bool true) ∧ Below w.heap.size w w' := by
  by_cases qn0 : (n0 : Int) ≤ 1048576
  case neg => exact rain_farn0 w n0 V0 s0 c0  (by omega)
  exact rain_near w n0 V0 s0 c0 (by omega) R0  (rainL (turnL n0 V0)).length (fun j => (rainL (turnL n0 V0)).getD j (0, 0)) (rainL_lt n0 V0) (fun s c w x => (specRain_any s n0 c V0 w (by omega) x).mono fun ev w' h => rain_fit h) (fun s c w x => (implRain_any s n0 c V0 w (by omega) x).mono fun ev w' h => rain_fit h)

set_option maxRecDepth 100000 in
theorem fnExactRain_lifted (os : Os) (started : os.Started) (H : Type) (enc : TypeId × Value → H) :
    ReturnsInHanded {} Try.checked os 3 .any (Rows.fnExactRainSpec.pre6 enc Try.prog Try.f3 Rows.fnExactRainRow.domain false) (Rows.fnExactRainSpec.post enc Try.prog Try.f3 false true false false) := by
  refine returnsInHanded_of_change (C := Try.checked) own started (by kernel_rfl) Try.func3
    (ChangeSpec.witness6 (enc := enc) (C := Try.checked) false ⟨#[], #[.slice none 0 0], []⟩ 8 (by kernel_rfl) (by kernel_rfl) (by kernel_rfl) (by kernel_rfl)) ?_
  intro W base args ds gs before hval0 hW hcnd _
  have hval : ∀ (j : Nat) t v, Try.f3.params[j]? = some t → args[j]? = some v → Value.okWide Try.prog W .any base t v := hval0
  have hW' := hW
  obtain ⟨p, q, hA0, hV, rfl, hfz, hnd⟩ := hW
  have hA : DataW.TrodAll enc Try.prog W 0 (fun _ => true) true Try.f3.params.toList args.toList ds p := hA0
  rw [Try.params3] at hA hval
  obtain ⟨v0, vs0, d0, ds0, p0, q0, hargs, rfl, rfl, h0, r0⟩ := trodAll_cons hA
  obtain ⟨rfl, rfl, rfl⟩ := trodAll_nil r0
  obtain rfl : args = #[v0] := by cases args; simp_all
  obtain ⟨rfl, rfl⟩ := trodVars_none hV
  have k0 := h0
  have lt0 : ∀ x ∈ p0, x.block < W.heap.size := by obtain ⟨m, hm⟩ := k0; exact DataW.trod_lt m _ _ _ hm
  obtain ⟨s0, n0, c0, V0, rfl, m0, R0, w0⟩ := open_i64s Try.underlying22 Try.underlying2 (by kernel_rfl) (hval 0 22 v0 rfl rfl) h0
  clear hA0 hval0
  refine (fnExactRain_walk W s0 n0 c0 V0 m0 R0 w0).mono fun e W' ⟨he, bel⟩ => ?_
  subst he
  exact ⟨_, rfl, _, _, _, [], _, [], hW', trodAll_mk1 (shut_bool Try.underlying4 _), (trodAll_cons_mk (Below.trod laidOut (by kernel_rfl) (of_decide_eq_true (by kernel_rfl)) k0 bel lt0) trodAll_mk0), rfl, bel.frame _, fun h => by cases h⟩

theorem fnExactRain_holds : Rows.FnExactRainSaid :=
  OpenClaim.holds_of_wide 3 Try.f3 rfl rfl rfl rfl rfl rfl rfl ⟨rfl, rfl, rfl, rfl, rfl⟩ rfl rfl rfl rfl rfl (by kernel_rfl) Try.func3 (by kernel_rfl)
    (of_decide_eq_true (by kernel_rfl)) (by unfold Func.isWrapper; first | (rw [if_pos (by decide +kernel)]; kernel_rfl) | (rw [if_neg (by decide +kernel)]; exact ⟨rfl, rfl⟩))
    (fun os started H enc _ => fnExactRain_lifted os started H enc)
#print axioms fnExactRain_holds
end Go.Proofs.Ythengechoaodcaa
