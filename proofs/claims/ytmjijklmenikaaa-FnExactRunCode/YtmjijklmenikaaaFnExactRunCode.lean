/-
What is proved: at every code, number of cells, outs and rows impl.RunCode answers as the specification's RunCode, leaves its arguments as they were, and its answer owns its memory; no condition.
-/
import Derived.Test.YtmjijklmenikaaaRcI
import Derived.Test.YtmjijklmenikaaaRcS
import Derived.Test.YtmjijklmenikaaaInsR
import Derived.Test.YtmjijklmenikaaaI64R2
import Derived.Test.YtmjijklmenikaaaLLO
namespace Go.Proofs.Ytmjijklmenikaaa
set_option maxRecDepth 40000
open Go.ChangeShapes Go.WideShapes Go.ChangeAt Go.RowKit
set_option linter.unusedVariables false
set_option linter.unusedSimpArgs false

theorem rc_fit {w : World} {n : Nat} {V : Nat → Int} {C : Int} {no : Nat} {Os : Nat → Int} {nr : Nat} {J : Nat → Nat} {I : Nat → Nat → Int} {e : Ending} {w' : World} (h : RcPost w n V C no Os nr J I e w') : ∃ (s : Option Addr) (c : Nat) (S : Nat → Prop), e = .returned (.tuple #[.slice s (if rcB n V C no Os nr J I = true then nr else 0) c, .bool (rcB n V C no Os nr J I)]) ∧ (∀ k, S k → w.heap.size ≤ k ∧ k < w'.heap.size) ∧ LLR S w' s (if rcB n V C no Os nr J I = true then nr else 0) (fun _ => no) (rcU n V Os I) ∧ Below w.heap.size w w' := by
  obtain ⟨s, c, h1, h2, h3⟩ := h
  exact ⟨s, c, _, h1, fun k hk => hk, h2, h3⟩
theorem suK_const (no m : Nat) : suK (fun _ => no) m = m * no := by
  induction m with
  | zero => simp [suK]
  | succ m ih => rw [suK, ih, Nat.succ_mul]
theorem rc_le (n : Nat) (V : Nat → Int) (C : Int) (no : Nat) (Os : Nat → Int) (nr : Nat) (J : Nat → Nat) (I : Nat → Nat → Int) : (((if rcB n V C no Os nr J I = true then nr else 0 : Nat) : Int) + (suK (fun _ => no) (if rcB n V C no Os nr J I = true then nr else 0) : Int)) ≤ 1048576 := by
  split
  · rename_i h
    unfold rcB at h
    simp only [Bool.and_eq_true, decide_eq_true_iff] at h
    rw [suK_const]
    have h1 := h.2.1
    have h2 := h.2.2.1
    have := Nat.mul_le_mul h1 h2
    omega
  · simp [suK]
set_option maxRecDepth 20000 in
set_option maxHeartbeats 8000000 in
theorem runCode_near (w : World) (n0 : Nat) (V0 : Nat → Int) (s0 : Option Addr) (c0 : Nat) (hn0 : (n0 : Int) ≤ 1048576) (HR0 : Hid (RowIns w s0 n0 V0)) (a1 : Int) (n2 : Nat) (V2 : Nat → Int) (s2 : Option Addr) (c2 : Nat) (hn2 : (n2 : Int) ≤ 1048576) (HR2 : Hid (RowI w s2 n2 V2)) (n3 : Nat) (K3 : Nat → Nat) (V3 : Nat → Nat → Int) (s3 : Option Addr) (c3 : Nat) (hn3 : ((n3 : Int) + (suK K3 n3 : Int)) ≤ 1048576) (HR3 : Hid (RowLL w s3 n3 K3 V3)) (gn0 : (n0 : Int) ≤ 1048576) (gn3 : ((n3 : Int) + (suK K3 n3 : Int)) ≤ 1048576 - n0) (nr0 : Nat) (Kr0 : Nat → Nat) (Vr0 : Nat → Nat → Int) (hnr0 : ((nr0 : Int) + (suK Kr0 nr0 : Int)) ≤ 1048576) (ar1 : Bool)
    (H1 : Hid (∀ (s0 : Option Addr) (c0 : Nat) (s2 : Option Addr) (c2 : Nat) (s3 : Option Addr) (c3 : Nat) w, RowIns w s0 n0 V0 → RowI w s2 n2 V2 → RowLL w s3 n3 K3 V3 → Calls Try.prog 8 #[.slice s0 n0 c0, .int .i64 a1, .slice s2 n2 c2, .slice s3 n3 c3] w fun e w' => ∃ (s'r0 : Option Addr) (c'r0 : Nat) (S0 : Nat → Prop), e = .returned (.tuple #[.slice s'r0 nr0 c'r0, .bool ar1]) ∧ (∀ k, S0 k → w.heap.size ≤ k ∧ k < w'.heap.size) ∧ LLR S0 w' s'r0 nr0 Kr0 Vr0 ∧ Below w.heap.size w w'))
    (H2 : Hid (∀ (s0 : Option Addr) (c0 : Nat) (s2 : Option Addr) (c2 : Nat) (s3 : Option Addr) (c3 : Nat) w, RowIns w s0 n0 V0 → RowI w s2 n2 V2 → RowLL w s3 n3 K3 V3 → Calls Try.prog 12 #[.slice s0 n0 c0, .int .i64 a1, .slice s2 n2 c2, .slice s3 n3 c3] w fun e w' => ∃ (s'r0 : Option Addr) (c'r0 : Nat) (S0 : Nat → Prop), e = .returned (.tuple #[.slice s'r0 nr0 c'r0, .bool ar1]) ∧ (∀ k, S0 k → w.heap.size ≤ k ∧ k < w'.heap.size) ∧ LLR S0 w' s'r0 nr0 Kr0 Vr0 ∧ Below w.heap.size w w')) :
    Calls Try.prog 3 #[.slice s0 n0 c0, .int .i64 a1, .slice s2 n2 c2, .slice s3 n3 c3] w fun e w' => e = .returned (.bool true) ∧ Below w.heap.size w w' := by
  have sto := store_slT
  go_enter Try.func3, Try.ntmps3
  go_wp2_with fail
  refine (szInstrS_on _ n0 _ _ _ (by omega) (by omega) (by omega)).mono ?_
  rintro e w ⟨rfl, rfl⟩
  go_wp2_with fail
  refine (szInt64SS_on _ n3 _ K3 V3 _ _ (by omega) (by omega) (by omega) HR3.out).mono ?_
  rintro e w ⟨rfl, rfl⟩
  have B0 : Below w.heap.size w w := Below.refl _ _
  go_wp2_with fail
  refine (toInstrS_r s0 n0 c0 V0 _ hn0 (HR0.out.below B0)).mono ?_
  rintro e w1 ⟨st0, St0, rfl, Q, O, hh⟩
  have hb : Below w.heap.size w w1 := Below.trans (by repeat (first | with_reducible exact Below.refl _ _ | with_reducible refine Below.setCell ?_ (by first | omega | (simp; done) | (simp; omega)) _ | with_reducible refine bDrewN ?_ _ | with_reducible refine Below.drew ?_ | with_reducible refine Below.alloc ?_ (by first | omega | (simp; done) | (simp; omega)) _)) (hh.mono (by first | omega | (simp; done) | (simp; omega)))
  have lw1 : w.heap.size ≤ w1.heap.size := hb.size
  replace B0 : Below w.heap.size w w1 := B0.trans (hb.mono B0.size)
  clear hb hh
  have Qt0 : Hid (∀ k, St0 k → w.heap.size ≤ k ∧ k < w1.heap.size) := (show ∀ k, St0 k → w.heap.size ≤ k ∧ k < w1.heap.size from by simpa using Q)
  have Ot0 : Hid (InsR St0 w1 st0 n0 V0) := O
  clear O Q
  go_wp2_with fail
  refine (toInt64S_r s2 n2 c2 V2 _ hn2 (HR2.out.below B0)).mono ?_
  rintro e w2 ⟨st2, St2, rfl, Q, O, hh⟩
  have hb : Below w1.heap.size w1 w2 := Below.trans (by repeat (first | with_reducible exact Below.refl _ _ | with_reducible refine Below.setCell ?_ (by first | omega | (simp; done) | (simp; omega)) _ | with_reducible refine bDrewN ?_ _ | with_reducible refine Below.drew ?_ | with_reducible refine Below.alloc ?_ (by first | omega | (simp; done) | (simp; omega)) _)) (hh.mono (by first | omega | (simp; done) | (simp; omega)))
  have lw2 : w1.heap.size ≤ w2.heap.size := hb.size
  replace Ot0 : Hid (InsR St0 w2 st0 n0 V0) := Ot0.out.below hb
  replace B0 : Below w.heap.size w w2 := B0.trans (hb.mono B0.size)
  clear hb hh
  have Qt2 : Hid (∀ k, St2 k → w1.heap.size ≤ k ∧ k < w2.heap.size) := (show ∀ k, St2 k → w1.heap.size ≤ k ∧ k < w2.heap.size from by simpa using Q)
  have Ot2 : Hid (I64R St2 w2 st2 n2 V2) := O
  clear O Q
  go_wp2_with fail
  refine (toInt64SS_r s3 n3 c3 K3 V3 _ hn3 (HR3.out.below B0)).mono ?_
  rintro e w3 ⟨st3, St3, rfl, Q, O, hh⟩
  have hb : Below w2.heap.size w2 w3 := Below.trans (by repeat (first | with_reducible exact Below.refl _ _ | with_reducible refine Below.setCell ?_ (by first | omega | (simp; done) | (simp; omega)) _ | with_reducible refine bDrewN ?_ _ | with_reducible refine Below.drew ?_ | with_reducible refine Below.alloc ?_ (by first | omega | (simp; done) | (simp; omega)) _)) (hh.mono (by first | omega | (simp; done) | (simp; omega)))
  have lw3 : w2.heap.size ≤ w3.heap.size := hb.size
  replace Ot0 : Hid (InsR St0 w3 st0 n0 V0) := Ot0.out.below hb
  replace Ot2 : Hid (I64R St2 w3 st2 n2 V2) := Ot2.out.below hb
  replace B0 : Below w.heap.size w w3 := B0.trans (hb.mono B0.size)
  clear hb hh
  have Qt3 : Hid (∀ k, St3 k → w2.heap.size ≤ k ∧ k < w3.heap.size) := (show ∀ k, St3 k → w2.heap.size ≤ k ∧ k < w3.heap.size from by simpa using Q)
  have Ot3 : Hid (LLR St3 w3 st3 n3 K3 V3) := O
  clear O Q
  go_wp2_with fail
  refine (H1.out st0 _ st2 _ st3 _ _ (Ot0.out.row) (Ot2.out.row) (Ot3.out.row)).mono ?_
  rintro e w4 ⟨sWr0, cWr0, SW0, rfl, Q0, O0, hh⟩
  have hb : Below w3.heap.size w3 w4 := Below.trans (by repeat (first | with_reducible exact Below.refl _ _ | with_reducible refine Below.setCell ?_ (by first | omega | (simp; done) | (simp; omega)) _ | with_reducible refine bDrewN ?_ _ | with_reducible refine Below.drew ?_ | with_reducible refine Below.alloc ?_ (by first | omega | (simp; done) | (simp; omega)) _)) (hh.mono (by first | omega | (simp; done) | (simp; omega)))
  have lw4 : w3.heap.size ≤ w4.heap.size := hb.size
  replace Ot0 : Hid (InsR St0 w4 st0 n0 V0) := Ot0.out.below hb
  replace Ot2 : Hid (I64R St2 w4 st2 n2 V2) := Ot2.out.below hb
  replace Ot3 : Hid (LLR St3 w4 st3 n3 K3 V3) := Ot3.out.below hb
  replace B0 : Below w.heap.size w w4 := B0.trans (hb.mono B0.size)
  clear hb hh
  clear Ot0 Qt0 
  clear Ot2 Qt2 
  clear Ot3 Qt3 
  have Bs : Below w4.heap.size w4 w4 := Below.refl _ _
  have RW0 : Hid (RowLL w4 sWr0 nr0 Kr0 Vr0) := O0.row
  clear O0 Q0 
  go_wp2_with fail
  refine (toInstrS_r s0 n0 c0 V0 _ hn0 (HR0.out.below B0)).mono ?_
  rintro e w5 ⟨sx0, Sx0, rfl, Q, O, hh⟩
  have hb : Below w4.heap.size w4 w5 := Below.trans (by repeat (first | with_reducible exact Below.refl _ _ | with_reducible refine Below.setCell ?_ (by first | omega | (simp; done) | (simp; omega)) _ | with_reducible refine bDrewN ?_ _ | with_reducible refine Below.drew ?_ | with_reducible refine Below.alloc ?_ (by first | omega | (simp; done) | (simp; omega)) _)) (hh.mono (by first | omega | (simp; done) | (simp; omega)))
  have lw5 : w4.heap.size ≤ w5.heap.size := hb.size
  replace Bs : Below w4.heap.size w4 w5 := Bs.trans (hb.mono Bs.size)
  replace B0 : Below w.heap.size w w5 := B0.trans (hb.mono B0.size)
  clear hb hh
  have Qx0 : Hid (∀ k, Sx0 k → w4.heap.size ≤ k ∧ k < w5.heap.size) := (show ∀ k, Sx0 k → w4.heap.size ≤ k ∧ k < w5.heap.size from by simpa using Q)
  have Ox0 : Hid (InsR Sx0 w5 sx0 n0 V0) := O
  clear O Q
  go_wp2_with fail
  refine (toInt64S_r s2 n2 c2 V2 _ hn2 (HR2.out.below B0)).mono ?_
  rintro e w6 ⟨sx2, Sx2, rfl, Q, O, hh⟩
  have hb : Below w5.heap.size w5 w6 := Below.trans (by repeat (first | with_reducible exact Below.refl _ _ | with_reducible refine Below.setCell ?_ (by first | omega | (simp; done) | (simp; omega)) _ | with_reducible refine bDrewN ?_ _ | with_reducible refine Below.drew ?_ | with_reducible refine Below.alloc ?_ (by first | omega | (simp; done) | (simp; omega)) _)) (hh.mono (by first | omega | (simp; done) | (simp; omega)))
  have lw6 : w5.heap.size ≤ w6.heap.size := hb.size
  replace Ox0 : Hid (InsR Sx0 w6 sx0 n0 V0) := Ox0.out.below hb
  replace Bs : Below w4.heap.size w4 w6 := Bs.trans (hb.mono Bs.size)
  replace B0 : Below w.heap.size w w6 := B0.trans (hb.mono B0.size)
  clear hb hh
  have Qx2 : Hid (∀ k, Sx2 k → w5.heap.size ≤ k ∧ k < w6.heap.size) := (show ∀ k, Sx2 k → w5.heap.size ≤ k ∧ k < w6.heap.size from by simpa using Q)
  have Ox2 : Hid (I64R Sx2 w6 sx2 n2 V2) := O
  clear O Q
  go_wp2_with fail
  refine (toInt64SS_r s3 n3 c3 K3 V3 _ hn3 (HR3.out.below B0)).mono ?_
  rintro e w7 ⟨sx3, Sx3, rfl, Q, O, hh⟩
  have hb : Below w6.heap.size w6 w7 := Below.trans (by repeat (first | with_reducible exact Below.refl _ _ | with_reducible refine Below.setCell ?_ (by first | omega | (simp; done) | (simp; omega)) _ | with_reducible refine bDrewN ?_ _ | with_reducible refine Below.drew ?_ | with_reducible refine Below.alloc ?_ (by first | omega | (simp; done) | (simp; omega)) _)) (hh.mono (by first | omega | (simp; done) | (simp; omega)))
  have lw7 : w6.heap.size ≤ w7.heap.size := hb.size
  replace Ox0 : Hid (InsR Sx0 w7 sx0 n0 V0) := Ox0.out.below hb
  replace Ox2 : Hid (I64R Sx2 w7 sx2 n2 V2) := Ox2.out.below hb
  replace Bs : Below w4.heap.size w4 w7 := Bs.trans (hb.mono Bs.size)
  replace B0 : Below w.heap.size w w7 := B0.trans (hb.mono B0.size)
  clear hb hh
  have Qx3 : Hid (∀ k, Sx3 k → w6.heap.size ≤ k ∧ k < w7.heap.size) := (show ∀ k, Sx3 k → w6.heap.size ≤ k ∧ k < w7.heap.size from by simpa using Q)
  have Ox3 : Hid (LLR Sx3 w7 sx3 n3 K3 V3) := O
  clear O Q
  go_wp2_with fail
  refine (H2.out sx0 _ sx2 _ sx3 _ _ (Ox0.out.row) (Ox2.out.row) (Ox3.out.row)).mono ?_
  rintro e w8 ⟨sgr0, cgr0, Sg0, rfl, Q0, O0, hh⟩
  have hb : Below w7.heap.size w7 w8 := Below.trans (by repeat (first | with_reducible exact Below.refl _ _ | with_reducible refine Below.setCell ?_ (by first | omega | (simp; done) | (simp; omega)) _ | with_reducible refine bDrewN ?_ _ | with_reducible refine Below.drew ?_ | with_reducible refine Below.alloc ?_ (by first | omega | (simp; done) | (simp; omega)) _)) (hh.mono (by first | omega | (simp; done) | (simp; omega)))
  have lw8 : w7.heap.size ≤ w8.heap.size := hb.size
  replace Ox0 : Hid (InsR Sx0 w8 sx0 n0 V0) := Ox0.out.below hb
  replace Ox2 : Hid (I64R Sx2 w8 sx2 n2 V2) := Ox2.out.below hb
  replace Ox3 : Hid (LLR Sx3 w8 sx3 n3 K3 V3) := Ox3.out.below hb
  replace Bs : Below w4.heap.size w4 w8 := Bs.trans (hb.mono Bs.size)
  replace B0 : Below w.heap.size w w8 := B0.trans (hb.mono B0.size)
  clear hb hh
  have Qg0 : Hid (∀ k, Sg0 k → w7.heap.size ≤ k ∧ k < w8.heap.size) := (show ∀ k, Sg0 k → w7.heap.size ≤ k ∧ k < w8.heap.size from by simpa using Q0)
  have Og0 : Hid (LLR Sg0 w8 sgr0 nr0 Kr0 Vr0) := O0
  clear O0 Q0
  go_wp2_with fail
  refine (eqInt64SS_r sgr0 sWr0 nr0 _ _ Kr0 Vr0 _ hnr0 (Og0.out.row) (RW0.out.below Bs)).mono ?_
  rintro e w9 ⟨rfl, hh⟩
  have hb : Below w8.heap.size w8 w9 := Below.trans (by repeat (first | with_reducible exact Below.refl _ _ | with_reducible refine Below.setCell ?_ (by first | omega | (simp; done) | (simp; omega)) _ | with_reducible refine bDrewN ?_ _ | with_reducible refine Below.drew ?_ | with_reducible refine Below.alloc ?_ (by first | omega | (simp; done) | (simp; omega)) _)) (hh.mono (by first | omega | (simp; done) | (simp; omega)))
  have lw9 : w8.heap.size ≤ w9.heap.size := hb.size
  replace Ox0 : Hid (InsR Sx0 w9 sx0 n0 V0) := Ox0.out.below hb
  replace Ox2 : Hid (I64R Sx2 w9 sx2 n2 V2) := Ox2.out.below hb
  replace Ox3 : Hid (LLR Sx3 w9 sx3 n3 K3 V3) := Ox3.out.below hb
  replace Og0 : Hid (LLR Sg0 w9 sgr0 nr0 Kr0 Vr0) := Og0.out.below hb
  replace Bs : Below w4.heap.size w4 w9 := Bs.trans (hb.mono Bs.size)
  replace B0 : Below w.heap.size w w9 := B0.trans (hb.mono B0.size)
  clear hb hh
  go_wp2_with fail
  refine (toInstrS_r s0 n0 c0 V0 _ hn0 (HR0.out.below B0)).mono ?_
  rintro e w10 ⟨sy0, Sy0, rfl, Q, O, hh⟩
  have hb : Below w9.heap.size w9 w10 := Below.trans (by repeat (first | with_reducible exact Below.refl _ _ | with_reducible refine Below.setCell ?_ (by first | omega | (simp; done) | (simp; omega)) _ | with_reducible refine bDrewN ?_ _ | with_reducible refine Below.drew ?_ | with_reducible refine Below.alloc ?_ (by first | omega | (simp; done) | (simp; omega)) _)) (hh.mono (by first | omega | (simp; done) | (simp; omega)))
  have lw10 : w9.heap.size ≤ w10.heap.size := hb.size
  replace Ox0 : Hid (InsR Sx0 w10 sx0 n0 V0) := Ox0.out.below hb
  replace Ox2 : Hid (I64R Sx2 w10 sx2 n2 V2) := Ox2.out.below hb
  replace Ox3 : Hid (LLR Sx3 w10 sx3 n3 K3 V3) := Ox3.out.below hb
  replace Og0 : Hid (LLR Sg0 w10 sgr0 nr0 Kr0 Vr0) := Og0.out.below hb
  replace Bs : Below w4.heap.size w4 w10 := Bs.trans (hb.mono Bs.size)
  replace B0 : Below w.heap.size w w10 := B0.trans (hb.mono B0.size)
  clear hb hh
  have Qy0 : Hid (∀ k, Sy0 k → w9.heap.size ≤ k ∧ k < w10.heap.size) := (show ∀ k, Sy0 k → w9.heap.size ≤ k ∧ k < w10.heap.size from by simpa using Q)
  have Oy0 : Hid (InsR Sy0 w10 sy0 n0 V0) := O
  clear O Q
  go_wp2_with fail
  refine (eqInstrS_any _ _ n0 _ _ V0 _ hn0 (Ox0.out.row) (Oy0.out.row)).mono ?_
  rintro e w11 ⟨rfl, hh⟩
  have hb : Below w10.heap.size w10 w11 := Below.trans (by repeat (first | with_reducible exact Below.refl _ _ | with_reducible refine Below.setCell ?_ (by first | omega | (simp; done) | (simp; omega)) _ | with_reducible refine bDrewN ?_ _ | with_reducible refine Below.drew ?_ | with_reducible refine Below.alloc ?_ (by first | omega | (simp; done) | (simp; omega)) _)) (hh.mono (by first | omega | (simp; done) | (simp; omega)))
  have lw11 : w10.heap.size ≤ w11.heap.size := hb.size
  replace Ox0 : Hid (InsR Sx0 w11 sx0 n0 V0) := Ox0.out.below hb
  replace Ox2 : Hid (I64R Sx2 w11 sx2 n2 V2) := Ox2.out.below hb
  replace Ox3 : Hid (LLR Sx3 w11 sx3 n3 K3 V3) := Ox3.out.below hb
  replace Og0 : Hid (LLR Sg0 w11 sgr0 nr0 Kr0 Vr0) := Og0.out.below hb
  replace Oy0 : Hid (InsR Sy0 w11 sy0 n0 V0) := Oy0.out.below hb
  replace Bs : Below w4.heap.size w4 w11 := Bs.trans (hb.mono Bs.size)
  replace B0 : Below w.heap.size w w11 := B0.trans (hb.mono B0.size)
  clear hb hh
  clear Oy0 Qy0 
  go_wp2_with fail
  refine (toInt64S_r s2 n2 c2 V2 _ hn2 (HR2.out.below B0)).mono ?_
  rintro e w12 ⟨sy2, Sy2, rfl, Q, O, hh⟩
  have hb : Below w11.heap.size w11 w12 := Below.trans (by repeat (first | with_reducible exact Below.refl _ _ | with_reducible refine Below.setCell ?_ (by first | omega | (simp; done) | (simp; omega)) _ | with_reducible refine bDrewN ?_ _ | with_reducible refine Below.drew ?_ | with_reducible refine Below.alloc ?_ (by first | omega | (simp; done) | (simp; omega)) _)) (hh.mono (by first | omega | (simp; done) | (simp; omega)))
  have lw12 : w11.heap.size ≤ w12.heap.size := hb.size
  replace Ox0 : Hid (InsR Sx0 w12 sx0 n0 V0) := Ox0.out.below hb
  replace Ox2 : Hid (I64R Sx2 w12 sx2 n2 V2) := Ox2.out.below hb
  replace Ox3 : Hid (LLR Sx3 w12 sx3 n3 K3 V3) := Ox3.out.below hb
  replace Og0 : Hid (LLR Sg0 w12 sgr0 nr0 Kr0 Vr0) := Og0.out.below hb
  replace Bs : Below w4.heap.size w4 w12 := Bs.trans (hb.mono Bs.size)
  replace B0 : Below w.heap.size w w12 := B0.trans (hb.mono B0.size)
  clear hb hh
  have Qy2 : Hid (∀ k, Sy2 k → w11.heap.size ≤ k ∧ k < w12.heap.size) := (show ∀ k, Sy2 k → w11.heap.size ≤ k ∧ k < w12.heap.size from by simpa using Q)
  have Oy2 : Hid (I64R Sy2 w12 sy2 n2 V2) := O
  clear O Q
  go_wp2_with fail
  refine (eqInt64S_any _ _ n2 _ _ V2 _ hn2 (Ox2.out.row) (Oy2.out.row)).mono ?_
  rintro e w13 ⟨rfl, hh⟩
  have hb : Below w12.heap.size w12 w13 := Below.trans (by repeat (first | with_reducible exact Below.refl _ _ | with_reducible refine Below.setCell ?_ (by first | omega | (simp; done) | (simp; omega)) _ | with_reducible refine bDrewN ?_ _ | with_reducible refine Below.drew ?_ | with_reducible refine Below.alloc ?_ (by first | omega | (simp; done) | (simp; omega)) _)) (hh.mono (by first | omega | (simp; done) | (simp; omega)))
  have lw13 : w12.heap.size ≤ w13.heap.size := hb.size
  replace Ox0 : Hid (InsR Sx0 w13 sx0 n0 V0) := Ox0.out.below hb
  replace Ox2 : Hid (I64R Sx2 w13 sx2 n2 V2) := Ox2.out.below hb
  replace Ox3 : Hid (LLR Sx3 w13 sx3 n3 K3 V3) := Ox3.out.below hb
  replace Og0 : Hid (LLR Sg0 w13 sgr0 nr0 Kr0 Vr0) := Og0.out.below hb
  replace Oy2 : Hid (I64R Sy2 w13 sy2 n2 V2) := Oy2.out.below hb
  replace Bs : Below w4.heap.size w4 w13 := Bs.trans (hb.mono Bs.size)
  replace B0 : Below w.heap.size w w13 := B0.trans (hb.mono B0.size)
  clear hb hh
  clear Oy2 Qy2 
  go_wp2_with fail
  refine (toInt64SS_r s3 n3 c3 K3 V3 _ hn3 (HR3.out.below B0)).mono ?_
  rintro e w14 ⟨sy3, Sy3, rfl, Q, O, hh⟩
  have hb : Below w13.heap.size w13 w14 := Below.trans (by repeat (first | with_reducible exact Below.refl _ _ | with_reducible refine Below.setCell ?_ (by first | omega | (simp; done) | (simp; omega)) _ | with_reducible refine bDrewN ?_ _ | with_reducible refine Below.drew ?_ | with_reducible refine Below.alloc ?_ (by first | omega | (simp; done) | (simp; omega)) _)) (hh.mono (by first | omega | (simp; done) | (simp; omega)))
  have lw14 : w13.heap.size ≤ w14.heap.size := hb.size
  replace Ox0 : Hid (InsR Sx0 w14 sx0 n0 V0) := Ox0.out.below hb
  replace Ox2 : Hid (I64R Sx2 w14 sx2 n2 V2) := Ox2.out.below hb
  replace Ox3 : Hid (LLR Sx3 w14 sx3 n3 K3 V3) := Ox3.out.below hb
  replace Og0 : Hid (LLR Sg0 w14 sgr0 nr0 Kr0 Vr0) := Og0.out.below hb
  replace Bs : Below w4.heap.size w4 w14 := Bs.trans (hb.mono Bs.size)
  replace B0 : Below w.heap.size w w14 := B0.trans (hb.mono B0.size)
  clear hb hh
  have Qy3 : Hid (∀ k, Sy3 k → w13.heap.size ≤ k ∧ k < w14.heap.size) := (show ∀ k, Sy3 k → w13.heap.size ≤ k ∧ k < w14.heap.size from by simpa using Q)
  have Oy3 : Hid (LLR Sy3 w14 sy3 n3 K3 V3) := O
  clear O Q
  go_wp2_with fail
  refine (eqInt64SS_r _ _ n3 _ _ K3 V3 _ hn3 (Ox3.out.row) (Oy3.out.row)).mono ?_
  rintro e w15 ⟨rfl, hh⟩
  have hb : Below w14.heap.size w14 w15 := Below.trans (by repeat (first | with_reducible exact Below.refl _ _ | with_reducible refine Below.setCell ?_ (by first | omega | (simp; done) | (simp; omega)) _ | with_reducible refine bDrewN ?_ _ | with_reducible refine Below.drew ?_ | with_reducible refine Below.alloc ?_ (by first | omega | (simp; done) | (simp; omega)) _)) (hh.mono (by first | omega | (simp; done) | (simp; omega)))
  have lw15 : w14.heap.size ≤ w15.heap.size := hb.size
  replace Ox0 : Hid (InsR Sx0 w15 sx0 n0 V0) := Ox0.out.below hb
  replace Ox2 : Hid (I64R Sx2 w15 sx2 n2 V2) := Ox2.out.below hb
  replace Ox3 : Hid (LLR Sx3 w15 sx3 n3 K3 V3) := Ox3.out.below hb
  replace Og0 : Hid (LLR Sg0 w15 sgr0 nr0 Kr0 Vr0) := Og0.out.below hb
  replace Oy3 : Hid (LLR Sy3 w15 sy3 n3 K3 V3) := Oy3.out.below hb
  replace Bs : Below w4.heap.size w4 w15 := Bs.trans (hb.mono Bs.size)
  replace B0 : Below w.heap.size w w15 := B0.trans (hb.mono B0.size)
  clear hb hh
  clear Oy3 Qy3 
  go_wp2_with fail
  refine (markInstrS_r Sx0 _ n0 _ (1) V0 _ hn0 (by omega) (by omega) Ox0.out).mono ?_
  rintro e w16 ⟨rfl, -, T⟩
  have lw16 : w15.heap.size ≤ w16.heap.size := T.size
  replace Ox2 : Hid (I64R Sx2 w16 sx2 n2 V2) := Ox2.out.keep T.size (fun k hk hl => T.2.2.2.2 k hl (fun q => by have := Qx0.out k q; have := Qx2.out k hk; omega))
  replace Ox3 : Hid (LLR Sx3 w16 sx3 n3 K3 V3) := Ox3.out.keep T.size (fun k hk hl => T.2.2.2.2 k hl (fun q => by have := Qx0.out k q; have := Qx3.out k hk; omega))
  replace Og0 : Hid (LLR Sg0 w16 sgr0 nr0 Kr0 Vr0) := Og0.out.keep T.size (fun k hk hl => T.2.2.2.2 k hl (fun q => by have := Qx0.out k q; have := Qg0.out k hk; omega))
  replace Bs : Below w4.heap.size w4 w16 := Bs.trans (T.below (fun k q => by have := Qx0.out k q; omega) (by omega))
  replace B0 : Below w.heap.size w w16 := B0.trans (T.below (fun k q => by have := Qx0.out k q; omega) (by omega))
  clear T Ox0
  go_wp2_with fail
  refine (markInt64S_r Sx2 _ n2 _ (1 + (n0 * 2 : Nat)) V2 _ hn2 (by omega) (by omega) Ox2.out).mono ?_
  rintro e w17 ⟨rfl, -, T⟩
  have lw17 : w16.heap.size ≤ w17.heap.size := T.size
  replace Ox3 : Hid (LLR Sx3 w17 sx3 n3 K3 V3) := Ox3.out.keep T.size (fun k hk hl => T.2.2.2.2 k hl (fun q => by have := Qx2.out k q; have := Qx3.out k hk; omega))
  replace Og0 : Hid (LLR Sg0 w17 sgr0 nr0 Kr0 Vr0) := Og0.out.keep T.size (fun k hk hl => T.2.2.2.2 k hl (fun q => by have := Qx2.out k q; have := Qg0.out k hk; omega))
  replace Bs : Below w4.heap.size w4 w17 := Bs.trans (T.below (fun k q => by have := Qx2.out k q; omega) (by omega))
  replace B0 : Below w.heap.size w w17 := B0.trans (T.below (fun k q => by have := Qx2.out k q; omega) (by omega))
  clear T Ox2
  go_wp2_with fail
  refine (markInt64SS_r Sx3 _ n3 _ (1 + (n0 * 2 : Nat) + n2) K3 V3 _ hn3 (by omega) (by omega) Ox3.out).mono ?_
  rintro e w18 ⟨rfl, -, T⟩
  have lw18 : w17.heap.size ≤ w18.heap.size := T.size
  replace Og0 : Hid (LLR Sg0 w18 sgr0 nr0 Kr0 Vr0) := Og0.out.keep T.size (fun k hk hl => T.2.2.2.2 k hl (fun q => by have := Qx3.out k q; have := Qg0.out k hk; omega))
  replace Bs : Below w4.heap.size w4 w18 := Bs.trans (T.below (fun k q => by have := Qx3.out k q; omega) (by omega))
  replace B0 : Below w.heap.size w w18 := B0.trans (T.below (fun k q => by have := Qx3.out k q; omega) (by omega))
  clear T Ox3
  go_wp2_with fail
  refine (eqInt64SS_r sgr0 sWr0 nr0 _ _ Kr0 Vr0 _ hnr0 (Og0.out.row) (RW0.out.below Bs)).mono ?_
  rintro e w19 ⟨rfl, hh⟩
  have hb : Below w18.heap.size w18 w19 := Below.trans (by repeat (first | with_reducible exact Below.refl _ _ | with_reducible refine Below.setCell ?_ (by first | omega | (simp; done) | (simp; omega)) _ | with_reducible refine bDrewN ?_ _ | with_reducible refine Below.drew ?_ | with_reducible refine Below.alloc ?_ (by first | omega | (simp; done) | (simp; omega)) _)) (hh.mono (by first | omega | (simp; done) | (simp; omega)))
  have lw19 : w18.heap.size ≤ w19.heap.size := hb.size
  replace Og0 : Hid (LLR Sg0 w19 sgr0 nr0 Kr0 Vr0) := Og0.out.below hb
  replace Bs : Below w4.heap.size w4 w19 := Bs.trans (hb.mono Bs.size)
  replace B0 : Below w.heap.size w w19 := B0.trans (hb.mono B0.size)
  clear hb hh
  clear Qx0
  clear Qx2
  clear Qx3
  go_wp2_with fail
  refine (markInt64SS_r Sg0 _ nr0 _ (1) Kr0 Vr0 _ hnr0 (by omega) (by omega) Og0.out).mono ?_
  rintro e w20 ⟨rfl, OM, T⟩
  have lw20 : w19.heap.size ≤ w20.heap.size := T.size
  replace Bs : Below w4.heap.size w4 w20 := Bs.trans (T.below (fun k q => by have := Qg0.out k q; omega) (by omega))
  replace B0 : Below w.heap.size w w20 := B0.trans (T.below (fun k q => by have := Qg0.out k q; omega) (by omega))
  replace Og0 : Hid (LLR Sg0 w20 sgr0 nr0 Kr0 (mkV (1) Kr0)) := OM
  clear T OM
  go_wp2_with fail
  refine (heldInt64SS_r _ nr0 _ (1) Kr0 _ hnr0 (by omega) (by omega) (Og0.out.row)).mono ?_
  rintro e w20 ⟨rfl, rfl⟩
  go_wp2_with fail
  refine (toInstrS_r s0 n0 c0 V0 _ hn0 (HR0.out.below B0)).mono ?_
  rintro e w21 ⟨sv0, Sv0, rfl, Q, O, hh⟩
  have hb : Below w20.heap.size w20 w21 := Below.trans (by repeat (first | with_reducible exact Below.refl _ _ | with_reducible refine Below.setCell ?_ (by first | omega | (simp; done) | (simp; omega)) _ | with_reducible refine bDrewN ?_ _ | with_reducible refine Below.drew ?_ | with_reducible refine Below.alloc ?_ (by first | omega | (simp; done) | (simp; omega)) _)) (hh.mono (by first | omega | (simp; done) | (simp; omega)))
  have lw21 : w20.heap.size ≤ w21.heap.size := hb.size
  replace Og0 : Hid (LLR Sg0 w21 sgr0 nr0 Kr0 (mkV (1) Kr0)) := Og0.out.below hb
  replace Bs : Below w4.heap.size w4 w21 := Bs.trans (hb.mono Bs.size)
  replace B0 : Below w.heap.size w w21 := B0.trans (hb.mono B0.size)
  clear hb hh
  have Qv0 : Hid (∀ k, Sv0 k → w20.heap.size ≤ k ∧ k < w21.heap.size) := (show ∀ k, Sv0 k → w20.heap.size ≤ k ∧ k < w21.heap.size from by simpa using Q)
  have Ov0 : Hid (InsR Sv0 w21 sv0 n0 V0) := O
  clear O Q
  go_wp2_with fail
  refine (toInt64S_r s2 n2 c2 V2 _ hn2 (HR2.out.below B0)).mono ?_
  rintro e w22 ⟨sv2, Sv2, rfl, Q, O, hh⟩
  have hb : Below w21.heap.size w21 w22 := Below.trans (by repeat (first | with_reducible exact Below.refl _ _ | with_reducible refine Below.setCell ?_ (by first | omega | (simp; done) | (simp; omega)) _ | with_reducible refine bDrewN ?_ _ | with_reducible refine Below.drew ?_ | with_reducible refine Below.alloc ?_ (by first | omega | (simp; done) | (simp; omega)) _)) (hh.mono (by first | omega | (simp; done) | (simp; omega)))
  have lw22 : w21.heap.size ≤ w22.heap.size := hb.size
  replace Og0 : Hid (LLR Sg0 w22 sgr0 nr0 Kr0 (mkV (1) Kr0)) := Og0.out.below hb
  replace Ov0 : Hid (InsR Sv0 w22 sv0 n0 V0) := Ov0.out.below hb
  replace Bs : Below w4.heap.size w4 w22 := Bs.trans (hb.mono Bs.size)
  replace B0 : Below w.heap.size w w22 := B0.trans (hb.mono B0.size)
  clear hb hh
  have Qv2 : Hid (∀ k, Sv2 k → w21.heap.size ≤ k ∧ k < w22.heap.size) := (show ∀ k, Sv2 k → w21.heap.size ≤ k ∧ k < w22.heap.size from by simpa using Q)
  have Ov2 : Hid (I64R Sv2 w22 sv2 n2 V2) := O
  clear O Q
  go_wp2_with fail
  refine (toInt64SS_r s3 n3 c3 K3 V3 _ hn3 (HR3.out.below B0)).mono ?_
  rintro e w23 ⟨sv3, Sv3, rfl, Q, O, hh⟩
  have hb : Below w22.heap.size w22 w23 := Below.trans (by repeat (first | with_reducible exact Below.refl _ _ | with_reducible refine Below.setCell ?_ (by first | omega | (simp; done) | (simp; omega)) _ | with_reducible refine bDrewN ?_ _ | with_reducible refine Below.drew ?_ | with_reducible refine Below.alloc ?_ (by first | omega | (simp; done) | (simp; omega)) _)) (hh.mono (by first | omega | (simp; done) | (simp; omega)))
  have lw23 : w22.heap.size ≤ w23.heap.size := hb.size
  replace Og0 : Hid (LLR Sg0 w23 sgr0 nr0 Kr0 (mkV (1) Kr0)) := Og0.out.below hb
  replace Ov0 : Hid (InsR Sv0 w23 sv0 n0 V0) := Ov0.out.below hb
  replace Ov2 : Hid (I64R Sv2 w23 sv2 n2 V2) := Ov2.out.below hb
  replace Bs : Below w4.heap.size w4 w23 := Bs.trans (hb.mono Bs.size)
  replace B0 : Below w.heap.size w w23 := B0.trans (hb.mono B0.size)
  clear hb hh
  have Qv3 : Hid (∀ k, Sv3 k → w22.heap.size ≤ k ∧ k < w23.heap.size) := (show ∀ k, Sv3 k → w22.heap.size ≤ k ∧ k < w23.heap.size from by simpa using Q)
  have Ov3 : Hid (LLR Sv3 w23 sv3 n3 K3 V3) := O
  clear O Q
  go_wp2_with fail
  refine (H2.out sv0 _ sv2 _ sv3 _ _ (Ov0.out.row) (Ov2.out.row) (Ov3.out.row)).mono ?_
  rintro e w24 ⟨shr0, chr0, Sh0, rfl, Q0, O0, hh⟩
  have hb : Below w23.heap.size w23 w24 := Below.trans (by repeat (first | with_reducible exact Below.refl _ _ | with_reducible refine Below.setCell ?_ (by first | omega | (simp; done) | (simp; omega)) _ | with_reducible refine bDrewN ?_ _ | with_reducible refine Below.drew ?_ | with_reducible refine Below.alloc ?_ (by first | omega | (simp; done) | (simp; omega)) _)) (hh.mono (by first | omega | (simp; done) | (simp; omega)))
  have lw24 : w23.heap.size ≤ w24.heap.size := hb.size
  replace Og0 : Hid (LLR Sg0 w24 sgr0 nr0 Kr0 (mkV (1) Kr0)) := Og0.out.below hb
  replace Ov0 : Hid (InsR Sv0 w24 sv0 n0 V0) := Ov0.out.below hb
  replace Ov2 : Hid (I64R Sv2 w24 sv2 n2 V2) := Ov2.out.below hb
  replace Ov3 : Hid (LLR Sv3 w24 sv3 n3 K3 V3) := Ov3.out.below hb
  replace Bs : Below w4.heap.size w4 w24 := Bs.trans (hb.mono Bs.size)
  replace B0 : Below w.heap.size w w24 := B0.trans (hb.mono B0.size)
  clear hb hh
  clear Ov0 Qv0 
  clear Ov2 Qv2 
  clear Ov3 Qv3 
  have Rh0 : Hid (RowLL w24 shr0 nr0 Kr0 Vr0) := O0.row
  clear O0 Q0 
  have Bh : Below w24.heap.size w24 w24 := Below.refl _ _
  go_wp2_with fail
  refine (eqInt64SS_r shr0 sWr0 nr0 _ _ Kr0 Vr0 _ hnr0 ((Rh0.out.below (Below.mono (B := w24.heap.size) (Bh) (Nat.le_refl _)))) (RW0.out.below Bs)).mono ?_
  rintro e w25 ⟨rfl, hh⟩
  have hb : Below w24.heap.size w24 w25 := Below.trans (by repeat (first | with_reducible exact Below.refl _ _ | with_reducible refine Below.setCell ?_ (by first | omega | (simp; done) | (simp; omega)) _ | with_reducible refine bDrewN ?_ _ | with_reducible refine Below.drew ?_ | with_reducible refine Below.alloc ?_ (by first | omega | (simp; done) | (simp; omega)) _)) (hh.mono (by first | omega | (simp; done) | (simp; omega)))
  have lw25 : w24.heap.size ≤ w25.heap.size := hb.size
  replace Og0 : Hid (LLR Sg0 w25 sgr0 nr0 Kr0 (mkV (1) Kr0)) := Og0.out.below hb
  replace Bs : Below w4.heap.size w4 w25 := Bs.trans (hb.mono Bs.size)
  replace B0 : Below w.heap.size w w25 := B0.trans (hb.mono B0.size)
  replace Bh : Below w24.heap.size w24 w25 := Bh.trans (hb.mono Bh.size)
  clear hb hh
  go_wp2_with fail
  refine (heldInt64SS_r _ nr0 _ (1) Kr0 _ hnr0 (by omega) (by omega) (Og0.out.row)).mono ?_
  rintro e w25 ⟨rfl, rfl⟩
  go_wp2
  go_ret
  exact ⟨rfl, B0⟩
set_option maxHeartbeats 800000 in
theorem runCode_farn2 (w : World) (n0 : Nat) (V0 : Nat → Int) (s0 : Option Addr) (c0 : Nat) (a1 : Int) (n2 : Nat) (V2 : Nat → Int) (s2 : Option Addr) (c2 : Nat) (n3 : Nat) (K3 : Nat → Nat) (V3 : Nat → Nat → Int) (s3 : Option Addr) (c3 : Nat)  (g : (1048576 : Int) < n2) :
    Calls Try.prog 3 #[.slice s0 n0 c0, .int .i64 a1, .slice s2 n2 c2, .slice s3 n3 c3] w fun e w' => e = .returned (.bool true) ∧ Below w.heap.size w w' := by
  go_enter Try.func3, Try.ntmps3
  go_wp2
  go_ret
  exact ⟨rfl, (by repeat (first | with_reducible exact Below.refl _ _ | with_reducible refine Below.setCell ?_ (by first | omega | (simp; done) | (simp; omega)) _ | with_reducible refine bDrewN ?_ _ | with_reducible refine Below.drew ?_ | with_reducible refine Below.alloc ?_ (by first | omega | (simp; done) | (simp; omega)) _))⟩
set_option maxHeartbeats 1600000 in
theorem runCode_farn0 (w : World) (n0 : Nat) (V0 : Nat → Int) (s0 : Option Addr) (c0 : Nat) (a1 : Int) (n2 : Nat) (V2 : Nat → Int) (s2 : Option Addr) (c2 : Nat) (n3 : Nat) (K3 : Nat → Nat) (V3 : Nat → Nat → Int) (s3 : Option Addr) (c3 : Nat) (qn2 : (n2 : Int) ≤ 1048576)  (g : 1048576 < (n0 : Int)) (gg : (n0 : Int) ≤ 9223372036854775807)  :
    Calls Try.prog 3 #[.slice s0 n0 c0, .int .i64 a1, .slice s2 n2 c2, .slice s3 n3 c3] w fun e w' => e = .returned (.bool true) ∧ Below w.heap.size w w' := by
  go_enter Try.func3, Try.ntmps3
  go_wp2_with fail
  refine (szInstrS_off _ n0 _ _ _ (by omega) (by omega) (by omega) (by omega)).mono ?_
  rintro e w ⟨rfl, rfl⟩
  go_wp2
  go_ret
  exact ⟨rfl, (by repeat (first | with_reducible exact Below.refl _ _ | with_reducible refine Below.setCell ?_ (by first | omega | (simp; done) | (simp; omega)) _ | with_reducible refine bDrewN ?_ _ | with_reducible refine Below.drew ?_ | with_reducible refine Below.alloc ?_ (by first | omega | (simp; done) | (simp; omega)) _))⟩
set_option maxHeartbeats 1600000 in
theorem runCode_farn3 (w : World) (n0 : Nat) (V0 : Nat → Int) (s0 : Option Addr) (c0 : Nat) (a1 : Int) (n2 : Nat) (V2 : Nat → Int) (s2 : Option Addr) (c2 : Nat) (n3 : Nat) (K3 : Nat → Nat) (V3 : Nat → Nat → Int) (s3 : Option Addr) (c3 : Nat) (qn2 : (n2 : Int) ≤ 1048576) (gn0 : (n0 : Int) ≤ 1048576) (g : 1048576 - n0 < ((n3 : Int) + (suK K3 n3 : Int))) (gg : (n3 : Int) ≤ 9223372036854775807) (k63 : ∀ i, i < n3 → (K3 i : Int) ≤ 9223372036854775807) (HR3 : Hid (RowLL w s3 n3 K3 V3)) :
    Calls Try.prog 3 #[.slice s0 n0 c0, .int .i64 a1, .slice s2 n2 c2, .slice s3 n3 c3] w fun e w' => e = .returned (.bool true) ∧ Below w.heap.size w w' := by
  go_enter Try.func3, Try.ntmps3
  go_wp2_with fail
  refine (szInstrS_on _ n0 _ _ _ (by omega) (by omega) (by omega)).mono ?_
  rintro e w ⟨rfl, rfl⟩
  go_wp2_with fail
  refine (szInt64SS_off _ n3 _ K3 V3 _ _ (by omega) (by omega) (by omega) gg k63 HR3.out).mono ?_
  rintro e w ⟨rfl, rfl⟩
  go_wp2
  go_ret
  exact ⟨rfl, (by repeat (first | with_reducible exact Below.refl _ _ | with_reducible refine Below.setCell ?_ (by first | omega | (simp; done) | (simp; omega)) _ | with_reducible refine bDrewN ?_ _ | with_reducible refine Below.drew ?_ | with_reducible refine Below.alloc ?_ (by first | omega | (simp; done) | (simp; omega)) _))⟩
theorem fnExactRunCode_walk (w : World) (s0 : Option Addr) (n0 c0 : Nat) (V0 : Nat → Int) (m0 : n0 ≤ 9223372036854775807) (R0 : RowIns w s0 n0 V0) (a1 : Int) (w1 : (Lit.int .i64 a1).wf = true) (s2 : Option Addr) (n2 c2 : Nat) (V2 : Nat → Int) (m2 : n2 ≤ 9223372036854775807) (R2 : RowI w s2 n2 V2) (w2 : ∀ j, j < n2 → -9223372036854775808 ≤ V2 j ∧ V2 j ≤ 9223372036854775807) (s3 : Option Addr) (n3 c3 : Nat) (K3 : Nat → Nat) (V3 : Nat → Nat → Int) (m3 : n3 ≤ 9223372036854775807) (mk3 : ∀ i, i < n3 → K3 i ≤ 9223372036854775807) (R3 : RowLL w s3 n3 K3 V3) :
    Calls Try.prog 3 #[.slice s0 n0 c0, .int .i64 a1, .slice s2 n2 c2, .slice s3 n3 c3] w fun e w' => e = .returned (.bool true) ∧ Below w.heap.size w w' := by
  have k63 : ∀ i, i < n3 → (K3 i : Int) ≤ 9223372036854775807 := fun i hi => by have := mk3 i hi; omega
  by_cases qn2 : (n2 : Int) ≤ 1048576
  case neg => exact runCode_farn2 w n0 V0 s0 c0 a1 n2 V2 s2 c2 n3 K3 V3 s3 c3  (by omega)
  by_cases gn0 : (n0 : Int) ≤ 1048576
  case neg => exact runCode_farn0 w n0 V0 s0 c0 a1 n2 V2 s2 c2 n3 K3 V3 s3 c3 qn2  (by omega) (by omega) 
  by_cases gn3 : ((n3 : Int) + (suK K3 n3 : Int)) ≤ 1048576 - n0
  case neg => exact runCode_farn3 w n0 V0 s0 c0 a1 n2 V2 s2 c2 n3 K3 V3 s3 c3 qn2 gn0 (by omega) (by omega) k63 R3
  exact runCode_near w n0 V0 s0 c0 (by omega) R0 a1 n2 V2 s2 c2 (by omega) R2 n3 K3 V3 s3 c3 (by omega) R3 (by omega) (by omega) _ _ _ (rc_le n0 V0 a1 n2 V2 n3 K3 V3) _ (fun s c t co r cr w q1 q2 q3 => (specRunCode_any s n0 c V0 a1 t n2 co V2 r n3 cr K3 V3 w (by omega) (by omega) (by omega) (ll_each (by omega)) q1 q2 q3).mono fun e w' h => rc_fit h) (fun s c t co r cr w q1 q2 q3 => (implRunCode_any s n0 c V0 a1 t n2 co V2 r n3 cr K3 V3 w (by omega) (by omega) (by omega) (ll_each (by omega)) q1 q2 q3).mono fun e w' h => rc_fit h)

set_option maxRecDepth 100000 in
theorem fnExactRunCode_lifted (os : Os) (started : os.Started) (H : Type) (enc : TypeId × Value → H) :
    ReturnsInHanded {} Try.checked os 3 .any (Rows.fnExactRunCodeSpec.pre6 enc Try.prog Try.f3 Rows.fnExactRunCodeRow.domain false) (Rows.fnExactRunCodeSpec.post enc Try.prog Try.f3 false true false false) := by
  refine returnsInHanded_of_change (C := Try.checked) own started (by kernel_rfl) Try.func3
    (ChangeSpec.witness6 (enc := enc) (C := Try.checked) false ⟨#[], #[.slice none 0 0, .int .i64 0, .slice none 0 0, .slice none 0 0], []⟩ 8 (by kernel_rfl) (by kernel_rfl) (by kernel_rfl) (by kernel_rfl)) ?_
  intro W base args ds gs before hval0 hW hcnd _
  have hval : ∀ (j : Nat) t v, Try.f3.params[j]? = some t → args[j]? = some v → Value.okWide Try.prog W .any base t v := hval0
  have hW' := hW
  obtain ⟨p, q, hA0, hV, rfl, hfz, hnd⟩ := hW
  have hA : DataW.TrodAll enc Try.prog W 0 (fun _ => true) true Try.f3.params.toList args.toList ds p := hA0
  rw [Try.params3] at hA hval
  obtain ⟨v0, vs0, d0, ds0, p0, q0, hargs, rfl, rfl, h0, r0⟩ := trodAll_cons hA
  obtain ⟨v1, vs1, d1, ds1, p1, q1, rfl, rfl, rfl, h1, r1⟩ := trodAll_cons r0
  obtain ⟨v2, vs2, d2, ds2, p2, q2, rfl, rfl, rfl, h2, r2⟩ := trodAll_cons r1
  obtain ⟨v3, vs3, d3, ds3, p3, q3, rfl, rfl, rfl, h3, r3⟩ := trodAll_cons r2
  obtain ⟨rfl, rfl, rfl⟩ := trodAll_nil r3
  obtain rfl : args = #[v0, v1, v2, v3] := by cases args; simp_all
  obtain ⟨rfl, rfl⟩ := trodVars_none hV
  have k0 := h0
  have lt0 : ∀ x ∈ p0, x.block < W.heap.size := by obtain ⟨m, hm⟩ := k0; exact DataW.trod_lt m _ _ _ hm
  have k1 := h1
  have lt1 : ∀ x ∈ p1, x.block < W.heap.size := by obtain ⟨m, hm⟩ := k1; exact DataW.trod_lt m _ _ _ hm
  have k2 := h2
  have lt2 : ∀ x ∈ p2, x.block < W.heap.size := by obtain ⟨m, hm⟩ := k2; exact DataW.trod_lt m _ _ _ hm
  have k3 := h3
  have lt3 : ∀ x ∈ p3, x.block < W.heap.size := by obtain ⟨m, hm⟩ := k3; exact DataW.trod_lt m _ _ _ hm
  obtain ⟨s0, n0, c0, V0, rfl, m0, R0⟩ := open_rows2 Try.underlying22 Try.underlying48 (by kernel_rfl) rfl rfl (by kernel_rfl) (by kernel_rfl) (by kernel_rfl) (by kernel_rfl) (hval 0 22 v0 rfl rfl) h0
  obtain ⟨a1, rfl, rfl, rfl, w1⟩ := open_int Try.underlying2 (hval 1 2 v1 rfl rfl) h1
  obtain ⟨s2, n2, c2, V2, rfl, m2, R2, w2⟩ := open_i64s Try.underlying23 Try.underlying2 (by kernel_rfl) (hval 2 23 v2 rfl rfl) h2
  obtain ⟨s3, n3, c3, K3, V3, rfl, m3, mk3, R3⟩ := open_ll Try.underlying24 Try.underlying23 Try.underlying2 (by kernel_rfl) (by kernel_rfl) (hval 3 24 v3 rfl rfl) h3
  clear hA0 hval0
  refine (fnExactRunCode_walk W s0 n0 c0 V0 m0 R0 a1 w1 s2 n2 c2 V2 m2 R2 w2 s3 n3 c3 K3 V3 m3 mk3 R3).mono fun e W' ⟨he, bel⟩ => ?_
  subst he
  exact ⟨_, rfl, _, _, _, [], _, [], hW', trodAll_mk1 (shut_bool Try.underlying4 _), (trodAll_cons_mk (Below.trod laidOut (by kernel_rfl) (of_decide_eq_true (by kernel_rfl)) k0 bel lt0) (trodAll_cons_mk (Below.trod laidOut (by kernel_rfl) (of_decide_eq_true (by kernel_rfl)) k1 bel lt1) (trodAll_cons_mk (Below.trod laidOut (by kernel_rfl) (of_decide_eq_true (by kernel_rfl)) k2 bel lt2) (trodAll_cons_mk (Below.trod laidOut (by kernel_rfl) (of_decide_eq_true (by kernel_rfl)) k3 bel lt3) trodAll_mk0)))), rfl, bel.frame _, fun h => by cases h⟩

theorem fnExactRunCode_holds : Rows.FnExactRunCodeSaid :=
  OpenClaim.holds_of_wide 3 Try.f3 rfl rfl rfl rfl rfl rfl rfl ⟨rfl, rfl, rfl, rfl, rfl⟩ rfl rfl rfl rfl rfl (by kernel_rfl) Try.func3 (by kernel_rfl)
    (of_decide_eq_true (by kernel_rfl)) (by unfold Func.isWrapper; first | (rw [if_pos (by decide +kernel)]; kernel_rfl) | (rw [if_neg (by decide +kernel)]; exact ⟨rfl, rfl⟩))
    (fun os started H enc _ => fnExactRunCode_lifted os started H enc)
#print axioms fnExactRunCode_holds
end Go.Proofs.Ytmjijklmenikaaa
