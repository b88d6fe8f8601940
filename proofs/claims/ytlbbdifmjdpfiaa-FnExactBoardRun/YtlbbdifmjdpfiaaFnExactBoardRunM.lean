/-
What is proved: at every board and list of scans impl.BoardRun answers as the specification's BoardRun, leaves both as they were, and its answers own their memory; no condition.
-/
import Derived.Test.YtlbbdifmjdpfiaaBqIz
import Derived.Test.YtlbbdifmjdpfiaaBqSz
import Derived.Test.YtlbbdifmjdpfiaaBqZ
import Derived.Test.YtlbbdifmjdpfiaaBqY
import Derived.Deep.RegionHeld3
import Derived.Deep.DeepCutAuto
namespace Go.Proofs.Ytlbbdifmjdpfiaa
set_option maxRecDepth 40000
open Go.ChangeShapes Go.WideShapes Go.ChangeAt Go.RowKit
set_option linter.unusedVariables false
set_option linter.unusedSimpArgs false

theorem bqK_le (x : Int) (n : Nat) (V : Nat → Int × Int × Int × Bool × Int) (Z : Nat → Int × Nat × (Nat → Bool) × Nat × (Nat → Int) × Nat × (Nat → Int × Int)) (k : Nat) : bqK x n V Z k ≤ n := by
  unfold bqK bqL stT
  split
  · exact liL_le _ _ _ _ _ _
  · simp
theorem suK_most {K : Nat → Nat} {c : Nat} (h : ∀ k, K k ≤ c) (m : Nat) : suK K m ≤ m * c := by
  induction m with
  | zero => simp [suK]
  | succ m ih => have := h m; rw [suK, Nat.succ_mul]; omega
theorem bq_leM (x : Int) (n : Nat) (V : Nat → Int × Int × Int × Bool × Int) (m : Nat) (Z : Nat → Int × Nat × (Nat → Bool) × Nat × (Nat → Int) × Nat × (Nat → Int × Int)) : ((bqM x n V m Z : Nat) : Int) + (suK (bqK x n V Z) (bqM x n V m Z) : Int) ≤ 1048576 := by
  unfold bqM
  split
  · rename_i h
    unfold bqB at h
    simp only [Bool.and_eq_true, decide_eq_true_iff] at h
    have h1 := (board_yes h.1).2.1
    have h2 := h.2.1
    have h3 := suK_most (bqK_le x n V Z) m
    have h4 := Nat.mul_le_mul h2 h1
    omega
  · simp [suK]
theorem bq_leN (x : Int) (n : Nat) (V : Nat → Int × Int × Int × Bool × Int) (m : Nat) (Z : Nat → Int × Nat × (Nat → Bool) × Nat × (Nat → Int) × Nat × (Nat → Int × Int)) (hn : (n : Int) ≤ 1048576) : ((bqN x n V m Z : Nat) : Int) ≤ 1048576 := by
  unfold bqN
  split
  · exact hn
  · simp
theorem keepLaw2_2 {W W' : World} {p r : Nat} {va0 va1 vx0 vx1 : Value} (ha0 : W.cell? ⟨p, 0, none⟩ = some va0) (ha1 : W.cell? ⟨p, 1, none⟩ = some va1) (hx0 : W.cell? ⟨r, 0, none⟩ = some vx0) (hx1 : W.cell? ⟨r, 1, none⟩ = some vx1) (zp : p < W.heap.size) (zr : r < W.heap.size) (hb : Below W.heap.size W W') : W'.cell? ⟨p, 0, none⟩ = some va0 ∧ W'.cell? ⟨p, 1, none⟩ = some va1 ∧ W'.cell? ⟨r, 0, none⟩ = some vx0 ∧ W'.cell? ⟨r, 1, none⟩ = some vx1 :=
  ⟨(hb.cell (p := ⟨p, 0, none⟩) zp).trans ha0, (hb.cell (p := ⟨p, 1, none⟩) zp).trans ha1, (hb.cell (p := ⟨r, 0, none⟩) zr).trans hx0, (hb.cell (p := ⟨r, 1, none⟩) zr).trans hx1⟩
set_option maxRecDepth 20000 in
set_option maxHeartbeats 8000000 in
theorem boardRun_near (w : World) (a0_0 : Int) (n0_1 : Nat) (V0_1 : Nat → Int × Int × Int × Bool × Int) (s0_1 : Option Addr) (c0_1 : Nat) (hn0_1 : (n0_1 : Int) ≤ 1048576) (HR0 : Hid (RowBoard w s0_1 n0_1 V0_1)) (n1 : Nat) (Z1 : Nat → Int × Nat × (Nat → Bool) × Nat × (Nat → Int) × Nat × (Nat → Int × Int)) (s1 : Option Addr) (c1 : Nat) (hn1 : ((n1 : Int) + (suK (scsK Z1) n1 : Int)) ≤ 1048576) (HR1 : Hid (RowScs w s1 n1 Z1)) (gn0_1 : (n0_1 : Int) ≤ 1048576) (gn1 : ((n1 : Int) + (suK (scsK Z1) n1 : Int)) ≤ 1048576 - n0_1) (nr0 : Nat) (Kr0 : Nat → Nat) (Vr0 : Nat → Nat → Int) (hnr0 : ((nr0 : Int) + (suK Kr0 nr0 : Int)) ≤ 1048576) (ar1_0 : Int) (nr1_1 : Nat) (Vr1_1 : Nat → Int × Int × Int × Bool × Int) (hnr1_1 : (nr1_1 : Int) ≤ 1048576) (ar2 : Bool)
    (H1 : Hid (∀ (s0_1 : Option Addr) (c0_1 : Nat) (s1 : Option Addr) (c1 : Nat) w, RowBoard w s0_1 n0_1 V0_1 → RowScs w s1 n1 Z1 → Calls Try.prog 11 #[.agg #[.int .i64 a0_0, .slice s0_1 n0_1 c0_1], .slice s1 n1 c1] w fun e w' => ∃ (s'r0 : Option Addr) (c'r0 : Nat) (s'r1_1 : Option Addr) (c'r1_1 : Nat) (S0 : Nat → Prop) (S1 : Nat → Prop), e = .returned (.tuple #[.slice s'r0 nr0 c'r0, .agg #[.int .i64 ar1_0, .slice s'r1_1 nr1_1 c'r1_1], .bool ar2]) ∧ (∀ k, S0 k → w.heap.size ≤ k ∧ k < w'.heap.size) ∧ LLR S0 w' s'r0 nr0 Kr0 Vr0 ∧ (∀ k, S1 k → w.heap.size ≤ k ∧ k < w'.heap.size) ∧ BoardR S1 w' s'r1_1 nr1_1 Vr1_1 ∧ (∀ k, S0 k → ¬ S1 k) ∧ Below w.heap.size w w'))
    (H2 : Hid (∀ (s0_1 : Option Addr) (c0_1 : Nat) (s1 : Option Addr) (c1 : Nat) w, RowBoard w s0_1 n0_1 V0_1 → RowScs w s1 n1 Z1 → Calls Try.prog 12 #[.agg #[.int .i64 a0_0, .slice s0_1 n0_1 c0_1], .slice s1 n1 c1] w fun e w' => ∃ (s'r0 : Option Addr) (c'r0 : Nat) (s'r1_1 : Option Addr) (c'r1_1 : Nat) (S0 : Nat → Prop) (S1 : Nat → Prop), e = .returned (.tuple #[.slice s'r0 nr0 c'r0, .agg #[.int .i64 ar1_0, .slice s'r1_1 nr1_1 c'r1_1], .bool ar2]) ∧ (∀ k, S0 k → w.heap.size ≤ k ∧ k < w'.heap.size) ∧ LLR S0 w' s'r0 nr0 Kr0 Vr0 ∧ (∀ k, S1 k → w.heap.size ≤ k ∧ k < w'.heap.size) ∧ BoardR S1 w' s'r1_1 nr1_1 Vr1_1 ∧ (∀ k, S0 k → ¬ S1 k) ∧ Below w.heap.size w w')) :
    Calls Try.prog 4 #[.agg #[.int .i64 a0_0, .slice s0_1 n0_1 c0_1], .slice s1 n1 c1] w fun e w' => e = .returned (.bool true) ∧ Below w.heap.size w w' := by
  have sto := store_slT
  go_enter Try.func4, Try.ntmps4
  go_wp2_with fail
  refine (szBoard_on a0_0 n0_1 V0_1 s0_1 c0_1 _ _ (by omega) (by omega) (by omega)).mono ?_
  rintro e w1 ⟨rfl, hh⟩
  have hb : Below w.heap.size w w1 := Below.trans (by repeat (first | with_reducible exact Below.refl _ _ | with_reducible refine Below.setCell ?_ (by first | omega | (simp; done) | (simp; omega)) _ | with_reducible refine bDrewN ?_ _ | with_reducible refine Below.drew ?_ | with_reducible refine Below.alloc ?_ (by first | omega | (simp; done) | (simp; omega)) _)) (hh.mono (by first | omega | (simp; done) | (simp; omega)))
  have lw1 : w.heap.size ≤ w1.heap.size := hb.size
  have ca00 : w1.cell? ⟨w.heap.size, 0, none⟩ = some (.int .i64 a0_0) := by rw [hh.cell (by first | omega | (simp; done) | (simp; omega))]; first | (simp; done) | (simp [go_sem]; done)
  have ca01 : w1.cell? ⟨w.heap.size, 1, none⟩ = some (.slice s0_1 n0_1 c0_1) := by rw [hh.cell (by first | omega | (simp; done) | (simp; omega))]; first | (simp; done) | (simp [go_sem]; done)
  have za0 : w.heap.size < w1.heap.size := by have := hh.size; simp at this; omega
  have ya0 : w.heap.size < w1.heap.size := za0
  have B0 : Below w.heap.size w w1 := hb
  clear hb hh
  go_wp2_with fail
  refine (szScanS_on _ n1 _ Z1 _ _ (by omega) (by omega) (by omega) (HR1.out.below B0)).mono ?_
  rintro e w2 ⟨rfl, hh⟩
  have hb : Below w1.heap.size w1 w2 := Below.trans (by repeat (first | with_reducible exact Below.refl _ _ | with_reducible refine Below.setCell ?_ (by first | omega | (simp; done) | (simp; omega)) _ | with_reducible refine bDrewN ?_ _ | with_reducible refine Below.drew ?_ | with_reducible refine Below.alloc ?_ (by first | omega | (simp; done) | (simp; omega)) _)) (hh.mono (by first | omega | (simp; done) | (simp; omega)))
  have lw2 : w1.heap.size ≤ w2.heap.size := hb.size
  replace ca00 := (hb.cell (p := ⟨w.heap.size, 0, none⟩) za0).trans ca00
  replace ca01 := (hb.cell (p := ⟨w.heap.size, 1, none⟩) za0).trans ca01
  replace za0 := Nat.lt_of_lt_of_le za0 hb.size
  replace B0 : Below w.heap.size w w2 := B0.trans (hb.mono B0.size)
  clear hb hh
  go_wp2_with fail
  refine (toBoard_r a0_0 n0_1 V0_1 s0_1 c0_1 _ hn0_1 (HR0.out.below B0)).mono ?_
  rintro e w3 ⟨st0_1, St0, rfl, Q, O, hh⟩
  have hb : Below w2.heap.size w2 w3 := Below.trans (by repeat (first | with_reducible exact Below.refl _ _ | with_reducible refine Below.setCell ?_ (by first | omega | (simp; done) | (simp; omega)) _ | with_reducible refine bDrewN ?_ _ | with_reducible refine Below.drew ?_ | with_reducible refine Below.alloc ?_ (by first | omega | (simp; done) | (simp; omega)) _)) (hh.mono (by first | omega | (simp; done) | (simp; omega)))
  have lw3 : w2.heap.size ≤ w3.heap.size := hb.size
  replace ca00 := (hb.cell (p := ⟨w.heap.size, 0, none⟩) za0).trans ca00
  replace ca01 := (hb.cell (p := ⟨w.heap.size, 1, none⟩) za0).trans ca01
  replace za0 := Nat.lt_of_lt_of_le za0 hb.size
  replace B0 : Below w.heap.size w w3 := B0.trans (hb.mono B0.size)
  clear hb hh
  have Qt0 : Hid (∀ k, St0 k → w2.heap.size ≤ k ∧ k < w3.heap.size) := (show ∀ k, St0 k → w2.heap.size ≤ k ∧ k < w3.heap.size from by simpa using Q)
  have Ot0 : Hid (BoardR St0 w3 st0_1 n0_1 V0_1) := O
  clear O Q
  go_wp2_with fail
  refine (toScanS_r s1 n1 c1 Z1 _ hn1 (HR1.out.below B0)).mono ?_
  rintro e w4 ⟨st1, St1, rfl, Q, O, hh⟩
  have hb : Below w3.heap.size w3 w4 := Below.trans (by repeat (first | with_reducible exact Below.refl _ _ | with_reducible refine Below.setCell ?_ (by first | omega | (simp; done) | (simp; omega)) _ | with_reducible refine bDrewN ?_ _ | with_reducible refine Below.drew ?_ | with_reducible refine Below.alloc ?_ (by first | omega | (simp; done) | (simp; omega)) _)) (hh.mono (by first | omega | (simp; done) | (simp; omega)))
  have lw4 : w3.heap.size ≤ w4.heap.size := hb.size
  replace ca00 := (hb.cell (p := ⟨w.heap.size, 0, none⟩) za0).trans ca00
  replace ca01 := (hb.cell (p := ⟨w.heap.size, 1, none⟩) za0).trans ca01
  replace za0 := Nat.lt_of_lt_of_le za0 hb.size
  replace Ot0 : Hid (BoardR St0 w4 st0_1 n0_1 V0_1) := Ot0.out.below hb
  replace B0 : Below w.heap.size w w4 := B0.trans (hb.mono B0.size)
  clear hb hh
  have Qt1 : Hid (∀ k, St1 k → w3.heap.size ≤ k ∧ k < w4.heap.size) := (show ∀ k, St1 k → w3.heap.size ≤ k ∧ k < w4.heap.size from by simpa using Q)
  have Ot1 : Hid (ScsR St1 w4 st1 n1 Z1) := O
  clear O Q
  go_wp2_with fail
  refine (H1.out st0_1 _ st1 _ _ (Ot0.out.row) (Ot1.out.row)).mono ?_
  rintro e w5 ⟨sWr0, cWr0, sWr1_1, cWr1_1, SW0, SW1, rfl, Q0, O0, Q1, O1, D0_1, hh⟩
  have hb : Below w4.heap.size w4 w5 := Below.trans (by repeat (first | with_reducible exact Below.refl _ _ | with_reducible refine Below.setCell ?_ (by first | omega | (simp; done) | (simp; omega)) _ | with_reducible refine bDrewN ?_ _ | with_reducible refine Below.drew ?_ | with_reducible refine Below.alloc ?_ (by first | omega | (simp; done) | (simp; omega)) _)) (hh.mono (by first | omega | (simp; done) | (simp; omega)))
  have lw5 : w4.heap.size ≤ w5.heap.size := hb.size
  replace ca00 := (hb.cell (p := ⟨w.heap.size, 0, none⟩) za0).trans ca00
  replace ca01 := (hb.cell (p := ⟨w.heap.size, 1, none⟩) za0).trans ca01
  replace za0 := Nat.lt_of_lt_of_le za0 hb.size
  replace Ot0 : Hid (BoardR St0 w5 st0_1 n0_1 V0_1) := Ot0.out.below hb
  replace Ot1 : Hid (ScsR St1 w5 st1 n1 Z1) := Ot1.out.below hb
  replace B0 : Below w.heap.size w w5 := B0.trans (hb.mono B0.size)
  clear hb hh
  clear Ot0 Qt0 
  clear Ot1 Qt1 
  have Bs : Below w5.heap.size w5 w5 := Below.refl _ _
  have RW0 : Hid (RowLL w5 sWr0 nr0 Kr0 Vr0) := O0.row
  have RW1 : Hid (RowBoard w5 sWr1_1 nr1_1 Vr1_1) := O1.row
  clear O0 Q0 O1 Q1 D0_1
  go_wp2_with fail
  refine (toBoard_r a0_0 n0_1 V0_1 s0_1 c0_1 _ hn0_1 ((HR0.out.below B0).below (below0 _ _))).mono ?_
  rintro e w6 ⟨sx0_1, Sx0, rfl, Q, O, hh⟩
  have hb : Below w5.heap.size w5 w6 := Below.trans (by repeat (first | with_reducible exact Below.refl _ _ | with_reducible refine Below.setCell ?_ (by first | omega | (simp; done) | (simp; omega)) _ | with_reducible refine bDrewN ?_ _ | with_reducible refine Below.drew ?_ | with_reducible refine Below.alloc ?_ (by first | omega | (simp; done) | (simp; omega)) _)) (hh.mono (by first | omega | (simp; done) | (simp; omega)))
  have lw6 : w5.heap.size ≤ w6.heap.size := hb.size
  have cw10 : w6.cell? ⟨w5.heap.size, 0, none⟩ = some (.int .i64 ar1_0) := by rw [hh.cell (by first | omega | (simp; done) | (simp; omega))]; first | (simp; done) | (simp [go_sem]; done)
  have cw11 : w6.cell? ⟨w5.heap.size, 1, none⟩ = some (.slice sWr1_1 nr1_1 cWr1_1) := by rw [hh.cell (by first | omega | (simp; done) | (simp; omega))]; first | (simp; done) | (simp [go_sem]; done)
  have zw1 : w5.heap.size < w6.heap.size := by have := hh.size; simp at this; omega
  have yw1 : w5.heap.size < w6.heap.size := zw1
  replace ca00 := (hb.cell (p := ⟨w.heap.size, 0, none⟩) za0).trans ca00
  replace ca01 := (hb.cell (p := ⟨w.heap.size, 1, none⟩) za0).trans ca01
  replace za0 := Nat.lt_of_lt_of_le za0 hb.size
  replace Bs : Below w5.heap.size w5 w6 := Bs.trans (hb.mono Bs.size)
  replace B0 : Below w.heap.size w w6 := B0.trans (hb.mono B0.size)
  clear hb hh
  have Qx0 : Hid (∀ k, Sx0 k → w5.heap.size + 1 ≤ k ∧ k < w6.heap.size) := (show ∀ k, Sx0 k → w5.heap.size + 1 ≤ k ∧ k < w6.heap.size from by simpa using Q)
  have Ox0 : Hid (BoardR Sx0 w6 sx0_1 n0_1 V0_1) := O
  clear O Q
  go_wp2_with fail
  refine (toScanS_r s1 n1 c1 Z1 _ hn1 ((HR1.out.below B0).below (below0 _ _))).mono ?_
  rintro e w7 ⟨sx1, Sx1, rfl, Q, O, hh⟩
  have hb : Below w6.heap.size w6 w7 := Below.trans (by repeat (first | with_reducible exact Below.refl _ _ | with_reducible refine Below.setCell ?_ (by first | omega | (simp; done) | (simp; omega)) _ | with_reducible refine bDrewN ?_ _ | with_reducible refine Below.drew ?_ | with_reducible refine Below.alloc ?_ (by first | omega | (simp; done) | (simp; omega)) _)) (hh.mono (by first | omega | (simp; done) | (simp; omega)))
  have lw7 : w6.heap.size ≤ w7.heap.size := hb.size
  have cx00 : w7.cell? ⟨w6.heap.size, 0, none⟩ = some (.int .i64 a0_0) := by rw [hh.cell (by first | omega | (simp; done) | (simp; omega))]; first | (simp; done) | (simp [go_sem]; done)
  have cx01 : w7.cell? ⟨w6.heap.size, 1, none⟩ = some (.slice sx0_1 n0_1 n0_1) := by rw [hh.cell (by first | omega | (simp; done) | (simp; omega))]; first | (simp; done) | (simp [go_sem]; done)
  have zx0 : w6.heap.size < w7.heap.size := by have := hh.size; simp at this; omega
  have yx0 : w6.heap.size < w7.heap.size := zx0
  replace ca00 := (hb.cell (p := ⟨w.heap.size, 0, none⟩) za0).trans ca00
  replace ca01 := (hb.cell (p := ⟨w.heap.size, 1, none⟩) za0).trans ca01
  replace za0 := Nat.lt_of_lt_of_le za0 hb.size
  replace cw10 := (hb.cell (p := ⟨w5.heap.size, 0, none⟩) zw1).trans cw10
  replace cw11 := (hb.cell (p := ⟨w5.heap.size, 1, none⟩) zw1).trans cw11
  replace zw1 := Nat.lt_of_lt_of_le zw1 hb.size
  replace Ox0 : Hid (BoardR Sx0 w7 sx0_1 n0_1 V0_1) := Ox0.out.below hb
  replace Bs : Below w5.heap.size w5 w7 := Bs.trans (hb.mono Bs.size)
  replace B0 : Below w.heap.size w w7 := B0.trans (hb.mono B0.size)
  clear hb hh
  have Qx1 : Hid (∀ k, Sx1 k → w6.heap.size + 1 ≤ k ∧ k < w7.heap.size) := (show ∀ k, Sx1 k → w6.heap.size + 1 ≤ k ∧ k < w7.heap.size from by simpa using Q)
  have Ox1 : Hid (ScsR Sx1 w7 sx1 n1 Z1) := O
  clear O Q
  go_wp2_with fail
  refine (H2.out sx0_1 _ sx1 _ _ (Ox0.out.row) (Ox1.out.row)).mono ?_
  rintro e w8 ⟨sgr0, cgr0, sgr1_1, cgr1_1, Sg0, Sg1, rfl, Q0, O0, Q1, O1, D0_1, hh⟩
  have hb : Below w7.heap.size w7 w8 := Below.trans (by repeat (first | with_reducible exact Below.refl _ _ | with_reducible refine Below.setCell ?_ (by first | omega | (simp; done) | (simp; omega)) _ | with_reducible refine bDrewN ?_ _ | with_reducible refine Below.drew ?_ | with_reducible refine Below.alloc ?_ (by first | omega | (simp; done) | (simp; omega)) _)) (hh.mono (by first | omega | (simp; done) | (simp; omega)))
  have lw8 : w7.heap.size ≤ w8.heap.size := hb.size
  replace ca00 := (hb.cell (p := ⟨w.heap.size, 0, none⟩) za0).trans ca00
  replace ca01 := (hb.cell (p := ⟨w.heap.size, 1, none⟩) za0).trans ca01
  replace za0 := Nat.lt_of_lt_of_le za0 hb.size
  replace cw10 := (hb.cell (p := ⟨w5.heap.size, 0, none⟩) zw1).trans cw10
  replace cw11 := (hb.cell (p := ⟨w5.heap.size, 1, none⟩) zw1).trans cw11
  replace zw1 := Nat.lt_of_lt_of_le zw1 hb.size
  replace cx00 := (hb.cell (p := ⟨w6.heap.size, 0, none⟩) zx0).trans cx00
  replace cx01 := (hb.cell (p := ⟨w6.heap.size, 1, none⟩) zx0).trans cx01
  replace zx0 := Nat.lt_of_lt_of_le zx0 hb.size
  replace Ox0 : Hid (BoardR Sx0 w8 sx0_1 n0_1 V0_1) := Ox0.out.below hb
  replace Ox1 : Hid (ScsR Sx1 w8 sx1 n1 Z1) := Ox1.out.below hb
  replace Bs : Below w5.heap.size w5 w8 := Bs.trans (hb.mono Bs.size)
  replace B0 : Below w.heap.size w w8 := B0.trans (hb.mono B0.size)
  clear hb hh
  have Qg0 : Hid (∀ k, Sg0 k → w7.heap.size ≤ k ∧ k < w8.heap.size) := (show ∀ k, Sg0 k → w7.heap.size ≤ k ∧ k < w8.heap.size from by simpa using Q0)
  have Og0 : Hid (LLR Sg0 w8 sgr0 nr0 Kr0 Vr0) := O0
  clear O0 Q0
  have Qg1 : Hid (∀ k, Sg1 k → w7.heap.size ≤ k ∧ k < w8.heap.size) := (show ∀ k, Sg1 k → w7.heap.size ≤ k ∧ k < w8.heap.size from by simpa using Q1)
  have Og1 : Hid (BoardR Sg1 w8 sgr1_1 nr1_1 Vr1_1) := O1
  clear O1 Q1
  have Dg0_g1 : Hid (∀ k, Sg0 k → ¬ Sg1 k) := D0_1
  clear D0_1
  go_wp2_with fail
  refine (eqInt64SS_r sgr0 sWr0 nr0 _ _ Kr0 Vr0 _ hnr0 ((Og0.out.row).below (below0 _ _)) ((RW0.out.below Bs).below (below0 _ _))).mono ?_
  rintro e w9 ⟨rfl, hh⟩
  have hb : Below w8.heap.size w8 w9 := Below.trans (by repeat (first | with_reducible exact Below.refl _ _ | with_reducible refine Below.setCell ?_ (by first | omega | (simp; done) | (simp; omega)) _ | with_reducible refine bDrewN ?_ _ | with_reducible refine Below.drew ?_ | with_reducible refine Below.alloc ?_ (by first | omega | (simp; done) | (simp; omega)) _)) (hh.mono (by first | omega | (simp; done) | (simp; omega)))
  have lw9 : w8.heap.size ≤ w9.heap.size := hb.size
  have cg10 : w9.cell? ⟨w8.heap.size, 0, none⟩ = some (.int .i64 ar1_0) := by rw [hh.cell (by first | omega | (simp; done) | (simp; omega))]; first | (simp; done) | (simp [go_sem]; done)
  have cg11 : w9.cell? ⟨w8.heap.size, 1, none⟩ = some (.slice sgr1_1 nr1_1 cgr1_1) := by rw [hh.cell (by first | omega | (simp; done) | (simp; omega))]; first | (simp; done) | (simp [go_sem]; done)
  have zg1 : w8.heap.size < w9.heap.size := by have := hh.size; simp at this; omega
  have yg1 : w8.heap.size < w9.heap.size := zg1
  replace ca00 := (hb.cell (p := ⟨w.heap.size, 0, none⟩) za0).trans ca00
  replace ca01 := (hb.cell (p := ⟨w.heap.size, 1, none⟩) za0).trans ca01
  replace za0 := Nat.lt_of_lt_of_le za0 hb.size
  replace cw10 := (hb.cell (p := ⟨w5.heap.size, 0, none⟩) zw1).trans cw10
  replace cw11 := (hb.cell (p := ⟨w5.heap.size, 1, none⟩) zw1).trans cw11
  replace zw1 := Nat.lt_of_lt_of_le zw1 hb.size
  replace cx00 := (hb.cell (p := ⟨w6.heap.size, 0, none⟩) zx0).trans cx00
  replace cx01 := (hb.cell (p := ⟨w6.heap.size, 1, none⟩) zx0).trans cx01
  replace zx0 := Nat.lt_of_lt_of_le zx0 hb.size
  replace Ox0 : Hid (BoardR Sx0 w9 sx0_1 n0_1 V0_1) := Ox0.out.below hb
  replace Ox1 : Hid (ScsR Sx1 w9 sx1 n1 Z1) := Ox1.out.below hb
  replace Og0 : Hid (LLR Sg0 w9 sgr0 nr0 Kr0 Vr0) := Og0.out.below hb
  replace Og1 : Hid (BoardR Sg1 w9 sgr1_1 nr1_1 Vr1_1) := Og1.out.below hb
  replace Bs : Below w5.heap.size w5 w9 := Bs.trans (hb.mono Bs.size)
  replace B0 : Below w.heap.size w w9 := B0.trans (hb.mono B0.size)
  clear hb hh
  go_wp2_with fail
  refine (eqBoard_r ar1_0 nr1_1 Vr1_1 sgr1_1 cgr1_1 sWr1_1 cWr1_1 _ hnr1_1 (Og1.out.row) (RW1.out.below Bs)).mono ?_
  rintro e w10 ⟨rfl, hh⟩
  have hb : Below w9.heap.size w9 w10 := Below.trans (by repeat (first | with_reducible exact Below.refl _ _ | with_reducible refine Below.setCell ?_ (by first | omega | (simp; done) | (simp; omega)) _ | with_reducible refine bDrewN ?_ _ | with_reducible refine Below.drew ?_ | with_reducible refine Below.alloc ?_ (by first | omega | (simp; done) | (simp; omega)) _)) (hh.mono (by first | omega | (simp; done) | (simp; omega)))
  have lw10 : w9.heap.size ≤ w10.heap.size := hb.size
  replace ca00 := (hb.cell (p := ⟨w.heap.size, 0, none⟩) za0).trans ca00
  replace ca01 := (hb.cell (p := ⟨w.heap.size, 1, none⟩) za0).trans ca01
  replace za0 := Nat.lt_of_lt_of_le za0 hb.size
  replace cw10 := (hb.cell (p := ⟨w5.heap.size, 0, none⟩) zw1).trans cw10
  replace cw11 := (hb.cell (p := ⟨w5.heap.size, 1, none⟩) zw1).trans cw11
  replace zw1 := Nat.lt_of_lt_of_le zw1 hb.size
  replace cx00 := (hb.cell (p := ⟨w6.heap.size, 0, none⟩) zx0).trans cx00
  replace cx01 := (hb.cell (p := ⟨w6.heap.size, 1, none⟩) zx0).trans cx01
  replace zx0 := Nat.lt_of_lt_of_le zx0 hb.size
  replace cg10 := (hb.cell (p := ⟨w8.heap.size, 0, none⟩) zg1).trans cg10
  replace cg11 := (hb.cell (p := ⟨w8.heap.size, 1, none⟩) zg1).trans cg11
  replace zg1 := Nat.lt_of_lt_of_le zg1 hb.size
  replace Ox0 : Hid (BoardR Sx0 w10 sx0_1 n0_1 V0_1) := Ox0.out.below hb
  replace Ox1 : Hid (ScsR Sx1 w10 sx1 n1 Z1) := Ox1.out.below hb
  replace Og0 : Hid (LLR Sg0 w10 sgr0 nr0 Kr0 Vr0) := Og0.out.below hb
  replace Og1 : Hid (BoardR Sg1 w10 sgr1_1 nr1_1 Vr1_1) := Og1.out.below hb
  replace Bs : Below w5.heap.size w5 w10 := Bs.trans (hb.mono Bs.size)
  replace B0 : Below w.heap.size w w10 := B0.trans (hb.mono B0.size)
  clear hb hh
  go_upto_region 14 with fail
  have HB : Hid (Below w.heap.size w w10) := B0
  go_cut [69] (fun y wx => y = .bool false ∧ Below w10.heap.size w10 wx)
  case first =>
    go_region_held3 (fun w' => w'.cell? ⟨w.heap.size, 0, none⟩ = some (.int .i64 a0_0) ∧ w'.cell? ⟨w.heap.size, 1, none⟩ = some (.slice s0_1 n0_1 c0_1) ∧ w'.cell? ⟨w6.heap.size, 0, none⟩ = some (.int .i64 a0_0) ∧ w'.cell? ⟨w6.heap.size, 1, none⟩ = some (.slice sx0_1 n0_1 n0_1)) (first | (exact ⟨ca00, ca01, cx00, cx01⟩) | (refine keepLaw2_2 ca00 ca01 cx00 cx01 za0 zx0 ?_; exact (by repeat (first | with_reducible exact Below.refl _ _ | with_reducible exact B8 | with_reducible exact B7 | with_reducible refine Below.setCell ?_ (by first | omega | (simp; done) | (simp; omega)) _ | with_reducible refine bDrewN ?_ _ | with_reducible refine Below.drew ?_ | with_reducible refine Below.alloc ?_ (by first | omega | (simp; done) | (simp; omega)) _)))) (first
      | (go_at_call 19; refine (toBoard_r a0_0 n0_1 V0_1 s0_1 c0_1 _ hn0_1 (HR0.out.below (HB.out.trans (Below.mono (by repeat (first | with_reducible exact Below.refl _ _ | with_reducible refine Below.setCell ?_ (by first | omega | (simp; done) | (simp; omega)) _ | with_reducible refine bDrewN ?_ _ | with_reducible refine Below.drew ?_ | with_reducible refine Below.alloc ?_ (by first | omega | (simp; done) | (simp; omega)) _)) HB.out.size)))).mono ?_; rintro e wy ⟨sy0_1, Sy, rfl, -, OY, h7⟩; have B7 : Below w10.heap.size w10 wy := Below.trans (by repeat (first | with_reducible exact Below.refl _ _ | with_reducible refine Below.setCell ?_ (by first | omega | (simp; done) | (simp; omega)) _ | with_reducible refine bDrewN ?_ _ | with_reducible refine Below.drew ?_ | with_reducible refine Below.alloc ?_ (by first | omega | (simp; done) | (simp; omega)) _)) (h7.mono (by first | omega | (simp; done) | (simp; omega))); have s7 := B7.size; have PY : Hid (RowBoard wy sy0_1 n0_1 V0_1) := OY.row; have PX : Hid (RowBoard wy sx0_1 n0_1 V0_1) := Ox0.out.row.below B7; clear h7 OY)
      | (go_at_call 22; refine (eqBoard_r a0_0 n0_1 V0_1 sx0_1 n0_1 sy0_1 n0_1 _ hn0_1 PX.out PY.out).mono ?_; rintro e wz ⟨rfl, h8⟩; have B8 : Below w10.heap.size w10 wz := Below.trans (by repeat (first | with_reducible exact Below.refl _ _ | with_reducible exact B7 | with_reducible refine Below.setCell ?_ (by first | omega | (simp; done) | (simp; omega)) _ | with_reducible refine bDrewN ?_ _ | with_reducible refine Below.drew ?_ | with_reducible refine Below.alloc ?_ (by first | omega | (simp; done) | (simp; omega)) _)) (h8.mono (by first | omega | (simp; done) | (simp; omega))); clear h8))
    all_goals
      go_wp2_with fail
      go_meet
      exact ⟨rfl, B8⟩
  obtain ⟨rfl, hb⟩ := hcut
  rename World => w11
  have lw11 : w10.heap.size ≤ w11.heap.size := hb.size
  replace ca00 := (hb.cell (p := ⟨w.heap.size, 0, none⟩) za0).trans ca00
  replace ca01 := (hb.cell (p := ⟨w.heap.size, 1, none⟩) za0).trans ca01
  replace za0 := Nat.lt_of_lt_of_le za0 hb.size
  replace cw10 := (hb.cell (p := ⟨w5.heap.size, 0, none⟩) zw1).trans cw10
  replace cw11 := (hb.cell (p := ⟨w5.heap.size, 1, none⟩) zw1).trans cw11
  replace zw1 := Nat.lt_of_lt_of_le zw1 hb.size
  replace cx00 := (hb.cell (p := ⟨w6.heap.size, 0, none⟩) zx0).trans cx00
  replace cx01 := (hb.cell (p := ⟨w6.heap.size, 1, none⟩) zx0).trans cx01
  replace zx0 := Nat.lt_of_lt_of_le zx0 hb.size
  replace cg10 := (hb.cell (p := ⟨w8.heap.size, 0, none⟩) zg1).trans cg10
  replace cg11 := (hb.cell (p := ⟨w8.heap.size, 1, none⟩) zg1).trans cg11
  replace zg1 := Nat.lt_of_lt_of_le zg1 hb.size
  replace Ox0 : Hid (BoardR Sx0 w11 sx0_1 n0_1 V0_1) := Ox0.out.below hb
  replace Ox1 : Hid (ScsR Sx1 w11 sx1 n1 Z1) := Ox1.out.below hb
  replace Og0 : Hid (LLR Sg0 w11 sgr0 nr0 Kr0 Vr0) := Og0.out.below hb
  replace Og1 : Hid (BoardR Sg1 w11 sgr1_1 nr1_1 Vr1_1) := Og1.out.below hb
  replace Bs : Below w5.heap.size w5 w11 := Bs.trans (hb.mono Bs.size)
  replace B0 : Below w.heap.size w w11 := B0.trans (hb.mono B0.size)
  clear hb HB
  go_wp2_with fail
  refine (toScanS_r s1 n1 c1 Z1 _ hn1 (HR1.out.below B0)).mono ?_
  rintro e w12 ⟨sy1, Sy1, rfl, Q, O, hh⟩
  have hb : Below w11.heap.size w11 w12 := Below.trans (by repeat (first | with_reducible exact Below.refl _ _ | with_reducible refine Below.setCell ?_ (by first | omega | (simp; done) | (simp; omega)) _ | with_reducible refine bDrewN ?_ _ | with_reducible refine Below.drew ?_ | with_reducible refine Below.alloc ?_ (by first | omega | (simp; done) | (simp; omega)) _)) (hh.mono (by first | omega | (simp; done) | (simp; omega)))
  have lw12 : w11.heap.size ≤ w12.heap.size := hb.size
  replace ca00 := (hb.cell (p := ⟨w.heap.size, 0, none⟩) za0).trans ca00
  replace ca01 := (hb.cell (p := ⟨w.heap.size, 1, none⟩) za0).trans ca01
  replace za0 := Nat.lt_of_lt_of_le za0 hb.size
  replace cw10 := (hb.cell (p := ⟨w5.heap.size, 0, none⟩) zw1).trans cw10
  replace cw11 := (hb.cell (p := ⟨w5.heap.size, 1, none⟩) zw1).trans cw11
  replace zw1 := Nat.lt_of_lt_of_le zw1 hb.size
  replace cx00 := (hb.cell (p := ⟨w6.heap.size, 0, none⟩) zx0).trans cx00
  replace cx01 := (hb.cell (p := ⟨w6.heap.size, 1, none⟩) zx0).trans cx01
  replace zx0 := Nat.lt_of_lt_of_le zx0 hb.size
  replace cg10 := (hb.cell (p := ⟨w8.heap.size, 0, none⟩) zg1).trans cg10
  replace cg11 := (hb.cell (p := ⟨w8.heap.size, 1, none⟩) zg1).trans cg11
  replace zg1 := Nat.lt_of_lt_of_le zg1 hb.size
  replace Ox0 : Hid (BoardR Sx0 w12 sx0_1 n0_1 V0_1) := Ox0.out.below hb
  replace Ox1 : Hid (ScsR Sx1 w12 sx1 n1 Z1) := Ox1.out.below hb
  replace Og0 : Hid (LLR Sg0 w12 sgr0 nr0 Kr0 Vr0) := Og0.out.below hb
  replace Og1 : Hid (BoardR Sg1 w12 sgr1_1 nr1_1 Vr1_1) := Og1.out.below hb
  replace Bs : Below w5.heap.size w5 w12 := Bs.trans (hb.mono Bs.size)
  replace B0 : Below w.heap.size w w12 := B0.trans (hb.mono B0.size)
  clear hb hh
  have Qy1 : Hid (∀ k, Sy1 k → w11.heap.size ≤ k ∧ k < w12.heap.size) := (show ∀ k, Sy1 k → w11.heap.size ≤ k ∧ k < w12.heap.size from by simpa using Q)
  have Oy1 : Hid (ScsR Sy1 w12 sy1 n1 Z1) := O
  clear O Q
  go_wp2_with fail
  refine (eqScanS_r _ _ n1 _ _ Z1 _ hn1 (Ox1.out.row) (Oy1.out.row)).mono ?_
  rintro e w13 ⟨rfl, hh⟩
  have hb : Below w12.heap.size w12 w13 := Below.trans (by repeat (first | with_reducible exact Below.refl _ _ | with_reducible refine Below.setCell ?_ (by first | omega | (simp; done) | (simp; omega)) _ | with_reducible refine bDrewN ?_ _ | with_reducible refine Below.drew ?_ | with_reducible refine Below.alloc ?_ (by first | omega | (simp; done) | (simp; omega)) _)) (hh.mono (by first | omega | (simp; done) | (simp; omega)))
  have lw13 : w12.heap.size ≤ w13.heap.size := hb.size
  replace ca00 := (hb.cell (p := ⟨w.heap.size, 0, none⟩) za0).trans ca00
  replace ca01 := (hb.cell (p := ⟨w.heap.size, 1, none⟩) za0).trans ca01
  replace za0 := Nat.lt_of_lt_of_le za0 hb.size
  replace cw10 := (hb.cell (p := ⟨w5.heap.size, 0, none⟩) zw1).trans cw10
  replace cw11 := (hb.cell (p := ⟨w5.heap.size, 1, none⟩) zw1).trans cw11
  replace zw1 := Nat.lt_of_lt_of_le zw1 hb.size
  replace cx00 := (hb.cell (p := ⟨w6.heap.size, 0, none⟩) zx0).trans cx00
  replace cx01 := (hb.cell (p := ⟨w6.heap.size, 1, none⟩) zx0).trans cx01
  replace zx0 := Nat.lt_of_lt_of_le zx0 hb.size
  replace cg10 := (hb.cell (p := ⟨w8.heap.size, 0, none⟩) zg1).trans cg10
  replace cg11 := (hb.cell (p := ⟨w8.heap.size, 1, none⟩) zg1).trans cg11
  replace zg1 := Nat.lt_of_lt_of_le zg1 hb.size
  replace Ox0 : Hid (BoardR Sx0 w13 sx0_1 n0_1 V0_1) := Ox0.out.below hb
  replace Ox1 : Hid (ScsR Sx1 w13 sx1 n1 Z1) := Ox1.out.below hb
  replace Og0 : Hid (LLR Sg0 w13 sgr0 nr0 Kr0 Vr0) := Og0.out.below hb
  replace Og1 : Hid (BoardR Sg1 w13 sgr1_1 nr1_1 Vr1_1) := Og1.out.below hb
  replace Oy1 : Hid (ScsR Sy1 w13 sy1 n1 Z1) := Oy1.out.below hb
  replace Bs : Below w5.heap.size w5 w13 := Bs.trans (hb.mono Bs.size)
  replace B0 : Below w.heap.size w w13 := B0.trans (hb.mono B0.size)
  clear hb hh
  clear Oy1 Qy1 
  go_wp2_with fail
  refine (markBoard_r a0_0 n0_1 V0_1 sx0_1 n0_1 Sx0 (1) _ hn0_1 (by omega) (by omega) (fun k q => by have := Qx0.out k q; omega) Ox0.out).mono ?_
  rintro e w14 ⟨rfl, T⟩
  have lw14 : w13.heap.size ≤ w14.heap.size := T.size
  replace ca00 := (T.cell (p := ⟨w.heap.size, 0, none⟩) za0 (show ¬ Sx0 (w.heap.size) from fun q => by have := Qx0.out _ q; omega)).trans ca00
  replace ca01 := (T.cell (p := ⟨w.heap.size, 1, none⟩) za0 (show ¬ Sx0 (w.heap.size) from fun q => by have := Qx0.out _ q; omega)).trans ca01
  replace za0 := Nat.lt_of_lt_of_le za0 T.size
  replace cw10 := (T.cell (p := ⟨w5.heap.size, 0, none⟩) zw1 (show ¬ Sx0 (w5.heap.size) from fun q => by have := Qx0.out _ q; omega)).trans cw10
  replace cw11 := (T.cell (p := ⟨w5.heap.size, 1, none⟩) zw1 (show ¬ Sx0 (w5.heap.size) from fun q => by have := Qx0.out _ q; omega)).trans cw11
  replace zw1 := Nat.lt_of_lt_of_le zw1 T.size
  replace cx00 := (T.cell (p := ⟨w6.heap.size, 0, none⟩) zx0 (show ¬ Sx0 (w6.heap.size) from fun q => by have := Qx0.out _ q; omega)).trans cx00
  replace cx01 := (T.cell (p := ⟨w6.heap.size, 1, none⟩) zx0 (show ¬ Sx0 (w6.heap.size) from fun q => by have := Qx0.out _ q; omega)).trans cx01
  replace zx0 := Nat.lt_of_lt_of_le zx0 T.size
  replace cg10 := (T.cell (p := ⟨w8.heap.size, 0, none⟩) zg1 (show ¬ Sx0 (w8.heap.size) from fun q => by have := Qx0.out _ q; omega)).trans cg10
  replace cg11 := (T.cell (p := ⟨w8.heap.size, 1, none⟩) zg1 (show ¬ Sx0 (w8.heap.size) from fun q => by have := Qx0.out _ q; omega)).trans cg11
  replace zg1 := Nat.lt_of_lt_of_le zg1 T.size
  replace Ox1 : Hid (ScsR Sx1 w14 sx1 n1 Z1) := Ox1.out.keep T.size (fun k hk hl => T.2.2.2.2 k hl (fun q => by have := Qx0.out k q; have := Qx1.out k hk; omega))
  replace Og0 : Hid (LLR Sg0 w14 sgr0 nr0 Kr0 Vr0) := Og0.out.keep T.size (fun k hk hl => T.2.2.2.2 k hl (fun q => by have := Qx0.out k q; have := Qg0.out k hk; omega))
  replace Og1 : Hid (BoardR Sg1 w14 sgr1_1 nr1_1 Vr1_1) := Og1.out.keep T.size (fun k hk hl => T.2.2.2.2 k hl (fun q => by have := Qx0.out k q; have := Qg1.out k hk; omega))
  replace Bs : Below w5.heap.size w5 w14 := Bs.trans (T.below (fun k q => by have := Qx0.out k q; omega) (by omega))
  replace B0 : Below w.heap.size w w14 := B0.trans (T.below (fun k q => by have := Qx0.out k q; omega) (by omega))
  clear T Ox0
  go_wp2_with fail
  refine (markScanS_r Sx1 _ n1 _ (1 + (n0_1 * 5 : Nat)) Z1 _ hn1 (by omega) (by omega) Ox1.out).mono ?_
  rintro e w15 ⟨rfl, -, T⟩
  have lw15 : w14.heap.size ≤ w15.heap.size := T.size
  replace ca00 := (T.cell (p := ⟨w.heap.size, 0, none⟩) za0 (show ¬ Sx1 (w.heap.size) from fun q => by have := Qx1.out _ q; omega)).trans ca00
  replace ca01 := (T.cell (p := ⟨w.heap.size, 1, none⟩) za0 (show ¬ Sx1 (w.heap.size) from fun q => by have := Qx1.out _ q; omega)).trans ca01
  replace za0 := Nat.lt_of_lt_of_le za0 T.size
  replace cw10 := (T.cell (p := ⟨w5.heap.size, 0, none⟩) zw1 (show ¬ Sx1 (w5.heap.size) from fun q => by have := Qx1.out _ q; omega)).trans cw10
  replace cw11 := (T.cell (p := ⟨w5.heap.size, 1, none⟩) zw1 (show ¬ Sx1 (w5.heap.size) from fun q => by have := Qx1.out _ q; omega)).trans cw11
  replace zw1 := Nat.lt_of_lt_of_le zw1 T.size
  replace cx00 := (T.cell (p := ⟨w6.heap.size, 0, none⟩) zx0 (show ¬ Sx1 (w6.heap.size) from fun q => by have := Qx1.out _ q; omega)).trans cx00
  replace cx01 := (T.cell (p := ⟨w6.heap.size, 1, none⟩) zx0 (show ¬ Sx1 (w6.heap.size) from fun q => by have := Qx1.out _ q; omega)).trans cx01
  replace zx0 := Nat.lt_of_lt_of_le zx0 T.size
  replace cg10 := (T.cell (p := ⟨w8.heap.size, 0, none⟩) zg1 (show ¬ Sx1 (w8.heap.size) from fun q => by have := Qx1.out _ q; omega)).trans cg10
  replace cg11 := (T.cell (p := ⟨w8.heap.size, 1, none⟩) zg1 (show ¬ Sx1 (w8.heap.size) from fun q => by have := Qx1.out _ q; omega)).trans cg11
  replace zg1 := Nat.lt_of_lt_of_le zg1 T.size
  replace Og0 : Hid (LLR Sg0 w15 sgr0 nr0 Kr0 Vr0) := Og0.out.keep T.size (fun k hk hl => T.2.2.2.2 k hl (fun q => by have := Qx1.out k q; have := Qg0.out k hk; omega))
  replace Og1 : Hid (BoardR Sg1 w15 sgr1_1 nr1_1 Vr1_1) := Og1.out.keep T.size (fun k hk hl => T.2.2.2.2 k hl (fun q => by have := Qx1.out k q; have := Qg1.out k hk; omega))
  replace Bs : Below w5.heap.size w5 w15 := Bs.trans (T.below (fun k q => by have := Qx1.out k q; omega) (by omega))
  replace B0 : Below w.heap.size w w15 := B0.trans (T.below (fun k q => by have := Qx1.out k q; omega) (by omega))
  clear T Ox1
  go_wp2_with fail
  refine (eqInt64SS_r sgr0 sWr0 nr0 _ _ Kr0 Vr0 _ hnr0 (Og0.out.row) (RW0.out.below Bs)).mono ?_
  rintro e w16 ⟨rfl, hh⟩
  have hb : Below w15.heap.size w15 w16 := Below.trans (by repeat (first | with_reducible exact Below.refl _ _ | with_reducible refine Below.setCell ?_ (by first | omega | (simp; done) | (simp; omega)) _ | with_reducible refine bDrewN ?_ _ | with_reducible refine Below.drew ?_ | with_reducible refine Below.alloc ?_ (by first | omega | (simp; done) | (simp; omega)) _)) (hh.mono (by first | omega | (simp; done) | (simp; omega)))
  have lw16 : w15.heap.size ≤ w16.heap.size := hb.size
  replace ca00 := (hb.cell (p := ⟨w.heap.size, 0, none⟩) za0).trans ca00
  replace ca01 := (hb.cell (p := ⟨w.heap.size, 1, none⟩) za0).trans ca01
  replace za0 := Nat.lt_of_lt_of_le za0 hb.size
  replace cw10 := (hb.cell (p := ⟨w5.heap.size, 0, none⟩) zw1).trans cw10
  replace cw11 := (hb.cell (p := ⟨w5.heap.size, 1, none⟩) zw1).trans cw11
  replace zw1 := Nat.lt_of_lt_of_le zw1 hb.size
  replace cx00 := (hb.cell (p := ⟨w6.heap.size, 0, none⟩) zx0).trans cx00
  replace cx01 := (hb.cell (p := ⟨w6.heap.size, 1, none⟩) zx0).trans cx01
  replace zx0 := Nat.lt_of_lt_of_le zx0 hb.size
  replace cg10 := (hb.cell (p := ⟨w8.heap.size, 0, none⟩) zg1).trans cg10
  replace cg11 := (hb.cell (p := ⟨w8.heap.size, 1, none⟩) zg1).trans cg11
  replace zg1 := Nat.lt_of_lt_of_le zg1 hb.size
  replace Og0 : Hid (LLR Sg0 w16 sgr0 nr0 Kr0 Vr0) := Og0.out.below hb
  replace Og1 : Hid (BoardR Sg1 w16 sgr1_1 nr1_1 Vr1_1) := Og1.out.below hb
  replace Bs : Below w5.heap.size w5 w16 := Bs.trans (hb.mono Bs.size)
  replace B0 : Below w.heap.size w w16 := B0.trans (hb.mono B0.size)
  clear hb hh
  go_wp2_with fail
  refine (eqBoard_r ar1_0 nr1_1 Vr1_1 sgr1_1 cgr1_1 sWr1_1 cWr1_1 _ hnr1_1 (Og1.out.row) (RW1.out.below Bs)).mono ?_
  rintro e w17 ⟨rfl, hh⟩
  have hb : Below w16.heap.size w16 w17 := Below.trans (by repeat (first | with_reducible exact Below.refl _ _ | with_reducible refine Below.setCell ?_ (by first | omega | (simp; done) | (simp; omega)) _ | with_reducible refine bDrewN ?_ _ | with_reducible refine Below.drew ?_ | with_reducible refine Below.alloc ?_ (by first | omega | (simp; done) | (simp; omega)) _)) (hh.mono (by first | omega | (simp; done) | (simp; omega)))
  have lw17 : w16.heap.size ≤ w17.heap.size := hb.size
  replace ca00 := (hb.cell (p := ⟨w.heap.size, 0, none⟩) za0).trans ca00
  replace ca01 := (hb.cell (p := ⟨w.heap.size, 1, none⟩) za0).trans ca01
  replace za0 := Nat.lt_of_lt_of_le za0 hb.size
  replace cw10 := (hb.cell (p := ⟨w5.heap.size, 0, none⟩) zw1).trans cw10
  replace cw11 := (hb.cell (p := ⟨w5.heap.size, 1, none⟩) zw1).trans cw11
  replace zw1 := Nat.lt_of_lt_of_le zw1 hb.size
  replace cx00 := (hb.cell (p := ⟨w6.heap.size, 0, none⟩) zx0).trans cx00
  replace cx01 := (hb.cell (p := ⟨w6.heap.size, 1, none⟩) zx0).trans cx01
  replace zx0 := Nat.lt_of_lt_of_le zx0 hb.size
  replace cg10 := (hb.cell (p := ⟨w8.heap.size, 0, none⟩) zg1).trans cg10
  replace cg11 := (hb.cell (p := ⟨w8.heap.size, 1, none⟩) zg1).trans cg11
  replace zg1 := Nat.lt_of_lt_of_le zg1 hb.size
  replace Og0 : Hid (LLR Sg0 w17 sgr0 nr0 Kr0 Vr0) := Og0.out.below hb
  replace Og1 : Hid (BoardR Sg1 w17 sgr1_1 nr1_1 Vr1_1) := Og1.out.below hb
  replace Bs : Below w5.heap.size w5 w17 := Bs.trans (hb.mono Bs.size)
  replace B0 : Below w.heap.size w w17 := B0.trans (hb.mono B0.size)
  clear hb hh
  clear cx00 cx01 zx0
  clear Qx0
  clear Qx1
  go_wp2_with fail
  refine (markInt64SS_r Sg0 _ nr0 _ (1) Kr0 Vr0 _ hnr0 (by omega) (by omega) Og0.out).mono ?_
  rintro e w18 ⟨rfl, OM, T⟩
  have lw18 : w17.heap.size ≤ w18.heap.size := T.size
  replace ca00 := (T.cell (p := ⟨w.heap.size, 0, none⟩) za0 (show ¬ Sg0 (w.heap.size) from fun q => by have := Qg0.out _ q; omega)).trans ca00
  replace ca01 := (T.cell (p := ⟨w.heap.size, 1, none⟩) za0 (show ¬ Sg0 (w.heap.size) from fun q => by have := Qg0.out _ q; omega)).trans ca01
  replace za0 := Nat.lt_of_lt_of_le za0 T.size
  replace cw10 := (T.cell (p := ⟨w5.heap.size, 0, none⟩) zw1 (show ¬ Sg0 (w5.heap.size) from fun q => by have := Qg0.out _ q; omega)).trans cw10
  replace cw11 := (T.cell (p := ⟨w5.heap.size, 1, none⟩) zw1 (show ¬ Sg0 (w5.heap.size) from fun q => by have := Qg0.out _ q; omega)).trans cw11
  replace zw1 := Nat.lt_of_lt_of_le zw1 T.size
  replace cg10 := (T.cell (p := ⟨w8.heap.size, 0, none⟩) zg1 (show ¬ Sg0 (w8.heap.size) from fun q => by have := Qg0.out _ q; omega)).trans cg10
  replace cg11 := (T.cell (p := ⟨w8.heap.size, 1, none⟩) zg1 (show ¬ Sg0 (w8.heap.size) from fun q => by have := Qg0.out _ q; omega)).trans cg11
  replace zg1 := Nat.lt_of_lt_of_le zg1 T.size
  replace Og1 : Hid (BoardR Sg1 w18 sgr1_1 nr1_1 Vr1_1) := Og1.out.keep T.size (fun k hk hl => T.2.2.2.2 k hl (fun q => Dg0_g1.out k q hk))
  replace Bs : Below w5.heap.size w5 w18 := Bs.trans (T.below (fun k q => by have := Qg0.out k q; omega) (by omega))
  replace B0 : Below w.heap.size w w18 := B0.trans (T.below (fun k q => by have := Qg0.out k q; omega) (by omega))
  replace Og0 : Hid (LLR Sg0 w18 sgr0 nr0 Kr0 (mkV (1) Kr0)) := OM
  clear T OM
  go_wp2_with fail
  refine (markBoard_x ar1_0 nr1_1 Vr1_1 sgr1_1 cgr1_1 Sg1 (1 + (suK Kr0 nr0 : Int)) _ hnr1_1 (by omega) (by omega) (fun k q => by have := Qg1.out k q; omega) Og1.out).mono ?_
  rintro e w19 ⟨rfl, OM, T⟩
  have lw19 : w18.heap.size ≤ w19.heap.size := T.size
  replace ca00 := (T.cell (p := ⟨w.heap.size, 0, none⟩) za0 (show ¬ Sg1 (w.heap.size) from fun q => by have := Qg1.out _ q; omega)).trans ca00
  replace ca01 := (T.cell (p := ⟨w.heap.size, 1, none⟩) za0 (show ¬ Sg1 (w.heap.size) from fun q => by have := Qg1.out _ q; omega)).trans ca01
  replace za0 := Nat.lt_of_lt_of_le za0 T.size
  replace cw10 := (T.cell (p := ⟨w5.heap.size, 0, none⟩) zw1 (show ¬ Sg1 (w5.heap.size) from fun q => by have := Qg1.out _ q; omega)).trans cw10
  replace cw11 := (T.cell (p := ⟨w5.heap.size, 1, none⟩) zw1 (show ¬ Sg1 (w5.heap.size) from fun q => by have := Qg1.out _ q; omega)).trans cw11
  replace zw1 := Nat.lt_of_lt_of_le zw1 T.size
  replace cg10 := (T.cell (p := ⟨w8.heap.size, 0, none⟩) zg1 (show ¬ Sg1 (w8.heap.size) from fun q => by have := Qg1.out _ q; omega)).trans cg10
  replace cg11 := (T.cell (p := ⟨w8.heap.size, 1, none⟩) zg1 (show ¬ Sg1 (w8.heap.size) from fun q => by have := Qg1.out _ q; omega)).trans cg11
  replace zg1 := Nat.lt_of_lt_of_le zg1 T.size
  replace Og0 : Hid (LLR Sg0 w19 sgr0 nr0 Kr0 (mkV (1) Kr0)) := Og0.out.keep T.size (fun k hk hl => T.2.2.2.2 k hl (fun q => Dg0_g1.out k hk q))
  replace Bs : Below w5.heap.size w5 w19 := Bs.trans (T.below (fun k q => by have := Qg1.out k q; omega) (by omega))
  replace B0 : Below w.heap.size w w19 := B0.trans (T.below (fun k q => by have := Qg1.out k q; omega) (by omega))
  replace Og1 : Hid (BoardR Sg1 w19 sgr1_1 nr1_1 (mkA (1 + (suK Kr0 nr0 : Int)))) := OM
  clear T OM
  go_wp2_with fail
  refine (heldInt64SS_r _ nr0 _ (1) Kr0 _ hnr0 (by omega) (by omega) (Og0.out.row)).mono ?_
  rintro e w19 ⟨rfl, rfl⟩
  go_wp2_with fail
  refine (heldBoard_r ar1_0 nr1_1 Vr1_1 sgr1_1 cgr1_1 (1 + (suK Kr0 nr0 : Int)) _ hnr1_1 (by omega) (by omega) (Og1.out.row)).mono ?_
  rintro e w20 ⟨rfl, hh⟩
  have hb : Below w19.heap.size w19 w20 := Below.trans (by repeat (first | with_reducible exact Below.refl _ _ | with_reducible refine Below.setCell ?_ (by first | omega | (simp; done) | (simp; omega)) _ | with_reducible refine bDrewN ?_ _ | with_reducible refine Below.drew ?_ | with_reducible refine Below.alloc ?_ (by first | omega | (simp; done) | (simp; omega)) _)) (hh.mono (by first | omega | (simp; done) | (simp; omega)))
  have lw20 : w19.heap.size ≤ w20.heap.size := hb.size
  replace ca00 := (hb.cell (p := ⟨w.heap.size, 0, none⟩) za0).trans ca00
  replace ca01 := (hb.cell (p := ⟨w.heap.size, 1, none⟩) za0).trans ca01
  replace za0 := Nat.lt_of_lt_of_le za0 hb.size
  replace cw10 := (hb.cell (p := ⟨w5.heap.size, 0, none⟩) zw1).trans cw10
  replace cw11 := (hb.cell (p := ⟨w5.heap.size, 1, none⟩) zw1).trans cw11
  replace zw1 := Nat.lt_of_lt_of_le zw1 hb.size
  replace cg10 := (hb.cell (p := ⟨w8.heap.size, 0, none⟩) zg1).trans cg10
  replace cg11 := (hb.cell (p := ⟨w8.heap.size, 1, none⟩) zg1).trans cg11
  replace zg1 := Nat.lt_of_lt_of_le zg1 hb.size
  replace Og0 : Hid (LLR Sg0 w20 sgr0 nr0 Kr0 (mkV (1) Kr0)) := Og0.out.below hb
  replace Og1 : Hid (BoardR Sg1 w20 sgr1_1 nr1_1 (mkA (1 + (suK Kr0 nr0 : Int)))) := Og1.out.below hb
  replace Bs : Below w5.heap.size w5 w20 := Bs.trans (hb.mono Bs.size)
  replace B0 : Below w.heap.size w w20 := B0.trans (hb.mono B0.size)
  clear hb hh
  go_wp2_with fail
  refine (toBoard_r a0_0 n0_1 V0_1 s0_1 c0_1 _ hn0_1 (HR0.out.below B0)).mono ?_
  rintro e w21 ⟨sv0_1, Sv0, rfl, Q, O, hh⟩
  have hb : Below w20.heap.size w20 w21 := Below.trans (by repeat (first | with_reducible exact Below.refl _ _ | with_reducible refine Below.setCell ?_ (by first | omega | (simp; done) | (simp; omega)) _ | with_reducible refine bDrewN ?_ _ | with_reducible refine Below.drew ?_ | with_reducible refine Below.alloc ?_ (by first | omega | (simp; done) | (simp; omega)) _)) (hh.mono (by first | omega | (simp; done) | (simp; omega)))
  have lw21 : w20.heap.size ≤ w21.heap.size := hb.size
  replace ca00 := (hb.cell (p := ⟨w.heap.size, 0, none⟩) za0).trans ca00
  replace ca01 := (hb.cell (p := ⟨w.heap.size, 1, none⟩) za0).trans ca01
  replace za0 := Nat.lt_of_lt_of_le za0 hb.size
  replace cw10 := (hb.cell (p := ⟨w5.heap.size, 0, none⟩) zw1).trans cw10
  replace cw11 := (hb.cell (p := ⟨w5.heap.size, 1, none⟩) zw1).trans cw11
  replace zw1 := Nat.lt_of_lt_of_le zw1 hb.size
  replace cg10 := (hb.cell (p := ⟨w8.heap.size, 0, none⟩) zg1).trans cg10
  replace cg11 := (hb.cell (p := ⟨w8.heap.size, 1, none⟩) zg1).trans cg11
  replace zg1 := Nat.lt_of_lt_of_le zg1 hb.size
  replace Og0 : Hid (LLR Sg0 w21 sgr0 nr0 Kr0 (mkV (1) Kr0)) := Og0.out.below hb
  replace Og1 : Hid (BoardR Sg1 w21 sgr1_1 nr1_1 (mkA (1 + (suK Kr0 nr0 : Int)))) := Og1.out.below hb
  replace Bs : Below w5.heap.size w5 w21 := Bs.trans (hb.mono Bs.size)
  replace B0 : Below w.heap.size w w21 := B0.trans (hb.mono B0.size)
  clear hb hh
  have Qv0 : Hid (∀ k, Sv0 k → w20.heap.size ≤ k ∧ k < w21.heap.size) := (show ∀ k, Sv0 k → w20.heap.size ≤ k ∧ k < w21.heap.size from by simpa using Q)
  have Ov0 : Hid (BoardR Sv0 w21 sv0_1 n0_1 V0_1) := O
  clear O Q
  go_wp2_with fail
  refine (toScanS_r s1 n1 c1 Z1 _ hn1 (HR1.out.below B0)).mono ?_
  rintro e w22 ⟨sv1, Sv1, rfl, Q, O, hh⟩
  have hb : Below w21.heap.size w21 w22 := Below.trans (by repeat (first | with_reducible exact Below.refl _ _ | with_reducible refine Below.setCell ?_ (by first | omega | (simp; done) | (simp; omega)) _ | with_reducible refine bDrewN ?_ _ | with_reducible refine Below.drew ?_ | with_reducible refine Below.alloc ?_ (by first | omega | (simp; done) | (simp; omega)) _)) (hh.mono (by first | omega | (simp; done) | (simp; omega)))
  have lw22 : w21.heap.size ≤ w22.heap.size := hb.size
  replace ca00 := (hb.cell (p := ⟨w.heap.size, 0, none⟩) za0).trans ca00
  replace ca01 := (hb.cell (p := ⟨w.heap.size, 1, none⟩) za0).trans ca01
  replace za0 := Nat.lt_of_lt_of_le za0 hb.size
  replace cw10 := (hb.cell (p := ⟨w5.heap.size, 0, none⟩) zw1).trans cw10
  replace cw11 := (hb.cell (p := ⟨w5.heap.size, 1, none⟩) zw1).trans cw11
  replace zw1 := Nat.lt_of_lt_of_le zw1 hb.size
  replace cg10 := (hb.cell (p := ⟨w8.heap.size, 0, none⟩) zg1).trans cg10
  replace cg11 := (hb.cell (p := ⟨w8.heap.size, 1, none⟩) zg1).trans cg11
  replace zg1 := Nat.lt_of_lt_of_le zg1 hb.size
  replace Og0 : Hid (LLR Sg0 w22 sgr0 nr0 Kr0 (mkV (1) Kr0)) := Og0.out.below hb
  replace Og1 : Hid (BoardR Sg1 w22 sgr1_1 nr1_1 (mkA (1 + (suK Kr0 nr0 : Int)))) := Og1.out.below hb
  replace Ov0 : Hid (BoardR Sv0 w22 sv0_1 n0_1 V0_1) := Ov0.out.below hb
  replace Bs : Below w5.heap.size w5 w22 := Bs.trans (hb.mono Bs.size)
  replace B0 : Below w.heap.size w w22 := B0.trans (hb.mono B0.size)
  clear hb hh
  have Qv1 : Hid (∀ k, Sv1 k → w21.heap.size ≤ k ∧ k < w22.heap.size) := (show ∀ k, Sv1 k → w21.heap.size ≤ k ∧ k < w22.heap.size from by simpa using Q)
  have Ov1 : Hid (ScsR Sv1 w22 sv1 n1 Z1) := O
  clear O Q
  go_wp2_with fail
  refine (H2.out sv0_1 _ sv1 _ _ (Ov0.out.row) (Ov1.out.row)).mono ?_
  rintro e w23 ⟨shr0, chr0, shr1_1, chr1_1, Sh0, Sh1, rfl, Q0, O0, Q1, O1, D0_1, hh⟩
  have hb : Below w22.heap.size w22 w23 := Below.trans (by repeat (first | with_reducible exact Below.refl _ _ | with_reducible refine Below.setCell ?_ (by first | omega | (simp; done) | (simp; omega)) _ | with_reducible refine bDrewN ?_ _ | with_reducible refine Below.drew ?_ | with_reducible refine Below.alloc ?_ (by first | omega | (simp; done) | (simp; omega)) _)) (hh.mono (by first | omega | (simp; done) | (simp; omega)))
  have lw23 : w22.heap.size ≤ w23.heap.size := hb.size
  replace ca00 := (hb.cell (p := ⟨w.heap.size, 0, none⟩) za0).trans ca00
  replace ca01 := (hb.cell (p := ⟨w.heap.size, 1, none⟩) za0).trans ca01
  replace za0 := Nat.lt_of_lt_of_le za0 hb.size
  replace cw10 := (hb.cell (p := ⟨w5.heap.size, 0, none⟩) zw1).trans cw10
  replace cw11 := (hb.cell (p := ⟨w5.heap.size, 1, none⟩) zw1).trans cw11
  replace zw1 := Nat.lt_of_lt_of_le zw1 hb.size
  replace cg10 := (hb.cell (p := ⟨w8.heap.size, 0, none⟩) zg1).trans cg10
  replace cg11 := (hb.cell (p := ⟨w8.heap.size, 1, none⟩) zg1).trans cg11
  replace zg1 := Nat.lt_of_lt_of_le zg1 hb.size
  replace Og0 : Hid (LLR Sg0 w23 sgr0 nr0 Kr0 (mkV (1) Kr0)) := Og0.out.below hb
  replace Og1 : Hid (BoardR Sg1 w23 sgr1_1 nr1_1 (mkA (1 + (suK Kr0 nr0 : Int)))) := Og1.out.below hb
  replace Ov0 : Hid (BoardR Sv0 w23 sv0_1 n0_1 V0_1) := Ov0.out.below hb
  replace Ov1 : Hid (ScsR Sv1 w23 sv1 n1 Z1) := Ov1.out.below hb
  replace Bs : Below w5.heap.size w5 w23 := Bs.trans (hb.mono Bs.size)
  replace B0 : Below w.heap.size w w23 := B0.trans (hb.mono B0.size)
  clear hb hh
  clear Ov0 Qv0 
  clear Ov1 Qv1 
  have Rh0 : Hid (RowLL w23 shr0 nr0 Kr0 Vr0) := O0.row
  have Rh1 : Hid (RowBoard w23 shr1_1 nr1_1 Vr1_1) := O1.row
  clear O0 Q0 O1 Q1 D0_1
  have Bh : Below w23.heap.size w23 w23 := Below.refl _ _
  go_wp2_with fail
  refine (eqInt64SS_r shr0 sWr0 nr0 _ _ Kr0 Vr0 _ hnr0 (((Rh0.out.below (Below.mono (B := w23.heap.size) (Bh) (Nat.le_refl _)))).below (below0 _ _)) ((RW0.out.below Bs).below (below0 _ _))).mono ?_
  rintro e w24 ⟨rfl, hh⟩
  have hb : Below w23.heap.size w23 w24 := Below.trans (by repeat (first | with_reducible exact Below.refl _ _ | with_reducible refine Below.setCell ?_ (by first | omega | (simp; done) | (simp; omega)) _ | with_reducible refine bDrewN ?_ _ | with_reducible refine Below.drew ?_ | with_reducible refine Below.alloc ?_ (by first | omega | (simp; done) | (simp; omega)) _)) (hh.mono (by first | omega | (simp; done) | (simp; omega)))
  have lw24 : w23.heap.size ≤ w24.heap.size := hb.size
  have ch10 : w24.cell? ⟨w23.heap.size, 0, none⟩ = some (.int .i64 ar1_0) := by rw [hh.cell (by first | omega | (simp; done) | (simp; omega))]; first | (simp; done) | (simp [go_sem]; done)
  have ch11 : w24.cell? ⟨w23.heap.size, 1, none⟩ = some (.slice shr1_1 nr1_1 chr1_1) := by rw [hh.cell (by first | omega | (simp; done) | (simp; omega))]; first | (simp; done) | (simp [go_sem]; done)
  have zh1 : w23.heap.size < w24.heap.size := by have := hh.size; simp at this; omega
  have yh1 : w23.heap.size < w24.heap.size := zh1
  replace ca00 := (hb.cell (p := ⟨w.heap.size, 0, none⟩) za0).trans ca00
  replace ca01 := (hb.cell (p := ⟨w.heap.size, 1, none⟩) za0).trans ca01
  replace za0 := Nat.lt_of_lt_of_le za0 hb.size
  replace cw10 := (hb.cell (p := ⟨w5.heap.size, 0, none⟩) zw1).trans cw10
  replace cw11 := (hb.cell (p := ⟨w5.heap.size, 1, none⟩) zw1).trans cw11
  replace zw1 := Nat.lt_of_lt_of_le zw1 hb.size
  replace cg10 := (hb.cell (p := ⟨w8.heap.size, 0, none⟩) zg1).trans cg10
  replace cg11 := (hb.cell (p := ⟨w8.heap.size, 1, none⟩) zg1).trans cg11
  replace zg1 := Nat.lt_of_lt_of_le zg1 hb.size
  replace Og0 : Hid (LLR Sg0 w24 sgr0 nr0 Kr0 (mkV (1) Kr0)) := Og0.out.below hb
  replace Og1 : Hid (BoardR Sg1 w24 sgr1_1 nr1_1 (mkA (1 + (suK Kr0 nr0 : Int)))) := Og1.out.below hb
  replace Bs : Below w5.heap.size w5 w24 := Bs.trans (hb.mono Bs.size)
  replace B0 : Below w.heap.size w w24 := B0.trans (hb.mono B0.size)
  replace Bh : Below w23.heap.size w23 w24 := Bh.trans (hb.mono Bh.size)
  clear hb hh
  go_wp2_with fail
  refine (eqBoard_r ar1_0 nr1_1 Vr1_1 shr1_1 chr1_1 sWr1_1 cWr1_1 _ hnr1_1 ((Rh1.out.below (Below.mono (B := w23.heap.size) (Bh) (Nat.le_refl _)))) (RW1.out.below Bs)).mono ?_
  rintro e w25 ⟨rfl, hh⟩
  have hb : Below w24.heap.size w24 w25 := Below.trans (by repeat (first | with_reducible exact Below.refl _ _ | with_reducible refine Below.setCell ?_ (by first | omega | (simp; done) | (simp; omega)) _ | with_reducible refine bDrewN ?_ _ | with_reducible refine Below.drew ?_ | with_reducible refine Below.alloc ?_ (by first | omega | (simp; done) | (simp; omega)) _)) (hh.mono (by first | omega | (simp; done) | (simp; omega)))
  have lw25 : w24.heap.size ≤ w25.heap.size := hb.size
  replace ca00 := (hb.cell (p := ⟨w.heap.size, 0, none⟩) za0).trans ca00
  replace ca01 := (hb.cell (p := ⟨w.heap.size, 1, none⟩) za0).trans ca01
  replace za0 := Nat.lt_of_lt_of_le za0 hb.size
  replace cw10 := (hb.cell (p := ⟨w5.heap.size, 0, none⟩) zw1).trans cw10
  replace cw11 := (hb.cell (p := ⟨w5.heap.size, 1, none⟩) zw1).trans cw11
  replace zw1 := Nat.lt_of_lt_of_le zw1 hb.size
  replace cg10 := (hb.cell (p := ⟨w8.heap.size, 0, none⟩) zg1).trans cg10
  replace cg11 := (hb.cell (p := ⟨w8.heap.size, 1, none⟩) zg1).trans cg11
  replace zg1 := Nat.lt_of_lt_of_le zg1 hb.size
  replace ch10 := (hb.cell (p := ⟨w23.heap.size, 0, none⟩) zh1).trans ch10
  replace ch11 := (hb.cell (p := ⟨w23.heap.size, 1, none⟩) zh1).trans ch11
  replace zh1 := Nat.lt_of_lt_of_le zh1 hb.size
  replace Og0 : Hid (LLR Sg0 w25 sgr0 nr0 Kr0 (mkV (1) Kr0)) := Og0.out.below hb
  replace Og1 : Hid (BoardR Sg1 w25 sgr1_1 nr1_1 (mkA (1 + (suK Kr0 nr0 : Int)))) := Og1.out.below hb
  replace Bs : Below w5.heap.size w5 w25 := Bs.trans (hb.mono Bs.size)
  replace B0 : Below w.heap.size w w25 := B0.trans (hb.mono B0.size)
  replace Bh : Below w23.heap.size w23 w25 := Bh.trans (hb.mono Bh.size)
  clear hb hh
  go_wp2_with fail
  refine (heldInt64SS_r _ nr0 _ (1) Kr0 _ hnr0 (by omega) (by omega) (Og0.out.row)).mono ?_
  rintro e w25 ⟨rfl, rfl⟩
  go_wp2_with fail
  refine (heldBoard_r ar1_0 nr1_1 Vr1_1 sgr1_1 cgr1_1 (1 + (suK Kr0 nr0 : Int)) _ hnr1_1 (by omega) (by omega) (Og1.out.row)).mono ?_
  rintro e w26 ⟨rfl, hh⟩
  have hb : Below w25.heap.size w25 w26 := Below.trans (by repeat (first | with_reducible exact Below.refl _ _ | with_reducible refine Below.setCell ?_ (by first | omega | (simp; done) | (simp; omega)) _ | with_reducible refine bDrewN ?_ _ | with_reducible refine Below.drew ?_ | with_reducible refine Below.alloc ?_ (by first | omega | (simp; done) | (simp; omega)) _)) (hh.mono (by first | omega | (simp; done) | (simp; omega)))
  have lw26 : w25.heap.size ≤ w26.heap.size := hb.size
  replace ca00 := (hb.cell (p := ⟨w.heap.size, 0, none⟩) za0).trans ca00
  replace ca01 := (hb.cell (p := ⟨w.heap.size, 1, none⟩) za0).trans ca01
  replace za0 := Nat.lt_of_lt_of_le za0 hb.size
  replace cw10 := (hb.cell (p := ⟨w5.heap.size, 0, none⟩) zw1).trans cw10
  replace cw11 := (hb.cell (p := ⟨w5.heap.size, 1, none⟩) zw1).trans cw11
  replace zw1 := Nat.lt_of_lt_of_le zw1 hb.size
  replace cg10 := (hb.cell (p := ⟨w8.heap.size, 0, none⟩) zg1).trans cg10
  replace cg11 := (hb.cell (p := ⟨w8.heap.size, 1, none⟩) zg1).trans cg11
  replace zg1 := Nat.lt_of_lt_of_le zg1 hb.size
  replace ch10 := (hb.cell (p := ⟨w23.heap.size, 0, none⟩) zh1).trans ch10
  replace ch11 := (hb.cell (p := ⟨w23.heap.size, 1, none⟩) zh1).trans ch11
  replace zh1 := Nat.lt_of_lt_of_le zh1 hb.size
  replace Og0 : Hid (LLR Sg0 w26 sgr0 nr0 Kr0 (mkV (1) Kr0)) := Og0.out.below hb
  replace Og1 : Hid (BoardR Sg1 w26 sgr1_1 nr1_1 (mkA (1 + (suK Kr0 nr0 : Int)))) := Og1.out.below hb
  replace Bs : Below w5.heap.size w5 w26 := Bs.trans (hb.mono Bs.size)
  replace B0 : Below w.heap.size w w26 := B0.trans (hb.mono B0.size)
  clear hb hh
  go_wp2
  go_ret
  exact ⟨rfl, B0⟩
set_option maxHeartbeats 1600000 in
theorem boardRun_farn0_1 (w : World) (a0_0 : Int) (n0_1 : Nat) (V0_1 : Nat → Int × Int × Int × Bool × Int) (s0_1 : Option Addr) (c0_1 : Nat) (n1 : Nat) (Z1 : Nat → Int × Nat × (Nat → Bool) × Nat × (Nat → Int) × Nat × (Nat → Int × Int)) (s1 : Option Addr) (c1 : Nat)   (g : 1048576 < (n0_1 : Int)) (gg : (n0_1 : Int) ≤ 9223372036854775807)  :
    Calls Try.prog 4 #[.agg #[.int .i64 a0_0, .slice s0_1 n0_1 c0_1], .slice s1 n1 c1] w fun e w' => e = .returned (.bool true) ∧ Below w.heap.size w w' := by
  go_enter Try.func4, Try.ntmps4
  go_wp2_with fail
  refine (szBoard_off1 a0_0 n0_1 V0_1 s0_1 c0_1 _ _ (by omega) (by omega) (by omega) (by omega)).mono ?_
  rintro e u1 ⟨rfl, hh⟩
  have hb : Below w.heap.size w u1 := Below.trans (by repeat (first | with_reducible exact Below.refl _ _ | with_reducible refine Below.setCell ?_ (by first | omega | (simp; done) | (simp; omega)) _ | with_reducible refine bDrewN ?_ _ | with_reducible refine Below.drew ?_ | with_reducible refine Below.alloc ?_ (by first | omega | (simp; done) | (simp; omega)) _)) (hh.mono (by first | omega | (simp; done) | (simp; omega)))
  have ca00 : u1.cell? ⟨w.heap.size, 0, none⟩ = some (.int .i64 a0_0) := by rw [hh.cell (by first | omega | (simp; done) | (simp; omega))]; first | (simp; done) | (simp [go_sem]; done)
  have ca01 : u1.cell? ⟨w.heap.size, 1, none⟩ = some (.slice s0_1 n0_1 c0_1) := by rw [hh.cell (by first | omega | (simp; done) | (simp; omega))]; first | (simp; done) | (simp [go_sem]; done)
  have za0 : w.heap.size < u1.heap.size := by have := hh.size; simp at this; omega
  have B0 := hb
  clear hb hh
  go_wp2
  go_ret
  exact ⟨rfl, (by repeat (first | with_reducible exact Below.refl _ _ | with_reducible exact B0 | with_reducible refine Below.setCell ?_ (by first | omega | (simp; done) | (simp; omega)) _ | with_reducible refine bDrewN ?_ _ | with_reducible refine Below.drew ?_ | with_reducible refine Below.alloc ?_ (by first | omega | (simp; done) | (simp; omega)) _))⟩
set_option maxHeartbeats 1600000 in
theorem boardRun_farn1 (w : World) (a0_0 : Int) (n0_1 : Nat) (V0_1 : Nat → Int × Int × Int × Bool × Int) (s0_1 : Option Addr) (c0_1 : Nat) (n1 : Nat) (Z1 : Nat → Int × Nat × (Nat → Bool) × Nat × (Nat → Int) × Nat × (Nat → Int × Int)) (s1 : Option Addr) (c1 : Nat)  (gn0_1 : (n0_1 : Int) ≤ 1048576) (g : 1048576 - n0_1 < ((n1 : Int) + (suK (scsK Z1) n1 : Int))) (gg : (n1 : Int) ≤ 9223372036854775807) (k63 : ∀ i, i < n1 → scsW (Z1 i)) (HR1 : Hid (RowScs w s1 n1 Z1)) :
    Calls Try.prog 4 #[.agg #[.int .i64 a0_0, .slice s0_1 n0_1 c0_1], .slice s1 n1 c1] w fun e w' => e = .returned (.bool true) ∧ Below w.heap.size w w' := by
  go_enter Try.func4, Try.ntmps4
  go_wp2_with fail
  refine (szBoard_on a0_0 n0_1 V0_1 s0_1 c0_1 _ _ (by omega) (by omega) (by omega)).mono ?_
  rintro e u1 ⟨rfl, hh⟩
  have hb : Below w.heap.size w u1 := Below.trans (by repeat (first | with_reducible exact Below.refl _ _ | with_reducible refine Below.setCell ?_ (by first | omega | (simp; done) | (simp; omega)) _ | with_reducible refine bDrewN ?_ _ | with_reducible refine Below.drew ?_ | with_reducible refine Below.alloc ?_ (by first | omega | (simp; done) | (simp; omega)) _)) (hh.mono (by first | omega | (simp; done) | (simp; omega)))
  have ca00 : u1.cell? ⟨w.heap.size, 0, none⟩ = some (.int .i64 a0_0) := by rw [hh.cell (by first | omega | (simp; done) | (simp; omega))]; first | (simp; done) | (simp [go_sem]; done)
  have ca01 : u1.cell? ⟨w.heap.size, 1, none⟩ = some (.slice s0_1 n0_1 c0_1) := by rw [hh.cell (by first | omega | (simp; done) | (simp; omega))]; first | (simp; done) | (simp [go_sem]; done)
  have za0 : w.heap.size < u1.heap.size := by have := hh.size; simp at this; omega
  have B0 := hb
  clear hb hh
  go_wp2_with fail
  refine (szScanS_off _ n1 _ Z1 _ _ (by omega) (by omega) (by omega) gg k63 (HR1.out.below B0)).mono ?_
  rintro e u2 ⟨rfl, hh⟩
  have hb : Below u1.heap.size u1 u2 := hh
  replace B0 : Below w.heap.size w u2 := B0.trans (hb.mono B0.size)
  clear hb hh
  go_wp2
  go_ret
  exact ⟨rfl, (by repeat (first | with_reducible exact Below.refl _ _ | with_reducible exact B0 | with_reducible refine Below.setCell ?_ (by first | omega | (simp; done) | (simp; omega)) _ | with_reducible refine bDrewN ?_ _ | with_reducible refine Below.drew ?_ | with_reducible refine Below.alloc ?_ (by first | omega | (simp; done) | (simp; omega)) _))⟩
theorem fnExactBoardRun_walk (w : World) (a0_0 : Int) (s0_1 : Option Addr) (n0_1 c0_1 : Nat) (V0_1 : Nat → Int × Int × Int × Bool × Int) (w0_0 : (Lit.int .i64 a0_0).wf = true) (m0_1 : n0_1 ≤ 9223372036854775807) (R0_1 : RowAlarm w s0_1 n0_1 V0_1) (s1 : Option Addr) (n1 c1 : Nat) (Z1 : Nat → Int × Nat × (Nat → Bool) × Nat × (Nat → Int) × Nat × (Nat → Int × Int)) (m1 : n1 ≤ 9223372036854775807) (mk1 : ∀ i, i < n1 → scsW (Z1 i)) (R1 : RowScs w s1 n1 Z1) :
    Calls Try.prog 4 #[.agg #[.int .i64 a0_0, .slice s0_1 n0_1 c0_1], .slice s1 n1 c1] w fun e w' => e = .returned (.bool true) ∧ Below w.heap.size w w' := by
  have k61 := mk1
  by_cases gn0_1 : (n0_1 : Int) ≤ 1048576
  case neg => exact boardRun_farn0_1 w a0_0 n0_1 V0_1 s0_1 c0_1 n1 Z1 s1 c1   (by omega) (by omega) 
  by_cases gn1 : ((n1 : Int) + (suK (scsK Z1) n1 : Int)) ≤ 1048576 - n0_1
  case neg => exact boardRun_farn1 w a0_0 n0_1 V0_1 s0_1 c0_1 n1 Z1 s1 c1  gn0_1 (by omega) (by omega) k61 R1
  exact boardRun_near w a0_0 n0_1 V0_1 s0_1 c0_1 (by omega) R0_1 n1 Z1 s1 c1 (by omega) R1 (by omega) (by omega) (bqM a0_0 n0_1 V0_1 n1 Z1) (bqK a0_0 n0_1 V0_1 Z1) (bqU a0_0 n0_1 V0_1 Z1) (bq_leM a0_0 n0_1 V0_1 n1 Z1) (bqX a0_0 n0_1 V0_1 n1 Z1) (bqN a0_0 n0_1 V0_1 n1 Z1) (bqV a0_0 n0_1 V0_1 Z1 n1) (bq_leN a0_0 n0_1 V0_1 n1 Z1 (by omega)) _ (fun s c ss cs w q1 q2 => (specBoardRun_any a0_0 s n0_1 c V0_1 ss n1 cs Z1 w (by omega) (by omega) (Scs_each (by omega)) q1 q2).mono fun e w' h => h) (fun s c ss cs w q1 q2 => (implBoardRun_any a0_0 s n0_1 c V0_1 ss n1 cs Z1 w (by omega) (by omega) (Scs_each (by omega)) q1 q2).mono fun e w' h => h)

set_option maxRecDepth 100000 in
theorem fnExactBoardRun_lifted (os : Os) (started : os.Started) (H : Type) (enc : TypeId × Value → H) :
    ReturnsInHanded {} Try.checked os 4 .any (Rows.fnExactBoardRunSpec.pre6 enc Try.prog Try.f4 Rows.fnExactBoardRunRow.domain false) (Rows.fnExactBoardRunSpec.post enc Try.prog Try.f4 false true false false) := by
  refine returnsInHanded_of_change (C := Try.checked) own started (by kernel_rfl) Try.func4
    (ChangeSpec.witness6 (enc := enc) (C := Try.checked) false ⟨#[], #[.agg #[.int .i64 0, .slice none 0 0], .slice none 0 0], []⟩ 8 (by kernel_rfl) (by kernel_rfl) (by kernel_rfl) (by kernel_rfl)) ?_
  intro W base args ds gs before hval0 hW hcnd _
  have hval : ∀ (j : Nat) t v, Try.f4.params[j]? = some t → args[j]? = some v → Value.okWide Try.prog W .any base t v := hval0
  have hW' := hW
  obtain ⟨p, q, hA0, hV, rfl, hfz, hnd⟩ := hW
  have hA : DataW.TrodAll enc Try.prog W 0 (fun _ => true) true Try.f4.params.toList args.toList ds p := hA0
  rw [Try.params4] at hA hval
  obtain ⟨v0, vs0, d0, ds0, p0, q0, hargs, rfl, rfl, h0, r0⟩ := trodAll_cons hA
  obtain ⟨v1, vs1, d1, ds1, p1, q1, rfl, rfl, rfl, h1, r1⟩ := trodAll_cons r0
  obtain ⟨rfl, rfl, rfl⟩ := trodAll_nil r1
  obtain rfl : args = #[v0, v1] := by cases args; simp_all
  obtain ⟨rfl, rfl⟩ := trodVars_none hV
  have k0 := h0
  have lt0 : ∀ x ∈ p0, x.block < W.heap.size := by obtain ⟨m, hm⟩ := k0; exact DataW.trod_lt m _ _ _ hm
  have k1 := h1
  have lt1 : ∀ x ∈ p1, x.block < W.heap.size := by obtain ⟨m, hm⟩ := k1; exact DataW.trod_lt m _ _ _ hm
  obtain ⟨a0_0, s0_1, n0_1, c0_1, V0_1, rfl, w0_0, m0_1, R0_1⟩ := open_Board (hval 0 47 v0 rfl rfl) h0
  obtain ⟨s1, n1, c1, Z1, rfl, m1, mk1, R1⟩ := open_ScanS (hval 1 48 v1 rfl rfl) h1
  clear hA0 hval0
  refine (fnExactBoardRun_walk W a0_0 s0_1 n0_1 c0_1 V0_1 w0_0 m0_1 R0_1 s1 n1 c1 Z1 m1 mk1 R1).mono fun e W' ⟨he, bel⟩ => ?_
  subst he
  exact ⟨_, rfl, _, _, _, [], _, [], hW', trodAll_mk1 (shut_bool Try.underlying4 _), (trodAll_cons_mk (Below.trod laidOut (by kernel_rfl) (of_decide_eq_true (by kernel_rfl)) k0 bel lt0) (trodAll_cons_mk (Below.trod laidOut (by kernel_rfl) (of_decide_eq_true (by kernel_rfl)) k1 bel lt1) trodAll_mk0)), rfl, bel.frame _, fun h => by cases h⟩

theorem fnExactBoardRun_holds : Rows.FnExactBoardRunSaid :=
  OpenClaim.holds_of_wide 4 Try.f4 rfl rfl rfl rfl rfl rfl rfl ⟨rfl, rfl, rfl, rfl, rfl⟩ rfl rfl rfl rfl rfl (by kernel_rfl) Try.func4 (by kernel_rfl)
    (of_decide_eq_true (by kernel_rfl)) (by unfold Func.isWrapper; first | (rw [if_pos (by decide +kernel)]; kernel_rfl) | (rw [if_neg (by decide +kernel)]; exact ⟨rfl, rfl⟩))
    (fun os started H enc _ => fnExactBoardRun_lifted os started H enc)
#print axioms fnExactBoardRun_holds
end Go.Proofs.Ytlbbdifmjdpfiaa
