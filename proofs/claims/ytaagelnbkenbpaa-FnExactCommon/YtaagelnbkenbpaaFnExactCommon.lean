/-
What is proved: at every tree and groups impl.Common answers as the specification's Common and leaves them as they were; its answer is new memory; no condition.
-/
import Derived.Test.YtaagelnbkenbpaaCm
import Derived.Test.YtaagelnbkenbpaaTrTO
import Derived.Test.YtaagelnbkenbpaaTrTM
import Derived.Test.YtaagelnbkenbpaaLLO
import Derived.Test.YtaagelnbkenbpaaLLRN
import Derived.Test.YtaagelnbkenbpaaI64R2
namespace Go.Proofs.Ytaagelnbkenbpaa
set_option maxRecDepth 40000
open Go.ChangeShapes Go.WideShapes Go.ChangeAt Go.RowKit
set_option linter.unusedVariables false
set_option linter.unusedSimpArgs false

theorem com_fit {w : World} {l : List Int} {e : Ending} {w' : World} (h : ComPost w l e w') : ∃ (s : Option Addr) (c : Nat) (S : Nat → Prop), e = .returned (.slice s l.length c) ∧ (∀ k, S k → w.heap.size ≤ k ∧ k < w'.heap.size) ∧ I64R S w' s l.length (nthI l) ∧ Below w.heap.size w w' := by
  obtain ⟨s, c, h1, h2, h3⟩ := h
  exact ⟨s, c, _, h1, fun k hk => hk, I64R.of h2, h3⟩
theorem com_le (x : Int) (n : Nat) (X : Nat → Int) (K : Nat → Nat) (V : Nat → Nat → Int) (m : Nat) (KK : Nat → Nat) (VV : Nat → Nat → Int) : ((commonL x n X K V m KK VV).length : Int) ≤ 1048576 := by have := common_len x n X K V m KK VV; omega
theorem keepLaw2_2 {W W' : World} {p r : Nat} {va0 va1 vx0 vx1 : Value} (ha0 : W.cell? ⟨p, 0, none⟩ = some va0) (ha1 : W.cell? ⟨p, 1, none⟩ = some va1) (hx0 : W.cell? ⟨r, 0, none⟩ = some vx0) (hx1 : W.cell? ⟨r, 1, none⟩ = some vx1) (zp : p < W.heap.size) (zr : r < W.heap.size) (hb : Below W.heap.size W W') : W'.cell? ⟨p, 0, none⟩ = some va0 ∧ W'.cell? ⟨p, 1, none⟩ = some va1 ∧ W'.cell? ⟨r, 0, none⟩ = some vx0 ∧ W'.cell? ⟨r, 1, none⟩ = some vx1 :=
  ⟨(hb.cell (p := ⟨p, 0, none⟩) zp).trans ha0, (hb.cell (p := ⟨p, 1, none⟩) zp).trans ha1, (hb.cell (p := ⟨r, 0, none⟩) zr).trans hx0, (hb.cell (p := ⟨r, 1, none⟩) zr).trans hx1⟩
set_option maxRecDepth 20000 in
set_option maxHeartbeats 8000000 in
theorem common_near (w : World) (a0_0 : Int) (n0_1 : Nat) (X0_1 : Nat → Int) (K0_1 : Nat → Nat) (V0_1 : Nat → Nat → Int) (s0_1 : Option Addr) (c0_1 : Nat) (hn0_1 : ((n0_1 : Int) + (suK K0_1 n0_1 : Int)) ≤ 1048576) (HR0 : Hid (RowTree w s0_1 n0_1 X0_1 K0_1 V0_1)) (n1 : Nat) (K1 : Nat → Nat) (V1 : Nat → Nat → Int) (s1 : Option Addr) (c1 : Nat) (hn1 : ((n1 : Int) + (suK K1 n1 : Int)) ≤ 1048576) (HR1 : Hid (RowLL w s1 n1 K1 V1)) (gn0_1 : ((n0_1 : Int) + (suK K0_1 n0_1 : Int)) ≤ 1048576) (gn1 : ((n1 : Int) + (suK K1 n1 : Int)) ≤ 1048576 - ((n0_1 : Int) + (suK K0_1 n0_1 : Int))) (nr0 : Nat) (Vr0 : Nat → Int) (hnr0 : (nr0 : Int) ≤ 1048576)
    (H1 : Hid (∀ (s0_1 : Option Addr) (c0_1 : Nat) (s1 : Option Addr) (c1 : Nat) w, RowTree w s0_1 n0_1 X0_1 K0_1 V0_1 → RowLL w s1 n1 K1 V1 → Calls Try.prog 18 #[.agg #[.int .i64 a0_0, .slice s0_1 n0_1 c0_1], .slice s1 n1 c1] w fun e w' => ∃ (s'r0 : Option Addr) (c'r0 : Nat) (S0 : Nat → Prop), e = .returned (.slice s'r0 nr0 c'r0) ∧ (∀ k, S0 k → w.heap.size ≤ k ∧ k < w'.heap.size) ∧ I64R S0 w' s'r0 nr0 Vr0 ∧ Below w.heap.size w w'))
    (H2 : Hid (∀ (s0_1 : Option Addr) (c0_1 : Nat) (s1 : Option Addr) (c1 : Nat) w, RowTree w s0_1 n0_1 X0_1 K0_1 V0_1 → RowLL w s1 n1 K1 V1 → Calls Try.prog 20 #[.agg #[.int .i64 a0_0, .slice s0_1 n0_1 c0_1], .slice s1 n1 c1] w fun e w' => ∃ (s'r0 : Option Addr) (c'r0 : Nat) (S0 : Nat → Prop), e = .returned (.slice s'r0 nr0 c'r0) ∧ (∀ k, S0 k → w.heap.size ≤ k ∧ k < w'.heap.size) ∧ I64R S0 w' s'r0 nr0 Vr0 ∧ Below w.heap.size w w')) :
    Calls Try.prog 5 #[.agg #[.int .i64 a0_0, .slice s0_1 n0_1 c0_1], .slice s1 n1 c1] w fun e w' => e = .returned (.bool true) ∧ Below w.heap.size w w' := by
  have sto := store_slT
  go_enter Try.func5, Try.ntmps5
  go_wp2_with fail
  refine (szTree_on a0_0 n0_1 X0_1 K0_1 V0_1 s0_1 c0_1 _ _ (by omega) (by omega) (by omega) ((HR0.out).below (below0 _ _))).mono ?_
  rintro e w1 ⟨rfl, hh⟩
  have hb : Below w.heap.size w w1 := Below.trans (by repeat (first | with_reducible exact Below.refl _ _ | with_reducible refine Below.setCell ?_ (by first | omega | (simp; done) | (simp; omega)) _ | with_reducible refine bDrewN ?_ _ | with_reducible refine Below.drew ?_ | with_reducible refine Below.alloc ?_ (by first | omega | (simp; done) | (simp; omega)) _)) (hh.mono (by first | omega | (simp; done) | (simp; omega)))
  have lw1 : w.heap.size ≤ w1.heap.size := hb.size
  have ca00 : w1.cell? ⟨w.heap.size, 0, none⟩ = some (.int .i64 a0_0) := by rw [hh.cell (by first | omega | (simp; done) | (simp; omega))]; first | (simp; done) | (simp [go_sem]; done)
  have ca01 : w1.cell? ⟨w.heap.size, 1, none⟩ = some (.slice s0_1 n0_1 c0_1) := by rw [hh.cell (by first | omega | (simp; done) | (simp; omega))]; first | (simp; done) | (simp [go_sem]; done)
  have za0 : w.heap.size < w1.heap.size := by have := hh.size; simp at this; omega
  have ya0 : w.heap.size < w1.heap.size := za0
  have B0 : Below w.heap.size w w1 := hb
  clear hb hh
  go_wp2_with fail
  refine (szInt64SS_on _ n1 _ K1 V1 _ _ (by omega) (by omega) (by omega) (HR1.out.below B0)).mono ?_
  rintro e w1 ⟨rfl, rfl⟩
  go_wp2_with fail
  refine (toTree_r a0_0 n0_1 X0_1 K0_1 V0_1 s0_1 c0_1 _ hn0_1 (HR0.out.below B0)).mono ?_
  rintro e w2 ⟨st0_1, St0, rfl, Q, O, hh⟩
  have hb : Below w1.heap.size w1 w2 := Below.trans (by repeat (first | with_reducible exact Below.refl _ _ | with_reducible refine Below.setCell ?_ (by first | omega | (simp; done) | (simp; omega)) _ | with_reducible refine bDrewN ?_ _ | with_reducible refine Below.drew ?_ | with_reducible refine Below.alloc ?_ (by first | omega | (simp; done) | (simp; omega)) _)) (hh.mono (by first | omega | (simp; done) | (simp; omega)))
  have lw2 : w1.heap.size ≤ w2.heap.size := hb.size
  replace ca00 := (hb.cell (p := ⟨w.heap.size, 0, none⟩) za0).trans ca00
  replace ca01 := (hb.cell (p := ⟨w.heap.size, 1, none⟩) za0).trans ca01
  replace za0 := Nat.lt_of_lt_of_le za0 hb.size
  replace B0 : Below w.heap.size w w2 := B0.trans (hb.mono B0.size)
  clear hb hh
  have Qt0 : Hid (∀ k, St0 k → w1.heap.size ≤ k ∧ k < w2.heap.size) := (show ∀ k, St0 k → w1.heap.size ≤ k ∧ k < w2.heap.size from by simpa using Q)
  have Ot0 : Hid (TreeR St0 w2 st0_1 n0_1 X0_1 K0_1 V0_1) := O
  clear O Q
  go_wp2_with fail
  refine (toInt64SS_r s1 n1 c1 K1 V1 _ hn1 (HR1.out.below B0)).mono ?_
  rintro e w3 ⟨st1, St1, rfl, Q, O, hh⟩
  have hb : Below w2.heap.size w2 w3 := Below.trans (by repeat (first | with_reducible exact Below.refl _ _ | with_reducible refine Below.setCell ?_ (by first | omega | (simp; done) | (simp; omega)) _ | with_reducible refine bDrewN ?_ _ | with_reducible refine Below.drew ?_ | with_reducible refine Below.alloc ?_ (by first | omega | (simp; done) | (simp; omega)) _)) (hh.mono (by first | omega | (simp; done) | (simp; omega)))
  have lw3 : w2.heap.size ≤ w3.heap.size := hb.size
  replace ca00 := (hb.cell (p := ⟨w.heap.size, 0, none⟩) za0).trans ca00
  replace ca01 := (hb.cell (p := ⟨w.heap.size, 1, none⟩) za0).trans ca01
  replace za0 := Nat.lt_of_lt_of_le za0 hb.size
  replace Ot0 : Hid (TreeR St0 w3 st0_1 n0_1 X0_1 K0_1 V0_1) := Ot0.out.below hb
  replace B0 : Below w.heap.size w w3 := B0.trans (hb.mono B0.size)
  clear hb hh
  have Qt1 : Hid (∀ k, St1 k → w2.heap.size ≤ k ∧ k < w3.heap.size) := (show ∀ k, St1 k → w2.heap.size ≤ k ∧ k < w3.heap.size from by simpa using Q)
  have Ot1 : Hid (LLR St1 w3 st1 n1 K1 V1) := O
  clear O Q
  go_wp2_with fail
  refine (H1.out st0_1 _ st1 _ _ (Ot0.out.row) (Ot1.out.row)).mono ?_
  rintro e w4 ⟨sWr0, cWr0, SW0, rfl, Q0, O0, hh⟩
  have hb : Below w3.heap.size w3 w4 := Below.trans (by repeat (first | with_reducible exact Below.refl _ _ | with_reducible refine Below.setCell ?_ (by first | omega | (simp; done) | (simp; omega)) _ | with_reducible refine bDrewN ?_ _ | with_reducible refine Below.drew ?_ | with_reducible refine Below.alloc ?_ (by first | omega | (simp; done) | (simp; omega)) _)) (hh.mono (by first | omega | (simp; done) | (simp; omega)))
  have lw4 : w3.heap.size ≤ w4.heap.size := hb.size
  replace ca00 := (hb.cell (p := ⟨w.heap.size, 0, none⟩) za0).trans ca00
  replace ca01 := (hb.cell (p := ⟨w.heap.size, 1, none⟩) za0).trans ca01
  replace za0 := Nat.lt_of_lt_of_le za0 hb.size
  replace Ot0 : Hid (TreeR St0 w4 st0_1 n0_1 X0_1 K0_1 V0_1) := Ot0.out.below hb
  replace Ot1 : Hid (LLR St1 w4 st1 n1 K1 V1) := Ot1.out.below hb
  replace B0 : Below w.heap.size w w4 := B0.trans (hb.mono B0.size)
  clear hb hh
  clear Ot0 Qt0 
  clear Ot1 Qt1 
  have Bs : Below w4.heap.size w4 w4 := Below.refl _ _
  have RW0 : Hid (RowI w4 sWr0 nr0 Vr0) := O0.row
  clear O0 Q0 
  go_wp2_with fail
  refine (toTree_r a0_0 n0_1 X0_1 K0_1 V0_1 s0_1 c0_1 _ hn0_1 (HR0.out.below B0)).mono ?_
  rintro e w5 ⟨sx0_1, Sx0, rfl, Q, O, hh⟩
  have hb : Below w4.heap.size w4 w5 := Below.trans (by repeat (first | with_reducible exact Below.refl _ _ | with_reducible refine Below.setCell ?_ (by first | omega | (simp; done) | (simp; omega)) _ | with_reducible refine bDrewN ?_ _ | with_reducible refine Below.drew ?_ | with_reducible refine Below.alloc ?_ (by first | omega | (simp; done) | (simp; omega)) _)) (hh.mono (by first | omega | (simp; done) | (simp; omega)))
  have lw5 : w4.heap.size ≤ w5.heap.size := hb.size
  replace ca00 := (hb.cell (p := ⟨w.heap.size, 0, none⟩) za0).trans ca00
  replace ca01 := (hb.cell (p := ⟨w.heap.size, 1, none⟩) za0).trans ca01
  replace za0 := Nat.lt_of_lt_of_le za0 hb.size
  replace Bs : Below w4.heap.size w4 w5 := Bs.trans (hb.mono Bs.size)
  replace B0 : Below w.heap.size w w5 := B0.trans (hb.mono B0.size)
  clear hb hh
  have Qx0 : Hid (∀ k, Sx0 k → w4.heap.size ≤ k ∧ k < w5.heap.size) := (show ∀ k, Sx0 k → w4.heap.size ≤ k ∧ k < w5.heap.size from by simpa using Q)
  have Ox0 : Hid (TreeR Sx0 w5 sx0_1 n0_1 X0_1 K0_1 V0_1) := O
  clear O Q
  go_wp2_with fail
  refine (toInt64SS_r s1 n1 c1 K1 V1 _ hn1 ((HR1.out.below B0).below (below0 _ _))).mono ?_
  rintro e w6 ⟨sx1, Sx1, rfl, Q, O, hh⟩
  have hb : Below w5.heap.size w5 w6 := Below.trans (by repeat (first | with_reducible exact Below.refl _ _ | with_reducible refine Below.setCell ?_ (by first | omega | (simp; done) | (simp; omega)) _ | with_reducible refine bDrewN ?_ _ | with_reducible refine Below.drew ?_ | with_reducible refine Below.alloc ?_ (by first | omega | (simp; done) | (simp; omega)) _)) (hh.mono (by first | omega | (simp; done) | (simp; omega)))
  have lw6 : w5.heap.size ≤ w6.heap.size := hb.size
  have cx00 : w6.cell? ⟨w5.heap.size, 0, none⟩ = some (.int .i64 a0_0) := by rw [hh.cell (by first | omega | (simp; done) | (simp; omega))]; first | (simp; done) | (simp [go_sem]; done)
  have cx01 : w6.cell? ⟨w5.heap.size, 1, none⟩ = some (.slice sx0_1 n0_1 n0_1) := by rw [hh.cell (by first | omega | (simp; done) | (simp; omega))]; first | (simp; done) | (simp [go_sem]; done)
  have zx0 : w5.heap.size < w6.heap.size := by have := hh.size; simp at this; omega
  have yx0 : w5.heap.size < w6.heap.size := zx0
  replace ca00 := (hb.cell (p := ⟨w.heap.size, 0, none⟩) za0).trans ca00
  replace ca01 := (hb.cell (p := ⟨w.heap.size, 1, none⟩) za0).trans ca01
  replace za0 := Nat.lt_of_lt_of_le za0 hb.size
  replace Ox0 : Hid (TreeR Sx0 w6 sx0_1 n0_1 X0_1 K0_1 V0_1) := Ox0.out.below hb
  replace Bs : Below w4.heap.size w4 w6 := Bs.trans (hb.mono Bs.size)
  replace B0 : Below w.heap.size w w6 := B0.trans (hb.mono B0.size)
  clear hb hh
  have Qx1 : Hid (∀ k, Sx1 k → w5.heap.size + 1 ≤ k ∧ k < w6.heap.size) := (show ∀ k, Sx1 k → w5.heap.size + 1 ≤ k ∧ k < w6.heap.size from by simpa using Q)
  have Ox1 : Hid (LLR Sx1 w6 sx1 n1 K1 V1) := O
  clear O Q
  go_wp2_with fail
  refine (H2.out sx0_1 _ sx1 _ _ (Ox0.out.row) (Ox1.out.row)).mono ?_
  rintro e w7 ⟨sgr0, cgr0, Sg0, rfl, Q0, O0, hh⟩
  have hb : Below w6.heap.size w6 w7 := Below.trans (by repeat (first | with_reducible exact Below.refl _ _ | with_reducible refine Below.setCell ?_ (by first | omega | (simp; done) | (simp; omega)) _ | with_reducible refine bDrewN ?_ _ | with_reducible refine Below.drew ?_ | with_reducible refine Below.alloc ?_ (by first | omega | (simp; done) | (simp; omega)) _)) (hh.mono (by first | omega | (simp; done) | (simp; omega)))
  have lw7 : w6.heap.size ≤ w7.heap.size := hb.size
  replace ca00 := (hb.cell (p := ⟨w.heap.size, 0, none⟩) za0).trans ca00
  replace ca01 := (hb.cell (p := ⟨w.heap.size, 1, none⟩) za0).trans ca01
  replace za0 := Nat.lt_of_lt_of_le za0 hb.size
  replace cx00 := (hb.cell (p := ⟨w5.heap.size, 0, none⟩) zx0).trans cx00
  replace cx01 := (hb.cell (p := ⟨w5.heap.size, 1, none⟩) zx0).trans cx01
  replace zx0 := Nat.lt_of_lt_of_le zx0 hb.size
  replace Ox0 : Hid (TreeR Sx0 w7 sx0_1 n0_1 X0_1 K0_1 V0_1) := Ox0.out.below hb
  replace Ox1 : Hid (LLR Sx1 w7 sx1 n1 K1 V1) := Ox1.out.below hb
  replace Bs : Below w4.heap.size w4 w7 := Bs.trans (hb.mono Bs.size)
  replace B0 : Below w.heap.size w w7 := B0.trans (hb.mono B0.size)
  clear hb hh
  have Qg0 : Hid (∀ k, Sg0 k → w6.heap.size ≤ k ∧ k < w7.heap.size) := (show ∀ k, Sg0 k → w6.heap.size ≤ k ∧ k < w7.heap.size from by simpa using Q0)
  have Og0 : Hid (I64R Sg0 w7 sgr0 nr0 Vr0) := O0
  clear O0 Q0
  go_wp2_with fail
  refine (eqInt64S_any sgr0 sWr0 nr0 _ _ Vr0 _ hnr0 (Og0.out.row) (RW0.out.below Bs)).mono ?_
  rintro e w8 ⟨rfl, hh⟩
  have hb : Below w7.heap.size w7 w8 := Below.trans (by repeat (first | with_reducible exact Below.refl _ _ | with_reducible refine Below.setCell ?_ (by first | omega | (simp; done) | (simp; omega)) _ | with_reducible refine bDrewN ?_ _ | with_reducible refine Below.drew ?_ | with_reducible refine Below.alloc ?_ (by first | omega | (simp; done) | (simp; omega)) _)) (hh.mono (by first | omega | (simp; done) | (simp; omega)))
  have lw8 : w7.heap.size ≤ w8.heap.size := hb.size
  replace ca00 := (hb.cell (p := ⟨w.heap.size, 0, none⟩) za0).trans ca00
  replace ca01 := (hb.cell (p := ⟨w.heap.size, 1, none⟩) za0).trans ca01
  replace za0 := Nat.lt_of_lt_of_le za0 hb.size
  replace cx00 := (hb.cell (p := ⟨w5.heap.size, 0, none⟩) zx0).trans cx00
  replace cx01 := (hb.cell (p := ⟨w5.heap.size, 1, none⟩) zx0).trans cx01
  replace zx0 := Nat.lt_of_lt_of_le zx0 hb.size
  replace Ox0 : Hid (TreeR Sx0 w8 sx0_1 n0_1 X0_1 K0_1 V0_1) := Ox0.out.below hb
  replace Ox1 : Hid (LLR Sx1 w8 sx1 n1 K1 V1) := Ox1.out.below hb
  replace Og0 : Hid (I64R Sg0 w8 sgr0 nr0 Vr0) := Og0.out.below hb
  replace Bs : Below w4.heap.size w4 w8 := Bs.trans (hb.mono Bs.size)
  replace B0 : Below w.heap.size w w8 := B0.trans (hb.mono B0.size)
  clear hb hh
  go_upto_region 14 with fail
  have HB : Hid (Below w.heap.size w w8) := B0
  go_cut [44] (fun y wx => y = .bool false ∧ Below w8.heap.size w8 wx)
  case first =>
    go_region_held3 (fun w' => w'.cell? ⟨w.heap.size, 0, none⟩ = some (.int .i64 a0_0) ∧ w'.cell? ⟨w.heap.size, 1, none⟩ = some (.slice s0_1 n0_1 c0_1) ∧ w'.cell? ⟨w5.heap.size, 0, none⟩ = some (.int .i64 a0_0) ∧ w'.cell? ⟨w5.heap.size, 1, none⟩ = some (.slice sx0_1 n0_1 n0_1)) (first | (exact ⟨ca00, ca01, cx00, cx01⟩) | (refine keepLaw2_2 ca00 ca01 cx00 cx01 za0 zx0 ?_; exact (by repeat (first | with_reducible exact Below.refl _ _ | with_reducible exact B8 | with_reducible exact B7 | with_reducible refine Below.setCell ?_ (by first | omega | (simp; done) | (simp; omega)) _ | with_reducible refine bDrewN ?_ _ | with_reducible refine Below.drew ?_ | with_reducible refine Below.alloc ?_ (by first | omega | (simp; done) | (simp; omega)) _)))) (first
      | (go_at_call 10; refine (toTree_r a0_0 n0_1 X0_1 K0_1 V0_1 s0_1 c0_1 _ hn0_1 (HR0.out.below (HB.out.trans (Below.mono (by repeat (first | with_reducible exact Below.refl _ _ | with_reducible refine Below.setCell ?_ (by first | omega | (simp; done) | (simp; omega)) _ | with_reducible refine bDrewN ?_ _ | with_reducible refine Below.drew ?_ | with_reducible refine Below.alloc ?_ (by first | omega | (simp; done) | (simp; omega)) _)) HB.out.size)))).mono ?_; rintro e wy ⟨sy0_1, Sy, rfl, -, OY, h7⟩; have B7 : Below w8.heap.size w8 wy := Below.trans (by repeat (first | with_reducible exact Below.refl _ _ | with_reducible refine Below.setCell ?_ (by first | omega | (simp; done) | (simp; omega)) _ | with_reducible refine bDrewN ?_ _ | with_reducible refine Below.drew ?_ | with_reducible refine Below.alloc ?_ (by first | omega | (simp; done) | (simp; omega)) _)) (h7.mono (by first | omega | (simp; done) | (simp; omega))); have s7 := B7.size; have PY : Hid (RowTree wy sy0_1 n0_1 X0_1 K0_1 V0_1) := OY.row; have PX : Hid (RowTree wy sx0_1 n0_1 X0_1 K0_1 V0_1) := Ox0.out.row.below B7; clear h7 OY)
      | (go_at_call 12; refine (eqTree_r a0_0 n0_1 X0_1 K0_1 V0_1 sx0_1 n0_1 sy0_1 n0_1 _ hn0_1 PX.out PY.out).mono ?_; rintro e wz ⟨rfl, h8⟩; have B8 : Below w8.heap.size w8 wz := Below.trans (by repeat (first | with_reducible exact Below.refl _ _ | with_reducible exact B7 | with_reducible refine Below.setCell ?_ (by first | omega | (simp; done) | (simp; omega)) _ | with_reducible refine bDrewN ?_ _ | with_reducible refine Below.drew ?_ | with_reducible refine Below.alloc ?_ (by first | omega | (simp; done) | (simp; omega)) _)) (h8.mono (by first | omega | (simp; done) | (simp; omega))); clear h8))
    all_goals
      go_wp2_with fail
      go_meet
      exact ⟨rfl, B8⟩
  obtain ⟨rfl, hb⟩ := hcut
  rename World => w9
  have lw9 : w8.heap.size ≤ w9.heap.size := hb.size
  replace ca00 := (hb.cell (p := ⟨w.heap.size, 0, none⟩) za0).trans ca00
  replace ca01 := (hb.cell (p := ⟨w.heap.size, 1, none⟩) za0).trans ca01
  replace za0 := Nat.lt_of_lt_of_le za0 hb.size
  replace cx00 := (hb.cell (p := ⟨w5.heap.size, 0, none⟩) zx0).trans cx00
  replace cx01 := (hb.cell (p := ⟨w5.heap.size, 1, none⟩) zx0).trans cx01
  replace zx0 := Nat.lt_of_lt_of_le zx0 hb.size
  replace Ox0 : Hid (TreeR Sx0 w9 sx0_1 n0_1 X0_1 K0_1 V0_1) := Ox0.out.below hb
  replace Ox1 : Hid (LLR Sx1 w9 sx1 n1 K1 V1) := Ox1.out.below hb
  replace Og0 : Hid (I64R Sg0 w9 sgr0 nr0 Vr0) := Og0.out.below hb
  replace Bs : Below w4.heap.size w4 w9 := Bs.trans (hb.mono Bs.size)
  replace B0 : Below w.heap.size w w9 := B0.trans (hb.mono B0.size)
  clear hb HB
  go_wp2_with fail
  refine (toInt64SS_r s1 n1 c1 K1 V1 _ hn1 (HR1.out.below B0)).mono ?_
  rintro e w10 ⟨sy1, Sy1, rfl, Q, O, hh⟩
  have hb : Below w9.heap.size w9 w10 := Below.trans (by repeat (first | with_reducible exact Below.refl _ _ | with_reducible refine Below.setCell ?_ (by first | omega | (simp; done) | (simp; omega)) _ | with_reducible refine bDrewN ?_ _ | with_reducible refine Below.drew ?_ | with_reducible refine Below.alloc ?_ (by first | omega | (simp; done) | (simp; omega)) _)) (hh.mono (by first | omega | (simp; done) | (simp; omega)))
  have lw10 : w9.heap.size ≤ w10.heap.size := hb.size
  replace ca00 := (hb.cell (p := ⟨w.heap.size, 0, none⟩) za0).trans ca00
  replace ca01 := (hb.cell (p := ⟨w.heap.size, 1, none⟩) za0).trans ca01
  replace za0 := Nat.lt_of_lt_of_le za0 hb.size
  replace cx00 := (hb.cell (p := ⟨w5.heap.size, 0, none⟩) zx0).trans cx00
  replace cx01 := (hb.cell (p := ⟨w5.heap.size, 1, none⟩) zx0).trans cx01
  replace zx0 := Nat.lt_of_lt_of_le zx0 hb.size
  replace Ox0 : Hid (TreeR Sx0 w10 sx0_1 n0_1 X0_1 K0_1 V0_1) := Ox0.out.below hb
  replace Ox1 : Hid (LLR Sx1 w10 sx1 n1 K1 V1) := Ox1.out.below hb
  replace Og0 : Hid (I64R Sg0 w10 sgr0 nr0 Vr0) := Og0.out.below hb
  replace Bs : Below w4.heap.size w4 w10 := Bs.trans (hb.mono Bs.size)
  replace B0 : Below w.heap.size w w10 := B0.trans (hb.mono B0.size)
  clear hb hh
  have Qy1 : Hid (∀ k, Sy1 k → w9.heap.size ≤ k ∧ k < w10.heap.size) := (show ∀ k, Sy1 k → w9.heap.size ≤ k ∧ k < w10.heap.size from by simpa using Q)
  have Oy1 : Hid (LLR Sy1 w10 sy1 n1 K1 V1) := O
  clear O Q
  go_wp2_with fail
  refine (eqInt64SS_r _ _ n1 _ _ K1 V1 _ hn1 (Ox1.out.row) (Oy1.out.row)).mono ?_
  rintro e w11 ⟨rfl, hh⟩
  have hb : Below w10.heap.size w10 w11 := Below.trans (by repeat (first | with_reducible exact Below.refl _ _ | with_reducible refine Below.setCell ?_ (by first | omega | (simp; done) | (simp; omega)) _ | with_reducible refine bDrewN ?_ _ | with_reducible refine Below.drew ?_ | with_reducible refine Below.alloc ?_ (by first | omega | (simp; done) | (simp; omega)) _)) (hh.mono (by first | omega | (simp; done) | (simp; omega)))
  have lw11 : w10.heap.size ≤ w11.heap.size := hb.size
  replace ca00 := (hb.cell (p := ⟨w.heap.size, 0, none⟩) za0).trans ca00
  replace ca01 := (hb.cell (p := ⟨w.heap.size, 1, none⟩) za0).trans ca01
  replace za0 := Nat.lt_of_lt_of_le za0 hb.size
  replace cx00 := (hb.cell (p := ⟨w5.heap.size, 0, none⟩) zx0).trans cx00
  replace cx01 := (hb.cell (p := ⟨w5.heap.size, 1, none⟩) zx0).trans cx01
  replace zx0 := Nat.lt_of_lt_of_le zx0 hb.size
  replace Ox0 : Hid (TreeR Sx0 w11 sx0_1 n0_1 X0_1 K0_1 V0_1) := Ox0.out.below hb
  replace Ox1 : Hid (LLR Sx1 w11 sx1 n1 K1 V1) := Ox1.out.below hb
  replace Og0 : Hid (I64R Sg0 w11 sgr0 nr0 Vr0) := Og0.out.below hb
  replace Oy1 : Hid (LLR Sy1 w11 sy1 n1 K1 V1) := Oy1.out.below hb
  replace Bs : Below w4.heap.size w4 w11 := Bs.trans (hb.mono Bs.size)
  replace B0 : Below w.heap.size w w11 := B0.trans (hb.mono B0.size)
  clear hb hh
  clear Oy1 Qy1 
  go_wp2_with fail
  refine (markTree_r a0_0 n0_1 X0_1 K0_1 V0_1 sx0_1 n0_1 Sx0 (1) _ hn0_1 (by omega) (by omega) (fun k q => by have := Qx0.out k q; omega) Ox0.out).mono ?_
  rintro e w12 ⟨rfl, T⟩
  have lw12 : w11.heap.size ≤ w12.heap.size := T.size
  replace ca00 := (T.cell (p := ⟨w.heap.size, 0, none⟩) za0 (show ¬ Sx0 (w.heap.size) from fun q => by have := Qx0.out _ q; omega)).trans ca00
  replace ca01 := (T.cell (p := ⟨w.heap.size, 1, none⟩) za0 (show ¬ Sx0 (w.heap.size) from fun q => by have := Qx0.out _ q; omega)).trans ca01
  replace za0 := Nat.lt_of_lt_of_le za0 T.size
  replace cx00 := (T.cell (p := ⟨w5.heap.size, 0, none⟩) zx0 (show ¬ Sx0 (w5.heap.size) from fun q => by have := Qx0.out _ q; omega)).trans cx00
  replace cx01 := (T.cell (p := ⟨w5.heap.size, 1, none⟩) zx0 (show ¬ Sx0 (w5.heap.size) from fun q => by have := Qx0.out _ q; omega)).trans cx01
  replace zx0 := Nat.lt_of_lt_of_le zx0 T.size
  replace Ox1 : Hid (LLR Sx1 w12 sx1 n1 K1 V1) := Ox1.out.keep T.size (fun k hk hl => T.2.2.2.2 k hl (fun q => by have := Qx0.out k q; have := Qx1.out k hk; omega))
  replace Og0 : Hid (I64R Sg0 w12 sgr0 nr0 Vr0) := Og0.out.keep T.size (fun k hk hl => T.2.2.2.2 k hl (fun q => by have := Qx0.out k q; have := Qg0.out k hk; omega))
  replace Bs : Below w4.heap.size w4 w12 := Bs.trans (T.below (fun k q => by have := Qx0.out k q; omega) (by omega))
  replace B0 : Below w.heap.size w w12 := B0.trans (T.below (fun k q => by have := Qx0.out k q; omega) (by omega))
  clear T Ox0
  go_wp2_with fail
  refine (markInt64SS_r Sx1 _ n1 _ (1 + ((n0_1 : Int) + (suK K0_1 n0_1 : Int))) K1 V1 _ hn1 (by omega) (by omega) Ox1.out).mono ?_
  rintro e w13 ⟨rfl, -, T⟩
  have lw13 : w12.heap.size ≤ w13.heap.size := T.size
  replace ca00 := (T.cell (p := ⟨w.heap.size, 0, none⟩) za0 (show ¬ Sx1 (w.heap.size) from fun q => by have := Qx1.out _ q; omega)).trans ca00
  replace ca01 := (T.cell (p := ⟨w.heap.size, 1, none⟩) za0 (show ¬ Sx1 (w.heap.size) from fun q => by have := Qx1.out _ q; omega)).trans ca01
  replace za0 := Nat.lt_of_lt_of_le za0 T.size
  replace cx00 := (T.cell (p := ⟨w5.heap.size, 0, none⟩) zx0 (show ¬ Sx1 (w5.heap.size) from fun q => by have := Qx1.out _ q; omega)).trans cx00
  replace cx01 := (T.cell (p := ⟨w5.heap.size, 1, none⟩) zx0 (show ¬ Sx1 (w5.heap.size) from fun q => by have := Qx1.out _ q; omega)).trans cx01
  replace zx0 := Nat.lt_of_lt_of_le zx0 T.size
  replace Og0 : Hid (I64R Sg0 w13 sgr0 nr0 Vr0) := Og0.out.keep T.size (fun k hk hl => T.2.2.2.2 k hl (fun q => by have := Qx1.out k q; have := Qg0.out k hk; omega))
  replace Bs : Below w4.heap.size w4 w13 := Bs.trans (T.below (fun k q => by have := Qx1.out k q; omega) (by omega))
  replace B0 : Below w.heap.size w w13 := B0.trans (T.below (fun k q => by have := Qx1.out k q; omega) (by omega))
  clear T Ox1
  go_wp2_with fail
  refine (eqInt64S_any sgr0 sWr0 nr0 _ _ Vr0 _ hnr0 (Og0.out.row) (RW0.out.below Bs)).mono ?_
  rintro e w14 ⟨rfl, hh⟩
  have hb : Below w13.heap.size w13 w14 := Below.trans (by repeat (first | with_reducible exact Below.refl _ _ | with_reducible refine Below.setCell ?_ (by first | omega | (simp; done) | (simp; omega)) _ | with_reducible refine bDrewN ?_ _ | with_reducible refine Below.drew ?_ | with_reducible refine Below.alloc ?_ (by first | omega | (simp; done) | (simp; omega)) _)) (hh.mono (by first | omega | (simp; done) | (simp; omega)))
  have lw14 : w13.heap.size ≤ w14.heap.size := hb.size
  replace ca00 := (hb.cell (p := ⟨w.heap.size, 0, none⟩) za0).trans ca00
  replace ca01 := (hb.cell (p := ⟨w.heap.size, 1, none⟩) za0).trans ca01
  replace za0 := Nat.lt_of_lt_of_le za0 hb.size
  replace cx00 := (hb.cell (p := ⟨w5.heap.size, 0, none⟩) zx0).trans cx00
  replace cx01 := (hb.cell (p := ⟨w5.heap.size, 1, none⟩) zx0).trans cx01
  replace zx0 := Nat.lt_of_lt_of_le zx0 hb.size
  replace Og0 : Hid (I64R Sg0 w14 sgr0 nr0 Vr0) := Og0.out.below hb
  replace Bs : Below w4.heap.size w4 w14 := Bs.trans (hb.mono Bs.size)
  replace B0 : Below w.heap.size w w14 := B0.trans (hb.mono B0.size)
  clear hb hh
  clear cx00 cx01 zx0
  clear Qx0
  clear Qx1
  go_wp2_with fail
  refine (markInt64S_r Sg0 _ nr0 _ (1) Vr0 _ hnr0 (by omega) (by omega) Og0.out).mono ?_
  rintro e w15 ⟨rfl, OM, T⟩
  have lw15 : w14.heap.size ≤ w15.heap.size := T.size
  replace ca00 := (T.cell (p := ⟨w.heap.size, 0, none⟩) za0 (show ¬ Sg0 (w.heap.size) from fun q => by have := Qg0.out _ q; omega)).trans ca00
  replace ca01 := (T.cell (p := ⟨w.heap.size, 1, none⟩) za0 (show ¬ Sg0 (w.heap.size) from fun q => by have := Qg0.out _ q; omega)).trans ca01
  replace za0 := Nat.lt_of_lt_of_le za0 T.size
  replace Bs : Below w4.heap.size w4 w15 := Bs.trans (T.below (fun k q => by have := Qg0.out k q; omega) (by omega))
  replace B0 : Below w.heap.size w w15 := B0.trans (T.below (fun k q => by have := Qg0.out k q; omega) (by omega))
  replace Og0 : Hid (I64R Sg0 w15 sgr0 nr0 (fun j => (1) + (j : Int))) := OM
  clear T OM
  go_wp2_with fail
  refine (heldInt64S_any _ nr0 _ (1) _ hnr0 (by omega) (by omega) (Og0.out.row)).mono ?_
  rintro e w15 ⟨rfl, rfl⟩
  go_wp2_with fail
  refine (toTree_r a0_0 n0_1 X0_1 K0_1 V0_1 s0_1 c0_1 _ hn0_1 (HR0.out.below B0)).mono ?_
  rintro e w16 ⟨sv0_1, Sv0, rfl, Q, O, hh⟩
  have hb : Below w15.heap.size w15 w16 := Below.trans (by repeat (first | with_reducible exact Below.refl _ _ | with_reducible refine Below.setCell ?_ (by first | omega | (simp; done) | (simp; omega)) _ | with_reducible refine bDrewN ?_ _ | with_reducible refine Below.drew ?_ | with_reducible refine Below.alloc ?_ (by first | omega | (simp; done) | (simp; omega)) _)) (hh.mono (by first | omega | (simp; done) | (simp; omega)))
  have lw16 : w15.heap.size ≤ w16.heap.size := hb.size
  replace ca00 := (hb.cell (p := ⟨w.heap.size, 0, none⟩) za0).trans ca00
  replace ca01 := (hb.cell (p := ⟨w.heap.size, 1, none⟩) za0).trans ca01
  replace za0 := Nat.lt_of_lt_of_le za0 hb.size
  replace Og0 : Hid (I64R Sg0 w16 sgr0 nr0 (fun j => (1) + (j : Int))) := Og0.out.below hb
  replace Bs : Below w4.heap.size w4 w16 := Bs.trans (hb.mono Bs.size)
  replace B0 : Below w.heap.size w w16 := B0.trans (hb.mono B0.size)
  clear hb hh
  have Qv0 : Hid (∀ k, Sv0 k → w15.heap.size ≤ k ∧ k < w16.heap.size) := (show ∀ k, Sv0 k → w15.heap.size ≤ k ∧ k < w16.heap.size from by simpa using Q)
  have Ov0 : Hid (TreeR Sv0 w16 sv0_1 n0_1 X0_1 K0_1 V0_1) := O
  clear O Q
  go_wp2_with fail
  refine (toInt64SS_r s1 n1 c1 K1 V1 _ hn1 (HR1.out.below B0)).mono ?_
  rintro e w17 ⟨sv1, Sv1, rfl, Q, O, hh⟩
  have hb : Below w16.heap.size w16 w17 := Below.trans (by repeat (first | with_reducible exact Below.refl _ _ | with_reducible refine Below.setCell ?_ (by first | omega | (simp; done) | (simp; omega)) _ | with_reducible refine bDrewN ?_ _ | with_reducible refine Below.drew ?_ | with_reducible refine Below.alloc ?_ (by first | omega | (simp; done) | (simp; omega)) _)) (hh.mono (by first | omega | (simp; done) | (simp; omega)))
  have lw17 : w16.heap.size ≤ w17.heap.size := hb.size
  replace ca00 := (hb.cell (p := ⟨w.heap.size, 0, none⟩) za0).trans ca00
  replace ca01 := (hb.cell (p := ⟨w.heap.size, 1, none⟩) za0).trans ca01
  replace za0 := Nat.lt_of_lt_of_le za0 hb.size
  replace Og0 : Hid (I64R Sg0 w17 sgr0 nr0 (fun j => (1) + (j : Int))) := Og0.out.below hb
  replace Ov0 : Hid (TreeR Sv0 w17 sv0_1 n0_1 X0_1 K0_1 V0_1) := Ov0.out.below hb
  replace Bs : Below w4.heap.size w4 w17 := Bs.trans (hb.mono Bs.size)
  replace B0 : Below w.heap.size w w17 := B0.trans (hb.mono B0.size)
  clear hb hh
  have Qv1 : Hid (∀ k, Sv1 k → w16.heap.size ≤ k ∧ k < w17.heap.size) := (show ∀ k, Sv1 k → w16.heap.size ≤ k ∧ k < w17.heap.size from by simpa using Q)
  have Ov1 : Hid (LLR Sv1 w17 sv1 n1 K1 V1) := O
  clear O Q
  go_wp2_with fail
  refine (H2.out sv0_1 _ sv1 _ _ (Ov0.out.row) (Ov1.out.row)).mono ?_
  rintro e w18 ⟨shr0, chr0, Sh0, rfl, Q0, O0, hh⟩
  have hb : Below w17.heap.size w17 w18 := Below.trans (by repeat (first | with_reducible exact Below.refl _ _ | with_reducible refine Below.setCell ?_ (by first | omega | (simp; done) | (simp; omega)) _ | with_reducible refine bDrewN ?_ _ | with_reducible refine Below.drew ?_ | with_reducible refine Below.alloc ?_ (by first | omega | (simp; done) | (simp; omega)) _)) (hh.mono (by first | omega | (simp; done) | (simp; omega)))
  have lw18 : w17.heap.size ≤ w18.heap.size := hb.size
  replace ca00 := (hb.cell (p := ⟨w.heap.size, 0, none⟩) za0).trans ca00
  replace ca01 := (hb.cell (p := ⟨w.heap.size, 1, none⟩) za0).trans ca01
  replace za0 := Nat.lt_of_lt_of_le za0 hb.size
  replace Og0 : Hid (I64R Sg0 w18 sgr0 nr0 (fun j => (1) + (j : Int))) := Og0.out.below hb
  replace Ov0 : Hid (TreeR Sv0 w18 sv0_1 n0_1 X0_1 K0_1 V0_1) := Ov0.out.below hb
  replace Ov1 : Hid (LLR Sv1 w18 sv1 n1 K1 V1) := Ov1.out.below hb
  replace Bs : Below w4.heap.size w4 w18 := Bs.trans (hb.mono Bs.size)
  replace B0 : Below w.heap.size w w18 := B0.trans (hb.mono B0.size)
  clear hb hh
  clear Ov0 Qv0 
  clear Ov1 Qv1 
  have Rh0 : Hid (RowI w18 shr0 nr0 Vr0) := O0.row
  clear O0 Q0 
  have Bh : Below w18.heap.size w18 w18 := Below.refl _ _
  go_wp2_with fail
  refine (eqInt64S_any shr0 sWr0 nr0 _ _ Vr0 _ hnr0 ((Rh0.out.below (Below.mono (B := w18.heap.size) (Bh) (Nat.le_refl _)))) (RW0.out.below Bs)).mono ?_
  rintro e w19 ⟨rfl, hh⟩
  have hb : Below w18.heap.size w18 w19 := Below.trans (by repeat (first | with_reducible exact Below.refl _ _ | with_reducible refine Below.setCell ?_ (by first | omega | (simp; done) | (simp; omega)) _ | with_reducible refine bDrewN ?_ _ | with_reducible refine Below.drew ?_ | with_reducible refine Below.alloc ?_ (by first | omega | (simp; done) | (simp; omega)) _)) (hh.mono (by first | omega | (simp; done) | (simp; omega)))
  have lw19 : w18.heap.size ≤ w19.heap.size := hb.size
  replace ca00 := (hb.cell (p := ⟨w.heap.size, 0, none⟩) za0).trans ca00
  replace ca01 := (hb.cell (p := ⟨w.heap.size, 1, none⟩) za0).trans ca01
  replace za0 := Nat.lt_of_lt_of_le za0 hb.size
  replace Og0 : Hid (I64R Sg0 w19 sgr0 nr0 (fun j => (1) + (j : Int))) := Og0.out.below hb
  replace Bs : Below w4.heap.size w4 w19 := Bs.trans (hb.mono Bs.size)
  replace B0 : Below w.heap.size w w19 := B0.trans (hb.mono B0.size)
  replace Bh : Below w18.heap.size w18 w19 := Bh.trans (hb.mono Bh.size)
  clear hb hh
  go_wp2_with fail
  refine (heldInt64S_any _ nr0 _ (1) _ hnr0 (by omega) (by omega) (Og0.out.row)).mono ?_
  rintro e w19 ⟨rfl, rfl⟩
  go_wp2
  go_ret
  exact ⟨rfl, B0⟩
set_option maxHeartbeats 1600000 in
theorem common_farn0_1 (w : World) (a0_0 : Int) (n0_1 : Nat) (X0_1 : Nat → Int) (K0_1 : Nat → Nat) (V0_1 : Nat → Nat → Int) (s0_1 : Option Addr) (c0_1 : Nat) (n1 : Nat) (K1 : Nat → Nat) (V1 : Nat → Nat → Int) (s1 : Option Addr) (c1 : Nat)   (g : 1048576 < ((n0_1 : Int) + (suK K0_1 n0_1 : Int))) (gg : (n0_1 : Int) ≤ 9223372036854775807) (k63 : ∀ i, i < n0_1 → (K0_1 i : Int) ≤ 9223372036854775807) (HR0 : Hid (RowTree w s0_1 n0_1 X0_1 K0_1 V0_1)) :
    Calls Try.prog 5 #[.agg #[.int .i64 a0_0, .slice s0_1 n0_1 c0_1], .slice s1 n1 c1] w fun e w' => e = .returned (.bool true) ∧ Below w.heap.size w w' := by
  go_enter Try.func5, Try.ntmps5
  go_wp2_with fail
  refine (szTree_off1 a0_0 n0_1 X0_1 K0_1 V0_1 s0_1 c0_1 _ _ (by omega) (by omega) (by omega) gg k63 (HR0.out.below (by repeat (first | with_reducible exact Below.refl _ _ | with_reducible refine Below.setCell ?_ (by first | omega | (simp; done) | (simp; omega)) _ | with_reducible refine bDrewN ?_ _ | with_reducible refine Below.drew ?_ | with_reducible refine Below.alloc ?_ (by first | omega | (simp; done) | (simp; omega)) _)))).mono ?_
  rintro e u1 ⟨rfl, hh⟩
  have hb : Below w.heap.size w u1 := Below.trans (by repeat (first | with_reducible exact Below.refl _ _ | with_reducible refine Below.setCell ?_ (by first | omega | (simp; done) | (simp; omega)) _ | with_reducible refine bDrewN ?_ _ | with_reducible refine Below.drew ?_ | with_reducible refine Below.alloc ?_ (by first | omega | (simp; done) | (simp; omega)) _)) (hh.mono (by first | omega | (simp; done) | (simp; omega)))
  have ca00 : u1.cell? ⟨w.heap.size, 0, none⟩ = some (.int .i64 a0_0) := by rw [hh.cell (by first | omega | (simp; done) | (simp; omega))]; first | (simp; done) | (simp [go_sem]; done)
  have ca01 : u1.cell? ⟨w.heap.size, 1, none⟩ = some (.slice s0_1 n0_1 c0_1) := by rw [hh.cell (by first | omega | (simp; done) | (simp; omega))]; first | (simp; done) | (simp [go_sem]; done)
  have za0 : w.heap.size < u1.heap.size := by have := hh.size; simp at this; omega
  have B0 := hb
  clear hb hh
  go_wp2
  go_ret
  exact ⟨rfl, (by repeat (first | with_reducible exact Below.refl _ _ | with_reducible exact B0 | with_reducible refine Below.setCell ?_ (by first | omega | (simp; done) | (simp; omega)) _ | with_reducible refine bDrewN ?_ _ | with_reducible refine Below.drew ?_ | with_reducible refine Below.alloc ?_ (by first | omega | (simp; done) | (simp; omega)) _))⟩
set_option maxHeartbeats 1600000 in
theorem common_farn1 (w : World) (a0_0 : Int) (n0_1 : Nat) (X0_1 : Nat → Int) (K0_1 : Nat → Nat) (V0_1 : Nat → Nat → Int) (s0_1 : Option Addr) (c0_1 : Nat) (n1 : Nat) (K1 : Nat → Nat) (V1 : Nat → Nat → Int) (s1 : Option Addr) (c1 : Nat)  (gn0_1 : ((n0_1 : Int) + (suK K0_1 n0_1 : Int)) ≤ 1048576) (g : 1048576 - ((n0_1 : Int) + (suK K0_1 n0_1 : Int)) < ((n1 : Int) + (suK K1 n1 : Int))) (gg : (n1 : Int) ≤ 9223372036854775807) (k63 : ∀ i, i < n1 → (K1 i : Int) ≤ 9223372036854775807) (HR0 : Hid (RowTree w s0_1 n0_1 X0_1 K0_1 V0_1)) (HR1 : Hid (RowLL w s1 n1 K1 V1)) :
    Calls Try.prog 5 #[.agg #[.int .i64 a0_0, .slice s0_1 n0_1 c0_1], .slice s1 n1 c1] w fun e w' => e = .returned (.bool true) ∧ Below w.heap.size w w' := by
  go_enter Try.func5, Try.ntmps5
  go_wp2_with fail
  refine (szTree_on a0_0 n0_1 X0_1 K0_1 V0_1 s0_1 c0_1 _ _ (by omega) (by omega) (by omega) (HR0.out.below (by repeat (first | with_reducible exact Below.refl _ _ | with_reducible refine Below.setCell ?_ (by first | omega | (simp; done) | (simp; omega)) _ | with_reducible refine bDrewN ?_ _ | with_reducible refine Below.drew ?_ | with_reducible refine Below.alloc ?_ (by first | omega | (simp; done) | (simp; omega)) _)))).mono ?_
  rintro e u1 ⟨rfl, hh⟩
  have hb : Below w.heap.size w u1 := Below.trans (by repeat (first | with_reducible exact Below.refl _ _ | with_reducible refine Below.setCell ?_ (by first | omega | (simp; done) | (simp; omega)) _ | with_reducible refine bDrewN ?_ _ | with_reducible refine Below.drew ?_ | with_reducible refine Below.alloc ?_ (by first | omega | (simp; done) | (simp; omega)) _)) (hh.mono (by first | omega | (simp; done) | (simp; omega)))
  have ca00 : u1.cell? ⟨w.heap.size, 0, none⟩ = some (.int .i64 a0_0) := by rw [hh.cell (by first | omega | (simp; done) | (simp; omega))]; first | (simp; done) | (simp [go_sem]; done)
  have ca01 : u1.cell? ⟨w.heap.size, 1, none⟩ = some (.slice s0_1 n0_1 c0_1) := by rw [hh.cell (by first | omega | (simp; done) | (simp; omega))]; first | (simp; done) | (simp [go_sem]; done)
  have za0 : w.heap.size < u1.heap.size := by have := hh.size; simp at this; omega
  have B0 := hb
  clear hb hh
  go_wp2_with fail
  refine (szInt64SS_off _ n1 _ K1 V1 _ _ (by omega) (by omega) (by omega) gg k63 (HR1.out.below B0)).mono ?_
  rintro e u1 ⟨rfl, rfl⟩
  go_wp2
  go_ret
  exact ⟨rfl, (by repeat (first | with_reducible exact Below.refl _ _ | with_reducible exact B0 | with_reducible refine Below.setCell ?_ (by first | omega | (simp; done) | (simp; omega)) _ | with_reducible refine bDrewN ?_ _ | with_reducible refine Below.drew ?_ | with_reducible refine Below.alloc ?_ (by first | omega | (simp; done) | (simp; omega)) _))⟩
theorem fnExactCommon_walk (w : World) (a0_0 : Int) (s0_1 : Option Addr) (n0_1 c0_1 : Nat) (X0_1 : Nat → Int) (K0_1 : Nat → Nat) (V0_1 : Nat → Nat → Int) (w0_0 : (Lit.int .i64 a0_0).wf = true) (m0_1 : n0_1 ≤ 9223372036854775807) (mk0_1 : ∀ j, j < n0_1 → K0_1 j ≤ 9223372036854775807) (R0_1 : RowGat w s0_1 n0_1 X0_1 K0_1 V0_1) (s1 : Option Addr) (n1 c1 : Nat) (K1 : Nat → Nat) (V1 : Nat → Nat → Int) (m1 : n1 ≤ 9223372036854775807) (mk1 : ∀ i, i < n1 → K1 i ≤ 9223372036854775807) (R1 : RowLL w s1 n1 K1 V1) :
    Calls Try.prog 5 #[.agg #[.int .i64 a0_0, .slice s0_1 n0_1 c0_1], .slice s1 n1 c1] w fun e w' => e = .returned (.bool true) ∧ Below w.heap.size w w' := by
  have k60_1 : ∀ i, i < n0_1 → (K0_1 i : Int) ≤ 9223372036854775807 := fun i hi => by have := mk0_1 i hi; omega
  have k61 : ∀ i, i < n1 → (K1 i : Int) ≤ 9223372036854775807 := fun i hi => by have := mk1 i hi; omega
  by_cases gn0_1 : ((n0_1 : Int) + (suK K0_1 n0_1 : Int)) ≤ 1048576
  case neg => exact common_farn0_1 w a0_0 n0_1 X0_1 K0_1 V0_1 s0_1 c0_1 n1 K1 V1 s1 c1   (by omega) (by omega) k60_1 R0_1
  by_cases gn1 : ((n1 : Int) + (suK K1 n1 : Int)) ≤ 1048576 - ((n0_1 : Int) + (suK K0_1 n0_1 : Int))
  case neg => exact common_farn1 w a0_0 n0_1 X0_1 K0_1 V0_1 s0_1 c0_1 n1 K1 V1 s1 c1  gn0_1 (by omega) (by omega) k61 R0_1 R1
  exact common_near w a0_0 n0_1 X0_1 K0_1 V0_1 s0_1 c0_1 (by omega) R0_1 n1 K1 V1 s1 c1 (by omega) R1 (by omega) (by omega) (commonL a0_0 n0_1 X0_1 K0_1 V0_1 n1 K1 V1).length (nthI (commonL a0_0 n0_1 X0_1 K0_1 V0_1 n1 K1 V1)) (com_le _ _ _ _ _ _ _ _) (fun s c t d w q r => (specCommon_any a0_0 s n0_1 c X0_1 K0_1 V0_1 t n1 d K1 V1 w (ll_each (by omega)) q r).mono fun e w' h => com_fit h) (fun s c t d w q r => (implCommon_any a0_0 s n0_1 c X0_1 K0_1 V0_1 t n1 d K1 V1 w (ll_each (by omega)) q r).mono fun e w' h => com_fit h)

set_option maxRecDepth 100000 in
theorem fnExactCommon_lifted (os : Os) (started : os.Started) (H : Type) (enc : TypeId × Value → H) :
    ReturnsInHanded {} Try.checked os 5 .any (Rows.fnExactCommonSpec.pre6 enc Try.prog Try.f5 Rows.fnExactCommonRow.domain false) (Rows.fnExactCommonSpec.post enc Try.prog Try.f5 false true false false) := by
  refine returnsInHanded_of_change (C := Try.checked) own started (by kernel_rfl) Try.func5
    (ChangeSpec.witness6 (enc := enc) (C := Try.checked) false ⟨#[], #[.agg #[.int .i64 0, .slice none 0 0], .slice none 0 0], []⟩ 8 (by kernel_rfl) (by kernel_rfl) (by kernel_rfl) (by kernel_rfl)) ?_
  intro W base args ds gs before hval0 hW hcnd _
  have hval : ∀ (j : Nat) t v, Try.f5.params[j]? = some t → args[j]? = some v → Value.okWide Try.prog W .any base t v := hval0
  have hW' := hW
  obtain ⟨p, q, hA0, hV, rfl, hfz, hnd⟩ := hW
  have hA : DataW.TrodAll enc Try.prog W 0 (fun _ => true) true Try.f5.params.toList args.toList ds p := hA0
  rw [Try.params5] at hA hval
  obtain ⟨v0, vs0, d0, ds0, p0, q0, hargs, rfl, rfl, h0, r0⟩ := trodAll_cons hA
  obtain ⟨v1, vs1, d1, ds1, p1, q1, rfl, rfl, rfl, h1, r1⟩ := trodAll_cons r0
  obtain ⟨rfl, rfl, rfl⟩ := trodAll_nil r1
  obtain rfl : args = #[v0, v1] := by cases args; simp_all
  obtain ⟨rfl, rfl⟩ := trodVars_none hV
  have k0 := h0
  have lt0 : ∀ x ∈ p0, x.block < W.heap.size := by obtain ⟨m, hm⟩ := k0; exact DataW.trod_lt m _ _ _ hm
  have k1 := h1
  have lt1 : ∀ x ∈ p1, x.block < W.heap.size := by obtain ⟨m, hm⟩ := k1; exact DataW.trod_lt m _ _ _ hm
  obtain ⟨a0_0, s0_1, n0_1, c0_1, X0_1, K0_1, V0_1, rfl, w0_0, m0_1, mk0_1, R0_1⟩ := open_Tree (hval 0 24 v0 rfl rfl) h0
  obtain ⟨s1, n1, c1, K1, V1, rfl, m1, mk1, R1⟩ := open_ll Try.underlying38 Try.underlying33 Try.underlying2 (by kernel_rfl) (by kernel_rfl) (hval 1 38 v1 rfl rfl) h1
  clear hA0 hval0
  refine (fnExactCommon_walk W a0_0 s0_1 n0_1 c0_1 X0_1 K0_1 V0_1 w0_0 m0_1 mk0_1 R0_1 s1 n1 c1 K1 V1 m1 mk1 R1).mono fun e W' ⟨he, bel⟩ => ?_
  subst he
  exact ⟨_, rfl, _, _, _, [], _, [], hW', trodAll_mk1 (shut_bool Try.underlying4 _), (trodAll_cons_mk (Below.trod laidOut (by kernel_rfl) (of_decide_eq_true (by kernel_rfl)) k0 bel lt0) (trodAll_cons_mk (Below.trod laidOut (by kernel_rfl) (of_decide_eq_true (by kernel_rfl)) k1 bel lt1) trodAll_mk0)), rfl, bel.frame _, fun h => by cases h⟩

theorem fnExactCommon_holds : Rows.FnExactCommonSaid :=
  OpenClaim.holds_of_wide 5 Try.f5 rfl rfl rfl rfl rfl rfl rfl ⟨rfl, rfl, rfl, rfl, rfl⟩ rfl rfl rfl rfl rfl (by kernel_rfl) Try.func5 (by kernel_rfl)
    (of_decide_eq_true (by kernel_rfl)) (by unfold Func.isWrapper; first | (rw [if_pos (by decide +kernel)]; kernel_rfl) | (rw [if_neg (by decide +kernel)]; exact ⟨rfl, rfl⟩))
    (fun os started H enc _ => fnExactCommon_lifted os started H enc)
#print axioms fnExactCommon_holds
end Go.Proofs.Ytaagelnbkenbpaa
