/-
What is proved: at every tree and chances impl.Upper answers as the specification's Upper and leaves them as they were; no condition.
-/
import Derived.Test.YtljaidacaepmmaaUqA
import Derived.Test.YtljaidacaepmmaaUqC
namespace Go.Proofs.Ytljaidacaepmmaa
set_option maxRecDepth 40000
open Go.ChangeShapes Go.WideShapes Go.ChangeAt Go.RowKit
set_option linter.unusedVariables false
set_option linter.unusedSimpArgs false

theorem up_fit {x : Int} {n : Nat} {X : Nat → Int} {K : Nat → Nat} {V : Nat → Nat → Int} {m : Nat} {E : Nat → Int} {R : Int} (HF : ∀ r, UpR x n X K V m E r → r = R) {w : World} {e : Ending} {w' : World} (h : UpPost x n X K V m E w e w') : e = .returned (.int .i64 R) ∧ Below w.heap.size w w' := by
  obtain ⟨r, h1, h2, h3⟩ := h
  rw [HF r h2] at h1
  exact ⟨h1, h3⟩
theorem keepLaw2_2 {W W' : World} {p r : Nat} {va0 va1 vx0 vx1 : Value} (ha0 : W.cell? ⟨p, 0, none⟩ = some va0) (ha1 : W.cell? ⟨p, 1, none⟩ = some va1) (hx0 : W.cell? ⟨r, 0, none⟩ = some vx0) (hx1 : W.cell? ⟨r, 1, none⟩ = some vx1) (zp : p < W.heap.size) (zr : r < W.heap.size) (hb : Below W.heap.size W W') : W'.cell? ⟨p, 0, none⟩ = some va0 ∧ W'.cell? ⟨p, 1, none⟩ = some va1 ∧ W'.cell? ⟨r, 0, none⟩ = some vx0 ∧ W'.cell? ⟨r, 1, none⟩ = some vx1 :=
  ⟨(hb.cell (p := ⟨p, 0, none⟩) zp).trans ha0, (hb.cell (p := ⟨p, 1, none⟩) zp).trans ha1, (hb.cell (p := ⟨r, 0, none⟩) zr).trans hx0, (hb.cell (p := ⟨r, 1, none⟩) zr).trans hx1⟩
set_option maxRecDepth 20000 in
set_option maxHeartbeats 8000000 in
theorem upper_near (w : World) (a0_0 : Int) (n0_1 : Nat) (X0_1 : Nat → Int) (K0_1 : Nat → Nat) (V0_1 : Nat → Nat → Int) (s0_1 : Option Addr) (c0_1 : Nat) (hn0_1 : ((n0_1 : Int) + (suK K0_1 n0_1 : Int)) ≤ 1048576) (HR0 : Hid (RowTree w s0_1 n0_1 X0_1 K0_1 V0_1)) (n1 : Nat) (V1 : Nat → Int) (s1 : Option Addr) (c1 : Nat) (hn1 : (n1 : Int) ≤ 1048576) (HR1 : Hid (RowI w s1 n1 V1)) (gn0_1 : ((n0_1 : Int) + (suK K0_1 n0_1 : Int)) ≤ 1048576) (ar0 : Int)
    (H1 : Hid (∀ (s0_1 : Option Addr) (c0_1 : Nat) (s1 : Option Addr) (c1 : Nat) w, RowTree w s0_1 n0_1 X0_1 K0_1 V0_1 → RowI w s1 n1 V1 → Calls Try.prog 18 #[.agg #[.int .i64 a0_0, .slice s0_1 n0_1 c0_1], .slice s1 n1 c1] w fun e w' => e = .returned (.int .i64 ar0) ∧ Below w.heap.size w w'))
    (H2 : Hid (∀ (s0_1 : Option Addr) (c0_1 : Nat) (s1 : Option Addr) (c1 : Nat) w, RowTree w s0_1 n0_1 X0_1 K0_1 V0_1 → RowI w s1 n1 V1 → Calls Try.prog 20 #[.agg #[.int .i64 a0_0, .slice s0_1 n0_1 c0_1], .slice s1 n1 c1] w fun e w' => e = .returned (.int .i64 ar0) ∧ Below w.heap.size w w')) :
    Calls Try.prog 4 #[.agg #[.int .i64 a0_0, .slice s0_1 n0_1 c0_1], .slice s1 n1 c1] w fun e w' => e = .returned (.bool true) ∧ Below w.heap.size w w' := by
  have sto := store_slT
  go_enter Try.func4, Try.ntmps4
  go_wp2_with fail
  refine (szTree_on a0_0 n0_1 X0_1 K0_1 V0_1 s0_1 c0_1 _ _ (by omega) (by omega) (by omega) ((HR0.out).below (below0 _ _))).mono ?_
  rintro e w1 ⟨rfl, hh⟩
  have hb : Below w.heap.size w w1 := Below.trans (by repeat (first | with_reducible exact Below.refl _ _ | with_reducible refine Below.setCell ?_ (by first | omega | (simp; done) | (simp; omega)) _ | with_reducible refine bDrewN ?_ _ | with_reducible refine Below.drew ?_ | with_reducible refine Below.alloc ?_ (by first | omega | (simp; done) | (simp; omega)) _)) (hh.mono (by first | omega | (simp; done) | (simp; omega)))
  have lw1 : w.heap.size ≤ w1.heap.size := hb.size
  have ca00 : w1.cell? ⟨w.heap.size, 0, none⟩ = some (.int .i64 a0_0) := by rw [hh.cell (by first | omega | (simp; done) | (simp; omega))]; first | (simp; done) | (simp [go_sem]; done)
  have ca01 : w1.cell? ⟨w.heap.size, 1, none⟩ = some (.slice s0_1 n0_1 c0_1) := by rw [hh.cell (by first | omega | (simp; done) | (simp; omega))]; first | (simp; done) | (simp [go_sem]; done)
  have za0 : w.heap.size < w1.heap.size := by have := hh.size; simp at this; omega
  have ya0 : w.heap.size < w1.heap.size := za0
  have B0 : Below w.heap.size w w1 := hb
  clear hb hh
  go_wp2_with fail
  refine (toTree_r a0_0 n0_1 X0_1 K0_1 V0_1 s0_1 c0_1 _ hn0_1 (HR0.out.below B0)).mono ?_
  rintro e w2 ⟨st0_1, St0, rfl, Q, O, hh⟩
  have hb : Below w1.heap.size w1 w2 := Below.trans (by repeat (first | with_reducible exact Below.refl _ _ | with_reducible refine Below.setCell ?_ (by first | omega | (simp; done) | (simp; omega)) _ | with_reducible refine bDrewN ?_ _ | with_reducible refine Below.drew ?_ | with_reducible refine Below.alloc ?_ (by first | omega | (simp; done) | (simp; omega)) _)) (hh.mono (by first | omega | (simp; done) | (simp; omega)))
  have lw2 : w1.heap.size ≤ w2.heap.size := hb.size
  replace ca00 := (hb.cell (p := ⟨w.heap.size, 0, none⟩) za0).trans ca00
  replace ca01 := (hb.cell (p := ⟨w.heap.size, 1, none⟩) za0).trans ca01
  replace za0 := Nat.lt_of_lt_of_le za0 hb.size
  replace B0 : Below w.heap.size w w2 := B0.trans (hb.mono B0.size)
  clear hb hh
  have Qt0 : Hid (∀ k, St0 k → w1.heap.size ≤ k ∧ k < w2.heap.size) := (show ∀ k, St0 k → w1.heap.size ≤ k ∧ k < w2.heap.size from by simpa using Q)
  have Ot0 : Hid (TreeR St0 w2 st0_1 n0_1 X0_1 K0_1 V0_1) := O
  clear O Q
  go_wp2_with fail
  refine (toInt64S_r s1 n1 c1 V1 _ hn1 (HR1.out.below B0)).mono ?_
  rintro e w3 ⟨st1, St1, rfl, Q, O, hh⟩
  have hb : Below w2.heap.size w2 w3 := Below.trans (by repeat (first | with_reducible exact Below.refl _ _ | with_reducible refine Below.setCell ?_ (by first | omega | (simp; done) | (simp; omega)) _ | with_reducible refine bDrewN ?_ _ | with_reducible refine Below.drew ?_ | with_reducible refine Below.alloc ?_ (by first | omega | (simp; done) | (simp; omega)) _)) (hh.mono (by first | omega | (simp; done) | (simp; omega)))
  have lw3 : w2.heap.size ≤ w3.heap.size := hb.size
  replace ca00 := (hb.cell (p := ⟨w.heap.size, 0, none⟩) za0).trans ca00
  replace ca01 := (hb.cell (p := ⟨w.heap.size, 1, none⟩) za0).trans ca01
  replace za0 := Nat.lt_of_lt_of_le za0 hb.size
  replace Ot0 : Hid (TreeR St0 w3 st0_1 n0_1 X0_1 K0_1 V0_1) := Ot0.out.below hb
  replace B0 : Below w.heap.size w w3 := B0.trans (hb.mono B0.size)
  clear hb hh
  have Qt1 : Hid (∀ k, St1 k → w2.heap.size ≤ k ∧ k < w3.heap.size) := (show ∀ k, St1 k → w2.heap.size ≤ k ∧ k < w3.heap.size from by simpa using Q)
  have Ot1 : Hid (I64R St1 w3 st1 n1 V1) := O
  clear O Q
  go_wp2_with fail
  refine (H1.out st0_1 _ st1 _ _ (Ot0.out.row) (Ot1.out.row)).mono ?_
  rintro e w4 ⟨rfl, hh⟩
  have hb : Below w3.heap.size w3 w4 := Below.trans (by repeat (first | with_reducible exact Below.refl _ _ | with_reducible refine Below.setCell ?_ (by first | omega | (simp; done) | (simp; omega)) _ | with_reducible refine bDrewN ?_ _ | with_reducible refine Below.drew ?_ | with_reducible refine Below.alloc ?_ (by first | omega | (simp; done) | (simp; omega)) _)) (hh.mono (by first | omega | (simp; done) | (simp; omega)))
  have lw4 : w3.heap.size ≤ w4.heap.size := hb.size
  replace ca00 := (hb.cell (p := ⟨w.heap.size, 0, none⟩) za0).trans ca00
  replace ca01 := (hb.cell (p := ⟨w.heap.size, 1, none⟩) za0).trans ca01
  replace za0 := Nat.lt_of_lt_of_le za0 hb.size
  replace Ot0 : Hid (TreeR St0 w4 st0_1 n0_1 X0_1 K0_1 V0_1) := Ot0.out.below hb
  replace Ot1 : Hid (I64R St1 w4 st1 n1 V1) := Ot1.out.below hb
  replace B0 : Below w.heap.size w w4 := B0.trans (hb.mono B0.size)
  clear hb hh
  clear Ot0 Qt0 
  clear Ot1 Qt1 
  have Bs : Below w4.heap.size w4 w4 := Below.refl _ _
  go_wp2_with fail
  refine (toTree_r a0_0 n0_1 X0_1 K0_1 V0_1 s0_1 c0_1 _ hn0_1 (HR0.out.below B0)).mono ?_
  rintro e w5 ⟨sx0_1, Sx0, rfl, Q, O, hh⟩
  have hb : Below w4.heap.size w4 w5 := Below.trans (by repeat (first | with_reducible exact Below.refl _ _ | with_reducible refine Below.setCell ?_ (by first | omega | (simp; done) | (simp; omega)) _ | with_reducible refine bDrewN ?_ _ | with_reducible refine Below.drew ?_ | with_reducible refine Below.alloc ?_ (by first | omega | (simp; done) | (simp; omega)) _)) (hh.mono (by first | omega | (simp; done) | (simp; omega)))
  have lw5 : w4.heap.size ≤ w5.heap.size := hb.size
  replace ca00 := (hb.cell (p := ⟨w.heap.size, 0, none⟩) za0).trans ca00
  replace ca01 := (hb.cell (p := ⟨w.heap.size, 1, none⟩) za0).trans ca01
  replace za0 := Nat.lt_of_lt_of_le za0 hb.size
  replace Bs : Below w4.heap.size w4 w5 := Bs.trans (hb.mono Bs.size)
  replace B0 : Below w.heap.size w w5 := B0.trans (hb.mono B0.size)
  clear hb hh
  have Qx0 : Hid (∀ k, Sx0 k → w4.heap.size ≤ k ∧ k < w5.heap.size) := (show ∀ k, Sx0 k → w4.heap.size ≤ k ∧ k < w5.heap.size from by simpa using Q)
  have Ox0 : Hid (TreeR Sx0 w5 sx0_1 n0_1 X0_1 K0_1 V0_1) := O
  clear O Q
  go_wp2_with fail
  refine (toInt64S_r s1 n1 c1 V1 _ hn1 ((HR1.out.below B0).below (below0 _ _))).mono ?_
  rintro e w6 ⟨sx1, Sx1, rfl, Q, O, hh⟩
  have hb : Below w5.heap.size w5 w6 := Below.trans (by repeat (first | with_reducible exact Below.refl _ _ | with_reducible refine Below.setCell ?_ (by first | omega | (simp; done) | (simp; omega)) _ | with_reducible refine bDrewN ?_ _ | with_reducible refine Below.drew ?_ | with_reducible refine Below.alloc ?_ (by first | omega | (simp; done) | (simp; omega)) _)) (hh.mono (by first | omega | (simp; done) | (simp; omega)))
  have lw6 : w5.heap.size ≤ w6.heap.size := hb.size
  have cx00 : w6.cell? ⟨w5.heap.size, 0, none⟩ = some (.int .i64 a0_0) := by rw [hh.cell (by first | omega | (simp; done) | (simp; omega))]; first | (simp; done) | (simp [go_sem]; done)
  have cx01 : w6.cell? ⟨w5.heap.size, 1, none⟩ = some (.slice sx0_1 n0_1 n0_1) := by rw [hh.cell (by first | omega | (simp; done) | (simp; omega))]; first | (simp; done) | (simp [go_sem]; done)
  have zx0 : w5.heap.size < w6.heap.size := by have := hh.size; simp at this; omega
  have yx0 : w5.heap.size < w6.heap.size := zx0
  replace ca00 := (hb.cell (p := ⟨w.heap.size, 0, none⟩) za0).trans ca00
  replace ca01 := (hb.cell (p := ⟨w.heap.size, 1, none⟩) za0).trans ca01
  replace za0 := Nat.lt_of_lt_of_le za0 hb.size
  replace Ox0 : Hid (TreeR Sx0 w6 sx0_1 n0_1 X0_1 K0_1 V0_1) := Ox0.out.below hb
  replace Bs : Below w4.heap.size w4 w6 := Bs.trans (hb.mono Bs.size)
  replace B0 : Below w.heap.size w w6 := B0.trans (hb.mono B0.size)
  clear hb hh
  have Qx1 : Hid (∀ k, Sx1 k → w5.heap.size + 1 ≤ k ∧ k < w6.heap.size) := (show ∀ k, Sx1 k → w5.heap.size + 1 ≤ k ∧ k < w6.heap.size from by simpa using Q)
  have Ox1 : Hid (I64R Sx1 w6 sx1 n1 V1) := O
  clear O Q
  go_wp2_with fail
  refine (H2.out sx0_1 _ sx1 _ _ (Ox0.out.row) (Ox1.out.row)).mono ?_
  rintro e w7 ⟨rfl, hh⟩
  have hb : Below w6.heap.size w6 w7 := Below.trans (by repeat (first | with_reducible exact Below.refl _ _ | with_reducible refine Below.setCell ?_ (by first | omega | (simp; done) | (simp; omega)) _ | with_reducible refine bDrewN ?_ _ | with_reducible refine Below.drew ?_ | with_reducible refine Below.alloc ?_ (by first | omega | (simp; done) | (simp; omega)) _)) (hh.mono (by first | omega | (simp; done) | (simp; omega)))
  have lw7 : w6.heap.size ≤ w7.heap.size := hb.size
  replace ca00 := (hb.cell (p := ⟨w.heap.size, 0, none⟩) za0).trans ca00
  replace ca01 := (hb.cell (p := ⟨w.heap.size, 1, none⟩) za0).trans ca01
  replace za0 := Nat.lt_of_lt_of_le za0 hb.size
  replace cx00 := (hb.cell (p := ⟨w5.heap.size, 0, none⟩) zx0).trans cx00
  replace cx01 := (hb.cell (p := ⟨w5.heap.size, 1, none⟩) zx0).trans cx01
  replace zx0 := Nat.lt_of_lt_of_le zx0 hb.size
  replace Ox0 : Hid (TreeR Sx0 w7 sx0_1 n0_1 X0_1 K0_1 V0_1) := Ox0.out.below hb
  replace Ox1 : Hid (I64R Sx1 w7 sx1 n1 V1) := Ox1.out.below hb
  replace Bs : Below w4.heap.size w4 w7 := Bs.trans (hb.mono Bs.size)
  replace B0 : Below w.heap.size w w7 := B0.trans (hb.mono B0.size)
  clear hb hh
  go_upto_region 13 with fail
  have HB : Hid (Below w.heap.size w w7) := B0
  go_cut [37] (fun y wx => y = .bool false ∧ Below w7.heap.size w7 wx)
  case first =>
    go_region_held3 (fun w' => w'.cell? ⟨w.heap.size, 0, none⟩ = some (.int .i64 a0_0) ∧ w'.cell? ⟨w.heap.size, 1, none⟩ = some (.slice s0_1 n0_1 c0_1) ∧ w'.cell? ⟨w5.heap.size, 0, none⟩ = some (.int .i64 a0_0) ∧ w'.cell? ⟨w5.heap.size, 1, none⟩ = some (.slice sx0_1 n0_1 n0_1)) (first | (exact ⟨ca00, ca01, cx00, cx01⟩) | (refine keepLaw2_2 ca00 ca01 cx00 cx01 za0 zx0 ?_; exact (by repeat (first | with_reducible exact Below.refl _ _ | with_reducible exact B8 | with_reducible exact B7 | with_reducible refine Below.setCell ?_ (by first | omega | (simp; done) | (simp; omega)) _ | with_reducible refine bDrewN ?_ _ | with_reducible refine Below.drew ?_ | with_reducible refine Below.alloc ?_ (by first | omega | (simp; done) | (simp; omega)) _)))) (first
      | (go_at_call 11; refine (toTree_r a0_0 n0_1 X0_1 K0_1 V0_1 s0_1 c0_1 _ hn0_1 (HR0.out.below (HB.out.trans (Below.mono (by repeat (first | with_reducible exact Below.refl _ _ | with_reducible refine Below.setCell ?_ (by first | omega | (simp; done) | (simp; omega)) _ | with_reducible refine bDrewN ?_ _ | with_reducible refine Below.drew ?_ | with_reducible refine Below.alloc ?_ (by first | omega | (simp; done) | (simp; omega)) _)) HB.out.size)))).mono ?_; rintro e wy ⟨sy0_1, Sy, rfl, -, OY, h7⟩; have B7 : Below w7.heap.size w7 wy := Below.trans (by repeat (first | with_reducible exact Below.refl _ _ | with_reducible refine Below.setCell ?_ (by first | omega | (simp; done) | (simp; omega)) _ | with_reducible refine bDrewN ?_ _ | with_reducible refine Below.drew ?_ | with_reducible refine Below.alloc ?_ (by first | omega | (simp; done) | (simp; omega)) _)) (h7.mono (by first | omega | (simp; done) | (simp; omega))); have s7 := B7.size; have PY : Hid (RowTree wy sy0_1 n0_1 X0_1 K0_1 V0_1) := OY.row; have PX : Hid (RowTree wy sx0_1 n0_1 X0_1 K0_1 V0_1) := Ox0.out.row.below B7; clear h7 OY)
      | (go_at_call 14; refine (eqTree_r a0_0 n0_1 X0_1 K0_1 V0_1 sx0_1 n0_1 sy0_1 n0_1 _ hn0_1 PX.out PY.out).mono ?_; rintro e wz ⟨rfl, h8⟩; have B8 : Below w7.heap.size w7 wz := Below.trans (by repeat (first | with_reducible exact Below.refl _ _ | with_reducible exact B7 | with_reducible refine Below.setCell ?_ (by first | omega | (simp; done) | (simp; omega)) _ | with_reducible refine bDrewN ?_ _ | with_reducible refine Below.drew ?_ | with_reducible refine Below.alloc ?_ (by first | omega | (simp; done) | (simp; omega)) _)) (h8.mono (by first | omega | (simp; done) | (simp; omega))); clear h8))
    all_goals
      go_wp2_with fail
      go_meet
      exact ⟨rfl, B8⟩
  obtain ⟨rfl, hb⟩ := hcut
  rename World => w8
  have lw8 : w7.heap.size ≤ w8.heap.size := hb.size
  replace ca00 := (hb.cell (p := ⟨w.heap.size, 0, none⟩) za0).trans ca00
  replace ca01 := (hb.cell (p := ⟨w.heap.size, 1, none⟩) za0).trans ca01
  replace za0 := Nat.lt_of_lt_of_le za0 hb.size
  replace cx00 := (hb.cell (p := ⟨w5.heap.size, 0, none⟩) zx0).trans cx00
  replace cx01 := (hb.cell (p := ⟨w5.heap.size, 1, none⟩) zx0).trans cx01
  replace zx0 := Nat.lt_of_lt_of_le zx0 hb.size
  replace Ox0 : Hid (TreeR Sx0 w8 sx0_1 n0_1 X0_1 K0_1 V0_1) := Ox0.out.below hb
  replace Ox1 : Hid (I64R Sx1 w8 sx1 n1 V1) := Ox1.out.below hb
  replace Bs : Below w4.heap.size w4 w8 := Bs.trans (hb.mono Bs.size)
  replace B0 : Below w.heap.size w w8 := B0.trans (hb.mono B0.size)
  clear hb HB
  go_wp2_with fail
  refine (toInt64S_r s1 n1 c1 V1 _ hn1 (HR1.out.below B0)).mono ?_
  rintro e w9 ⟨sy1, Sy1, rfl, Q, O, hh⟩
  have hb : Below w8.heap.size w8 w9 := Below.trans (by repeat (first | with_reducible exact Below.refl _ _ | with_reducible refine Below.setCell ?_ (by first | omega | (simp; done) | (simp; omega)) _ | with_reducible refine bDrewN ?_ _ | with_reducible refine Below.drew ?_ | with_reducible refine Below.alloc ?_ (by first | omega | (simp; done) | (simp; omega)) _)) (hh.mono (by first | omega | (simp; done) | (simp; omega)))
  have lw9 : w8.heap.size ≤ w9.heap.size := hb.size
  replace ca00 := (hb.cell (p := ⟨w.heap.size, 0, none⟩) za0).trans ca00
  replace ca01 := (hb.cell (p := ⟨w.heap.size, 1, none⟩) za0).trans ca01
  replace za0 := Nat.lt_of_lt_of_le za0 hb.size
  replace cx00 := (hb.cell (p := ⟨w5.heap.size, 0, none⟩) zx0).trans cx00
  replace cx01 := (hb.cell (p := ⟨w5.heap.size, 1, none⟩) zx0).trans cx01
  replace zx0 := Nat.lt_of_lt_of_le zx0 hb.size
  replace Ox0 : Hid (TreeR Sx0 w9 sx0_1 n0_1 X0_1 K0_1 V0_1) := Ox0.out.below hb
  replace Ox1 : Hid (I64R Sx1 w9 sx1 n1 V1) := Ox1.out.below hb
  replace Bs : Below w4.heap.size w4 w9 := Bs.trans (hb.mono Bs.size)
  replace B0 : Below w.heap.size w w9 := B0.trans (hb.mono B0.size)
  clear hb hh
  have Qy1 : Hid (∀ k, Sy1 k → w8.heap.size ≤ k ∧ k < w9.heap.size) := (show ∀ k, Sy1 k → w8.heap.size ≤ k ∧ k < w9.heap.size from by simpa using Q)
  have Oy1 : Hid (I64R Sy1 w9 sy1 n1 V1) := O
  clear O Q
  go_wp2_with fail
  refine (eqInt64S_any _ _ n1 _ _ V1 _ hn1 (Ox1.out.row) (Oy1.out.row)).mono ?_
  rintro e w10 ⟨rfl, hh⟩
  have hb : Below w9.heap.size w9 w10 := Below.trans (by repeat (first | with_reducible exact Below.refl _ _ | with_reducible refine Below.setCell ?_ (by first | omega | (simp; done) | (simp; omega)) _ | with_reducible refine bDrewN ?_ _ | with_reducible refine Below.drew ?_ | with_reducible refine Below.alloc ?_ (by first | omega | (simp; done) | (simp; omega)) _)) (hh.mono (by first | omega | (simp; done) | (simp; omega)))
  have lw10 : w9.heap.size ≤ w10.heap.size := hb.size
  replace ca00 := (hb.cell (p := ⟨w.heap.size, 0, none⟩) za0).trans ca00
  replace ca01 := (hb.cell (p := ⟨w.heap.size, 1, none⟩) za0).trans ca01
  replace za0 := Nat.lt_of_lt_of_le za0 hb.size
  replace cx00 := (hb.cell (p := ⟨w5.heap.size, 0, none⟩) zx0).trans cx00
  replace cx01 := (hb.cell (p := ⟨w5.heap.size, 1, none⟩) zx0).trans cx01
  replace zx0 := Nat.lt_of_lt_of_le zx0 hb.size
  replace Ox0 : Hid (TreeR Sx0 w10 sx0_1 n0_1 X0_1 K0_1 V0_1) := Ox0.out.below hb
  replace Ox1 : Hid (I64R Sx1 w10 sx1 n1 V1) := Ox1.out.below hb
  replace Oy1 : Hid (I64R Sy1 w10 sy1 n1 V1) := Oy1.out.below hb
  replace Bs : Below w4.heap.size w4 w10 := Bs.trans (hb.mono Bs.size)
  replace B0 : Below w.heap.size w w10 := B0.trans (hb.mono B0.size)
  clear hb hh
  clear Oy1 Qy1 
  go_wp2
  go_ret
  exact ⟨rfl, B0⟩
set_option maxHeartbeats 800000 in
theorem upper_farn1 (w : World) (a0_0 : Int) (n0_1 : Nat) (X0_1 : Nat → Int) (K0_1 : Nat → Nat) (V0_1 : Nat → Nat → Int) (s0_1 : Option Addr) (c0_1 : Nat) (n1 : Nat) (V1 : Nat → Int) (s1 : Option Addr) (c1 : Nat)  (g : (1048576 : Int) < n1) :
    Calls Try.prog 4 #[.agg #[.int .i64 a0_0, .slice s0_1 n0_1 c0_1], .slice s1 n1 c1] w fun e w' => e = .returned (.bool true) ∧ Below w.heap.size w w' := by
  go_enter Try.func4, Try.ntmps4
  go_wp2
  go_ret
  exact ⟨rfl, (by repeat (first | with_reducible exact Below.refl _ _ | with_reducible refine Below.setCell ?_ (by first | omega | (simp; done) | (simp; omega)) _ | with_reducible refine bDrewN ?_ _ | with_reducible refine Below.drew ?_ | with_reducible refine Below.alloc ?_ (by first | omega | (simp; done) | (simp; omega)) _))⟩
set_option maxHeartbeats 1600000 in
theorem upper_farn0_1 (w : World) (a0_0 : Int) (n0_1 : Nat) (X0_1 : Nat → Int) (K0_1 : Nat → Nat) (V0_1 : Nat → Nat → Int) (s0_1 : Option Addr) (c0_1 : Nat) (n1 : Nat) (V1 : Nat → Int) (s1 : Option Addr) (c1 : Nat) (qn1 : (n1 : Int) ≤ 1048576)  (g : 1048576 < ((n0_1 : Int) + (suK K0_1 n0_1 : Int))) (gg : (n0_1 : Int) ≤ 9223372036854775807) (k63 : ∀ i, i < n0_1 → (K0_1 i : Int) ≤ 9223372036854775807) (HR0 : Hid (RowTree w s0_1 n0_1 X0_1 K0_1 V0_1)) :
    Calls Try.prog 4 #[.agg #[.int .i64 a0_0, .slice s0_1 n0_1 c0_1], .slice s1 n1 c1] w fun e w' => e = .returned (.bool true) ∧ Below w.heap.size w w' := by
  go_enter Try.func4, Try.ntmps4
  go_wp2_with fail
  refine (szTree_off1 a0_0 n0_1 X0_1 K0_1 V0_1 s0_1 c0_1 _ _ (by omega) (by omega) (by omega) gg k63 (HR0.out.below (by repeat (first | with_reducible exact Below.refl _ _ | with_reducible refine Below.setCell ?_ (by first | omega | (simp; done) | (simp; omega)) _ | with_reducible refine bDrewN ?_ _ | with_reducible refine Below.drew ?_ | with_reducible refine Below.alloc ?_ (by first | omega | (simp; done) | (simp; omega)) _)))).mono ?_
  rintro e u1 ⟨rfl, hh⟩
  have hb : Below w.heap.size w u1 := Below.trans (by repeat (first | with_reducible exact Below.refl _ _ | with_reducible refine Below.setCell ?_ (by first | omega | (simp; done) | (simp; omega)) _ | with_reducible refine bDrewN ?_ _ | with_reducible refine Below.drew ?_ | with_reducible refine Below.alloc ?_ (by first | omega | (simp; done) | (simp; omega)) _)) (hh.mono (by first | omega | (simp; done) | (simp; omega)))
  have ca00 : u1.cell? ⟨w.heap.size, 0, none⟩ = some (.int .i64 a0_0) := by rw [hh.cell (by first | omega | (simp; done) | (simp; omega))]; first | (simp; done) | (simp [go_sem]; done)
  have ca01 : u1.cell? ⟨w.heap.size, 1, none⟩ = some (.slice s0_1 n0_1 c0_1) := by rw [hh.cell (by first | omega | (simp; done) | (simp; omega))]; first | (simp; done) | (simp [go_sem]; done)
  have za0 : w.heap.size < u1.heap.size := by have := hh.size; simp at this; omega
  have B0 := hb
  clear hb hh
  go_wp2
  go_ret
  exact ⟨rfl, (by repeat (first | with_reducible exact Below.refl _ _ | with_reducible exact B0 | with_reducible refine Below.setCell ?_ (by first | omega | (simp; done) | (simp; omega)) _ | with_reducible refine bDrewN ?_ _ | with_reducible refine Below.drew ?_ | with_reducible refine Below.alloc ?_ (by first | omega | (simp; done) | (simp; omega)) _))⟩
theorem fnExactUpper_walk (w : World) (a0_0 : Int) (s0_1 : Option Addr) (n0_1 c0_1 : Nat) (X0_1 : Nat → Int) (K0_1 : Nat → Nat) (V0_1 : Nat → Nat → Int) (w0_0 : (Lit.int .i64 a0_0).wf = true) (m0_1 : n0_1 ≤ 9223372036854775807) (mk0_1 : ∀ j, j < n0_1 → K0_1 j ≤ 9223372036854775807) (R0_1 : RowGat w s0_1 n0_1 X0_1 K0_1 V0_1) (s1 : Option Addr) (n1 c1 : Nat) (V1 : Nat → Int) (m1 : n1 ≤ 9223372036854775807) (R1 : RowI w s1 n1 V1) (w1 : ∀ j, j < n1 → -9223372036854775808 ≤ V1 j ∧ V1 j ≤ 9223372036854775807) :
    Calls Try.prog 4 #[.agg #[.int .i64 a0_0, .slice s0_1 n0_1 c0_1], .slice s1 n1 c1] w fun e w' => e = .returned (.bool true) ∧ Below w.heap.size w w' := by
  have k60_1 : ∀ i, i < n0_1 → (K0_1 i : Int) ≤ 9223372036854775807 := fun i hi => by have := mk0_1 i hi; omega
  by_cases qn1 : (n1 : Int) ≤ 1048576
  case neg => exact upper_farn1 w a0_0 n0_1 X0_1 K0_1 V0_1 s0_1 c0_1 n1 V1 s1 c1  (by omega)
  by_cases gn0_1 : ((n0_1 : Int) + (suK K0_1 n0_1 : Int)) ≤ 1048576
  case neg => exact upper_farn0_1 w a0_0 n0_1 X0_1 K0_1 V0_1 s0_1 c0_1 n1 V1 s1 c1 qn1  (by omega) (by omega) k60_1 R0_1
  obtain ⟨RI, HRI⟩ := up_ex a0_0 n0_1 X0_1 K0_1 V0_1 n1 V1
  exact upper_near w a0_0 n0_1 X0_1 K0_1 V0_1 s0_1 c0_1 (by omega) R0_1 n1 V1 s1 c1 (by omega) R1 (by omega) RI (fun s c t d w q r => (specUpper_any a0_0 s n0_1 c X0_1 K0_1 V0_1 t n1 d V1 w (by omega) q r).mono fun e w' h => up_fit HRI h) (fun s c t d w q r => (implUpper_any a0_0 s n0_1 c X0_1 K0_1 V0_1 t n1 d V1 w (by omega) q r).mono fun e w' h => up_fit HRI h)

set_option maxRecDepth 100000 in
theorem fnExactUpper_lifted (os : Os) (started : os.Started) (H : Type) (enc : TypeId × Value → H) :
    ReturnsInHanded {} Try.checked os 4 .any (Rows.fnExactUpperSpec.pre6 enc Try.prog Try.f4 Rows.fnExactUpperRow.domain false) (Rows.fnExactUpperSpec.post enc Try.prog Try.f4 false true false false) := by
  refine returnsInHanded_of_change (C := Try.checked) own started (by kernel_rfl) Try.func4
    (ChangeSpec.witness6 (enc := enc) (C := Try.checked) false ⟨#[], #[.agg #[.int .i64 0, .slice none 0 0], .slice none 0 0], []⟩ 8 (by kernel_rfl) (by kernel_rfl) (by kernel_rfl) (by kernel_rfl)) ?_
  intro W base args ds gs before hval0 hW hcnd _
  have hval : ∀ (j : Nat) t v, Try.f4.params[j]? = some t → args[j]? = some v → Value.okWide Try.prog W .any base t v := hval0
  have hW' := hW
  obtain ⟨p, q, hA0, hV, rfl, hfz, hnd⟩ := hW
  have hA : DataW.TrodAll enc Try.prog W 0 (fun _ => true) true Try.f4.params.toList args.toList ds p := hA0
  rw [Try.params4] at hA hval
  obtain ⟨v0, vs0, d0, ds0, p0, q0, hargs, rfl, rfl, h0, r0⟩ := trodAll_cons hA
  obtain ⟨v1, vs1, d1, ds1, p1, q1, rfl, rfl, rfl, h1, r1⟩ := trodAll_cons r0
  obtain ⟨rfl, rfl, rfl⟩ := trodAll_nil r1
  obtain rfl : args = #[v0, v1] := by cases args; simp_all
  obtain ⟨rfl, rfl⟩ := trodVars_none hV
  have k0 := h0
  have lt0 : ∀ x ∈ p0, x.block < W.heap.size := by obtain ⟨m, hm⟩ := k0; exact DataW.trod_lt m _ _ _ hm
  have k1 := h1
  have lt1 : ∀ x ∈ p1, x.block < W.heap.size := by obtain ⟨m, hm⟩ := k1; exact DataW.trod_lt m _ _ _ hm
  obtain ⟨a0_0, s0_1, n0_1, c0_1, X0_1, K0_1, V0_1, rfl, w0_0, m0_1, mk0_1, R0_1⟩ := open_Tree (hval 0 24 v0 rfl rfl) h0
  obtain ⟨s1, n1, c1, V1, rfl, m1, R1, w1⟩ := open_i64s Try.underlying37 Try.underlying2 (by kernel_rfl) (hval 1 37 v1 rfl rfl) h1
  clear hA0 hval0
  refine (fnExactUpper_walk W a0_0 s0_1 n0_1 c0_1 X0_1 K0_1 V0_1 w0_0 m0_1 mk0_1 R0_1 s1 n1 c1 V1 m1 R1 w1).mono fun e W' ⟨he, bel⟩ => ?_
  subst he
  exact ⟨_, rfl, _, _, _, [], _, [], hW', trodAll_mk1 (shut_bool Try.underlying4 _), (trodAll_cons_mk (Below.trod laidOut (by kernel_rfl) (of_decide_eq_true (by kernel_rfl)) k0 bel lt0) (trodAll_cons_mk (Below.trod laidOut (by kernel_rfl) (of_decide_eq_true (by kernel_rfl)) k1 bel lt1) trodAll_mk0)), rfl, bel.frame _, fun h => by cases h⟩

theorem fnExactUpper_holds : Rows.FnExactUpperSaid :=
  OpenClaim.holds_of_wide 4 Try.f4 rfl rfl rfl rfl rfl rfl rfl ⟨rfl, rfl, rfl, rfl, rfl⟩ rfl rfl rfl rfl rfl (by kernel_rfl) Try.func4 (by kernel_rfl)
    (of_decide_eq_true (by kernel_rfl)) (by unfold Func.isWrapper; first | (rw [if_pos (by decide +kernel)]; kernel_rfl) | (rw [if_neg (by decide +kernel)]; exact ⟨rfl, rfl⟩))
    (fun os started H enc _ => fnExactUpper_lifted os started H enc)
#print axioms fnExactUpper_holds
end Go.Proofs.Ytljaidacaepmmaa
