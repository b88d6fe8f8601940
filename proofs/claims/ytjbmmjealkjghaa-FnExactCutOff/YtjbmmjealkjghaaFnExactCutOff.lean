/-
What is proved: at every net, list and place impl.CutOff answers as the specification's CutOff and leaves them as they were; no condition.
-/
import Derived.Test.YtjbmmjealkjghaaCuI
import Derived.Test.YtjbmmjealkjghaaNtTO
import Derived.Test.YtjbmmjealkjghaaOpenI
namespace Go.Proofs.Ytjbmmjealkjghaa
set_option maxRecDepth 40000
open Go.ChangeShapes Go.WideShapes Go.ChangeAt Go.RowKit
set_option linter.unusedVariables false
set_option linter.unusedSimpArgs false

theorem keepLaw3_3 {W W' : World} {p r : Nat} {va0 va1 va2 vx0 vx1 vx2 : Value} (ha0 : W.cell? ⟨p, 0, none⟩ = some va0) (ha1 : W.cell? ⟨p, 1, none⟩ = some va1) (ha2 : W.cell? ⟨p, 2, none⟩ = some va2) (hx0 : W.cell? ⟨r, 0, none⟩ = some vx0) (hx1 : W.cell? ⟨r, 1, none⟩ = some vx1) (hx2 : W.cell? ⟨r, 2, none⟩ = some vx2) (zp : p < W.heap.size) (zr : r < W.heap.size) (hb : Below W.heap.size W W') : W'.cell? ⟨p, 0, none⟩ = some va0 ∧ W'.cell? ⟨p, 1, none⟩ = some va1 ∧ W'.cell? ⟨p, 2, none⟩ = some va2 ∧ W'.cell? ⟨r, 0, none⟩ = some vx0 ∧ W'.cell? ⟨r, 1, none⟩ = some vx1 ∧ W'.cell? ⟨r, 2, none⟩ = some vx2 :=
  ⟨(hb.cell (p := ⟨p, 0, none⟩) zp).trans ha0, (hb.cell (p := ⟨p, 1, none⟩) zp).trans ha1, (hb.cell (p := ⟨p, 2, none⟩) zp).trans ha2, (hb.cell (p := ⟨r, 0, none⟩) zr).trans hx0, (hb.cell (p := ⟨r, 1, none⟩) zr).trans hx1, (hb.cell (p := ⟨r, 2, none⟩) zr).trans hx2⟩
set_option maxRecDepth 20000 in
set_option maxHeartbeats 8000000 in
theorem cutOff_near (w : World) (a0_0 : Int) (n0_1 : Nat) (V0_1 : Nat → Int × Int) (n0_2 : Nat) (V0_2 : Nat → Int) (s0_1 : Option Addr) (c0_1 : Nat) (s0_2 : Option Addr) (c0_2 : Nat) (hn0_1 : (n0_1 : Int) ≤ 1048576) (hn0_2 : (n0_2 : Int) ≤ 1048576) (HR0 : Hid (RowNet w s0_1 n0_1 V0_1 s0_2 n0_2 V0_2)) (n1 : Nat) (V1 : Nat → Int) (s1 : Option Addr) (c1 : Nat) (hn1 : (n1 : Int) ≤ 1048576) (HR1 : Hid (RowI w s1 n1 V1)) (a2 : Int) (gn0_1 : (n0_1 : Int) ≤ 1048576) (gn0_2 : (n0_2 : Int) ≤ 1048576 - n0_1) (ar0 : Bool)
    (H1 : Hid (∀ (s0_1 : Option Addr) (c0_1 : Nat) (s0_2 : Option Addr) (c0_2 : Nat) (s1 : Option Addr) (c1 : Nat) w, RowNet w s0_1 n0_1 V0_1 s0_2 n0_2 V0_2 → RowI w s1 n1 V1 → Calls Try.prog 13 #[.agg #[.int .i64 a0_0, .slice s0_1 n0_1 c0_1, .slice s0_2 n0_2 c0_2], .slice s1 n1 c1, .int .i64 a2] w fun e w' => e = .returned (.bool ar0) ∧ Below w.heap.size w w'))
    (H2 : Hid (∀ (s0_1 : Option Addr) (c0_1 : Nat) (s0_2 : Option Addr) (c0_2 : Nat) (s1 : Option Addr) (c1 : Nat) w, RowNet w s0_1 n0_1 V0_1 s0_2 n0_2 V0_2 → RowI w s1 n1 V1 → Calls Try.prog 15 #[.agg #[.int .i64 a0_0, .slice s0_1 n0_1 c0_1, .slice s0_2 n0_2 c0_2], .slice s1 n1 c1, .int .i64 a2] w fun e w' => e = .returned (.bool ar0) ∧ Below w.heap.size w w')) :
    Calls Try.prog 4 #[.agg #[.int .i64 a0_0, .slice s0_1 n0_1 c0_1, .slice s0_2 n0_2 c0_2], .slice s1 n1 c1, .int .i64 a2] w fun e w' => e = .returned (.bool true) ∧ Below w.heap.size w w' := by
  have sto := store_slT
  go_enter Try.func4, Try.ntmps4
  go_wp2_with fail
  refine (szNet_on a0_0 n0_1 V0_1 n0_2 V0_2 s0_1 c0_1 s0_2 c0_2 _ _ (by omega) (by omega) (by omega) (by omega)).mono ?_
  rintro e w1 ⟨rfl, hh⟩
  have hb : Below w.heap.size w w1 := Below.trans (by repeat (first | with_reducible exact Below.refl _ _ | with_reducible refine Below.setCell ?_ (by first | omega | (simp; done) | (simp; omega)) _ | with_reducible refine bDrewN ?_ _ | with_reducible refine Below.drew ?_ | with_reducible refine Below.alloc ?_ (by first | omega | (simp; done) | (simp; omega)) _)) (hh.mono (by first | omega | (simp; done) | (simp; omega)))
  have lw1 : w.heap.size ≤ w1.heap.size := hb.size
  have ca00 : w1.cell? ⟨w.heap.size, 0, none⟩ = some (.int .i64 a0_0) := by rw [hh.cell (by first | omega | (simp; done) | (simp; omega))]; first | (simp; done) | (simp [go_sem]; done)
  have ca01 : w1.cell? ⟨w.heap.size, 1, none⟩ = some (.slice s0_1 n0_1 c0_1) := by rw [hh.cell (by first | omega | (simp; done) | (simp; omega))]; first | (simp; done) | (simp [go_sem]; done)
  have ca02 : w1.cell? ⟨w.heap.size, 2, none⟩ = some (.slice s0_2 n0_2 c0_2) := by rw [hh.cell (by first | omega | (simp; done) | (simp; omega))]; first | (simp; done) | (simp [go_sem]; done)
  have za0 : w.heap.size < w1.heap.size := by have := hh.size; simp at this; omega
  have ya0 : w.heap.size < w1.heap.size := za0
  have B0 : Below w.heap.size w w1 := hb
  clear hb hh
  go_wp2_with fail
  refine (toNet_r a0_0 n0_1 V0_1 n0_2 V0_2 s0_1 c0_1 s0_2 c0_2 _ hn0_1 hn0_2 (HR0.out.below B0)).mono ?_
  rintro e w2 ⟨st0_1, st0_2, St0, rfl, Q, O, hh⟩
  have hb : Below w1.heap.size w1 w2 := Below.trans (by repeat (first | with_reducible exact Below.refl _ _ | with_reducible refine Below.setCell ?_ (by first | omega | (simp; done) | (simp; omega)) _ | with_reducible refine bDrewN ?_ _ | with_reducible refine Below.drew ?_ | with_reducible refine Below.alloc ?_ (by first | omega | (simp; done) | (simp; omega)) _)) (hh.mono (by first | omega | (simp; done) | (simp; omega)))
  have lw2 : w1.heap.size ≤ w2.heap.size := hb.size
  replace ca00 := (hb.cell (p := ⟨w.heap.size, 0, none⟩) za0).trans ca00
  replace ca01 := (hb.cell (p := ⟨w.heap.size, 1, none⟩) za0).trans ca01
  replace ca02 := (hb.cell (p := ⟨w.heap.size, 2, none⟩) za0).trans ca02
  replace za0 := Nat.lt_of_lt_of_le za0 hb.size
  replace B0 : Below w.heap.size w w2 := B0.trans (hb.mono B0.size)
  clear hb hh
  have Qt0 : Hid (∀ k, St0 k → w1.heap.size ≤ k ∧ k < w2.heap.size) := (show ∀ k, St0 k → w1.heap.size ≤ k ∧ k < w2.heap.size from by simpa using Q)
  have Ot0 : Hid (NetR St0 w2 st0_1 n0_1 V0_1 st0_2 n0_2 V0_2) := O
  clear O Q
  go_wp2_with fail
  refine (toInt64S_r s1 n1 c1 V1 _ hn1 (HR1.out.below B0)).mono ?_
  rintro e w3 ⟨st1, St1, rfl, Q, O, hh⟩
  have hb : Below w2.heap.size w2 w3 := Below.trans (by repeat (first | with_reducible exact Below.refl _ _ | with_reducible refine Below.setCell ?_ (by first | omega | (simp; done) | (simp; omega)) _ | with_reducible refine bDrewN ?_ _ | with_reducible refine Below.drew ?_ | with_reducible refine Below.alloc ?_ (by first | omega | (simp; done) | (simp; omega)) _)) (hh.mono (by first | omega | (simp; done) | (simp; omega)))
  have lw3 : w2.heap.size ≤ w3.heap.size := hb.size
  replace ca00 := (hb.cell (p := ⟨w.heap.size, 0, none⟩) za0).trans ca00
  replace ca01 := (hb.cell (p := ⟨w.heap.size, 1, none⟩) za0).trans ca01
  replace ca02 := (hb.cell (p := ⟨w.heap.size, 2, none⟩) za0).trans ca02
  replace za0 := Nat.lt_of_lt_of_le za0 hb.size
  replace Ot0 : Hid (NetR St0 w3 st0_1 n0_1 V0_1 st0_2 n0_2 V0_2) := Ot0.out.below hb
  replace B0 : Below w.heap.size w w3 := B0.trans (hb.mono B0.size)
  clear hb hh
  have Qt1 : Hid (∀ k, St1 k → w2.heap.size ≤ k ∧ k < w3.heap.size) := (show ∀ k, St1 k → w2.heap.size ≤ k ∧ k < w3.heap.size from by simpa using Q)
  have Ot1 : Hid (I64R St1 w3 st1 n1 V1) := O
  clear O Q
  go_wp2_with fail
  refine (H1.out st0_1 _ st0_2 _ st1 _ _ (Ot0.out.row) (Ot1.out.row)).mono ?_
  rintro e w4 ⟨rfl, hh⟩
  have hb : Below w3.heap.size w3 w4 := Below.trans (by repeat (first | with_reducible exact Below.refl _ _ | with_reducible refine Below.setCell ?_ (by first | omega | (simp; done) | (simp; omega)) _ | with_reducible refine bDrewN ?_ _ | with_reducible refine Below.drew ?_ | with_reducible refine Below.alloc ?_ (by first | omega | (simp; done) | (simp; omega)) _)) (hh.mono (by first | omega | (simp; done) | (simp; omega)))
  have lw4 : w3.heap.size ≤ w4.heap.size := hb.size
  replace ca00 := (hb.cell (p := ⟨w.heap.size, 0, none⟩) za0).trans ca00
  replace ca01 := (hb.cell (p := ⟨w.heap.size, 1, none⟩) za0).trans ca01
  replace ca02 := (hb.cell (p := ⟨w.heap.size, 2, none⟩) za0).trans ca02
  replace za0 := Nat.lt_of_lt_of_le za0 hb.size
  replace Ot0 : Hid (NetR St0 w4 st0_1 n0_1 V0_1 st0_2 n0_2 V0_2) := Ot0.out.below hb
  replace Ot1 : Hid (I64R St1 w4 st1 n1 V1) := Ot1.out.below hb
  replace B0 : Below w.heap.size w w4 := B0.trans (hb.mono B0.size)
  clear hb hh
  clear Ot0 Qt0 
  clear Ot1 Qt1 
  have Bs : Below w4.heap.size w4 w4 := Below.refl _ _
  go_wp2_with fail
  refine (toNet_r a0_0 n0_1 V0_1 n0_2 V0_2 s0_1 c0_1 s0_2 c0_2 _ hn0_1 hn0_2 (HR0.out.below B0)).mono ?_
  rintro e w5 ⟨sx0_1, sx0_2, Sx0, rfl, Q, O, hh⟩
  have hb : Below w4.heap.size w4 w5 := Below.trans (by repeat (first | with_reducible exact Below.refl _ _ | with_reducible refine Below.setCell ?_ (by first | omega | (simp; done) | (simp; omega)) _ | with_reducible refine bDrewN ?_ _ | with_reducible refine Below.drew ?_ | with_reducible refine Below.alloc ?_ (by first | omega | (simp; done) | (simp; omega)) _)) (hh.mono (by first | omega | (simp; done) | (simp; omega)))
  have lw5 : w4.heap.size ≤ w5.heap.size := hb.size
  replace ca00 := (hb.cell (p := ⟨w.heap.size, 0, none⟩) za0).trans ca00
  replace ca01 := (hb.cell (p := ⟨w.heap.size, 1, none⟩) za0).trans ca01
  replace ca02 := (hb.cell (p := ⟨w.heap.size, 2, none⟩) za0).trans ca02
  replace za0 := Nat.lt_of_lt_of_le za0 hb.size
  replace Bs : Below w4.heap.size w4 w5 := Bs.trans (hb.mono Bs.size)
  replace B0 : Below w.heap.size w w5 := B0.trans (hb.mono B0.size)
  clear hb hh
  have Qx0 : Hid (∀ k, Sx0 k → w4.heap.size ≤ k ∧ k < w5.heap.size) := (show ∀ k, Sx0 k → w4.heap.size ≤ k ∧ k < w5.heap.size from by simpa using Q)
  have Ox0 : Hid (NetR Sx0 w5 sx0_1 n0_1 V0_1 sx0_2 n0_2 V0_2) := O
  clear O Q
  go_wp2_with fail
  refine (toInt64S_r s1 n1 c1 V1 _ hn1 ((HR1.out.below B0).below (below0 _ _))).mono ?_
  rintro e w6 ⟨sx1, Sx1, rfl, Q, O, hh⟩
  have hb : Below w5.heap.size w5 w6 := Below.trans (by repeat (first | with_reducible exact Below.refl _ _ | with_reducible refine Below.setCell ?_ (by first | omega | (simp; done) | (simp; omega)) _ | with_reducible refine bDrewN ?_ _ | with_reducible refine Below.drew ?_ | with_reducible refine Below.alloc ?_ (by first | omega | (simp; done) | (simp; omega)) _)) (hh.mono (by first | omega | (simp; done) | (simp; omega)))
  have lw6 : w5.heap.size ≤ w6.heap.size := hb.size
  have cx00 : w6.cell? ⟨w5.heap.size, 0, none⟩ = some (.int .i64 a0_0) := by rw [hh.cell (by first | omega | (simp; done) | (simp; omega))]; first | (simp; done) | (simp [go_sem]; done)
  have cx01 : w6.cell? ⟨w5.heap.size, 1, none⟩ = some (.slice sx0_1 n0_1 n0_1) := by rw [hh.cell (by first | omega | (simp; done) | (simp; omega))]; first | (simp; done) | (simp [go_sem]; done)
  have cx02 : w6.cell? ⟨w5.heap.size, 2, none⟩ = some (.slice sx0_2 n0_2 n0_2) := by rw [hh.cell (by first | omega | (simp; done) | (simp; omega))]; first | (simp; done) | (simp [go_sem]; done)
  have zx0 : w5.heap.size < w6.heap.size := by have := hh.size; simp at this; omega
  have yx0 : w5.heap.size < w6.heap.size := zx0
  replace ca00 := (hb.cell (p := ⟨w.heap.size, 0, none⟩) za0).trans ca00
  replace ca01 := (hb.cell (p := ⟨w.heap.size, 1, none⟩) za0).trans ca01
  replace ca02 := (hb.cell (p := ⟨w.heap.size, 2, none⟩) za0).trans ca02
  replace za0 := Nat.lt_of_lt_of_le za0 hb.size
  replace Ox0 : Hid (NetR Sx0 w6 sx0_1 n0_1 V0_1 sx0_2 n0_2 V0_2) := Ox0.out.below hb
  replace Bs : Below w4.heap.size w4 w6 := Bs.trans (hb.mono Bs.size)
  replace B0 : Below w.heap.size w w6 := B0.trans (hb.mono B0.size)
  clear hb hh
  have Qx1 : Hid (∀ k, Sx1 k → w5.heap.size + 1 ≤ k ∧ k < w6.heap.size) := (show ∀ k, Sx1 k → w5.heap.size + 1 ≤ k ∧ k < w6.heap.size from by simpa using Q)
  have Ox1 : Hid (I64R Sx1 w6 sx1 n1 V1) := O
  clear O Q
  go_wp2_with fail
  refine (H2.out sx0_1 _ sx0_2 _ sx1 _ _ (Ox0.out.row) (Ox1.out.row)).mono ?_
  rintro e w7 ⟨rfl, hh⟩
  have hb : Below w6.heap.size w6 w7 := Below.trans (by repeat (first | with_reducible exact Below.refl _ _ | with_reducible refine Below.setCell ?_ (by first | omega | (simp; done) | (simp; omega)) _ | with_reducible refine bDrewN ?_ _ | with_reducible refine Below.drew ?_ | with_reducible refine Below.alloc ?_ (by first | omega | (simp; done) | (simp; omega)) _)) (hh.mono (by first | omega | (simp; done) | (simp; omega)))
  have lw7 : w6.heap.size ≤ w7.heap.size := hb.size
  replace ca00 := (hb.cell (p := ⟨w.heap.size, 0, none⟩) za0).trans ca00
  replace ca01 := (hb.cell (p := ⟨w.heap.size, 1, none⟩) za0).trans ca01
  replace ca02 := (hb.cell (p := ⟨w.heap.size, 2, none⟩) za0).trans ca02
  replace za0 := Nat.lt_of_lt_of_le za0 hb.size
  replace cx00 := (hb.cell (p := ⟨w5.heap.size, 0, none⟩) zx0).trans cx00
  replace cx01 := (hb.cell (p := ⟨w5.heap.size, 1, none⟩) zx0).trans cx01
  replace cx02 := (hb.cell (p := ⟨w5.heap.size, 2, none⟩) zx0).trans cx02
  replace zx0 := Nat.lt_of_lt_of_le zx0 hb.size
  replace Ox0 : Hid (NetR Sx0 w7 sx0_1 n0_1 V0_1 sx0_2 n0_2 V0_2) := Ox0.out.below hb
  replace Ox1 : Hid (I64R Sx1 w7 sx1 n1 V1) := Ox1.out.below hb
  replace Bs : Below w4.heap.size w4 w7 := Bs.trans (hb.mono Bs.size)
  replace B0 : Below w.heap.size w w7 := B0.trans (hb.mono B0.size)
  clear hb hh
  go_upto_region 13 with fail
  have HB : Hid (Below w.heap.size w w7) := B0
  go_cut [41] (fun y wx => y = .bool false ∧ Below w7.heap.size w7 wx)
  case first =>
    go_region_held3 (fun w' => w'.cell? ⟨w.heap.size, 0, none⟩ = some (.int .i64 a0_0) ∧ w'.cell? ⟨w.heap.size, 1, none⟩ = some (.slice s0_1 n0_1 c0_1) ∧ w'.cell? ⟨w.heap.size, 2, none⟩ = some (.slice s0_2 n0_2 c0_2) ∧ w'.cell? ⟨w5.heap.size, 0, none⟩ = some (.int .i64 a0_0) ∧ w'.cell? ⟨w5.heap.size, 1, none⟩ = some (.slice sx0_1 n0_1 n0_1) ∧ w'.cell? ⟨w5.heap.size, 2, none⟩ = some (.slice sx0_2 n0_2 n0_2)) (first | (exact ⟨ca00, ca01, ca02, cx00, cx01, cx02⟩) | (refine keepLaw3_3 ca00 ca01 ca02 cx00 cx01 cx02 za0 zx0 ?_; exact (by repeat (first | with_reducible exact Below.refl _ _ | with_reducible exact B8 | with_reducible exact B7 | with_reducible refine Below.setCell ?_ (by first | omega | (simp; done) | (simp; omega)) _ | with_reducible refine bDrewN ?_ _ | with_reducible refine Below.drew ?_ | with_reducible refine Below.alloc ?_ (by first | omega | (simp; done) | (simp; omega)) _)))) (first
      | (go_at_call 10; refine (toNet_r a0_0 n0_1 V0_1 n0_2 V0_2 s0_1 c0_1 s0_2 c0_2 _ hn0_1 hn0_2 (HR0.out.below (HB.out.trans (Below.mono (by repeat (first | with_reducible exact Below.refl _ _ | with_reducible refine Below.setCell ?_ (by first | omega | (simp; done) | (simp; omega)) _ | with_reducible refine bDrewN ?_ _ | with_reducible refine Below.drew ?_ | with_reducible refine Below.alloc ?_ (by first | omega | (simp; done) | (simp; omega)) _)) HB.out.size)))).mono ?_; rintro e wy ⟨sy0_1, sy0_2, Sy, rfl, -, OY, h7⟩; have B7 : Below w7.heap.size w7 wy := Below.trans (by repeat (first | with_reducible exact Below.refl _ _ | with_reducible refine Below.setCell ?_ (by first | omega | (simp; done) | (simp; omega)) _ | with_reducible refine bDrewN ?_ _ | with_reducible refine Below.drew ?_ | with_reducible refine Below.alloc ?_ (by first | omega | (simp; done) | (simp; omega)) _)) (h7.mono (by first | omega | (simp; done) | (simp; omega))); have s7 := B7.size; have PY : Hid (RowNet wy sy0_1 n0_1 V0_1 sy0_2 n0_2 V0_2) := OY.row; have PX : Hid (RowNet wy sx0_1 n0_1 V0_1 sx0_2 n0_2 V0_2) := Ox0.out.row.below B7; clear h7 OY)
      | (go_at_call 12; refine (eqNet_r a0_0 n0_1 V0_1 n0_2 V0_2 sx0_1 n0_1 sx0_2 n0_2 sy0_1 n0_1 sy0_2 n0_2 _ hn0_1 hn0_2 PX.out PY.out).mono ?_; rintro e wz ⟨rfl, h8⟩; have B8 : Below w7.heap.size w7 wz := Below.trans (by repeat (first | with_reducible exact Below.refl _ _ | with_reducible exact B7 | with_reducible refine Below.setCell ?_ (by first | omega | (simp; done) | (simp; omega)) _ | with_reducible refine bDrewN ?_ _ | with_reducible refine Below.drew ?_ | with_reducible refine Below.alloc ?_ (by first | omega | (simp; done) | (simp; omega)) _)) (h8.mono (by first | omega | (simp; done) | (simp; omega))); clear h8))
    all_goals
      go_wp2_with fail
      go_meet
      exact ⟨rfl, B8⟩
  obtain ⟨rfl, hb⟩ := hcut
  rename World => w8
  have lw8 : w7.heap.size ≤ w8.heap.size := hb.size
  replace ca00 := (hb.cell (p := ⟨w.heap.size, 0, none⟩) za0).trans ca00
  replace ca01 := (hb.cell (p := ⟨w.heap.size, 1, none⟩) za0).trans ca01
  replace ca02 := (hb.cell (p := ⟨w.heap.size, 2, none⟩) za0).trans ca02
  replace za0 := Nat.lt_of_lt_of_le za0 hb.size
  replace cx00 := (hb.cell (p := ⟨w5.heap.size, 0, none⟩) zx0).trans cx00
  replace cx01 := (hb.cell (p := ⟨w5.heap.size, 1, none⟩) zx0).trans cx01
  replace cx02 := (hb.cell (p := ⟨w5.heap.size, 2, none⟩) zx0).trans cx02
  replace zx0 := Nat.lt_of_lt_of_le zx0 hb.size
  replace Ox0 : Hid (NetR Sx0 w8 sx0_1 n0_1 V0_1 sx0_2 n0_2 V0_2) := Ox0.out.below hb
  replace Ox1 : Hid (I64R Sx1 w8 sx1 n1 V1) := Ox1.out.below hb
  replace Bs : Below w4.heap.size w4 w8 := Bs.trans (hb.mono Bs.size)
  replace B0 : Below w.heap.size w w8 := B0.trans (hb.mono B0.size)
  clear hb HB
  go_wp2_with fail
  refine (toInt64S_r s1 n1 c1 V1 _ hn1 (HR1.out.below B0)).mono ?_
  rintro e w9 ⟨sy1, Sy1, rfl, Q, O, hh⟩
  have hb : Below w8.heap.size w8 w9 := Below.trans (by repeat (first | with_reducible exact Below.refl _ _ | with_reducible refine Below.setCell ?_ (by first | omega | (simp; done) | (simp; omega)) _ | with_reducible refine bDrewN ?_ _ | with_reducible refine Below.drew ?_ | with_reducible refine Below.alloc ?_ (by first | omega | (simp; done) | (simp; omega)) _)) (hh.mono (by first | omega | (simp; done) | (simp; omega)))
  have lw9 : w8.heap.size ≤ w9.heap.size := hb.size
  replace ca00 := (hb.cell (p := ⟨w.heap.size, 0, none⟩) za0).trans ca00
  replace ca01 := (hb.cell (p := ⟨w.heap.size, 1, none⟩) za0).trans ca01
  replace ca02 := (hb.cell (p := ⟨w.heap.size, 2, none⟩) za0).trans ca02
  replace za0 := Nat.lt_of_lt_of_le za0 hb.size
  replace cx00 := (hb.cell (p := ⟨w5.heap.size, 0, none⟩) zx0).trans cx00
  replace cx01 := (hb.cell (p := ⟨w5.heap.size, 1, none⟩) zx0).trans cx01
  replace cx02 := (hb.cell (p := ⟨w5.heap.size, 2, none⟩) zx0).trans cx02
  replace zx0 := Nat.lt_of_lt_of_le zx0 hb.size
  replace Ox0 : Hid (NetR Sx0 w9 sx0_1 n0_1 V0_1 sx0_2 n0_2 V0_2) := Ox0.out.below hb
  replace Ox1 : Hid (I64R Sx1 w9 sx1 n1 V1) := Ox1.out.below hb
  replace Bs : Below w4.heap.size w4 w9 := Bs.trans (hb.mono Bs.size)
  replace B0 : Below w.heap.size w w9 := B0.trans (hb.mono B0.size)
  clear hb hh
  have Qy1 : Hid (∀ k, Sy1 k → w8.heap.size ≤ k ∧ k < w9.heap.size) := (show ∀ k, Sy1 k → w8.heap.size ≤ k ∧ k < w9.heap.size from by simpa using Q)
  have Oy1 : Hid (I64R Sy1 w9 sy1 n1 V1) := O
  clear O Q
  go_wp2_with fail
  refine (eqInt64S_any _ _ n1 _ _ V1 _ hn1 (Ox1.out.row) (Oy1.out.row)).mono ?_
  rintro e w10 ⟨rfl, hh⟩
  have hb : Below w9.heap.size w9 w10 := Below.trans (by repeat (first | with_reducible exact Below.refl _ _ | with_reducible refine Below.setCell ?_ (by first | omega | (simp; done) | (simp; omega)) _ | with_reducible refine bDrewN ?_ _ | with_reducible refine Below.drew ?_ | with_reducible refine Below.alloc ?_ (by first | omega | (simp; done) | (simp; omega)) _)) (hh.mono (by first | omega | (simp; done) | (simp; omega)))
  have lw10 : w9.heap.size ≤ w10.heap.size := hb.size
  replace ca00 := (hb.cell (p := ⟨w.heap.size, 0, none⟩) za0).trans ca00
  replace ca01 := (hb.cell (p := ⟨w.heap.size, 1, none⟩) za0).trans ca01
  replace ca02 := (hb.cell (p := ⟨w.heap.size, 2, none⟩) za0).trans ca02
  replace za0 := Nat.lt_of_lt_of_le za0 hb.size
  replace cx00 := (hb.cell (p := ⟨w5.heap.size, 0, none⟩) zx0).trans cx00
  replace cx01 := (hb.cell (p := ⟨w5.heap.size, 1, none⟩) zx0).trans cx01
  replace cx02 := (hb.cell (p := ⟨w5.heap.size, 2, none⟩) zx0).trans cx02
  replace zx0 := Nat.lt_of_lt_of_le zx0 hb.size
  replace Ox0 : Hid (NetR Sx0 w10 sx0_1 n0_1 V0_1 sx0_2 n0_2 V0_2) := Ox0.out.below hb
  replace Ox1 : Hid (I64R Sx1 w10 sx1 n1 V1) := Ox1.out.below hb
  replace Oy1 : Hid (I64R Sy1 w10 sy1 n1 V1) := Oy1.out.below hb
  replace Bs : Below w4.heap.size w4 w10 := Bs.trans (hb.mono Bs.size)
  replace B0 : Below w.heap.size w w10 := B0.trans (hb.mono B0.size)
  clear hb hh
  clear Oy1 Qy1 
  go_wp2
  go_ret
  exact ⟨rfl, B0⟩
set_option maxHeartbeats 800000 in
theorem cutOff_farn1 (w : World) (a0_0 : Int) (n0_1 : Nat) (V0_1 : Nat → Int × Int) (n0_2 : Nat) (V0_2 : Nat → Int) (s0_1 : Option Addr) (c0_1 : Nat) (s0_2 : Option Addr) (c0_2 : Nat) (n1 : Nat) (V1 : Nat → Int) (s1 : Option Addr) (c1 : Nat) (a2 : Int)  (g : (1048576 : Int) < n1) :
    Calls Try.prog 4 #[.agg #[.int .i64 a0_0, .slice s0_1 n0_1 c0_1, .slice s0_2 n0_2 c0_2], .slice s1 n1 c1, .int .i64 a2] w fun e w' => e = .returned (.bool true) ∧ Below w.heap.size w w' := by
  go_enter Try.func4, Try.ntmps4
  go_wp2
  go_ret
  exact ⟨rfl, (by repeat (first | with_reducible exact Below.refl _ _ | with_reducible refine Below.setCell ?_ (by first | omega | (simp; done) | (simp; omega)) _ | with_reducible refine bDrewN ?_ _ | with_reducible refine Below.drew ?_ | with_reducible refine Below.alloc ?_ (by first | omega | (simp; done) | (simp; omega)) _))⟩
set_option maxHeartbeats 1600000 in
theorem cutOff_farn0_1 (w : World) (a0_0 : Int) (n0_1 : Nat) (V0_1 : Nat → Int × Int) (n0_2 : Nat) (V0_2 : Nat → Int) (s0_1 : Option Addr) (c0_1 : Nat) (s0_2 : Option Addr) (c0_2 : Nat) (n1 : Nat) (V1 : Nat → Int) (s1 : Option Addr) (c1 : Nat) (a2 : Int) (qn1 : (n1 : Int) ≤ 1048576)  (g : 1048576 < (n0_1 : Int)) (gg : (n0_1 : Int) ≤ 9223372036854775807)  :
    Calls Try.prog 4 #[.agg #[.int .i64 a0_0, .slice s0_1 n0_1 c0_1, .slice s0_2 n0_2 c0_2], .slice s1 n1 c1, .int .i64 a2] w fun e w' => e = .returned (.bool true) ∧ Below w.heap.size w w' := by
  go_enter Try.func4, Try.ntmps4
  go_wp2_with fail
  refine (szNet_off1 a0_0 n0_1 V0_1 n0_2 V0_2 s0_1 c0_1 s0_2 c0_2 _ _ (by omega) (by omega) (by omega) (by omega)).mono ?_
  rintro e u1 ⟨rfl, hh⟩
  have hb : Below w.heap.size w u1 := Below.trans (by repeat (first | with_reducible exact Below.refl _ _ | with_reducible refine Below.setCell ?_ (by first | omega | (simp; done) | (simp; omega)) _ | with_reducible refine bDrewN ?_ _ | with_reducible refine Below.drew ?_ | with_reducible refine Below.alloc ?_ (by first | omega | (simp; done) | (simp; omega)) _)) (hh.mono (by first | omega | (simp; done) | (simp; omega)))
  have ca00 : u1.cell? ⟨w.heap.size, 0, none⟩ = some (.int .i64 a0_0) := by rw [hh.cell (by first | omega | (simp; done) | (simp; omega))]; first | (simp; done) | (simp [go_sem]; done)
  have ca01 : u1.cell? ⟨w.heap.size, 1, none⟩ = some (.slice s0_1 n0_1 c0_1) := by rw [hh.cell (by first | omega | (simp; done) | (simp; omega))]; first | (simp; done) | (simp [go_sem]; done)
  have ca02 : u1.cell? ⟨w.heap.size, 2, none⟩ = some (.slice s0_2 n0_2 c0_2) := by rw [hh.cell (by first | omega | (simp; done) | (simp; omega))]; first | (simp; done) | (simp [go_sem]; done)
  have za0 : w.heap.size < u1.heap.size := by have := hh.size; simp at this; omega
  have B0 := hb
  clear hb hh
  go_wp2
  go_ret
  exact ⟨rfl, (by repeat (first | with_reducible exact Below.refl _ _ | with_reducible exact B0 | with_reducible refine Below.setCell ?_ (by first | omega | (simp; done) | (simp; omega)) _ | with_reducible refine bDrewN ?_ _ | with_reducible refine Below.drew ?_ | with_reducible refine Below.alloc ?_ (by first | omega | (simp; done) | (simp; omega)) _))⟩
set_option maxHeartbeats 1600000 in
theorem cutOff_farn0_2 (w : World) (a0_0 : Int) (n0_1 : Nat) (V0_1 : Nat → Int × Int) (n0_2 : Nat) (V0_2 : Nat → Int) (s0_1 : Option Addr) (c0_1 : Nat) (s0_2 : Option Addr) (c0_2 : Nat) (n1 : Nat) (V1 : Nat → Int) (s1 : Option Addr) (c1 : Nat) (a2 : Int) (qn1 : (n1 : Int) ≤ 1048576) (gn0_1 : (n0_1 : Int) ≤ 1048576) (g : 1048576 - n0_1 < (n0_2 : Int)) (gg : (n0_2 : Int) ≤ 9223372036854775807)  :
    Calls Try.prog 4 #[.agg #[.int .i64 a0_0, .slice s0_1 n0_1 c0_1, .slice s0_2 n0_2 c0_2], .slice s1 n1 c1, .int .i64 a2] w fun e w' => e = .returned (.bool true) ∧ Below w.heap.size w w' := by
  go_enter Try.func4, Try.ntmps4
  go_wp2_with fail
  refine (szNet_off2 a0_0 n0_1 V0_1 n0_2 V0_2 s0_1 c0_1 s0_2 c0_2 _ _ (by omega) (by omega) (by omega) (by omega) (by omega)).mono ?_
  rintro e u1 ⟨rfl, hh⟩
  have hb : Below w.heap.size w u1 := Below.trans (by repeat (first | with_reducible exact Below.refl _ _ | with_reducible refine Below.setCell ?_ (by first | omega | (simp; done) | (simp; omega)) _ | with_reducible refine bDrewN ?_ _ | with_reducible refine Below.drew ?_ | with_reducible refine Below.alloc ?_ (by first | omega | (simp; done) | (simp; omega)) _)) (hh.mono (by first | omega | (simp; done) | (simp; omega)))
  have ca00 : u1.cell? ⟨w.heap.size, 0, none⟩ = some (.int .i64 a0_0) := by rw [hh.cell (by first | omega | (simp; done) | (simp; omega))]; first | (simp; done) | (simp [go_sem]; done)
  have ca01 : u1.cell? ⟨w.heap.size, 1, none⟩ = some (.slice s0_1 n0_1 c0_1) := by rw [hh.cell (by first | omega | (simp; done) | (simp; omega))]; first | (simp; done) | (simp [go_sem]; done)
  have ca02 : u1.cell? ⟨w.heap.size, 2, none⟩ = some (.slice s0_2 n0_2 c0_2) := by rw [hh.cell (by first | omega | (simp; done) | (simp; omega))]; first | (simp; done) | (simp [go_sem]; done)
  have za0 : w.heap.size < u1.heap.size := by have := hh.size; simp at this; omega
  have B0 := hb
  clear hb hh
  go_wp2
  go_ret
  exact ⟨rfl, (by repeat (first | with_reducible exact Below.refl _ _ | with_reducible exact B0 | with_reducible refine Below.setCell ?_ (by first | omega | (simp; done) | (simp; omega)) _ | with_reducible refine bDrewN ?_ _ | with_reducible refine Below.drew ?_ | with_reducible refine Below.alloc ?_ (by first | omega | (simp; done) | (simp; omega)) _))⟩
theorem fnExactCutOff_walk (w : World) (a0_0 : Int) (s0_1 : Option Addr) (n0_1 c0_1 : Nat) (V0_1 : Nat → Int × Int) (s0_2 : Option Addr) (n0_2 c0_2 : Nat) (V0_2 : Nat → Int) (w0_0 : (Lit.int .i64 a0_0).wf = true) (m0_1 : n0_1 ≤ 9223372036854775807) (R0_1 : RowDuct w s0_1 n0_1 V0_1) (m0_2 : n0_2 ≤ 9223372036854775807) (R0_2 : RowI w s0_2 n0_2 V0_2) (s1 : Option Addr) (n1 c1 : Nat) (V1 : Nat → Int) (m1 : n1 ≤ 9223372036854775807) (R1 : RowI w s1 n1 V1) (w1 : ∀ j, j < n1 → -9223372036854775808 ≤ V1 j ∧ V1 j ≤ 9223372036854775807) (a2 : Int) (w2 : (Lit.int .i64 a2).wf = true) :
    Calls Try.prog 4 #[.agg #[.int .i64 a0_0, .slice s0_1 n0_1 c0_1, .slice s0_2 n0_2 c0_2], .slice s1 n1 c1, .int .i64 a2] w fun e w' => e = .returned (.bool true) ∧ Below w.heap.size w w' := by
  by_cases qn1 : (n1 : Int) ≤ 1048576
  case neg => exact cutOff_farn1 w a0_0 n0_1 V0_1 n0_2 V0_2 s0_1 c0_1 s0_2 c0_2 n1 V1 s1 c1 a2  (by omega)
  by_cases gn0_1 : (n0_1 : Int) ≤ 1048576
  case neg => exact cutOff_farn0_1 w a0_0 n0_1 V0_1 n0_2 V0_2 s0_1 c0_1 s0_2 c0_2 n1 V1 s1 c1 a2 qn1  (by omega) (by omega) 
  by_cases gn0_2 : (n0_2 : Int) ≤ 1048576 - n0_1
  case neg => exact cutOff_farn0_2 w a0_0 n0_1 V0_1 n0_2 V0_2 s0_1 c0_1 s0_2 c0_2 n1 V1 s1 c1 a2 qn1 gn0_1 (by omega) (by omega) 
  exact cutOff_near w a0_0 n0_1 V0_1 n0_2 V0_2 s0_1 c0_1 s0_2 c0_2 (by omega) (by omega) ⟨R0_1, R0_2⟩ n1 V1 s1 c1 (by omega) R1 a2 (by omega) (by omega) (cutB a0_0 n0_1 V0_1 n0_2 V0_2 n1 V1 a2) (fun s c t d q e w q1 q2 => (specCutOff_any a0_0 s n0_1 c V0_1 t n0_2 d V0_2 q n1 e V1 a2 w (by omega) (by omega) (by omega) q1.1 q1.2 q2).mono fun e w' h => h) (fun s c t d q e w q1 q2 => (implCutOff_any a0_0 s n0_1 c V0_1 t n0_2 d V0_2 q n1 e V1 a2 w (by omega) (by omega) (by omega) q1.1 q1.2 q2).mono fun e w' h => h)

set_option maxRecDepth 100000 in
theorem fnExactCutOff_lifted (os : Os) (started : os.Started) (H : Type) (enc : TypeId × Value → H) :
    ReturnsInHanded {} Try.checked os 4 .any (Rows.fnExactCutOffSpec.pre6 enc Try.prog Try.f4 Rows.fnExactCutOffRow.domain false) (Rows.fnExactCutOffSpec.post enc Try.prog Try.f4 false true false false) := by
  refine returnsInHanded_of_change (C := Try.checked) own started (by kernel_rfl) Try.func4
    (ChangeSpec.witness6 (enc := enc) (C := Try.checked) false ⟨#[], #[.agg #[.int .i64 0, .slice none 0 0, .slice none 0 0], .slice none 0 0, .int .i64 0], []⟩ 8 (by kernel_rfl) (by kernel_rfl) (by kernel_rfl) (by kernel_rfl)) ?_
  intro W base args ds gs before hval0 hW hcnd _
  have hval : ∀ (j : Nat) t v, Try.f4.params[j]? = some t → args[j]? = some v → Value.okWide Try.prog W .any base t v := hval0
  have hW' := hW
  obtain ⟨p, q, hA0, hV, rfl, hfz, hnd⟩ := hW
  have hA : DataW.TrodAll enc Try.prog W 0 (fun _ => true) true Try.f4.params.toList args.toList ds p := hA0
  rw [Try.params4] at hA hval
  obtain ⟨v0, vs0, d0, ds0, p0, q0, hargs, rfl, rfl, h0, r0⟩ := trodAll_cons hA
  obtain ⟨v1, vs1, d1, ds1, p1, q1, rfl, rfl, rfl, h1, r1⟩ := trodAll_cons r0
  obtain ⟨v2, vs2, d2, ds2, p2, q2, rfl, rfl, rfl, h2, r2⟩ := trodAll_cons r1
  obtain ⟨rfl, rfl, rfl⟩ := trodAll_nil r2
  obtain rfl : args = #[v0, v1, v2] := by cases args; simp_all
  obtain ⟨rfl, rfl⟩ := trodVars_none hV
  have k0 := h0
  have lt0 : ∀ x ∈ p0, x.block < W.heap.size := by obtain ⟨m, hm⟩ := k0; exact DataW.trod_lt m _ _ _ hm
  have k1 := h1
  have lt1 : ∀ x ∈ p1, x.block < W.heap.size := by obtain ⟨m, hm⟩ := k1; exact DataW.trod_lt m _ _ _ hm
  have k2 := h2
  have lt2 : ∀ x ∈ p2, x.block < W.heap.size := by obtain ⟨m, hm⟩ := k2; exact DataW.trod_lt m _ _ _ hm
  obtain ⟨a0_0, s0_1, n0_1, c0_1, V0_1, s0_2, n0_2, c0_2, V0_2, rfl, w0_0, m0_1, R0_1, m0_2, R0_2⟩ := open_Net (hval 0 25 v0 rfl rfl) h0
  obtain ⟨s1, n1, c1, V1, rfl, m1, R1, w1⟩ := open_i64s Try.underlying23 Try.underlying2 (by kernel_rfl) (hval 1 23 v1 rfl rfl) h1
  obtain ⟨a2, rfl, rfl, rfl, w2⟩ := open_int Try.underlying2 (hval 2 2 v2 rfl rfl) h2
  clear hA0 hval0
  refine (fnExactCutOff_walk W a0_0 s0_1 n0_1 c0_1 V0_1 s0_2 n0_2 c0_2 V0_2 w0_0 m0_1 R0_1 m0_2 R0_2 s1 n1 c1 V1 m1 R1 w1 a2 w2).mono fun e W' ⟨he, bel⟩ => ?_
  subst he
  exact ⟨_, rfl, _, _, _, [], _, [], hW', trodAll_mk1 (shut_bool Try.underlying4 _), (trodAll_cons_mk (Below.trod laidOut (by kernel_rfl) (of_decide_eq_true (by kernel_rfl)) k0 bel lt0) (trodAll_cons_mk (Below.trod laidOut (by kernel_rfl) (of_decide_eq_true (by kernel_rfl)) k1 bel lt1) (trodAll_cons_mk (Below.trod laidOut (by kernel_rfl) (of_decide_eq_true (by kernel_rfl)) k2 bel lt2) trodAll_mk0))), rfl, bel.frame _, fun h => by cases h⟩

theorem fnExactCutOff_holds : Rows.FnExactCutOffSaid :=
  OpenClaim.holds_of_wide 4 Try.f4 rfl rfl rfl rfl rfl rfl rfl ⟨rfl, rfl, rfl, rfl, rfl⟩ rfl rfl rfl rfl rfl (by kernel_rfl) Try.func4 (by kernel_rfl)
    (of_decide_eq_true (by kernel_rfl)) (by unfold Func.isWrapper; first | (rw [if_pos (by decide +kernel)]; kernel_rfl) | (rw [if_neg (by decide +kernel)]; exact ⟨rfl, rfl⟩))
    (fun os started H enc _ => fnExactCutOff_lifted os started H enc)
#print axioms fnExactCutOff_holds
end Go.Proofs.Ytjbmmjealkjghaa
