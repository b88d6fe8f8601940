/-
What is proved: at every net, book and valve impl.MayOpen answers as the specification's MayOpen and leaves them as they were; no condition.
-/
import Derived.Test.YtabmkklnbaomnaaTgB
import Derived.Test.YtabmkklnbaomnaaBkTO
import Derived.Test.YtabmkklnbaomnaaNtTO
namespace Go.Proofs.Ytabmkklnbaomnaa
set_option maxRecDepth 40000
open Go.ChangeShapes Go.WideShapes Go.ChangeAt Go.RowKit
set_option linter.unusedVariables false
set_option linter.unusedSimpArgs false

def mayOpenRes (c0 : World) (ar0 : Bool) (v0 : Value) (wx : World) : Prop := v0 = .bool ar0 ∧ Below c0.heap.size c0 wx
theorem hidQ {S : Nat → Prop} {m : Nat} {p : Nat → Prop} (h : ∀ k, S k → m ≤ k ∧ p k) : Hid (∀ k, S k → m ≤ k) := fun k hk => (h k hk).1
theorem keepArgs {W W' : World} {p0 p1 : Nat} {v0_0 v0_1 v0_2 v1_0 : Value} (h0_0 : W.cell? ⟨p0, 0, none⟩ = some v0_0) (h0_1 : W.cell? ⟨p0, 1, none⟩ = some v0_1) (h0_2 : W.cell? ⟨p0, 2, none⟩ = some v0_2) (h1_0 : W.cell? ⟨p1, 0, none⟩ = some v1_0) (z0 : p0 < W.heap.size) (z1 : p1 < W.heap.size) (hb : Below W.heap.size W W') : W'.cell? ⟨p0, 0, none⟩ = some v0_0 ∧ W'.cell? ⟨p0, 1, none⟩ = some v0_1 ∧ W'.cell? ⟨p0, 2, none⟩ = some v0_2 ∧ W'.cell? ⟨p1, 0, none⟩ = some v1_0 := ⟨(hb.cell (p := ⟨p0, 0, none⟩) z0).trans h0_0, (hb.cell (p := ⟨p0, 1, none⟩) z0).trans h0_1, (hb.cell (p := ⟨p0, 2, none⟩) z0).trans h0_2, (hb.cell (p := ⟨p1, 0, none⟩) z1).trans h1_0⟩
theorem keepLaw3_3 {W W' : World} {p r : Nat} {va0 va1 va2 vx0 vx1 vx2 : Value} (ha0 : W.cell? ⟨p, 0, none⟩ = some va0) (ha1 : W.cell? ⟨p, 1, none⟩ = some va1) (ha2 : W.cell? ⟨p, 2, none⟩ = some va2) (hx0 : W.cell? ⟨r, 0, none⟩ = some vx0) (hx1 : W.cell? ⟨r, 1, none⟩ = some vx1) (hx2 : W.cell? ⟨r, 2, none⟩ = some vx2) (zp : p < W.heap.size) (zr : r < W.heap.size) (hb : Below W.heap.size W W') : W'.cell? ⟨p, 0, none⟩ = some va0 ∧ W'.cell? ⟨p, 1, none⟩ = some va1 ∧ W'.cell? ⟨p, 2, none⟩ = some va2 ∧ W'.cell? ⟨r, 0, none⟩ = some vx0 ∧ W'.cell? ⟨r, 1, none⟩ = some vx1 ∧ W'.cell? ⟨r, 2, none⟩ = some vx2 :=
  ⟨(hb.cell (p := ⟨p, 0, none⟩) zp).trans ha0, (hb.cell (p := ⟨p, 1, none⟩) zp).trans ha1, (hb.cell (p := ⟨p, 2, none⟩) zp).trans ha2, (hb.cell (p := ⟨r, 0, none⟩) zr).trans hx0, (hb.cell (p := ⟨r, 1, none⟩) zr).trans hx1, (hb.cell (p := ⟨r, 2, none⟩) zr).trans hx2⟩
theorem keepLaw1_1 {W W' : World} {p r : Nat} {va0 vx0 : Value} (ha0 : W.cell? ⟨p, 0, none⟩ = some va0) (hx0 : W.cell? ⟨r, 0, none⟩ = some vx0) (zp : p < W.heap.size) (zr : r < W.heap.size) (hb : Below W.heap.size W W') : W'.cell? ⟨p, 0, none⟩ = some va0 ∧ W'.cell? ⟨r, 0, none⟩ = some vx0 :=
  ⟨(hb.cell (p := ⟨p, 0, none⟩) zp).trans ha0, (hb.cell (p := ⟨r, 0, none⟩) zr).trans hx0⟩
set_option maxRecDepth 20000 in
set_option maxHeartbeats 8000000 in
theorem mayOpen_near (w : World) (a0_0 : Int) (n0_1 : Nat) (V0_1 : Nat → Int × Int) (n0_2 : Nat) (V0_2 : Nat → Int) (s0_1 : Option Addr) (c0_1 : Nat) (s0_2 : Option Addr) (c0_2 : Nat) (hn0_1 : (n0_1 : Int) ≤ 1048576) (hn0_2 : (n0_2 : Int) ≤ 1048576) (HR0 : Hid (RowNet w s0_1 n0_1 V0_1 s0_2 n0_2 V0_2)) (n1_0 : Nat) (X1_0 : Nat → Int) (Y1_0 : Nat → Int) (K1_0 : Nat → Nat) (V1_0 : Nat → Nat → Int) (s1_0 : Option Addr) (c1_0 : Nat) (hn1_0 : ((n1_0 : Int) + (suK K1_0 n1_0 : Int)) ≤ 1048576) (HR1 : Hid (RowBook w s1_0 n1_0 X1_0 Y1_0 K1_0 V1_0)) (a2 : Int) (gn0_1 : (n0_1 : Int) ≤ 1048576) (gn0_2 : (n0_2 : Int) ≤ 1048576 - n0_1) (gn1_0 : ((n1_0 : Int) + (suK K1_0 n1_0 : Int)) ≤ 1048576 - n0_1 - n0_2) (ar0 : Bool)
    (H1 : Hid (∀ (s0_1 : Option Addr) (s0_2 : Option Addr) (s1_0 : Option Addr) w, RowNet w s0_1 n0_1 V0_1 s0_2 n0_2 V0_2 → RowBook w s1_0 n1_0 X1_0 Y1_0 K1_0 V1_0 → Calls Try.prog 28 #[.agg #[.int .i64 a0_0, .slice s0_1 n0_1 n0_1, .slice s0_2 n0_2 n0_2], .agg #[.slice s1_0 n1_0 n1_0], .int .i64 a2] w fun e w' => e = .returned (.bool ar0) ∧ Below w.heap.size w w'))
    (H2 : Hid (∀ (s0_1 : Option Addr) (s0_2 : Option Addr) (s1_0 : Option Addr) w, RowNet w s0_1 n0_1 V0_1 s0_2 n0_2 V0_2 → RowBook w s1_0 n1_0 X1_0 Y1_0 K1_0 V1_0 → Calls Try.prog 29 #[.agg #[.int .i64 a0_0, .slice s0_1 n0_1 n0_1, .slice s0_2 n0_2 n0_2], .agg #[.slice s1_0 n1_0 n1_0], .int .i64 a2] w fun e w' => e = .returned (.bool ar0) ∧ Below w.heap.size w w')) :
    Calls Try.prog 7 #[.agg #[.int .i64 a0_0, .slice s0_1 n0_1 c0_1, .slice s0_2 n0_2 c0_2], .agg #[.slice s1_0 n1_0 c1_0], .int .i64 a2] w fun e w' => e = .returned (.bool true) ∧ Below w.heap.size w w' := by
  have sto := store_slT
  go_enter Try.func7, Try.ntmps7
  go_wp2_with fail
  refine (szNet_on a0_0 n0_1 V0_1 n0_2 V0_2 s0_1 c0_1 s0_2 c0_2 _ _ (by omega) (by omega) (by omega) (by omega)).mono ?_
  rintro e w1 ⟨rfl, hh⟩
  have hb : Below w.heap.size w w1 := Below.trans (by repeat (first | with_reducible exact Below.refl _ _ | with_reducible refine Below.setCell ?_ (by first | omega | (simp; done) | (simp; omega)) _ | with_reducible refine bDrewN ?_ _ | with_reducible refine Below.drew ?_ | with_reducible refine Below.alloc ?_ (by first | omega | (simp; done) | (simp; omega)) _)) (hh.mono (by first | omega | (simp; done) | (simp; omega)))
  have lw1 : w.heap.size ≤ w1.heap.size := hb.size
  have ca00 : w1.cell? ⟨w.heap.size, 0, none⟩ = some (.int .i64 a0_0) := by rw [hh.cell (by first | omega | (simp; done) | (simp; omega))]; first | (simp; done) | (simp [go_sem]; done)
  have ca01 : w1.cell? ⟨w.heap.size, 1, none⟩ = some (.slice s0_1 n0_1 c0_1) := by rw [hh.cell (by first | omega | (simp; done) | (simp; omega))]; first | (simp; done) | (simp [go_sem]; done)
  have ca02 : w1.cell? ⟨w.heap.size, 2, none⟩ = some (.slice s0_2 n0_2 c0_2) := by rw [hh.cell (by first | omega | (simp; done) | (simp; omega))]; first | (simp; done) | (simp [go_sem]; done)
  have za0 : w.heap.size < w1.heap.size := by have := hh.size; simp at this; omega
  have ya0 : w.heap.size < w1.heap.size := za0
  have ca10 : w1.cell? ⟨w.heap.size + 1, 0, none⟩ = some (.slice s1_0 n1_0 c1_0) := by rw [hh.cell (by first | omega | (simp; done) | (simp; omega))]; first | (simp; done) | (simp [go_sem]; done)
  have za1 : w.heap.size + 1 < w1.heap.size := by have := hh.size; simp at this; omega
  have ya1 : w.heap.size + 1 < w1.heap.size := za1
  have B0 : Below w.heap.size w w1 := hb
  clear hb hh
  go_wp2_with fail
  refine (szBook_on n1_0 X1_0 Y1_0 K1_0 V1_0 s1_0 c1_0 _ _ (by omega) (by omega) (by omega) (HR1.out.below B0)).mono ?_
  rintro e w2 ⟨rfl, hh⟩
  have hb : Below w1.heap.size w1 w2 := Below.trans (by repeat (first | with_reducible exact Below.refl _ _ | with_reducible refine Below.setCell ?_ (by first | omega | (simp; done) | (simp; omega)) _ | with_reducible refine bDrewN ?_ _ | with_reducible refine Below.drew ?_ | with_reducible refine Below.alloc ?_ (by first | omega | (simp; done) | (simp; omega)) _)) (hh.mono (by first | omega | (simp; done) | (simp; omega)))
  have lw2 : w1.heap.size ≤ w2.heap.size := hb.size
  replace ca00 := (hb.cell (p := ⟨w.heap.size, 0, none⟩) za0).trans ca00
  replace ca01 := (hb.cell (p := ⟨w.heap.size, 1, none⟩) za0).trans ca01
  replace ca02 := (hb.cell (p := ⟨w.heap.size, 2, none⟩) za0).trans ca02
  replace za0 := Nat.lt_of_lt_of_le za0 hb.size
  replace ca10 := (hb.cell (p := ⟨w.heap.size + 1, 0, none⟩) za1).trans ca10
  replace za1 := Nat.lt_of_lt_of_le za1 hb.size
  replace B0 : Below w.heap.size w w2 := B0.trans (hb.mono B0.size)
  clear hb hh
  go_upto_region 8 with fail
  have HB : Hid (Below w.heap.size w w2) := B0
  go_cut [8] (fun y0 wx => mayOpenRes w2 ar0 y0 wx)
  case first =>
    go_region_held3 (fun w' => w'.cell? ⟨w.heap.size, 0, none⟩ = some (.int .i64 a0_0) ∧ w'.cell? ⟨w.heap.size, 1, none⟩ = some (.slice s0_1 n0_1 c0_1) ∧ w'.cell? ⟨w.heap.size, 2, none⟩ = some (.slice s0_2 n0_2 c0_2) ∧ w'.cell? ⟨w.heap.size + 1, 0, none⟩ = some (.slice s1_0 n1_0 c1_0)) (first | with_reducible exact ⟨ca00, ca01, ca02, ca10⟩ | (refine keepArgs ca00 ca01 ca02 ca10 za0 za1 ?_; exact (by repeat (first | with_reducible exact Below.refl _ _ | with_reducible exact B9 | with_reducible exact B71 | with_reducible exact B70 | with_reducible refine Below.setCell ?_ (by first | omega | (simp; done) | (simp; omega)) _ | with_reducible refine bDrewN ?_ _ | with_reducible refine Below.drew ?_ | with_reducible refine Below.alloc ?_ (by first | omega | (simp; done) | (simp; omega)) _)))) (first
      | (go_at_call 28; refine (H1.out st0_1 st0_2 st1_0 _ (PY1_0.out.below (by repeat (first | with_reducible exact Below.refl _ _ | with_reducible refine Below.setCell ?_ (by first | omega | (simp; done) | (simp; omega)) _ | with_reducible refine bDrewN ?_ _ | with_reducible refine Below.drew ?_ | with_reducible refine Below.alloc ?_ (by first | omega | (simp; done) | (simp; omega)) _))) (PY1_1.out.below (by repeat (first | with_reducible exact Below.refl _ _ | with_reducible refine Below.setCell ?_ (by first | omega | (simp; done) | (simp; omega)) _ | with_reducible refine bDrewN ?_ _ | with_reducible refine Below.drew ?_ | with_reducible refine Below.alloc ?_ (by first | omega | (simp; done) | (simp; omega)) _)))).mono ?_; rintro e wy2 ⟨rfl, h9⟩; have hy2 : Below wy1.heap.size wy1 wy2 := Below.trans (by repeat (first | with_reducible exact Below.refl _ _ | with_reducible refine Below.setCell ?_ (by first | omega | (simp; done) | (simp; omega)) _ | with_reducible refine bDrewN ?_ _ | with_reducible refine Below.drew ?_ | with_reducible refine Below.alloc ?_ (by first | omega | (simp; done) | (simp; omega)) _)) (h9.mono (by first | omega | (simp; done) | (simp; omega))); have B9 : Below w2.heap.size w2 wy2 := B71.trans (hy2.mono B71.size); have s9 := B9.size; have sy2 := hy2.size; clear h9 )
      | (go_at_call 19; have hq1 := B70; refine (toBook_r n1_0 X1_0 Y1_0 K1_0 V1_0 s1_0 c1_0 _ hn1_0 (HR1.out.below (HB.out.trans (Below.mono (by repeat (first | with_reducible exact Below.refl _ _ | with_reducible exact B70 | with_reducible refine Below.setCell ?_ (by first | omega | (simp; done) | (simp; omega)) _ | with_reducible refine bDrewN ?_ _ | with_reducible refine Below.drew ?_ | with_reducible refine Below.alloc ?_ (by first | omega | (simp; done) | (simp; omega)) _)) HB.out.size)))).mono ?_; rintro e wy1 ⟨st1_0, St1, rfl, -, OY1, h71⟩; have hy1 : Below wy0.heap.size wy0 wy1 := Below.trans (by repeat (first | with_reducible exact Below.refl _ _ | with_reducible refine Below.setCell ?_ (by first | omega | (simp; done) | (simp; omega)) _ | with_reducible refine bDrewN ?_ _ | with_reducible refine Below.drew ?_ | with_reducible refine Below.alloc ?_ (by first | omega | (simp; done) | (simp; omega)) _)) (h71.mono (by first | omega | (simp; done) | (simp; omega))); have B71 : Below w2.heap.size w2 wy1 := B70.trans (hy1.mono B70.size); have s71 := B71.size; have sy1 := hy1.size; have PY1_1 : Hid (RowBook wy1 st1_0 n1_0 X1_0 Y1_0 K1_0 V1_0) := OY1.row; have PY1_0 : Hid (RowNet wy1 st0_1 n0_1 V0_1 st0_2 n0_2 V0_2) := PY0_0.out.below hy1; clear h71 OY1)
      | (go_at_call 10; refine (toNet_r a0_0 n0_1 V0_1 n0_2 V0_2 s0_1 c0_1 s0_2 c0_2 _ hn0_1 hn0_2 (HR0.out.below (HB.out.trans (Below.mono (by repeat (first | with_reducible exact Below.refl _ _ | with_reducible refine Below.setCell ?_ (by first | omega | (simp; done) | (simp; omega)) _ | with_reducible refine bDrewN ?_ _ | with_reducible refine Below.drew ?_ | with_reducible refine Below.alloc ?_ (by first | omega | (simp; done) | (simp; omega)) _)) HB.out.size)))).mono ?_; rintro e wy0 ⟨st0_1, st0_2, St0, rfl, -, OY0, h70⟩; have hy0 : Below w2.heap.size w2 wy0 := Below.trans (by repeat (first | with_reducible exact Below.refl _ _ | with_reducible refine Below.setCell ?_ (by first | omega | (simp; done) | (simp; omega)) _ | with_reducible refine bDrewN ?_ _ | with_reducible refine Below.drew ?_ | with_reducible refine Below.alloc ?_ (by first | omega | (simp; done) | (simp; omega)) _)) (h70.mono (by first | omega | (simp; done) | (simp; omega))); have B70 : Below w2.heap.size w2 wy0 := hy0; have s70 := B70.size; have sy0 := hy0.size; have PY0_0 : Hid (RowNet wy0 st0_1 n0_1 V0_1 st0_2 n0_2 V0_2) := OY0.row; clear h70 OY0))
    all_goals
      go_wp2_with fail
      go_meet
      refine ⟨rfl, ?_⟩
      · exact (by repeat (first | with_reducible exact Below.refl _ _ | with_reducible exact B9 | with_reducible refine Below.setCell ?_ (by first | omega | (simp; done) | (simp; omega)) _ | with_reducible refine bDrewN ?_ _ | with_reducible refine Below.drew ?_ | with_reducible refine Below.alloc ?_ (by first | omega | (simp; done) | (simp; omega)) _))
  obtain ⟨rfl, hb⟩ := hcut
  rename World => w3
  have lw3 : w2.heap.size ≤ w3.heap.size := hb.size
  replace ca00 := (hb.cell (p := ⟨w.heap.size, 0, none⟩) za0).trans ca00
  replace ca01 := (hb.cell (p := ⟨w.heap.size, 1, none⟩) za0).trans ca01
  replace ca02 := (hb.cell (p := ⟨w.heap.size, 2, none⟩) za0).trans ca02
  replace za0 := Nat.lt_of_lt_of_le za0 hb.size
  replace ca10 := (hb.cell (p := ⟨w.heap.size + 1, 0, none⟩) za1).trans ca10
  replace za1 := Nat.lt_of_lt_of_le za1 hb.size
  replace B0 : Below w.heap.size w w3 := B0.trans (hb.mono B0.size)
  clear hb HB
  have Bs : Below w3.heap.size w3 w3 := Below.refl _ _
  go_wp2_with fail
  refine (toNet_r a0_0 n0_1 V0_1 n0_2 V0_2 s0_1 c0_1 s0_2 c0_2 _ hn0_1 hn0_2 (HR0.out.below B0)).mono ?_
  rintro e w4 ⟨sx0_1, sx0_2, Sx0, rfl, Q, O, hh⟩
  have hb : Below w3.heap.size w3 w4 := Below.trans (by repeat (first | with_reducible exact Below.refl _ _ | with_reducible refine Below.setCell ?_ (by first | omega | (simp; done) | (simp; omega)) _ | with_reducible refine bDrewN ?_ _ | with_reducible refine Below.drew ?_ | with_reducible refine Below.alloc ?_ (by first | omega | (simp; done) | (simp; omega)) _)) (hh.mono (by first | omega | (simp; done) | (simp; omega)))
  have lw4 : w3.heap.size ≤ w4.heap.size := hb.size
  replace ca00 := (hb.cell (p := ⟨w.heap.size, 0, none⟩) za0).trans ca00
  replace ca01 := (hb.cell (p := ⟨w.heap.size, 1, none⟩) za0).trans ca01
  replace ca02 := (hb.cell (p := ⟨w.heap.size, 2, none⟩) za0).trans ca02
  replace za0 := Nat.lt_of_lt_of_le za0 hb.size
  replace ca10 := (hb.cell (p := ⟨w.heap.size + 1, 0, none⟩) za1).trans ca10
  replace za1 := Nat.lt_of_lt_of_le za1 hb.size
  replace Bs : Below w3.heap.size w3 w4 := Bs.trans (hb.mono Bs.size)
  replace B0 : Below w.heap.size w w4 := B0.trans (hb.mono B0.size)
  clear hb hh
  have Qx0 : Hid (∀ k, Sx0 k → w3.heap.size ≤ k ∧ k < w4.heap.size) := (show ∀ k, Sx0 k → w3.heap.size ≤ k ∧ k < w4.heap.size from by simpa using Q)
  have Ox0 : Hid (NetR Sx0 w4 sx0_1 n0_1 V0_1 sx0_2 n0_2 V0_2) := O
  clear O Q
  go_wp2_with fail
  refine (toBook_r n1_0 X1_0 Y1_0 K1_0 V1_0 s1_0 c1_0 _ hn1_0 ((HR1.out.below B0).below (below0 _ _))).mono ?_
  rintro e w5 ⟨sx1_0, Sx1, rfl, Q, O, hh⟩
  have hb : Below w4.heap.size w4 w5 := Below.trans (by repeat (first | with_reducible exact Below.refl _ _ | with_reducible refine Below.setCell ?_ (by first | omega | (simp; done) | (simp; omega)) _ | with_reducible refine bDrewN ?_ _ | with_reducible refine Below.drew ?_ | with_reducible refine Below.alloc ?_ (by first | omega | (simp; done) | (simp; omega)) _)) (hh.mono (by first | omega | (simp; done) | (simp; omega)))
  have lw5 : w4.heap.size ≤ w5.heap.size := hb.size
  have cx00 : w5.cell? ⟨w4.heap.size, 0, none⟩ = some (.int .i64 a0_0) := by rw [hh.cell (by first | omega | (simp; done) | (simp; omega))]; first | (simp; done) | (simp [go_sem]; done)
  have cx01 : w5.cell? ⟨w4.heap.size, 1, none⟩ = some (.slice sx0_1 n0_1 n0_1) := by rw [hh.cell (by first | omega | (simp; done) | (simp; omega))]; first | (simp; done) | (simp [go_sem]; done)
  have cx02 : w5.cell? ⟨w4.heap.size, 2, none⟩ = some (.slice sx0_2 n0_2 n0_2) := by rw [hh.cell (by first | omega | (simp; done) | (simp; omega))]; first | (simp; done) | (simp [go_sem]; done)
  have zx0 : w4.heap.size < w5.heap.size := by have := hh.size; simp at this; omega
  have yx0 : w4.heap.size < w5.heap.size := zx0
  replace ca00 := (hb.cell (p := ⟨w.heap.size, 0, none⟩) za0).trans ca00
  replace ca01 := (hb.cell (p := ⟨w.heap.size, 1, none⟩) za0).trans ca01
  replace ca02 := (hb.cell (p := ⟨w.heap.size, 2, none⟩) za0).trans ca02
  replace za0 := Nat.lt_of_lt_of_le za0 hb.size
  replace ca10 := (hb.cell (p := ⟨w.heap.size + 1, 0, none⟩) za1).trans ca10
  replace za1 := Nat.lt_of_lt_of_le za1 hb.size
  replace Ox0 : Hid (NetR Sx0 w5 sx0_1 n0_1 V0_1 sx0_2 n0_2 V0_2) := Ox0.out.below hb
  replace Bs : Below w3.heap.size w3 w5 := Bs.trans (hb.mono Bs.size)
  replace B0 : Below w.heap.size w w5 := B0.trans (hb.mono B0.size)
  clear hb hh
  have Qx1 : Hid (∀ k, Sx1 k → w4.heap.size + 1 ≤ k ∧ k < w5.heap.size) := (show ∀ k, Sx1 k → w4.heap.size + 1 ≤ k ∧ k < w5.heap.size from by simpa using Q)
  have Ox1 : Hid (BookR Sx1 w5 sx1_0 n1_0 X1_0 Y1_0 K1_0 V1_0) := O
  clear O Q
  go_wp2_with fail
  refine (H2.out sx0_1 sx0_2 sx1_0 _ ((Ox0.out.row).below (below0 _ _)) ((Ox1.out.row).below (below0 _ _))).mono ?_
  rintro e w6 ⟨rfl, hh⟩
  have hb : Below w5.heap.size w5 w6 := Below.trans (by repeat (first | with_reducible exact Below.refl _ _ | with_reducible refine Below.setCell ?_ (by first | omega | (simp; done) | (simp; omega)) _ | with_reducible refine bDrewN ?_ _ | with_reducible refine Below.drew ?_ | with_reducible refine Below.alloc ?_ (by first | omega | (simp; done) | (simp; omega)) _)) (hh.mono (by first | omega | (simp; done) | (simp; omega)))
  have lw6 : w5.heap.size ≤ w6.heap.size := hb.size
  have cx10 : w6.cell? ⟨w5.heap.size, 0, none⟩ = some (.slice sx1_0 n1_0 n1_0) := by rw [hh.cell (by first | omega | (simp; done) | (simp; omega))]; first | (simp; done) | (simp [go_sem]; done)
  have zx1 : w5.heap.size < w6.heap.size := by have := hh.size; simp at this; omega
  have yx1 : w5.heap.size < w6.heap.size := zx1
  replace ca00 := (hb.cell (p := ⟨w.heap.size, 0, none⟩) za0).trans ca00
  replace ca01 := (hb.cell (p := ⟨w.heap.size, 1, none⟩) za0).trans ca01
  replace ca02 := (hb.cell (p := ⟨w.heap.size, 2, none⟩) za0).trans ca02
  replace za0 := Nat.lt_of_lt_of_le za0 hb.size
  replace ca10 := (hb.cell (p := ⟨w.heap.size + 1, 0, none⟩) za1).trans ca10
  replace za1 := Nat.lt_of_lt_of_le za1 hb.size
  replace cx00 := (hb.cell (p := ⟨w4.heap.size, 0, none⟩) zx0).trans cx00
  replace cx01 := (hb.cell (p := ⟨w4.heap.size, 1, none⟩) zx0).trans cx01
  replace cx02 := (hb.cell (p := ⟨w4.heap.size, 2, none⟩) zx0).trans cx02
  replace zx0 := Nat.lt_of_lt_of_le zx0 hb.size
  replace Ox0 : Hid (NetR Sx0 w6 sx0_1 n0_1 V0_1 sx0_2 n0_2 V0_2) := Ox0.out.below hb
  replace Ox1 : Hid (BookR Sx1 w6 sx1_0 n1_0 X1_0 Y1_0 K1_0 V1_0) := Ox1.out.below hb
  replace Bs : Below w3.heap.size w3 w6 := Bs.trans (hb.mono Bs.size)
  replace B0 : Below w.heap.size w w6 := B0.trans (hb.mono B0.size)
  clear hb hh
  go_upto_region 14 with fail
  have HB : Hid (Below w.heap.size w w6) := B0
  go_cut [43] (fun y wx => y = .bool false ∧ Below w6.heap.size w6 wx)
  case first =>
    go_region_held3 (fun w' => w'.cell? ⟨w.heap.size, 0, none⟩ = some (.int .i64 a0_0) ∧ w'.cell? ⟨w.heap.size, 1, none⟩ = some (.slice s0_1 n0_1 c0_1) ∧ w'.cell? ⟨w.heap.size, 2, none⟩ = some (.slice s0_2 n0_2 c0_2) ∧ w'.cell? ⟨w4.heap.size, 0, none⟩ = some (.int .i64 a0_0) ∧ w'.cell? ⟨w4.heap.size, 1, none⟩ = some (.slice sx0_1 n0_1 n0_1) ∧ w'.cell? ⟨w4.heap.size, 2, none⟩ = some (.slice sx0_2 n0_2 n0_2)) (first | (exact ⟨ca00, ca01, ca02, cx00, cx01, cx02⟩) | (refine keepLaw3_3 ca00 ca01 ca02 cx00 cx01 cx02 za0 zx0 ?_; exact (by repeat (first | with_reducible exact Below.refl _ _ | with_reducible exact B8 | with_reducible exact B7 | with_reducible refine Below.setCell ?_ (by first | omega | (simp; done) | (simp; omega)) _ | with_reducible refine bDrewN ?_ _ | with_reducible refine Below.drew ?_ | with_reducible refine Below.alloc ?_ (by first | omega | (simp; done) | (simp; omega)) _)))) (first
      | (go_at_call 10; refine (toNet_r a0_0 n0_1 V0_1 n0_2 V0_2 s0_1 c0_1 s0_2 c0_2 _ hn0_1 hn0_2 (HR0.out.below (HB.out.trans (Below.mono (by repeat (first | with_reducible exact Below.refl _ _ | with_reducible refine Below.setCell ?_ (by first | omega | (simp; done) | (simp; omega)) _ | with_reducible refine bDrewN ?_ _ | with_reducible refine Below.drew ?_ | with_reducible refine Below.alloc ?_ (by first | omega | (simp; done) | (simp; omega)) _)) HB.out.size)))).mono ?_; rintro e wy ⟨sy0_1, sy0_2, Sy, rfl, -, OY, h7⟩; have B7 : Below w6.heap.size w6 wy := Below.trans (by repeat (first | with_reducible exact Below.refl _ _ | with_reducible refine Below.setCell ?_ (by first | omega | (simp; done) | (simp; omega)) _ | with_reducible refine bDrewN ?_ _ | with_reducible refine Below.drew ?_ | with_reducible refine Below.alloc ?_ (by first | omega | (simp; done) | (simp; omega)) _)) (h7.mono (by first | omega | (simp; done) | (simp; omega))); have s7 := B7.size; have PY : Hid (RowNet wy sy0_1 n0_1 V0_1 sy0_2 n0_2 V0_2) := OY.row; have PX : Hid (RowNet wy sx0_1 n0_1 V0_1 sx0_2 n0_2 V0_2) := Ox0.out.row.below B7; clear h7 OY)
      | (go_at_call 12; refine (eqNet_r a0_0 n0_1 V0_1 n0_2 V0_2 sx0_1 n0_1 sx0_2 n0_2 sy0_1 n0_1 sy0_2 n0_2 _ hn0_1 hn0_2 PX.out PY.out).mono ?_; rintro e wz ⟨rfl, h8⟩; have B8 : Below w6.heap.size w6 wz := Below.trans (by repeat (first | with_reducible exact Below.refl _ _ | with_reducible exact B7 | with_reducible refine Below.setCell ?_ (by first | omega | (simp; done) | (simp; omega)) _ | with_reducible refine bDrewN ?_ _ | with_reducible refine Below.drew ?_ | with_reducible refine Below.alloc ?_ (by first | omega | (simp; done) | (simp; omega)) _)) (h8.mono (by first | omega | (simp; done) | (simp; omega))); clear h8))
    all_goals
      go_wp2_with fail
      go_meet
      exact ⟨rfl, B8⟩
  obtain ⟨rfl, hb⟩ := hcut
  rename World => w7
  have lw7 : w6.heap.size ≤ w7.heap.size := hb.size
  replace ca00 := (hb.cell (p := ⟨w.heap.size, 0, none⟩) za0).trans ca00
  replace ca01 := (hb.cell (p := ⟨w.heap.size, 1, none⟩) za0).trans ca01
  replace ca02 := (hb.cell (p := ⟨w.heap.size, 2, none⟩) za0).trans ca02
  replace za0 := Nat.lt_of_lt_of_le za0 hb.size
  replace ca10 := (hb.cell (p := ⟨w.heap.size + 1, 0, none⟩) za1).trans ca10
  replace za1 := Nat.lt_of_lt_of_le za1 hb.size
  replace cx00 := (hb.cell (p := ⟨w4.heap.size, 0, none⟩) zx0).trans cx00
  replace cx01 := (hb.cell (p := ⟨w4.heap.size, 1, none⟩) zx0).trans cx01
  replace cx02 := (hb.cell (p := ⟨w4.heap.size, 2, none⟩) zx0).trans cx02
  replace zx0 := Nat.lt_of_lt_of_le zx0 hb.size
  replace cx10 := (hb.cell (p := ⟨w5.heap.size, 0, none⟩) zx1).trans cx10
  replace zx1 := Nat.lt_of_lt_of_le zx1 hb.size
  replace Ox0 : Hid (NetR Sx0 w7 sx0_1 n0_1 V0_1 sx0_2 n0_2 V0_2) := Ox0.out.below hb
  replace Ox1 : Hid (BookR Sx1 w7 sx1_0 n1_0 X1_0 Y1_0 K1_0 V1_0) := Ox1.out.below hb
  replace Bs : Below w3.heap.size w3 w7 := Bs.trans (hb.mono Bs.size)
  replace B0 : Below w.heap.size w w7 := B0.trans (hb.mono B0.size)
  clear hb HB
  go_upto_region 16 with fail
  have HB : Hid (Below w.heap.size w w7) := B0
  go_cut [48] (fun y wx => y = .bool false ∧ Below w7.heap.size w7 wx)
  case first =>
    go_region_held3 (fun w' => w'.cell? ⟨w.heap.size + 1, 0, none⟩ = some (.slice s1_0 n1_0 c1_0) ∧ w'.cell? ⟨w5.heap.size, 0, none⟩ = some (.slice sx1_0 n1_0 n1_0)) (first | (exact ⟨ca10, cx10⟩) | (refine keepLaw1_1 ca10 cx10 za1 zx1 ?_; exact (by repeat (first | with_reducible exact Below.refl _ _ | with_reducible exact B8 | with_reducible exact B7 | with_reducible refine Below.setCell ?_ (by first | omega | (simp; done) | (simp; omega)) _ | with_reducible refine bDrewN ?_ _ | with_reducible refine Below.drew ?_ | with_reducible refine Below.alloc ?_ (by first | omega | (simp; done) | (simp; omega)) _)))) (first
      | (go_at_call 19; refine (toBook_r n1_0 X1_0 Y1_0 K1_0 V1_0 s1_0 c1_0 _ hn1_0 (HR1.out.below (HB.out.trans (Below.mono (by repeat (first | with_reducible exact Below.refl _ _ | with_reducible refine Below.setCell ?_ (by first | omega | (simp; done) | (simp; omega)) _ | with_reducible refine bDrewN ?_ _ | with_reducible refine Below.drew ?_ | with_reducible refine Below.alloc ?_ (by first | omega | (simp; done) | (simp; omega)) _)) HB.out.size)))).mono ?_; rintro e wy ⟨sy1_0, Sy, rfl, -, OY, h7⟩; have B7 : Below w7.heap.size w7 wy := Below.trans (by repeat (first | with_reducible exact Below.refl _ _ | with_reducible refine Below.setCell ?_ (by first | omega | (simp; done) | (simp; omega)) _ | with_reducible refine bDrewN ?_ _ | with_reducible refine Below.drew ?_ | with_reducible refine Below.alloc ?_ (by first | omega | (simp; done) | (simp; omega)) _)) (h7.mono (by first | omega | (simp; done) | (simp; omega))); have s7 := B7.size; have PY : Hid (RowBook wy sy1_0 n1_0 X1_0 Y1_0 K1_0 V1_0) := OY.row; have PX : Hid (RowBook wy sx1_0 n1_0 X1_0 Y1_0 K1_0 V1_0) := Ox1.out.row.below B7; clear h7 OY)
      | (go_at_call 21; refine (eqBook_r n1_0 X1_0 Y1_0 K1_0 V1_0 sx1_0 n1_0 sy1_0 n1_0 _ hn1_0 PX.out PY.out).mono ?_; rintro e wz ⟨rfl, h8⟩; have B8 : Below w7.heap.size w7 wz := Below.trans (by repeat (first | with_reducible exact Below.refl _ _ | with_reducible exact B7 | with_reducible refine Below.setCell ?_ (by first | omega | (simp; done) | (simp; omega)) _ | with_reducible refine bDrewN ?_ _ | with_reducible refine Below.drew ?_ | with_reducible refine Below.alloc ?_ (by first | omega | (simp; done) | (simp; omega)) _)) (h8.mono (by first | omega | (simp; done) | (simp; omega))); clear h8))
    all_goals
      go_wp2_with fail
      go_meet
      exact ⟨rfl, B8⟩
  obtain ⟨rfl, hb⟩ := hcut
  rename World => w8
  have lw8 : w7.heap.size ≤ w8.heap.size := hb.size
  replace ca00 := (hb.cell (p := ⟨w.heap.size, 0, none⟩) za0).trans ca00
  replace ca01 := (hb.cell (p := ⟨w.heap.size, 1, none⟩) za0).trans ca01
  replace ca02 := (hb.cell (p := ⟨w.heap.size, 2, none⟩) za0).trans ca02
  replace za0 := Nat.lt_of_lt_of_le za0 hb.size
  replace ca10 := (hb.cell (p := ⟨w.heap.size + 1, 0, none⟩) za1).trans ca10
  replace za1 := Nat.lt_of_lt_of_le za1 hb.size
  replace cx00 := (hb.cell (p := ⟨w4.heap.size, 0, none⟩) zx0).trans cx00
  replace cx01 := (hb.cell (p := ⟨w4.heap.size, 1, none⟩) zx0).trans cx01
  replace cx02 := (hb.cell (p := ⟨w4.heap.size, 2, none⟩) zx0).trans cx02
  replace zx0 := Nat.lt_of_lt_of_le zx0 hb.size
  replace cx10 := (hb.cell (p := ⟨w5.heap.size, 0, none⟩) zx1).trans cx10
  replace zx1 := Nat.lt_of_lt_of_le zx1 hb.size
  replace Ox0 : Hid (NetR Sx0 w8 sx0_1 n0_1 V0_1 sx0_2 n0_2 V0_2) := Ox0.out.below hb
  replace Ox1 : Hid (BookR Sx1 w8 sx1_0 n1_0 X1_0 Y1_0 K1_0 V1_0) := Ox1.out.below hb
  replace Bs : Below w3.heap.size w3 w8 := Bs.trans (hb.mono Bs.size)
  replace B0 : Below w.heap.size w w8 := B0.trans (hb.mono B0.size)
  clear hb HB
  go_wp2
  go_ret
  exact ⟨rfl, B0⟩
set_option maxHeartbeats 1600000 in
theorem mayOpen_farn0_1 (w : World) (a0_0 : Int) (n0_1 : Nat) (V0_1 : Nat → Int × Int) (n0_2 : Nat) (V0_2 : Nat → Int) (s0_1 : Option Addr) (c0_1 : Nat) (s0_2 : Option Addr) (c0_2 : Nat) (n1_0 : Nat) (X1_0 : Nat → Int) (Y1_0 : Nat → Int) (K1_0 : Nat → Nat) (V1_0 : Nat → Nat → Int) (s1_0 : Option Addr) (c1_0 : Nat) (a2 : Int)   (g : 1048576 < (n0_1 : Int)) (gg : (n0_1 : Int) ≤ 9223372036854775807)  :
    Calls Try.prog 7 #[.agg #[.int .i64 a0_0, .slice s0_1 n0_1 c0_1, .slice s0_2 n0_2 c0_2], .agg #[.slice s1_0 n1_0 c1_0], .int .i64 a2] w fun e w' => e = .returned (.bool true) ∧ Below w.heap.size w w' := by
  go_enter Try.func7, Try.ntmps7
  go_wp2_with fail
  refine (szNet_off1 a0_0 n0_1 V0_1 n0_2 V0_2 s0_1 c0_1 s0_2 c0_2 _ _ (by omega) (by omega) (by omega) (by omega)).mono ?_
  rintro e u1 ⟨rfl, hh⟩
  have hb : Below w.heap.size w u1 := Below.trans (by repeat (first | with_reducible exact Below.refl _ _ | with_reducible refine Below.setCell ?_ (by first | omega | (simp; done) | (simp; omega)) _ | with_reducible refine bDrewN ?_ _ | with_reducible refine Below.drew ?_ | with_reducible refine Below.alloc ?_ (by first | omega | (simp; done) | (simp; omega)) _)) (hh.mono (by first | omega | (simp; done) | (simp; omega)))
  have ca00 : u1.cell? ⟨w.heap.size, 0, none⟩ = some (.int .i64 a0_0) := by rw [hh.cell (by first | omega | (simp; done) | (simp; omega))]; first | (simp; done) | (simp [go_sem]; done)
  have ca01 : u1.cell? ⟨w.heap.size, 1, none⟩ = some (.slice s0_1 n0_1 c0_1) := by rw [hh.cell (by first | omega | (simp; done) | (simp; omega))]; first | (simp; done) | (simp [go_sem]; done)
  have ca02 : u1.cell? ⟨w.heap.size, 2, none⟩ = some (.slice s0_2 n0_2 c0_2) := by rw [hh.cell (by first | omega | (simp; done) | (simp; omega))]; first | (simp; done) | (simp [go_sem]; done)
  have za0 : w.heap.size < u1.heap.size := by have := hh.size; simp at this; omega
  have ca10 : u1.cell? ⟨w.heap.size + 1, 0, none⟩ = some (.slice s1_0 n1_0 c1_0) := by rw [hh.cell (by first | omega | (simp; done) | (simp; omega))]; first | (simp; done) | (simp [go_sem]; done)
  have za1 : w.heap.size + 1 < u1.heap.size := by have := hh.size; simp at this; omega
  have B0 := hb
  clear hb hh
  go_wp2
  go_ret
  exact ⟨rfl, (by repeat (first | with_reducible exact Below.refl _ _ | with_reducible exact B0 | with_reducible refine Below.setCell ?_ (by first | omega | (simp; done) | (simp; omega)) _ | with_reducible refine bDrewN ?_ _ | with_reducible refine Below.drew ?_ | with_reducible refine Below.alloc ?_ (by first | omega | (simp; done) | (simp; omega)) _))⟩
set_option maxHeartbeats 1600000 in
theorem mayOpen_farn0_2 (w : World) (a0_0 : Int) (n0_1 : Nat) (V0_1 : Nat → Int × Int) (n0_2 : Nat) (V0_2 : Nat → Int) (s0_1 : Option Addr) (c0_1 : Nat) (s0_2 : Option Addr) (c0_2 : Nat) (n1_0 : Nat) (X1_0 : Nat → Int) (Y1_0 : Nat → Int) (K1_0 : Nat → Nat) (V1_0 : Nat → Nat → Int) (s1_0 : Option Addr) (c1_0 : Nat) (a2 : Int)  (gn0_1 : (n0_1 : Int) ≤ 1048576) (g : 1048576 - n0_1 < (n0_2 : Int)) (gg : (n0_2 : Int) ≤ 9223372036854775807)  :
    Calls Try.prog 7 #[.agg #[.int .i64 a0_0, .slice s0_1 n0_1 c0_1, .slice s0_2 n0_2 c0_2], .agg #[.slice s1_0 n1_0 c1_0], .int .i64 a2] w fun e w' => e = .returned (.bool true) ∧ Below w.heap.size w w' := by
  go_enter Try.func7, Try.ntmps7
  go_wp2_with fail
  refine (szNet_off2 a0_0 n0_1 V0_1 n0_2 V0_2 s0_1 c0_1 s0_2 c0_2 _ _ (by omega) (by omega) (by omega) (by omega) (by omega)).mono ?_
  rintro e u1 ⟨rfl, hh⟩
  have hb : Below w.heap.size w u1 := Below.trans (by repeat (first | with_reducible exact Below.refl _ _ | with_reducible refine Below.setCell ?_ (by first | omega | (simp; done) | (simp; omega)) _ | with_reducible refine bDrewN ?_ _ | with_reducible refine Below.drew ?_ | with_reducible refine Below.alloc ?_ (by first | omega | (simp; done) | (simp; omega)) _)) (hh.mono (by first | omega | (simp; done) | (simp; omega)))
  have ca00 : u1.cell? ⟨w.heap.size, 0, none⟩ = some (.int .i64 a0_0) := by rw [hh.cell (by first | omega | (simp; done) | (simp; omega))]; first | (simp; done) | (simp [go_sem]; done)
  have ca01 : u1.cell? ⟨w.heap.size, 1, none⟩ = some (.slice s0_1 n0_1 c0_1) := by rw [hh.cell (by first | omega | (simp; done) | (simp; omega))]; first | (simp; done) | (simp [go_sem]; done)
  have ca02 : u1.cell? ⟨w.heap.size, 2, none⟩ = some (.slice s0_2 n0_2 c0_2) := by rw [hh.cell (by first | omega | (simp; done) | (simp; omega))]; first | (simp; done) | (simp [go_sem]; done)
  have za0 : w.heap.size < u1.heap.size := by have := hh.size; simp at this; omega
  have ca10 : u1.cell? ⟨w.heap.size + 1, 0, none⟩ = some (.slice s1_0 n1_0 c1_0) := by rw [hh.cell (by first | omega | (simp; done) | (simp; omega))]; first | (simp; done) | (simp [go_sem]; done)
  have za1 : w.heap.size + 1 < u1.heap.size := by have := hh.size; simp at this; omega
  have B0 := hb
  clear hb hh
  go_wp2
  go_ret
  exact ⟨rfl, (by repeat (first | with_reducible exact Below.refl _ _ | with_reducible exact B0 | with_reducible refine Below.setCell ?_ (by first | omega | (simp; done) | (simp; omega)) _ | with_reducible refine bDrewN ?_ _ | with_reducible refine Below.drew ?_ | with_reducible refine Below.alloc ?_ (by first | omega | (simp; done) | (simp; omega)) _))⟩
set_option maxHeartbeats 1600000 in
theorem mayOpen_farn1_0 (w : World) (a0_0 : Int) (n0_1 : Nat) (V0_1 : Nat → Int × Int) (n0_2 : Nat) (V0_2 : Nat → Int) (s0_1 : Option Addr) (c0_1 : Nat) (s0_2 : Option Addr) (c0_2 : Nat) (n1_0 : Nat) (X1_0 : Nat → Int) (Y1_0 : Nat → Int) (K1_0 : Nat → Nat) (V1_0 : Nat → Nat → Int) (s1_0 : Option Addr) (c1_0 : Nat) (a2 : Int)  (gn0_1 : (n0_1 : Int) ≤ 1048576) (gn0_2 : (n0_2 : Int) ≤ 1048576 - n0_1) (g : 1048576 - n0_1 - n0_2 < ((n1_0 : Int) + (suK K1_0 n1_0 : Int))) (gg : (n1_0 : Int) ≤ 9223372036854775807) (k63 : ∀ i, i < n1_0 → (K1_0 i : Int) ≤ 9223372036854775807) (HR1 : Hid (RowBook w s1_0 n1_0 X1_0 Y1_0 K1_0 V1_0)) :
    Calls Try.prog 7 #[.agg #[.int .i64 a0_0, .slice s0_1 n0_1 c0_1, .slice s0_2 n0_2 c0_2], .agg #[.slice s1_0 n1_0 c1_0], .int .i64 a2] w fun e w' => e = .returned (.bool true) ∧ Below w.heap.size w w' := by
  go_enter Try.func7, Try.ntmps7
  go_wp2_with fail
  refine (szNet_on a0_0 n0_1 V0_1 n0_2 V0_2 s0_1 c0_1 s0_2 c0_2 _ _ (by omega) (by omega) (by omega) (by omega)).mono ?_
  rintro e u1 ⟨rfl, hh⟩
  have hb : Below w.heap.size w u1 := Below.trans (by repeat (first | with_reducible exact Below.refl _ _ | with_reducible refine Below.setCell ?_ (by first | omega | (simp; done) | (simp; omega)) _ | with_reducible refine bDrewN ?_ _ | with_reducible refine Below.drew ?_ | with_reducible refine Below.alloc ?_ (by first | omega | (simp; done) | (simp; omega)) _)) (hh.mono (by first | omega | (simp; done) | (simp; omega)))
  have ca00 : u1.cell? ⟨w.heap.size, 0, none⟩ = some (.int .i64 a0_0) := by rw [hh.cell (by first | omega | (simp; done) | (simp; omega))]; first | (simp; done) | (simp [go_sem]; done)
  have ca01 : u1.cell? ⟨w.heap.size, 1, none⟩ = some (.slice s0_1 n0_1 c0_1) := by rw [hh.cell (by first | omega | (simp; done) | (simp; omega))]; first | (simp; done) | (simp [go_sem]; done)
  have ca02 : u1.cell? ⟨w.heap.size, 2, none⟩ = some (.slice s0_2 n0_2 c0_2) := by rw [hh.cell (by first | omega | (simp; done) | (simp; omega))]; first | (simp; done) | (simp [go_sem]; done)
  have za0 : w.heap.size < u1.heap.size := by have := hh.size; simp at this; omega
  have ca10 : u1.cell? ⟨w.heap.size + 1, 0, none⟩ = some (.slice s1_0 n1_0 c1_0) := by rw [hh.cell (by first | omega | (simp; done) | (simp; omega))]; first | (simp; done) | (simp [go_sem]; done)
  have za1 : w.heap.size + 1 < u1.heap.size := by have := hh.size; simp at this; omega
  have B0 := hb
  clear hb hh
  go_wp2_with fail
  refine (szBook_off0 n1_0 X1_0 Y1_0 K1_0 V1_0 s1_0 c1_0 _ _ (by omega) (by omega) (by omega) gg k63 (HR1.out.below (by repeat (first | with_reducible exact Below.refl _ _ | with_reducible exact B0 | with_reducible refine Below.setCell ?_ (by first | omega | (simp; done) | (simp; omega)) _ | with_reducible refine bDrewN ?_ _ | with_reducible refine Below.drew ?_ | with_reducible refine Below.alloc ?_ (by first | omega | (simp; done) | (simp; omega)) _)))).mono ?_
  rintro e u2 ⟨rfl, hh⟩
  have hb : Below u1.heap.size u1 u2 := Below.trans (by repeat (first | with_reducible exact Below.refl _ _ | with_reducible refine Below.setCell ?_ (by first | omega | (simp; done) | (simp; omega)) _ | with_reducible refine bDrewN ?_ _ | with_reducible refine Below.drew ?_ | with_reducible refine Below.alloc ?_ (by first | omega | (simp; done) | (simp; omega)) _)) (hh.mono (by first | omega | (simp; done) | (simp; omega)))
  replace ca00 := (hb.cell (p := ⟨w.heap.size, 0, none⟩) za0).trans ca00
  replace ca01 := (hb.cell (p := ⟨w.heap.size, 1, none⟩) za0).trans ca01
  replace ca02 := (hb.cell (p := ⟨w.heap.size, 2, none⟩) za0).trans ca02
  replace za0 := Nat.lt_of_lt_of_le za0 hb.size
  replace ca10 := (hb.cell (p := ⟨w.heap.size + 1, 0, none⟩) za1).trans ca10
  replace za1 := Nat.lt_of_lt_of_le za1 hb.size
  replace B0 : Below w.heap.size w u2 := B0.trans (hb.mono B0.size)
  clear hb hh
  go_wp2
  go_ret
  exact ⟨rfl, (by repeat (first | with_reducible exact Below.refl _ _ | with_reducible exact B0 | with_reducible refine Below.setCell ?_ (by first | omega | (simp; done) | (simp; omega)) _ | with_reducible refine bDrewN ?_ _ | with_reducible refine Below.drew ?_ | with_reducible refine Below.alloc ?_ (by first | omega | (simp; done) | (simp; omega)) _))⟩
theorem fnExactMayOpen_walk (w : World) (a0_0 : Int) (s0_1 : Option Addr) (n0_1 c0_1 : Nat) (V0_1 : Nat → Int × Int) (s0_2 : Option Addr) (n0_2 c0_2 : Nat) (V0_2 : Nat → Int) (w0_0 : (Lit.int .i64 a0_0).wf = true) (m0_1 : n0_1 ≤ 9223372036854775807) (R0_1 : RowDuct w s0_1 n0_1 V0_1) (m0_2 : n0_2 ≤ 9223372036854775807) (R0_2 : RowI w s0_2 n0_2 V0_2) (s1_0 : Option Addr) (n1_0 c1_0 : Nat) (X1_0 : Nat → Int) (Y1_0 : Nat → Int) (K1_0 : Nat → Nat) (V1_0 : Nat → Nat → Int) (m1_0 : n1_0 ≤ 9223372036854775807) (mk1_0 : ∀ j, j < n1_0 → K1_0 j ≤ 9223372036854775807) (R1_0 : RowPer w s1_0 n1_0 X1_0 Y1_0 K1_0 V1_0) (a2 : Int) (w2 : (Lit.int .i64 a2).wf = true) :
    Calls Try.prog 7 #[.agg #[.int .i64 a0_0, .slice s0_1 n0_1 c0_1, .slice s0_2 n0_2 c0_2], .agg #[.slice s1_0 n1_0 c1_0], .int .i64 a2] w fun e w' => e = .returned (.bool true) ∧ Below w.heap.size w w' := by
  have k61_0 : ∀ i, i < n1_0 → (K1_0 i : Int) ≤ 9223372036854775807 := fun i hi => by have := mk1_0 i hi; omega
  by_cases gn0_1 : (n0_1 : Int) ≤ 1048576
  case neg => exact mayOpen_farn0_1 w a0_0 n0_1 V0_1 n0_2 V0_2 s0_1 c0_1 s0_2 c0_2 n1_0 X1_0 Y1_0 K1_0 V1_0 s1_0 c1_0 a2   (by omega) (by omega) 
  by_cases gn0_2 : (n0_2 : Int) ≤ 1048576 - n0_1
  case neg => exact mayOpen_farn0_2 w a0_0 n0_1 V0_1 n0_2 V0_2 s0_1 c0_1 s0_2 c0_2 n1_0 X1_0 Y1_0 K1_0 V1_0 s1_0 c1_0 a2  gn0_1 (by omega) (by omega) 
  by_cases gn1_0 : ((n1_0 : Int) + (suK K1_0 n1_0 : Int)) ≤ 1048576 - n0_1 - n0_2
  case neg => exact mayOpen_farn1_0 w a0_0 n0_1 V0_1 n0_2 V0_2 s0_1 c0_1 s0_2 c0_2 n1_0 X1_0 Y1_0 K1_0 V1_0 s1_0 c1_0 a2  gn0_1 gn0_2 (by omega) (by omega) k61_0 R1_0
  exact mayOpen_near w a0_0 n0_1 V0_1 n0_2 V0_2 s0_1 c0_1 s0_2 c0_2 (by omega) (by omega) ⟨R0_1, R0_2⟩ n1_0 X1_0 Y1_0 K1_0 V1_0 s1_0 c1_0 (by omega) R1_0 a2 (by omega) (by omega) (by omega) (mayB a0_0 n0_1 V0_1 n0_2 V0_2 n1_0 X1_0 Y1_0 K1_0 V1_0 a2) (fun s t b w q r => specMayOpen_any a0_0 s n0_1 n0_1 V0_1 t n0_2 n0_2 V0_2 b n1_0 n1_0 X1_0 Y1_0 K1_0 V1_0 a2 w (by omega) (by omega) q.1 q.2 (by omega) (Nat.le_refl _) (Per_each (by omega)) r) (fun s t b w q r => implMayOpen_any a0_0 s n0_1 n0_1 V0_1 t n0_2 n0_2 V0_2 b n1_0 n1_0 X1_0 Y1_0 K1_0 V1_0 a2 w (by omega) (by omega) q.1 q.2 (by omega) (Nat.le_refl _) (Per_each (by omega)) r)

set_option maxRecDepth 100000 in
theorem fnExactMayOpen_lifted (os : Os) (started : os.Started) (H : Type) (enc : TypeId × Value → H) :
    ReturnsInHanded {} Try.checked os 7 .any (Rows.fnExactMayOpenSpec.pre6 enc Try.prog Try.f7 Rows.fnExactMayOpenRow.domain false) (Rows.fnExactMayOpenSpec.post enc Try.prog Try.f7 false true false false) := by
  refine returnsInHanded_of_change (C := Try.checked) own started (by kernel_rfl) Try.func7
    (ChangeSpec.witness6 (enc := enc) (C := Try.checked) false ⟨#[], #[.agg #[.int .i64 0, .slice none 0 0, .slice none 0 0], .agg #[.slice none 0 0], .int .i64 0], []⟩ 8 (by kernel_rfl) (by kernel_rfl) (by kernel_rfl) (by kernel_rfl)) ?_
  intro W base args ds gs before hval0 hW hcnd _
  have hval : ∀ (j : Nat) t v, Try.f7.params[j]? = some t → args[j]? = some v → Value.okWide Try.prog W .any base t v := hval0
  have hW' := hW
  obtain ⟨p, q, hA0, hV, rfl, hfz, hnd⟩ := hW
  have hA : DataW.TrodAll enc Try.prog W 0 (fun _ => true) true Try.f7.params.toList args.toList ds p := hA0
  rw [Try.params7] at hA hval
  obtain ⟨v0, vs0, d0, ds0, p0, q0, hargs, rfl, rfl, h0, r0⟩ := trodAll_cons hA
  obtain ⟨v1, vs1, d1, ds1, p1, q1, rfl, rfl, rfl, h1, r1⟩ := trodAll_cons r0
  obtain ⟨v2, vs2, d2, ds2, p2, q2, rfl, rfl, rfl, h2, r2⟩ := trodAll_cons r1
  obtain ⟨rfl, rfl, rfl⟩ := trodAll_nil r2
  obtain rfl : args = #[v0, v1, v2] := by cases args; simp_all
  obtain ⟨rfl, rfl⟩ := trodVars_none hV
  have k0 := h0
  have lt0 : ∀ x ∈ p0, x.block < W.heap.size := by obtain ⟨m, hm⟩ := k0; exact DataW.trod_lt m _ _ _ hm
  have k1 := h1
  have lt1 : ∀ x ∈ p1, x.block < W.heap.size := by obtain ⟨m, hm⟩ := k1; exact DataW.trod_lt m _ _ _ hm
  have k2 := h2
  have lt2 : ∀ x ∈ p2, x.block < W.heap.size := by obtain ⟨m, hm⟩ := k2; exact DataW.trod_lt m _ _ _ hm
  obtain ⟨a0_0, s0_1, n0_1, c0_1, V0_1, s0_2, n0_2, c0_2, V0_2, rfl, w0_0, m0_1, R0_1, m0_2, R0_2⟩ := open_Net (hval 0 25 v0 rfl rfl) h0
  obtain ⟨s1_0, n1_0, c1_0, X1_0, Y1_0, K1_0, V1_0, rfl, m1_0, mk1_0, R1_0⟩ := open_Book (hval 1 40 v1 rfl rfl) h1
  obtain ⟨a2, rfl, rfl, rfl, w2⟩ := open_int Try.underlying2 (hval 2 2 v2 rfl rfl) h2
  clear hA0 hval0
  refine (fnExactMayOpen_walk W a0_0 s0_1 n0_1 c0_1 V0_1 s0_2 n0_2 c0_2 V0_2 w0_0 m0_1 R0_1 m0_2 R0_2 s1_0 n1_0 c1_0 X1_0 Y1_0 K1_0 V1_0 m1_0 mk1_0 R1_0 a2 w2).mono fun e W' ⟨he, bel⟩ => ?_
  subst he
  exact ⟨_, rfl, _, _, _, [], _, [], hW', trodAll_mk1 (shut_bool Try.underlying4 _), (trodAll_cons_mk (Below.trod laidOut (by kernel_rfl) (of_decide_eq_true (by kernel_rfl)) k0 bel lt0) (trodAll_cons_mk (Below.trod laidOut (by kernel_rfl) (of_decide_eq_true (by kernel_rfl)) k1 bel lt1) (trodAll_cons_mk (Below.trod laidOut (by kernel_rfl) (of_decide_eq_true (by kernel_rfl)) k2 bel lt2) trodAll_mk0))), rfl, bel.frame _, fun h => by cases h⟩

theorem fnExactMayOpen_holds : Rows.FnExactMayOpenSaid :=
  OpenClaim.holds_of_wide 7 Try.f7 rfl rfl rfl rfl rfl rfl rfl ⟨rfl, rfl, rfl, rfl, rfl⟩ rfl rfl rfl rfl rfl (by kernel_rfl) Try.func7 (by kernel_rfl)
    (of_decide_eq_true (by kernel_rfl)) (by unfold Func.isWrapper; first | (rw [if_pos (by decide +kernel)]; kernel_rfl) | (rw [if_neg (by decide +kernel)]; exact ⟨rfl, rfl⟩))
    (fun os started H enc _ => fnExactMayOpen_lifted os started H enc)
#print axioms fnExactMayOpen_holds
end Go.Proofs.Ytabmkklnbaomnaa
