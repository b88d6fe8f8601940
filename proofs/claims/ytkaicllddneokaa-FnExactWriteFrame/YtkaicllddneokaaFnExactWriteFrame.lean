/-
What is proved: at every frame impl.WriteFrame answers as the specification's WriteFrame, leaves the frame alone, and its answer owns its memory; no condition.
-/
import Derived.Test.YtkaicllddneokaaWfS
import Derived.Test.YtkaicllddneokaaWfI
import Derived.Test.YtkaicllddneokaaFmT
import Derived.Test.YtkaicllddneokaaFmE
import Derived.Test.YtkaicllddneokaaFmO
import Derived.Deep.RegionHeld3
import Derived.Deep.DeepCutAuto
namespace Go.Proofs.Ytkaicllddneokaa
set_option maxRecDepth 40000
open Go.ChangeShapes Go.WideShapes Go.ChangeAt Go.RowKit
set_option linter.unusedVariables false
set_option linter.unusedSimpArgs false

theorem keepF {W W' : World} {p r : Nat} {va0 va1 va2 vx0 vx1 vx2 : Value} (ha0 : W.cell? ⟨p, 0, none⟩ = some va0) (ha1 : W.cell? ⟨p, 1, none⟩ = some va1) (ha2 : W.cell? ⟨p, 2, none⟩ = some va2) (hx0 : W.cell? ⟨r, 0, none⟩ = some vx0) (hx1 : W.cell? ⟨r, 1, none⟩ = some vx1) (hx2 : W.cell? ⟨r, 2, none⟩ = some vx2) (zp : p < W.heap.size) (zr : r < W.heap.size) (hb : Below W.heap.size W W') : W'.cell? ⟨p, 0, none⟩ = some va0 ∧ W'.cell? ⟨p, 1, none⟩ = some va1 ∧ W'.cell? ⟨p, 2, none⟩ = some va2 ∧ W'.cell? ⟨r, 0, none⟩ = some vx0 ∧ W'.cell? ⟨r, 1, none⟩ = some vx1 ∧ W'.cell? ⟨r, 2, none⟩ = some vx2 :=
  ⟨(hb.cell (p := ⟨p, 0, none⟩) zp).trans ha0, (hb.cell (p := ⟨p, 1, none⟩) zp).trans ha1, (hb.cell (p := ⟨p, 2, none⟩) zp).trans ha2, (hb.cell (p := ⟨r, 0, none⟩) zr).trans hx0, (hb.cell (p := ⟨r, 1, none⟩) zr).trans hx1, (hb.cell (p := ⟨r, 2, none⟩) zr).trans hx2⟩
set_option maxHeartbeats 8000000 in
theorem write_near (w : World) (t q : Int) (s : Option Addr) (n c : Nat) (V : Nat → Int) (hn : (n : Int) ≤ 1048576) (HR : Hid (RowI w s n V)) (m : Nat) (U : Nat → Int) (hm : (m : Int) ≤ 1048576) (H1 : Hid (∀ (ad : Addr) (c : Nat) w, RowI w (some ad) n V → Calls Try.prog 11 #[.agg #[.int .i64 t, .int .i64 q, .slice (some ad) n c]] w fun e w' => ∃ s' c', e = .returned (.slice s' m c') ∧ OwnY w.heap.size w' s' m U ∧ Below w.heap.size w w')) (H2 : Hid (∀ (ad : Addr) (c : Nat) w, RowI w (some ad) n V → Calls Try.prog 13 #[.agg #[.int .i64 t, .int .i64 q, .slice (some ad) n c]] w fun e w' => ∃ s' c', e = .returned (.slice s' m c') ∧ OwnY w.heap.size w' s' m U ∧ Below w.heap.size w w')) :
    Calls Try.prog 4 #[.agg #[.int .i64 t, .int .i64 q, .slice s n c]] w fun e w' => e = .returned (.bool true) ∧ Below w.heap.size w w' := by
  have sto := store_sl
  go_enter Try.func4, Try.ntmps4
  go_wp2_with fail
  refine (szFrame_on t q s n c _ _ (by omega) (by omega) hn).mono ?_
  rintro e w1 ⟨rfl, hh⟩
  have hb : Below w.heap.size w w1 := Below.trans (by repeat (first | with_reducible exact Below.refl _ _ | with_reducible refine Below.setCell ?_ (by first | omega | (simp; done) | (simp; omega)) _ | with_reducible refine bDrewN ?_ _ | with_reducible refine Below.drew ?_ | with_reducible refine Below.alloc ?_ (by first | omega | (simp; done) | (simp; omega)) _)) (hh.mono (by first | omega | (simp; done) | (simp; omega)))
  have lw1 : w.heap.size ≤ w1.heap.size := hb.size
  have ca0 : w1.cell? ⟨w.heap.size, 0, none⟩ = some (.int .i64 t) := by rw [hh.cell (by first | omega | (simp; done) | (simp; omega))]; first | (simp; done) | (simp [go_sem]; done)
  have ca1 : w1.cell? ⟨w.heap.size, 1, none⟩ = some (.int .i64 q) := by rw [hh.cell (by first | omega | (simp; done) | (simp; omega))]; first | (simp; done) | (simp [go_sem]; done)
  have ca2 : w1.cell? ⟨w.heap.size, 2, none⟩ = some (.slice s n c) := by rw [hh.cell (by first | omega | (simp; done) | (simp; omega))]; first | (simp; done) | (simp [go_sem]; done)
  have za : w.heap.size < w1.heap.size := by have := hh.size; simp at this; omega
  have ya := za
  have B0 : Below w.heap.size w w1 := hb
  clear hb hh
  go_wp2_with fail
  refine (toFrame_any t q s n c V _ hn (HR.out.below B0)).mono ?_
  rintro e w2 ⟨bt, rfl, -, -, OT, hh⟩
  have hb : Below w1.heap.size w1 w2 := Below.trans (by repeat (first | with_reducible exact Below.refl _ _ | with_reducible refine Below.setCell ?_ (by first | omega | (simp; done) | (simp; omega)) _ | with_reducible refine bDrewN ?_ _ | with_reducible refine Below.drew ?_ | with_reducible refine Below.alloc ?_ (by first | omega | (simp; done) | (simp; omega)) _)) (hh.mono (by first | omega | (simp; done) | (simp; omega)))
  have lw2 : w1.heap.size ≤ w2.heap.size := hb.size
  replace ca0 := (hb.cell (p := ⟨w.heap.size, 0, none⟩) za).trans ca0
  replace ca1 := (hb.cell (p := ⟨w.heap.size, 1, none⟩) za).trans ca1
  replace ca2 := (hb.cell (p := ⟨w.heap.size, 2, none⟩) za).trans ca2
  replace za := Nat.lt_of_lt_of_le za hb.size
  replace B0 : Below w.heap.size w w2 := B0.trans (hb.mono B0.size)
  clear hb hh
  have PT : Hid (RowI w2 (some ⟨bt, 0, none⟩) n V) := OT.row
  clear OT
  go_wp2_with fail
  refine (H1.out _ _ _ PT.out).mono ?_
  rintro e w3 ⟨sW, cW, rfl, OW, hh⟩
  have hb : Below w2.heap.size w2 w3 := Below.trans (by repeat (first | with_reducible exact Below.refl _ _ | with_reducible refine Below.setCell ?_ (by first | omega | (simp; done) | (simp; omega)) _ | with_reducible refine bDrewN ?_ _ | with_reducible refine Below.drew ?_ | with_reducible refine Below.alloc ?_ (by first | omega | (simp; done) | (simp; omega)) _)) (hh.mono (by first | omega | (simp; done) | (simp; omega)))
  have lw3 : w2.heap.size ≤ w3.heap.size := hb.size
  replace ca0 := (hb.cell (p := ⟨w.heap.size, 0, none⟩) za).trans ca0
  replace ca1 := (hb.cell (p := ⟨w.heap.size, 1, none⟩) za).trans ca1
  replace ca2 := (hb.cell (p := ⟨w.heap.size, 2, none⟩) za).trans ca2
  replace za := Nat.lt_of_lt_of_le za hb.size
  replace B0 : Below w.heap.size w w3 := B0.trans (hb.mono B0.size)
  clear hb hh
  clear PT
  have Bs : Below w3.heap.size w3 w3 := Below.refl _ _
  have RW : Hid (RowY w3 sW m U) := OW.row
  clear OW
  go_wp2_with fail
  refine (toFrame_any t q s n c V _ hn (HR.out.below B0)).mono ?_
  rintro e w4 ⟨bx, rfl, lx, ux, OX0, hh⟩
  have hb : Below w3.heap.size w3 w4 := Below.trans (by repeat (first | with_reducible exact Below.refl _ _ | with_reducible refine Below.setCell ?_ (by first | omega | (simp; done) | (simp; omega)) _ | with_reducible refine bDrewN ?_ _ | with_reducible refine Below.drew ?_ | with_reducible refine Below.alloc ?_ (by first | omega | (simp; done) | (simp; omega)) _)) (hh.mono (by first | omega | (simp; done) | (simp; omega)))
  have lw4 : w3.heap.size ≤ w4.heap.size := hb.size
  replace ca0 := (hb.cell (p := ⟨w.heap.size, 0, none⟩) za).trans ca0
  replace ca1 := (hb.cell (p := ⟨w.heap.size, 1, none⟩) za).trans ca1
  replace ca2 := (hb.cell (p := ⟨w.heap.size, 2, none⟩) za).trans ca2
  replace za := Nat.lt_of_lt_of_le za hb.size
  replace Bs : Below w3.heap.size w3 w4 := Bs.trans (hb.mono Bs.size)
  replace B0 : Below w.heap.size w w4 := B0.trans (hb.mono B0.size)
  clear hb hh
  have Ox : Hid (OwnI w3.heap.size w4 (some ⟨bx, 0, none⟩) n V) := OX0
  clear OX0
  go_wp2_with fail
  refine (H2.out _ _ _ (row_one Ox.out.row)).mono ?_
  rintro e w5 ⟨sG, cG, rfl, OG0, hh⟩
  have hb : Below w4.heap.size w4 w5 := Below.trans (by repeat (first | with_reducible exact Below.refl _ _ | with_reducible refine Below.setCell ?_ (by first | omega | (simp; done) | (simp; omega)) _ | with_reducible refine bDrewN ?_ _ | with_reducible refine Below.drew ?_ | with_reducible refine Below.alloc ?_ (by first | omega | (simp; done) | (simp; omega)) _)) (hh.mono (by first | omega | (simp; done) | (simp; omega)))
  have lw5 : w4.heap.size ≤ w5.heap.size := hb.size
  have cx0 : w5.cell? ⟨w4.heap.size, 0, none⟩ = some (.int .i64 t) := by rw [hh.cell (by first | omega | (simp; done) | (simp; omega))]; first | (simp; done) | (simp [go_sem]; done)
  have cx1 : w5.cell? ⟨w4.heap.size, 1, none⟩ = some (.int .i64 q) := by rw [hh.cell (by first | omega | (simp; done) | (simp; omega))]; first | (simp; done) | (simp [go_sem]; done)
  have cx2 : w5.cell? ⟨w4.heap.size, 2, none⟩ = some (.slice (some ⟨bx, 0, none⟩) n n) := by rw [hh.cell (by first | omega | (simp; done) | (simp; omega))]; first | (simp; done) | (simp [go_sem]; done)
  have zx : w4.heap.size < w5.heap.size := by have := hh.size; simp at this; omega
  have yx := zx
  replace ca0 := (hb.cell (p := ⟨w.heap.size, 0, none⟩) za).trans ca0
  replace ca1 := (hb.cell (p := ⟨w.heap.size, 1, none⟩) za).trans ca1
  replace ca2 := (hb.cell (p := ⟨w.heap.size, 2, none⟩) za).trans ca2
  replace za := Nat.lt_of_lt_of_le za hb.size
  replace Ox : Hid (OwnI w3.heap.size w5 (some ⟨bx, 0, none⟩) n V) := Ox.out.below hb
  replace Bs : Below w3.heap.size w3 w5 := Bs.trans (hb.mono Bs.size)
  replace B0 : Below w.heap.size w w5 := B0.trans (hb.mono B0.size)
  clear hb hh
  have Og : Hid (OwnY (w4.heap.size + 1) w5 sG m U) := OG0.mono (by first | omega | (simp; done) | (simp; omega))
  clear OG0
  go_wp2_with fail
  refine (eqByteS_any sG sW m cG cW U _ hm Og.out.row (RW.out.below Bs)).mono ?_
  rintro e w6 ⟨rfl, hh⟩
  have hb : Below w5.heap.size w5 w6 := Below.trans (by repeat (first | with_reducible exact Below.refl _ _ | with_reducible refine Below.setCell ?_ (by first | omega | (simp; done) | (simp; omega)) _ | with_reducible refine bDrewN ?_ _ | with_reducible refine Below.drew ?_ | with_reducible refine Below.alloc ?_ (by first | omega | (simp; done) | (simp; omega)) _)) (hh.mono (by first | omega | (simp; done) | (simp; omega)))
  have lw6 : w5.heap.size ≤ w6.heap.size := hb.size
  replace ca0 := (hb.cell (p := ⟨w.heap.size, 0, none⟩) za).trans ca0
  replace ca1 := (hb.cell (p := ⟨w.heap.size, 1, none⟩) za).trans ca1
  replace ca2 := (hb.cell (p := ⟨w.heap.size, 2, none⟩) za).trans ca2
  replace za := Nat.lt_of_lt_of_le za hb.size
  replace cx0 := (hb.cell (p := ⟨w4.heap.size, 0, none⟩) zx).trans cx0
  replace cx1 := (hb.cell (p := ⟨w4.heap.size, 1, none⟩) zx).trans cx1
  replace cx2 := (hb.cell (p := ⟨w4.heap.size, 2, none⟩) zx).trans cx2
  replace zx := Nat.lt_of_lt_of_le zx hb.size
  replace Ox : Hid (OwnI w3.heap.size w6 (some ⟨bx, 0, none⟩) n V) := Ox.out.below hb
  replace Og : Hid (OwnY (w4.heap.size + 1) w6 sG m U) := Og.out.below hb
  replace Bs : Below w3.heap.size w3 w6 := Bs.trans (hb.mono Bs.size)
  replace B0 : Below w.heap.size w w6 := B0.trans (hb.mono B0.size)
  clear hb hh
  go_upto_region 10 with fail
  have HB : Hid (Below w.heap.size w w6) := B0
  go_cut [31] (fun y wx => y = .bool false ∧ Below w6.heap.size w6 wx)
  case first =>
    go_region_held3 (fun w' => w'.cell? ⟨w.heap.size, 0, none⟩ = some (.int .i64 t) ∧ w'.cell? ⟨w.heap.size, 1, none⟩ = some (.int .i64 q) ∧ w'.cell? ⟨w.heap.size, 2, none⟩ = some (.slice s n c) ∧ w'.cell? ⟨w4.heap.size, 0, none⟩ = some (.int .i64 t) ∧ w'.cell? ⟨w4.heap.size, 1, none⟩ = some (.int .i64 q) ∧ w'.cell? ⟨w4.heap.size, 2, none⟩ = some (.slice (some ⟨bx, 0, none⟩) n n)) (first | (exact ⟨ca0, ca1, ca2, cx0, cx1, cx2⟩) | (refine keepF ca0 ca1 ca2 cx0 cx1 cx2 za zx ?_; exact (by repeat (first | with_reducible exact Below.refl _ _ | with_reducible exact B8 | with_reducible exact B7 | with_reducible refine Below.setCell ?_ (by first | omega | (simp; done) | (simp; omega)) _ | with_reducible refine bDrewN ?_ _ | with_reducible refine Below.drew ?_ | with_reducible refine Below.alloc ?_ (by first | omega | (simp; done) | (simp; omega)) _)))) (first
      | (go_at_call 12; refine (toFrame_any t q s n c V _ hn (HR.out.below (HB.out.trans (Below.mono (by repeat (first | with_reducible exact Below.refl _ _ | with_reducible refine Below.setCell ?_ (by first | omega | (simp; done) | (simp; omega)) _ | with_reducible refine bDrewN ?_ _ | with_reducible refine Below.drew ?_ | with_reducible refine Below.alloc ?_ (by first | omega | (simp; done) | (simp; omega)) _)) HB.out.size)))).mono ?_; rintro e wy ⟨y, rfl, -, -, OY, h7⟩; have B7 : Below w6.heap.size w6 wy := Below.trans (by repeat (first | with_reducible exact Below.refl _ _ | with_reducible refine Below.setCell ?_ (by first | omega | (simp; done) | (simp; omega)) _ | with_reducible refine bDrewN ?_ _ | with_reducible refine Below.drew ?_ | with_reducible refine Below.alloc ?_ (by first | omega | (simp; done) | (simp; omega)) _)) (h7.mono (by first | omega | (simp; done) | (simp; omega))); have s7 := B7.size; have PY : Hid (RowI wy (some ⟨y, 0, none⟩) n V) := OY.row; have PX : Hid (RowI wy (some ⟨bx, 0, none⟩) n V) := Ox.out.row.below B7; clear h7 OY)
      | (go_at_call 14; refine (eqFrame_any t q _ _ n _ _ V _ hn PX.out PY.out).mono ?_; rintro e wz ⟨rfl, h8⟩; have B8 : Below w6.heap.size w6 wz := Below.trans (by repeat (first | with_reducible exact Below.refl _ _ | with_reducible exact B7 | with_reducible refine Below.setCell ?_ (by first | omega | (simp; done) | (simp; omega)) _ | with_reducible refine bDrewN ?_ _ | with_reducible refine Below.drew ?_ | with_reducible refine Below.alloc ?_ (by first | omega | (simp; done) | (simp; omega)) _)) (h8.mono (by first | omega | (simp; done) | (simp; omega))); clear h8))
    all_goals
      go_wp2_with fail
      go_meet
      exact ⟨rfl, B8⟩
  obtain ⟨rfl, hb⟩ := hcut
  rename World => w7
  have lw7 : w6.heap.size ≤ w7.heap.size := hb.size
  replace ca0 := (hb.cell (p := ⟨w.heap.size, 0, none⟩) za).trans ca0
  replace ca1 := (hb.cell (p := ⟨w.heap.size, 1, none⟩) za).trans ca1
  replace ca2 := (hb.cell (p := ⟨w.heap.size, 2, none⟩) za).trans ca2
  replace za := Nat.lt_of_lt_of_le za hb.size
  replace cx0 := (hb.cell (p := ⟨w4.heap.size, 0, none⟩) zx).trans cx0
  replace cx1 := (hb.cell (p := ⟨w4.heap.size, 1, none⟩) zx).trans cx1
  replace cx2 := (hb.cell (p := ⟨w4.heap.size, 2, none⟩) zx).trans cx2
  replace zx := Nat.lt_of_lt_of_le zx hb.size
  replace Ox : Hid (OwnI w3.heap.size w7 (some ⟨bx, 0, none⟩) n V) := Ox.out.below hb
  replace Og : Hid (OwnY (w4.heap.size + 1) w7 sG m U) := Og.out.below hb
  replace Bs : Below w3.heap.size w3 w7 := Bs.trans (hb.mono Bs.size)
  replace B0 : Below w.heap.size w w7 := B0.trans (hb.mono B0.size)
  clear hb HB
  go_wp2_with fail
  refine (markFrame_sp t q w3.heap.size _ n n 1 V _ hn (by decide) (by decide) (by omega) Ox.out).mono ?_
  rintro e w8 ⟨rfl, OM, hh, hs⟩
  have lw8 : w7.heap.size ≤ w8.heap.size := hh.size
  replace ca0 := (hh.cell (p := ⟨w.heap.size, 0, none⟩) (by show w.heap.size < _; omega)).trans ca0
  replace ca1 := (hh.cell (p := ⟨w.heap.size, 1, none⟩) (by show w.heap.size < _; omega)).trans ca1
  replace ca2 := (hh.cell (p := ⟨w.heap.size, 2, none⟩) (by show w.heap.size < _; omega)).trans ca2
  replace za := Nat.lt_of_lt_of_le za hh.size
  replace cx0 := (hs.cell (p := ⟨w4.heap.size, 0, none⟩) zx (fun _ b e => by cases e; show bx ≠ w4.heap.size; omega)).trans cx0
  replace cx1 := (hs.cell (p := ⟨w4.heap.size, 1, none⟩) zx (fun _ b e => by cases e; show bx ≠ w4.heap.size; omega)).trans cx1
  replace cx2 := (hs.cell (p := ⟨w4.heap.size, 2, none⟩) zx (fun _ b e => by cases e; show bx ≠ w4.heap.size; omega)).trans cx2
  replace zx := Nat.lt_of_lt_of_le zx hh.size
  replace Og : Hid (OwnY (w4.heap.size + 1) w8 sG m U) := Og.out.spared hs hh.size (fun _ b e => by cases e; omega)
  replace Bs : Below w3.heap.size w3 w8 := Bs.trans (hh.mono (by omega))
  replace B0 : Below w.heap.size w w8 := B0.trans (hh.mono (by omega))
  replace Ox : Hid (OwnI w3.heap.size w8 (some ⟨bx, 0, none⟩) n (fun j => 1 + (j : Int))) := OM
  clear OM hh hs
  clear Ox
  go_wp2_with fail
  refine (eqByteS_any sG sW m cG cW U _ hm Og.out.row (RW.out.below Bs)).mono ?_
  rintro e w9 ⟨rfl, hh⟩
  have hb : Below w8.heap.size w8 w9 := Below.trans (by repeat (first | with_reducible exact Below.refl _ _ | with_reducible refine Below.setCell ?_ (by first | omega | (simp; done) | (simp; omega)) _ | with_reducible refine bDrewN ?_ _ | with_reducible refine Below.drew ?_ | with_reducible refine Below.alloc ?_ (by first | omega | (simp; done) | (simp; omega)) _)) (hh.mono (by first | omega | (simp; done) | (simp; omega)))
  have lw9 : w8.heap.size ≤ w9.heap.size := hb.size
  replace ca0 := (hb.cell (p := ⟨w.heap.size, 0, none⟩) za).trans ca0
  replace ca1 := (hb.cell (p := ⟨w.heap.size, 1, none⟩) za).trans ca1
  replace ca2 := (hb.cell (p := ⟨w.heap.size, 2, none⟩) za).trans ca2
  replace za := Nat.lt_of_lt_of_le za hb.size
  replace cx0 := (hb.cell (p := ⟨w4.heap.size, 0, none⟩) zx).trans cx0
  replace cx1 := (hb.cell (p := ⟨w4.heap.size, 1, none⟩) zx).trans cx1
  replace cx2 := (hb.cell (p := ⟨w4.heap.size, 2, none⟩) zx).trans cx2
  replace zx := Nat.lt_of_lt_of_le zx hb.size
  replace Og : Hid (OwnY (w4.heap.size + 1) w9 sG m U) := Og.out.below hb
  replace Bs : Below w3.heap.size w3 w9 := Bs.trans (hb.mono Bs.size)
  replace B0 : Below w.heap.size w w9 := B0.trans (hb.mono B0.size)
  clear hb hh
  go_wp2_with fail
  refine (markByteS_sp (w4.heap.size + 1) sG m cG 1 U _ hm (by decide) (by decide) (by omega) Og.out).mono ?_
  rintro e w10 ⟨rfl, OM, hh, hs⟩
  have lw10 : w9.heap.size ≤ w10.heap.size := hh.size
  replace ca0 := (hh.cell (p := ⟨w.heap.size, 0, none⟩) (by show w.heap.size < _; omega)).trans ca0
  replace ca1 := (hh.cell (p := ⟨w.heap.size, 1, none⟩) (by show w.heap.size < _; omega)).trans ca1
  replace ca2 := (hh.cell (p := ⟨w.heap.size, 2, none⟩) (by show w.heap.size < _; omega)).trans ca2
  replace za := Nat.lt_of_lt_of_le za hh.size
  replace cx0 := (hh.cell (p := ⟨w4.heap.size, 0, none⟩) (by show w4.heap.size < _; omega)).trans cx0
  replace cx1 := (hh.cell (p := ⟨w4.heap.size, 1, none⟩) (by show w4.heap.size < _; omega)).trans cx1
  replace cx2 := (hh.cell (p := ⟨w4.heap.size, 2, none⟩) (by show w4.heap.size < _; omega)).trans cx2
  replace zx := Nat.lt_of_lt_of_le zx hh.size
  replace Bs : Below w3.heap.size w3 w10 := Bs.trans (hh.mono (by omega))
  replace B0 : Below w.heap.size w w10 := B0.trans (hh.mono (by omega))
  replace Og : Hid (OwnY (w4.heap.size + 1) w10 sG m (markY 1)) := OM
  clear OM hh hs
  clear cx0 cx1 cx2 zx
  go_wp2_with fail
  refine (heldByteS_any sG m cG 1 _ hm (by decide) (by decide) Og.out.row).mono ?_
  rintro e w10 ⟨rfl, rfl⟩
  go_wp2_with fail
  refine (toFrame_any t q s n c V _ hn (HR.out.below B0)).mono ?_
  rintro e w11 ⟨bt, rfl, -, -, OT, hh⟩
  have hb : Below w10.heap.size w10 w11 := Below.trans (by repeat (first | with_reducible exact Below.refl _ _ | with_reducible refine Below.setCell ?_ (by first | omega | (simp; done) | (simp; omega)) _ | with_reducible refine bDrewN ?_ _ | with_reducible refine Below.drew ?_ | with_reducible refine Below.alloc ?_ (by first | omega | (simp; done) | (simp; omega)) _)) (hh.mono (by first | omega | (simp; done) | (simp; omega)))
  have lw11 : w10.heap.size ≤ w11.heap.size := hb.size
  replace ca0 := (hb.cell (p := ⟨w.heap.size, 0, none⟩) za).trans ca0
  replace ca1 := (hb.cell (p := ⟨w.heap.size, 1, none⟩) za).trans ca1
  replace ca2 := (hb.cell (p := ⟨w.heap.size, 2, none⟩) za).trans ca2
  replace za := Nat.lt_of_lt_of_le za hb.size
  replace Og : Hid (OwnY (w4.heap.size + 1) w11 sG m (markY 1)) := Og.out.below hb
  replace Bs : Below w3.heap.size w3 w11 := Bs.trans (hb.mono Bs.size)
  replace B0 : Below w.heap.size w w11 := B0.trans (hb.mono B0.size)
  clear hb hh
  have PT : Hid (RowI w11 (some ⟨bt, 0, none⟩) n V) := OT.row
  clear OT
  go_wp2_with fail
  refine (H2.out _ _ _ PT.out).mono ?_
  rintro e w12 ⟨sH, cH, rfl, OH, hh⟩
  have hb : Below w11.heap.size w11 w12 := Below.trans (by repeat (first | with_reducible exact Below.refl _ _ | with_reducible refine Below.setCell ?_ (by first | omega | (simp; done) | (simp; omega)) _ | with_reducible refine bDrewN ?_ _ | with_reducible refine Below.drew ?_ | with_reducible refine Below.alloc ?_ (by first | omega | (simp; done) | (simp; omega)) _)) (hh.mono (by first | omega | (simp; done) | (simp; omega)))
  have lw12 : w11.heap.size ≤ w12.heap.size := hb.size
  replace ca0 := (hb.cell (p := ⟨w.heap.size, 0, none⟩) za).trans ca0
  replace ca1 := (hb.cell (p := ⟨w.heap.size, 1, none⟩) za).trans ca1
  replace ca2 := (hb.cell (p := ⟨w.heap.size, 2, none⟩) za).trans ca2
  replace za := Nat.lt_of_lt_of_le za hb.size
  replace Og : Hid (OwnY (w4.heap.size + 1) w12 sG m (markY 1)) := Og.out.below hb
  replace Bs : Below w3.heap.size w3 w12 := Bs.trans (hb.mono Bs.size)
  replace B0 : Below w.heap.size w w12 := B0.trans (hb.mono B0.size)
  clear hb hh
  clear PT
  have PH : Hid (RowY w12 sH m U) := OH.row
  clear OH
  go_wp2_with fail
  refine (eqByteS_any sH sW m cH cW U _ hm PH.out (RW.out.below Bs)).mono ?_
  rintro e w13 ⟨rfl, hh⟩
  have hb : Below w12.heap.size w12 w13 := Below.trans (by repeat (first | with_reducible exact Below.refl _ _ | with_reducible refine Below.setCell ?_ (by first | omega | (simp; done) | (simp; omega)) _ | with_reducible refine bDrewN ?_ _ | with_reducible refine Below.drew ?_ | with_reducible refine Below.alloc ?_ (by first | omega | (simp; done) | (simp; omega)) _)) (hh.mono (by first | omega | (simp; done) | (simp; omega)))
  have lw13 : w12.heap.size ≤ w13.heap.size := hb.size
  replace ca0 := (hb.cell (p := ⟨w.heap.size, 0, none⟩) za).trans ca0
  replace ca1 := (hb.cell (p := ⟨w.heap.size, 1, none⟩) za).trans ca1
  replace ca2 := (hb.cell (p := ⟨w.heap.size, 2, none⟩) za).trans ca2
  replace za := Nat.lt_of_lt_of_le za hb.size
  replace Og : Hid (OwnY (w4.heap.size + 1) w13 sG m (markY 1)) := Og.out.below hb
  replace Bs : Below w3.heap.size w3 w13 := Bs.trans (hb.mono Bs.size)
  replace B0 : Below w.heap.size w w13 := B0.trans (hb.mono B0.size)
  clear hb hh
  clear PH
  go_wp2_with fail
  refine (heldByteS_any sG m cG 1 _ hm (by decide) (by decide) Og.out.row).mono ?_
  rintro e w13 ⟨rfl, rfl⟩
  go_wp2
  go_ret
  exact ⟨rfl, B0⟩

set_option maxHeartbeats 800000 in
theorem write_far (w : World) (t q : Int) (s : Option Addr) (n c : Nat) (hn : (1048576 : Int) < n) (hn' : (n : Int) ≤ 9223372036854775807) :
    Calls Try.prog 4 #[.agg #[.int .i64 t, .int .i64 q, .slice s n c]] w fun e w' => e = .returned (.bool true) ∧ Below w.heap.size w w' := by
  go_enter Try.func4, Try.ntmps4
  go_wp2_with fail
  refine (szFrame_off t q s n c _ _ (by omega) (by omega) hn hn').mono ?_
  rintro e w1 ⟨rfl, h1⟩
  have B0 : Below w.heap.size w w1 := Below.trans (by repeat (first | with_reducible exact Below.refl _ _ | with_reducible refine Below.setCell ?_ (by first | omega | (simp; done) | (simp; omega)) _ | with_reducible refine bDrewN ?_ _ | with_reducible refine Below.drew ?_ | with_reducible refine Below.alloc ?_ (by first | omega | (simp; done) | (simp; omega)) _)) (h1.mono (by first | omega | (simp; done) | (simp; omega)))
  go_wp2
  go_ret
  exact ⟨rfl, B0⟩
theorem wrL_le (t q : Int) (n : Nat) (V : Nat → Int) : ((wrL t q n V).length : Int) ≤ 1048576 := by
  unfold wrL
  split
  · rename_i h
    obtain ⟨_, _, hn, _⟩ := frame_parts h
    rw [wholeL_len]
    omega
  · decide
theorem fnExactWriteFrame_walk (w : World) (t q : Int) (s : Option Addr) (n c : Nat) (V : Nat → Int) (hm : n ≤ 9223372036854775807) (R : RowI w s n V) (hV : ∀ j, j < n → -9223372036854775808 ≤ V j ∧ V j ≤ 9223372036854775807) :
    Calls Try.prog 4 #[.agg #[.int .i64 t, .int .i64 q, .slice s n c]] w fun e w' => e = .returned (.bool true) ∧ Below w.heap.size w w' := by
  by_cases hn : (n : Int) ≤ 1048576
  · exact write_near w t q s n c V hn R _ _ (wrL_le t q n V) (fun ad c w h1 => specWrite_any t q (some ad) n c V w h1) (fun ad c w h1 => implWrite_any t q (some ad) n c V w hn h1)
  · exact write_far w t q s n c (by omega) (by omega)

set_option maxRecDepth 100000 in
theorem fnExactWriteFrame_lifted (os : Os) (started : os.Started) (H : Type) (enc : TypeId × Value → H) :
    ReturnsInHanded {} Try.checked os 4 .any (Rows.fnExactWriteFrameSpec.pre6 enc Try.prog Try.f4 Rows.fnExactWriteFrameRow.domain false) (Rows.fnExactWriteFrameSpec.post enc Try.prog Try.f4 false true false false) := by
  refine returnsInHanded_of_change (C := Try.checked) own started (by kernel_rfl) Try.func4
    (ChangeSpec.witness6 (enc := enc) (C := Try.checked) false ⟨#[], #[.agg #[.int .i64 0, .int .i64 0, .slice none 0 0]], []⟩ 8 (by kernel_rfl) (by kernel_rfl) (by kernel_rfl) (by kernel_rfl)) ?_
  intro W base args ds gs before hval0 hW hcnd _
  have hval : ∀ (j : Nat) t v, Try.f4.params[j]? = some t → args[j]? = some v → Value.okWide Try.prog W .any base t v := hval0
  have hW' := hW
  obtain ⟨p, q, hA0, hV, rfl, hfz, hnd⟩ := hW
  have hA : DataW.TrodAll enc Try.prog W 0 (fun _ => true) true Try.f4.params.toList args.toList ds p := hA0
  rw [Try.params4] at hA hval
  obtain ⟨v0, vs0, d0, ds0, p0, q0, hargs, rfl, rfl, h0, r0⟩ := trodAll_cons hA
  obtain ⟨rfl, rfl, rfl⟩ := trodAll_nil r0
  obtain rfl : args = #[v0] := by cases args; simp_all
  obtain ⟨rfl, rfl⟩ := trodVars_none hV
  have k0 := h0
  have lt0 : ∀ x ∈ p0, x.block < W.heap.size := by obtain ⟨m, hm⟩ := k0; exact DataW.trod_lt m _ _ _ hm
  obtain ⟨t0, q0b, s0, n0, c0, V0, rfl, wt0, wq0, m0, R0, w0⟩ := open_frame Try.underlying29 (l := 27) (by kernel_rfl) (by kernel_rfl) rfl rfl (by kernel_rfl) Try.underlying2 Try.underlying27 Try.underlying2 (by kernel_rfl) (hval 0 29 v0 rfl rfl) h0
  clear hA0 hval0
  refine (fnExactWriteFrame_walk W t0 q0b s0 n0 c0 V0 m0 R0 w0).mono fun e W' ⟨he, bel⟩ => ?_
  subst he
  exact ⟨_, rfl, _, _, _, [], _, [], hW', trodAll_mk1 (shut_bool Try.underlying4 _), (trodAll_cons_mk (Below.trod laidOut (by kernel_rfl) (of_decide_eq_true (by kernel_rfl)) k0 bel lt0) trodAll_mk0), rfl, bel.frame _, fun h => by cases h⟩

theorem fnExactWriteFrame_holds : Rows.FnExactWriteFrameSaid :=
  OpenClaim.holds_of_wide 4 Try.f4 rfl rfl rfl rfl rfl rfl rfl ⟨rfl, rfl, rfl, rfl, rfl⟩ rfl rfl rfl rfl rfl (by kernel_rfl) Try.func4 (by kernel_rfl)
    (of_decide_eq_true (by kernel_rfl)) (by unfold Func.isWrapper; first | (rw [if_pos (by decide +kernel)]; kernel_rfl) | (rw [if_neg (by decide +kernel)]; exact ⟨rfl, rfl⟩))
    (fun os started H enc _ => fnExactWriteFrame_lifted os started H enc)
#print axioms fnExactWriteFrame_holds
end Go.Proofs.Ytkaicllddneokaa
