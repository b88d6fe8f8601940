/-
What is proved: at every list of bytes impl.ReadFrame answers as the specification's ReadFrame, leaves the list alone, and its answer owns its memory; no condition.
-/
import Derived.Test.YtkaicllddneokaaRfS
import Derived.Test.YtkaicllddneokaaRfI
import Derived.Test.YtkaicllddneokaaFmE
import Derived.Test.YtkaicllddneokaaFmH
import Derived.Test.YtkaicllddneokaaOpenY
namespace Go.Proofs.Ytkaicllddneokaa
set_option maxRecDepth 40000
open Go.ChangeShapes Go.WideShapes Go.ChangeAt Go.RowKit
set_option linter.unusedVariables false
set_option linter.unusedSimpArgs false

theorem rowY_one {w : World} {s : Option Addr} {n : Nat} {V : Nat → Int} {o : Obj} (h : RowY w s n V) : RowY (w.alloc o) s n V := h.below (by repeat (first | with_reducible exact Below.refl _ _ | with_reducible refine Below.setCell ?_ (by first | omega | (simp; done) | (simp; omega)) _ | with_reducible refine bDrewN ?_ _ | with_reducible refine Below.drew ?_ | with_reducible refine Below.alloc ?_ (by first | omega | (simp; done) | (simp; omega)) _))
theorem toByteS_b (s : Option Addr) (n c : Nat) (V : Nat → Int) (w : World) (hn : (n : Int) ≤ 1048576) (HR : Hid (RowY w s n V)) :
    Calls Try.prog 7 #[.slice s n c] w fun e w' => ∃ b, e = .returned (.slice (some ⟨b, 0, none⟩) n n) ∧ w.heap.size ≤ b ∧ b < w'.heap.size ∧ OwnY w.heap.size w' (some ⟨b, 0, none⟩) n V ∧ Below w.heap.size w w' :=
  (toByteS_any s n c V w hn HR).mono fun e w' ⟨h1, h2, h3, h4⟩ => ⟨_, h1, Nat.le_refl _, h2, h3, h4⟩
set_option maxHeartbeats 8000000 in
theorem read_near (w : World) (s : Option Addr) (n c : Nat) (V : Nat → Int) (hn : (n : Int) ≤ 1048576) (HR : Hid (RowY w s n V)) (T Q f : Int) (m : Nat) (U : Nat → Int) (hm : (m : Int) ≤ 1048576) (H1 : Hid (∀ (b o : Nat) w, RowY w (some ⟨b, o, none⟩) n V → Calls Try.prog 18 #[.slice (some ⟨b, o, none⟩) n n] w fun e w' => ∃ s' c', e = .returned (.tuple #[.agg #[.int .i64 T, .int .i64 Q, .slice s' m c'], .int .i64 f]) ∧ OwnI w.heap.size w' s' m U ∧ Below w.heap.size w w')) (H2 : Hid (∀ (b o : Nat) w, RowY w (some ⟨b, o, none⟩) n V → Calls Try.prog 19 #[.slice (some ⟨b, o, none⟩) n n] w fun e w' => ∃ s' c', e = .returned (.tuple #[.agg #[.int .i64 T, .int .i64 Q, .slice s' m c'], .int .i64 f]) ∧ OwnI w.heap.size w' s' m U ∧ Below w.heap.size w w')) :
    Calls Try.prog 5 #[.slice s n c] w fun e w' => e = .returned (.bool true) ∧ Below w.heap.size w w' := by
  have sto := store_sl
  go_enter Try.func5, Try.ntmps5
  have B0 : Below w.heap.size w w := Below.refl _ _
  go_wp2_with fail
  refine (toByteS_b s n c V _ hn (HR.out.below B0)).mono ?_
  rintro e w1 ⟨bt, rfl, -, -, OT, hh⟩
  have hb : Below w.heap.size w w1 := Below.trans (by repeat (first | with_reducible exact Below.refl _ _ | with_reducible refine Below.setCell ?_ (by first | omega | (simp; done) | (simp; omega)) _ | with_reducible refine bDrewN ?_ _ | with_reducible refine Below.drew ?_ | with_reducible refine Below.alloc ?_ (by first | omega | (simp; done) | (simp; omega)) _)) (hh.mono (by first | omega | (simp; done) | (simp; omega)))
  have lw1 : w.heap.size ≤ w1.heap.size := hb.size
  replace B0 : Below w.heap.size w w1 := B0.trans (hb.mono B0.size)
  clear hb hh
  have PT : Hid (RowY w1 (some ⟨bt, 0, none⟩) n V) := OT.row
  clear OT
  go_wp2_with fail
  refine (H1.out _ _ _ PT.out).mono ?_
  rintro e w2 ⟨sW, cW, rfl, OW, hh⟩
  have hb : Below w1.heap.size w1 w2 := Below.trans (by repeat (first | with_reducible exact Below.refl _ _ | with_reducible refine Below.setCell ?_ (by first | omega | (simp; done) | (simp; omega)) _ | with_reducible refine bDrewN ?_ _ | with_reducible refine Below.drew ?_ | with_reducible refine Below.alloc ?_ (by first | omega | (simp; done) | (simp; omega)) _)) (hh.mono (by first | omega | (simp; done) | (simp; omega)))
  have lw2 : w1.heap.size ≤ w2.heap.size := hb.size
  replace B0 : Below w.heap.size w w2 := B0.trans (hb.mono B0.size)
  clear hb hh
  clear PT
  have Bs : Below w2.heap.size w2 w2 := Below.refl _ _
  have RW : Hid (RowI w2 sW m U) := OW.row
  clear OW
  go_wp2_with fail
  refine (toByteS_b s n c V _ hn (rowY_one (HR.out.below B0))).mono ?_
  rintro e w3 ⟨bx, rfl, lx, ux, OX0, hh⟩
  have hb : Below w2.heap.size w2 w3 := Below.trans (by repeat (first | with_reducible exact Below.refl _ _ | with_reducible refine Below.setCell ?_ (by first | omega | (simp; done) | (simp; omega)) _ | with_reducible refine bDrewN ?_ _ | with_reducible refine Below.drew ?_ | with_reducible refine Below.alloc ?_ (by first | omega | (simp; done) | (simp; omega)) _)) (hh.mono (by first | omega | (simp; done) | (simp; omega)))
  have lw3 : w2.heap.size ≤ w3.heap.size := hb.size
  have cw0 : w3.cell? ⟨w2.heap.size, 0, none⟩ = some (.int .i64 T) := by rw [hh.cell (by first | omega | (simp; done) | (simp; omega))]; first | (simp; done) | (simp [go_sem]; done)
  have cw1 : w3.cell? ⟨w2.heap.size, 1, none⟩ = some (.int .i64 Q) := by rw [hh.cell (by first | omega | (simp; done) | (simp; omega))]; first | (simp; done) | (simp [go_sem]; done)
  have cw2 : w3.cell? ⟨w2.heap.size, 2, none⟩ = some (.slice sW m cW) := by rw [hh.cell (by first | omega | (simp; done) | (simp; omega))]; first | (simp; done) | (simp [go_sem]; done)
  have zw : w2.heap.size < w3.heap.size := by have := hh.size; simp at this; omega
  have yw := zw
  replace Bs : Below w2.heap.size w2 w3 := Bs.trans (hb.mono Bs.size)
  replace B0 : Below w.heap.size w w3 := B0.trans (hb.mono B0.size)
  clear hb hh
  have Ox : Hid (OwnY (w2.heap.size + 1) w3 (some ⟨bx, 0, none⟩) n V) := OX0.mono (by first | omega | (simp; done) | (simp; omega))
  clear OX0
  have lx1 : w2.heap.size + 1 ≤ bx := by simpa using lx
  clear lx
  go_wp2_with fail
  refine (H2.out _ _ _ Ox.out.row).mono ?_
  rintro e w4 ⟨sG, cG, rfl, OG0, hh⟩
  have hb : Below w3.heap.size w3 w4 := Below.trans (by repeat (first | with_reducible exact Below.refl _ _ | with_reducible refine Below.setCell ?_ (by first | omega | (simp; done) | (simp; omega)) _ | with_reducible refine bDrewN ?_ _ | with_reducible refine Below.drew ?_ | with_reducible refine Below.alloc ?_ (by first | omega | (simp; done) | (simp; omega)) _)) (hh.mono (by first | omega | (simp; done) | (simp; omega)))
  have lw4 : w3.heap.size ≤ w4.heap.size := hb.size
  replace cw0 := (hb.cell (p := ⟨w2.heap.size, 0, none⟩) zw).trans cw0
  replace cw1 := (hb.cell (p := ⟨w2.heap.size, 1, none⟩) zw).trans cw1
  replace cw2 := (hb.cell (p := ⟨w2.heap.size, 2, none⟩) zw).trans cw2
  replace zw := Nat.lt_of_lt_of_le zw hb.size
  replace Ox : Hid (OwnY (w2.heap.size + 1) w4 (some ⟨bx, 0, none⟩) n V) := Ox.out.below hb
  replace Bs : Below w2.heap.size w2 w4 := Bs.trans (hb.mono Bs.size)
  replace B0 : Below w.heap.size w w4 := B0.trans (hb.mono B0.size)
  clear hb hh
  have Og : Hid (OwnI w3.heap.size w4 sG m U) := OG0
  clear OG0
  have bG : Hid (0 < m → ∀ b, sG = some ⟨b, 0, none⟩ → w3.heap.size ≤ b ∧ b < w4.heap.size) := own_at Og.out
  go_wp2_with fail
  refine (eqFrame_any T Q sG sW m cG cW U _ hm (row_one Og.out.row) (row_one (RW.out.below Bs))).mono ?_
  rintro e w5 ⟨rfl, hh⟩
  have hb : Below w4.heap.size w4 w5 := Below.trans (by repeat (first | with_reducible exact Below.refl _ _ | with_reducible refine Below.setCell ?_ (by first | omega | (simp; done) | (simp; omega)) _ | with_reducible refine bDrewN ?_ _ | with_reducible refine Below.drew ?_ | with_reducible refine Below.alloc ?_ (by first | omega | (simp; done) | (simp; omega)) _)) (hh.mono (by first | omega | (simp; done) | (simp; omega)))
  have lw5 : w4.heap.size ≤ w5.heap.size := hb.size
  have cg0 : w5.cell? ⟨w4.heap.size, 0, none⟩ = some (.int .i64 T) := by rw [hh.cell (by first | omega | (simp; done) | (simp; omega))]; first | (simp; done) | (simp [go_sem]; done)
  have cg1 : w5.cell? ⟨w4.heap.size, 1, none⟩ = some (.int .i64 Q) := by rw [hh.cell (by first | omega | (simp; done) | (simp; omega))]; first | (simp; done) | (simp [go_sem]; done)
  have cg2 : w5.cell? ⟨w4.heap.size, 2, none⟩ = some (.slice sG m cG) := by rw [hh.cell (by first | omega | (simp; done) | (simp; omega))]; first | (simp; done) | (simp [go_sem]; done)
  have zg : w4.heap.size < w5.heap.size := by have := hh.size; simp at this; omega
  have yg := zg
  replace cw0 := (hb.cell (p := ⟨w2.heap.size, 0, none⟩) zw).trans cw0
  replace cw1 := (hb.cell (p := ⟨w2.heap.size, 1, none⟩) zw).trans cw1
  replace cw2 := (hb.cell (p := ⟨w2.heap.size, 2, none⟩) zw).trans cw2
  replace zw := Nat.lt_of_lt_of_le zw hb.size
  replace Ox : Hid (OwnY (w2.heap.size + 1) w5 (some ⟨bx, 0, none⟩) n V) := Ox.out.below hb
  replace Og : Hid (OwnI w3.heap.size w5 sG m U) := Og.out.below hb
  replace Bs : Below w2.heap.size w2 w5 := Bs.trans (hb.mono Bs.size)
  replace B0 : Below w.heap.size w w5 := B0.trans (hb.mono B0.size)
  clear hb hh
  go_wp2_with fail
  refine (toByteS_b s n c V _ hn (HR.out.below B0)).mono ?_
  rintro e w6 ⟨by0, rfl, -, -, OY, hh⟩
  have hb : Below w5.heap.size w5 w6 := Below.trans (by repeat (first | with_reducible exact Below.refl _ _ | with_reducible refine Below.setCell ?_ (by first | omega | (simp; done) | (simp; omega)) _ | with_reducible refine bDrewN ?_ _ | with_reducible refine Below.drew ?_ | with_reducible refine Below.alloc ?_ (by first | omega | (simp; done) | (simp; omega)) _)) (hh.mono (by first | omega | (simp; done) | (simp; omega)))
  have lw6 : w5.heap.size ≤ w6.heap.size := hb.size
  replace cw0 := (hb.cell (p := ⟨w2.heap.size, 0, none⟩) zw).trans cw0
  replace cw1 := (hb.cell (p := ⟨w2.heap.size, 1, none⟩) zw).trans cw1
  replace cw2 := (hb.cell (p := ⟨w2.heap.size, 2, none⟩) zw).trans cw2
  replace zw := Nat.lt_of_lt_of_le zw hb.size
  replace cg0 := (hb.cell (p := ⟨w4.heap.size, 0, none⟩) zg).trans cg0
  replace cg1 := (hb.cell (p := ⟨w4.heap.size, 1, none⟩) zg).trans cg1
  replace cg2 := (hb.cell (p := ⟨w4.heap.size, 2, none⟩) zg).trans cg2
  replace zg := Nat.lt_of_lt_of_le zg hb.size
  replace Ox : Hid (OwnY (w2.heap.size + 1) w6 (some ⟨bx, 0, none⟩) n V) := Ox.out.below hb
  replace Og : Hid (OwnI w3.heap.size w6 sG m U) := Og.out.below hb
  replace Bs : Below w2.heap.size w2 w6 := Bs.trans (hb.mono Bs.size)
  replace B0 : Below w.heap.size w w6 := B0.trans (hb.mono B0.size)
  clear hb hh
  have PY : Hid (RowY w6 (some ⟨by0, 0, none⟩) n V) := OY.row
  clear OY
  go_wp2_with fail
  refine (eqByteS_any _ _ n _ _ V _ hn Ox.out.row PY.out).mono ?_
  rintro e w7 ⟨rfl, hh⟩
  have hb : Below w6.heap.size w6 w7 := Below.trans (by repeat (first | with_reducible exact Below.refl _ _ | with_reducible refine Below.setCell ?_ (by first | omega | (simp; done) | (simp; omega)) _ | with_reducible refine bDrewN ?_ _ | with_reducible refine Below.drew ?_ | with_reducible refine Below.alloc ?_ (by first | omega | (simp; done) | (simp; omega)) _)) (hh.mono (by first | omega | (simp; done) | (simp; omega)))
  have lw7 : w6.heap.size ≤ w7.heap.size := hb.size
  replace cw0 := (hb.cell (p := ⟨w2.heap.size, 0, none⟩) zw).trans cw0
  replace cw1 := (hb.cell (p := ⟨w2.heap.size, 1, none⟩) zw).trans cw1
  replace cw2 := (hb.cell (p := ⟨w2.heap.size, 2, none⟩) zw).trans cw2
  replace zw := Nat.lt_of_lt_of_le zw hb.size
  replace cg0 := (hb.cell (p := ⟨w4.heap.size, 0, none⟩) zg).trans cg0
  replace cg1 := (hb.cell (p := ⟨w4.heap.size, 1, none⟩) zg).trans cg1
  replace cg2 := (hb.cell (p := ⟨w4.heap.size, 2, none⟩) zg).trans cg2
  replace zg := Nat.lt_of_lt_of_le zg hb.size
  replace Ox : Hid (OwnY (w2.heap.size + 1) w7 (some ⟨bx, 0, none⟩) n V) := Ox.out.below hb
  replace Og : Hid (OwnI w3.heap.size w7 sG m U) := Og.out.below hb
  replace Bs : Below w2.heap.size w2 w7 := Bs.trans (hb.mono Bs.size)
  replace B0 : Below w.heap.size w w7 := B0.trans (hb.mono B0.size)
  clear hb hh
  clear PY
  go_wp2_with fail
  refine (markByteS_sp (w2.heap.size + 1) _ n n 1 V _ hn (by decide) (by decide) (by omega) Ox.out).mono ?_
  rintro e w8 ⟨rfl, OM, hh, hs⟩
  have lw8 : w7.heap.size ≤ w8.heap.size := hh.size
  replace cw0 := (hh.cell (p := ⟨w2.heap.size, 0, none⟩) (by show w2.heap.size < _; omega)).trans cw0
  replace cw1 := (hh.cell (p := ⟨w2.heap.size, 1, none⟩) (by show w2.heap.size < _; omega)).trans cw1
  replace cw2 := (hh.cell (p := ⟨w2.heap.size, 2, none⟩) (by show w2.heap.size < _; omega)).trans cw2
  replace zw := Nat.lt_of_lt_of_le zw hh.size
  replace cg0 := (hs.cell (p := ⟨w4.heap.size, 0, none⟩) zg (fun _ b e => by cases e; show bx ≠ w4.heap.size; omega)).trans cg0
  replace cg1 := (hs.cell (p := ⟨w4.heap.size, 1, none⟩) zg (fun _ b e => by cases e; show bx ≠ w4.heap.size; omega)).trans cg1
  replace cg2 := (hs.cell (p := ⟨w4.heap.size, 2, none⟩) zg (fun _ b e => by cases e; show bx ≠ w4.heap.size; omega)).trans cg2
  replace zg := Nat.lt_of_lt_of_le zg hh.size
  replace Og : Hid (OwnI w3.heap.size w8 sG m U) := Og.out.spared hs hh.size (fun _ b e => by cases e; omega)
  replace Bs : Below w2.heap.size w2 w8 := Bs.trans (hh.mono (by omega))
  replace B0 : Below w.heap.size w w8 := B0.trans (hh.mono (by omega))
  replace Ox : Hid (OwnY (w2.heap.size + 1) w8 (some ⟨bx, 0, none⟩) n (markY 1)) := OM
  clear OM hh hs
  clear Ox
  go_wp2_with fail
  refine (eqFrame_any T Q sG sW m cG cW U _ hm Og.out.row (RW.out.below Bs)).mono ?_
  rintro e w9 ⟨rfl, hh⟩
  have hb : Below w8.heap.size w8 w9 := Below.trans (by repeat (first | with_reducible exact Below.refl _ _ | with_reducible refine Below.setCell ?_ (by first | omega | (simp; done) | (simp; omega)) _ | with_reducible refine bDrewN ?_ _ | with_reducible refine Below.drew ?_ | with_reducible refine Below.alloc ?_ (by first | omega | (simp; done) | (simp; omega)) _)) (hh.mono (by first | omega | (simp; done) | (simp; omega)))
  have lw9 : w8.heap.size ≤ w9.heap.size := hb.size
  replace cw0 := (hb.cell (p := ⟨w2.heap.size, 0, none⟩) zw).trans cw0
  replace cw1 := (hb.cell (p := ⟨w2.heap.size, 1, none⟩) zw).trans cw1
  replace cw2 := (hb.cell (p := ⟨w2.heap.size, 2, none⟩) zw).trans cw2
  replace zw := Nat.lt_of_lt_of_le zw hb.size
  replace cg0 := (hb.cell (p := ⟨w4.heap.size, 0, none⟩) zg).trans cg0
  replace cg1 := (hb.cell (p := ⟨w4.heap.size, 1, none⟩) zg).trans cg1
  replace cg2 := (hb.cell (p := ⟨w4.heap.size, 2, none⟩) zg).trans cg2
  replace zg := Nat.lt_of_lt_of_le zg hb.size
  replace Og : Hid (OwnI w3.heap.size w9 sG m U) := Og.out.below hb
  replace Bs : Below w2.heap.size w2 w9 := Bs.trans (hb.mono Bs.size)
  replace B0 : Below w.heap.size w w9 := B0.trans (hb.mono B0.size)
  clear hb hh
  go_wp2_with fail
  refine (markFrame_sp T Q w3.heap.size sG m cG 1 U _ hm (by decide) (by decide) (by omega) Og.out).mono ?_
  rintro e w10 ⟨rfl, OM, hh, hs⟩
  have lw10 : w9.heap.size ≤ w10.heap.size := hh.size
  replace cw0 := (hh.cell (p := ⟨w2.heap.size, 0, none⟩) (by show w2.heap.size < _; omega)).trans cw0
  replace cw1 := (hh.cell (p := ⟨w2.heap.size, 1, none⟩) (by show w2.heap.size < _; omega)).trans cw1
  replace cw2 := (hh.cell (p := ⟨w2.heap.size, 2, none⟩) (by show w2.heap.size < _; omega)).trans cw2
  replace zw := Nat.lt_of_lt_of_le zw hh.size
  replace cg0 := (hs.cell (p := ⟨w4.heap.size, 0, none⟩) zg (fun hp b e => Nat.ne_of_lt (bG.out hp b e).2)).trans cg0
  replace cg1 := (hs.cell (p := ⟨w4.heap.size, 1, none⟩) zg (fun hp b e => Nat.ne_of_lt (bG.out hp b e).2)).trans cg1
  replace cg2 := (hs.cell (p := ⟨w4.heap.size, 2, none⟩) zg (fun hp b e => Nat.ne_of_lt (bG.out hp b e).2)).trans cg2
  replace zg := Nat.lt_of_lt_of_le zg hh.size
  replace Bs : Below w2.heap.size w2 w10 := Bs.trans (hh.mono (by omega))
  replace B0 : Below w.heap.size w w10 := B0.trans (hh.mono (by omega))
  replace Og : Hid (OwnI w3.heap.size w10 sG m (fun j => 1 + (j : Int))) := OM
  clear OM hh hs
  go_wp2_with fail
  refine (heldFrame_any T Q sG m cG 1 _ hm (by decide) (by decide) Og.out.row).mono ?_
  rintro e w11 ⟨rfl, hh⟩
  have hb : Below w10.heap.size w10 w11 := Below.trans (by repeat (first | with_reducible exact Below.refl _ _ | with_reducible refine Below.setCell ?_ (by first | omega | (simp; done) | (simp; omega)) _ | with_reducible refine bDrewN ?_ _ | with_reducible refine Below.drew ?_ | with_reducible refine Below.alloc ?_ (by first | omega | (simp; done) | (simp; omega)) _)) (hh.mono (by first | omega | (simp; done) | (simp; omega)))
  have lw11 : w10.heap.size ≤ w11.heap.size := hb.size
  replace cw0 := (hb.cell (p := ⟨w2.heap.size, 0, none⟩) zw).trans cw0
  replace cw1 := (hb.cell (p := ⟨w2.heap.size, 1, none⟩) zw).trans cw1
  replace cw2 := (hb.cell (p := ⟨w2.heap.size, 2, none⟩) zw).trans cw2
  replace zw := Nat.lt_of_lt_of_le zw hb.size
  replace cg0 := (hb.cell (p := ⟨w4.heap.size, 0, none⟩) zg).trans cg0
  replace cg1 := (hb.cell (p := ⟨w4.heap.size, 1, none⟩) zg).trans cg1
  replace cg2 := (hb.cell (p := ⟨w4.heap.size, 2, none⟩) zg).trans cg2
  replace zg := Nat.lt_of_lt_of_le zg hb.size
  replace Og : Hid (OwnI w3.heap.size w11 sG m (fun j => 1 + (j : Int))) := Og.out.below hb
  replace Bs : Below w2.heap.size w2 w11 := Bs.trans (hb.mono Bs.size)
  replace B0 : Below w.heap.size w w11 := B0.trans (hb.mono B0.size)
  clear hb hh
  go_wp2_with fail
  refine (toByteS_b s n c V _ hn (HR.out.below B0)).mono ?_
  rintro e w12 ⟨bt, rfl, -, -, OT, hh⟩
  have hb : Below w11.heap.size w11 w12 := Below.trans (by repeat (first | with_reducible exact Below.refl _ _ | with_reducible refine Below.setCell ?_ (by first | omega | (simp; done) | (simp; omega)) _ | with_reducible refine bDrewN ?_ _ | with_reducible refine Below.drew ?_ | with_reducible refine Below.alloc ?_ (by first | omega | (simp; done) | (simp; omega)) _)) (hh.mono (by first | omega | (simp; done) | (simp; omega)))
  have lw12 : w11.heap.size ≤ w12.heap.size := hb.size
  replace cw0 := (hb.cell (p := ⟨w2.heap.size, 0, none⟩) zw).trans cw0
  replace cw1 := (hb.cell (p := ⟨w2.heap.size, 1, none⟩) zw).trans cw1
  replace cw2 := (hb.cell (p := ⟨w2.heap.size, 2, none⟩) zw).trans cw2
  replace zw := Nat.lt_of_lt_of_le zw hb.size
  replace cg0 := (hb.cell (p := ⟨w4.heap.size, 0, none⟩) zg).trans cg0
  replace cg1 := (hb.cell (p := ⟨w4.heap.size, 1, none⟩) zg).trans cg1
  replace cg2 := (hb.cell (p := ⟨w4.heap.size, 2, none⟩) zg).trans cg2
  replace zg := Nat.lt_of_lt_of_le zg hb.size
  replace Og : Hid (OwnI w3.heap.size w12 sG m (fun j => 1 + (j : Int))) := Og.out.below hb
  replace Bs : Below w2.heap.size w2 w12 := Bs.trans (hb.mono Bs.size)
  replace B0 : Below w.heap.size w w12 := B0.trans (hb.mono B0.size)
  clear hb hh
  have PT : Hid (RowY w12 (some ⟨bt, 0, none⟩) n V) := OT.row
  clear OT
  go_wp2_with fail
  refine (H2.out _ _ _ PT.out).mono ?_
  rintro e w13 ⟨sH, cH, rfl, OH, hh⟩
  have hb : Below w12.heap.size w12 w13 := Below.trans (by repeat (first | with_reducible exact Below.refl _ _ | with_reducible refine Below.setCell ?_ (by first | omega | (simp; done) | (simp; omega)) _ | with_reducible refine bDrewN ?_ _ | with_reducible refine Below.drew ?_ | with_reducible refine Below.alloc ?_ (by first | omega | (simp; done) | (simp; omega)) _)) (hh.mono (by first | omega | (simp; done) | (simp; omega)))
  have lw13 : w12.heap.size ≤ w13.heap.size := hb.size
  replace cw0 := (hb.cell (p := ⟨w2.heap.size, 0, none⟩) zw).trans cw0
  replace cw1 := (hb.cell (p := ⟨w2.heap.size, 1, none⟩) zw).trans cw1
  replace cw2 := (hb.cell (p := ⟨w2.heap.size, 2, none⟩) zw).trans cw2
  replace zw := Nat.lt_of_lt_of_le zw hb.size
  replace cg0 := (hb.cell (p := ⟨w4.heap.size, 0, none⟩) zg).trans cg0
  replace cg1 := (hb.cell (p := ⟨w4.heap.size, 1, none⟩) zg).trans cg1
  replace cg2 := (hb.cell (p := ⟨w4.heap.size, 2, none⟩) zg).trans cg2
  replace zg := Nat.lt_of_lt_of_le zg hb.size
  replace Og : Hid (OwnI w3.heap.size w13 sG m (fun j => 1 + (j : Int))) := Og.out.below hb
  replace Bs : Below w2.heap.size w2 w13 := Bs.trans (hb.mono Bs.size)
  replace B0 : Below w.heap.size w w13 := B0.trans (hb.mono B0.size)
  clear hb hh
  clear PT
  have PH : Hid (RowI w13 sH m U) := OH.row
  clear OH
  go_wp2_with fail
  refine (eqFrame_any T Q sH sW m cH cW U _ hm (row_one PH.out) (row_one (RW.out.below Bs))).mono ?_
  rintro e w14 ⟨rfl, hh⟩
  have hb : Below w13.heap.size w13 w14 := Below.trans (by repeat (first | with_reducible exact Below.refl _ _ | with_reducible refine Below.setCell ?_ (by first | omega | (simp; done) | (simp; omega)) _ | with_reducible refine bDrewN ?_ _ | with_reducible refine Below.drew ?_ | with_reducible refine Below.alloc ?_ (by first | omega | (simp; done) | (simp; omega)) _)) (hh.mono (by first | omega | (simp; done) | (simp; omega)))
  have lw14 : w13.heap.size ≤ w14.heap.size := hb.size
  replace cw0 := (hb.cell (p := ⟨w2.heap.size, 0, none⟩) zw).trans cw0
  replace cw1 := (hb.cell (p := ⟨w2.heap.size, 1, none⟩) zw).trans cw1
  replace cw2 := (hb.cell (p := ⟨w2.heap.size, 2, none⟩) zw).trans cw2
  replace zw := Nat.lt_of_lt_of_le zw hb.size
  replace cg0 := (hb.cell (p := ⟨w4.heap.size, 0, none⟩) zg).trans cg0
  replace cg1 := (hb.cell (p := ⟨w4.heap.size, 1, none⟩) zg).trans cg1
  replace cg2 := (hb.cell (p := ⟨w4.heap.size, 2, none⟩) zg).trans cg2
  replace zg := Nat.lt_of_lt_of_le zg hb.size
  replace Og : Hid (OwnI w3.heap.size w14 sG m (fun j => 1 + (j : Int))) := Og.out.below hb
  replace Bs : Below w2.heap.size w2 w14 := Bs.trans (hb.mono Bs.size)
  replace B0 : Below w.heap.size w w14 := B0.trans (hb.mono B0.size)
  clear hb hh
  clear PH
  go_wp2_with fail
  refine (heldFrame_any T Q sG m cG 1 _ hm (by decide) (by decide) Og.out.row).mono ?_
  rintro e w15 ⟨rfl, hh⟩
  have hb : Below w14.heap.size w14 w15 := Below.trans (by repeat (first | with_reducible exact Below.refl _ _ | with_reducible refine Below.setCell ?_ (by first | omega | (simp; done) | (simp; omega)) _ | with_reducible refine bDrewN ?_ _ | with_reducible refine Below.drew ?_ | with_reducible refine Below.alloc ?_ (by first | omega | (simp; done) | (simp; omega)) _)) (hh.mono (by first | omega | (simp; done) | (simp; omega)))
  have lw15 : w14.heap.size ≤ w15.heap.size := hb.size
  replace cw0 := (hb.cell (p := ⟨w2.heap.size, 0, none⟩) zw).trans cw0
  replace cw1 := (hb.cell (p := ⟨w2.heap.size, 1, none⟩) zw).trans cw1
  replace cw2 := (hb.cell (p := ⟨w2.heap.size, 2, none⟩) zw).trans cw2
  replace zw := Nat.lt_of_lt_of_le zw hb.size
  replace cg0 := (hb.cell (p := ⟨w4.heap.size, 0, none⟩) zg).trans cg0
  replace cg1 := (hb.cell (p := ⟨w4.heap.size, 1, none⟩) zg).trans cg1
  replace cg2 := (hb.cell (p := ⟨w4.heap.size, 2, none⟩) zg).trans cg2
  replace zg := Nat.lt_of_lt_of_le zg hb.size
  replace Og : Hid (OwnI w3.heap.size w15 sG m (fun j => 1 + (j : Int))) := Og.out.below hb
  replace Bs : Below w2.heap.size w2 w15 := Bs.trans (hb.mono Bs.size)
  replace B0 : Below w.heap.size w w15 := B0.trans (hb.mono B0.size)
  clear hb hh
  go_wp2
  go_ret
  exact ⟨rfl, B0⟩

set_option maxHeartbeats 400000 in
theorem read_far (w : World) (s : Option Addr) (n c : Nat) (h0 : (1048576 : Int) < n) :
    Calls Try.prog 5 #[.slice s n c] w fun e w' => e = .returned (.bool true) ∧ Below w.heap.size w w' := by
  go_enter Try.func5, Try.ntmps5
  go_wp2
  go_ret
  exact ⟨rfl, Below.refl _ _⟩
theorem fnExactReadFrame_walk (w : World) (s : Option Addr) (n c : Nat) (V : Nat → Int) (hm : n ≤ 9223372036854775807) (R : RowY w s n V) (hV : ∀ j, j < n → 0 ≤ V j ∧ V j < 256) :
    Calls Try.prog 5 #[.slice s n c] w fun e w' => e = .returned (.bool true) ∧ Below w.heap.size w w' := by
  by_cases hn : (n : Int) ≤ 1048576
  · exact read_near w s n c V hn R _ _ _ _ _ rd_le (fun b o w h => specRead_any b o n V w hn hV h) (fun b o w h => implRead_any b o n V w hn hV h)
  · exact read_far w s n c (by omega)

set_option maxRecDepth 100000 in
theorem fnExactReadFrame_lifted (os : Os) (started : os.Started) (H : Type) (enc : TypeId × Value → H) :
    ReturnsInHanded {} Try.checked os 5 .any (Rows.fnExactReadFrameSpec.pre6 enc Try.prog Try.f5 Rows.fnExactReadFrameRow.domain false) (Rows.fnExactReadFrameSpec.post enc Try.prog Try.f5 false true false false) := by
  refine returnsInHanded_of_change (C := Try.checked) own started (by kernel_rfl) Try.func5
    (ChangeSpec.witness6 (enc := enc) (C := Try.checked) false ⟨#[], #[.slice none 0 0], []⟩ 8 (by kernel_rfl) (by kernel_rfl) (by kernel_rfl) (by kernel_rfl)) ?_
  intro W base args ds gs before hval0 hW hcnd _
  have hval : ∀ (j : Nat) t v, Try.f5.params[j]? = some t → args[j]? = some v → Value.okWide Try.prog W .any base t v := hval0
  have hW' := hW
  obtain ⟨p, q, hA0, hV, rfl, hfz, hnd⟩ := hW
  have hA : DataW.TrodAll enc Try.prog W 0 (fun _ => true) true Try.f5.params.toList args.toList ds p := hA0
  rw [Try.params5] at hA hval
  obtain ⟨v0, vs0, d0, ds0, p0, q0, hargs, rfl, rfl, h0, r0⟩ := trodAll_cons hA
  obtain ⟨rfl, rfl, rfl⟩ := trodAll_nil r0
  obtain rfl : args = #[v0] := by cases args; simp_all
  obtain ⟨rfl, rfl⟩ := trodVars_none hV
  have k0 := h0
  have lt0 : ∀ x ∈ p0, x.block < W.heap.size := by obtain ⟨m, hm⟩ := k0; exact DataW.trod_lt m _ _ _ hm
  obtain ⟨s0, n0, c0, V0, rfl, m0, R0, w0⟩ := open_u8s Try.underlying22 Try.underlying5 (by kernel_rfl) (hval 0 22 v0 rfl rfl) h0
  clear hA0 hval0
  refine (fnExactReadFrame_walk W s0 n0 c0 V0 m0 R0 w0).mono fun e W' ⟨he, bel⟩ => ?_
  subst he
  exact ⟨_, rfl, _, _, _, [], _, [], hW', trodAll_mk1 (shut_bool Try.underlying4 _), (trodAll_cons_mk (Below.trod laidOut (by kernel_rfl) (of_decide_eq_true (by kernel_rfl)) k0 bel lt0) trodAll_mk0), rfl, bel.frame _, fun h => by cases h⟩

theorem fnExactReadFrame_holds : Rows.FnExactReadFrameSaid :=
  OpenClaim.holds_of_wide 5 Try.f5 rfl rfl rfl rfl rfl rfl rfl ⟨rfl, rfl, rfl, rfl, rfl⟩ rfl rfl rfl rfl rfl (by kernel_rfl) Try.func5 (by kernel_rfl)
    (of_decide_eq_true (by kernel_rfl)) (by unfold Func.isWrapper; first | (rw [if_pos (by decide +kernel)]; kernel_rfl) | (rw [if_neg (by decide +kernel)]; exact ⟨rfl, rfl⟩))
    (fun os started H enc _ => fnExactReadFrame_lifted os started H enc)
#print axioms fnExactReadFrame_holds
end Go.Proofs.Ytkaicllddneokaa
