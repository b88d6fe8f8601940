/-
What is proved: at every link and every list of bytes impl.Hear answers as the specification's Hear, leaves both alone, and its answer owns its memory; no condition.
-/
import Derived.Test.YtiekcafibdiljaaHeS
import Derived.Test.YtiekcafibdiljaaHeI
import Derived.Test.YtiekcafibdiljaaLkO
import Derived.Test.YtiekcafibdiljaaOpenY
import Derived.Deep.RegionHeld3
import Derived.Deep.DeepCutAuto
namespace Go.Proofs.Ytiekcafibdiljaa
set_option maxRecDepth 40000
open Go.ChangeShapes Go.WideShapes Go.ChangeAt Go.RowKit
set_option linter.unusedVariables false
set_option linter.unusedSimpArgs false

theorem keepL {W W' : World} {p r : Nat} {va0 va1 va2 va3 va4 va5 vx0 vx1 vx2 vx3 vx4 vx5 : Value} (ha0 : W.cell? ⟨p, 0, none⟩ = some va0) (ha1 : W.cell? ⟨p, 1, none⟩ = some va1) (ha2 : W.cell? ⟨p, 2, none⟩ = some va2) (ha3 : W.cell? ⟨p, 3, none⟩ = some va3) (ha4 : W.cell? ⟨p, 4, none⟩ = some va4) (ha5 : W.cell? ⟨p, 5, none⟩ = some va5) (hx0 : W.cell? ⟨r, 0, none⟩ = some vx0) (hx1 : W.cell? ⟨r, 1, none⟩ = some vx1) (hx2 : W.cell? ⟨r, 2, none⟩ = some vx2) (hx3 : W.cell? ⟨r, 3, none⟩ = some vx3) (hx4 : W.cell? ⟨r, 4, none⟩ = some vx4) (hx5 : W.cell? ⟨r, 5, none⟩ = some vx5) (zp : p < W.heap.size) (zr : r < W.heap.size) (hb : Below W.heap.size W W') : W'.cell? ⟨p, 0, none⟩ = some va0 ∧ W'.cell? ⟨p, 1, none⟩ = some va1 ∧ W'.cell? ⟨p, 2, none⟩ = some va2 ∧ W'.cell? ⟨p, 3, none⟩ = some va3 ∧ W'.cell? ⟨p, 4, none⟩ = some va4 ∧ W'.cell? ⟨p, 5, none⟩ = some va5 ∧ W'.cell? ⟨r, 0, none⟩ = some vx0 ∧ W'.cell? ⟨r, 1, none⟩ = some vx1 ∧ W'.cell? ⟨r, 2, none⟩ = some vx2 ∧ W'.cell? ⟨r, 3, none⟩ = some vx3 ∧ W'.cell? ⟨r, 4, none⟩ = some vx4 ∧ W'.cell? ⟨r, 5, none⟩ = some vx5 :=
  ⟨(hb.cell (p := ⟨p, 0, none⟩) zp).trans ha0, (hb.cell (p := ⟨p, 1, none⟩) zp).trans ha1, (hb.cell (p := ⟨p, 2, none⟩) zp).trans ha2, (hb.cell (p := ⟨p, 3, none⟩) zp).trans ha3, (hb.cell (p := ⟨p, 4, none⟩) zp).trans ha4, (hb.cell (p := ⟨p, 5, none⟩) zp).trans ha5, (hb.cell (p := ⟨r, 0, none⟩) zr).trans hx0, (hb.cell (p := ⟨r, 1, none⟩) zr).trans hx1, (hb.cell (p := ⟨r, 2, none⟩) zr).trans hx2, (hb.cell (p := ⟨r, 3, none⟩) zr).trans hx3, (hb.cell (p := ⟨r, 4, none⟩) zr).trans hx4, (hb.cell (p := ⟨r, 5, none⟩) zr).trans hx5⟩
theorem rowY_one {w : World} {s : Option Addr} {n : Nat} {V : Nat → Int} {o : Obj} (h : RowY w s n V) : RowY (w.alloc o) s n V := h.below (by repeat (first | with_reducible exact Below.refl _ _ | with_reducible refine Below.setCell ?_ (by first | omega | (simp; done) | (simp; omega)) _ | with_reducible refine bDrewN ?_ _ | with_reducible refine Below.drew ?_ | with_reducible refine Below.alloc ?_ (by first | omega | (simp; done) | (simp; omega)) _))
theorem toByteS_b (s : Option Addr) (n c : Nat) (V : Nat → Int) (w : World) (hn : (n : Int) ≤ 1048576) (HR : Hid (RowY w s n V)) :
    Calls Try.prog 9 #[.slice s n c] w fun e w' => ∃ b, e = .returned (.slice (some ⟨b, 0, none⟩) n n) ∧ w.heap.size ≤ b ∧ b < w'.heap.size ∧ OwnY w.heap.size w' (some ⟨b, 0, none⟩) n V ∧ Below w.heap.size w w' :=
  (toByteS_any s n c V w hn HR).mono fun e w' ⟨h1, h2, h3, h4⟩ => ⟨_, h1, Nat.le_refl _, h2, h3, h4⟩
set_option maxHeartbeats 8000000 in
theorem hear_near (w : World) (t : Int) (h : Bool) (q a l : Int) (s : Option Addr) (n c : Nat) (V : Nat → Int) (s2 : Option Addr) (n2 c2 : Nat) (V2 : Nat → Int) (hn : (n : Int) ≤ 1048576) (hn2 : (n2 : Int) ≤ 1048576) (HR : Hid (RowI w s n V)) (HY : Hid (RowY w s2 n2 V2)) (C T : Int) (Hh : Bool) (Q A Lo : Int) (m : Nat) (U : Nat → Int) (hm : (m : Int) ≤ 1048576) (H1 : Hid (∀ (ad : Addr) (c b o : Nat) w, RowI w (some ad) n V → RowY w (some ⟨b, o, none⟩) n2 V2 → Calls Try.prog 7 #[.agg #[.int .i64 t, .bool h, .int .i64 q, .int .i64 a, .int .i64 l, .slice (some ad) n c], .slice (some ⟨b, o, none⟩) n2 n2] w fun e w' => ∃ s' c', e = .returned (.tuple #[.agg #[.int .i64 T, .bool Hh, .int .i64 Q, .int .i64 A, .int .i64 Lo, .slice s' m c'], .int .i64 C]) ∧ OwnI w.heap.size w' s' m U ∧ Below w.heap.size w w')) (H2 : Hid (∀ (ad : Addr) (c b o : Nat) w, RowI w (some ad) n V → RowY w (some ⟨b, o, none⟩) n2 V2 → Calls Try.prog 10 #[.agg #[.int .i64 t, .bool h, .int .i64 q, .int .i64 a, .int .i64 l, .slice (some ad) n c], .slice (some ⟨b, o, none⟩) n2 n2] w fun e w' => ∃ s' c', e = .returned (.tuple #[.agg #[.int .i64 T, .bool Hh, .int .i64 Q, .int .i64 A, .int .i64 Lo, .slice s' m c'], .int .i64 C]) ∧ OwnI w.heap.size w' s' m U ∧ Below w.heap.size w w')) :
    Calls Try.prog 3 #[.agg #[.int .i64 t, .bool h, .int .i64 q, .int .i64 a, .int .i64 l, .slice s n c], .slice s2 n2 c2] w fun e w' => e = .returned (.bool true) ∧ Below w.heap.size w w' := by
  have sto := store_sl
  go_enter Try.func3, Try.ntmps3
  go_wp2_with fail
  refine (szLink_on t h q a l s n c _ _ (by omega) (by omega) hn).mono ?_
  rintro e w1 ⟨rfl, hh⟩
  have hb : Below w.heap.size w w1 := Below.trans (by repeat (first | with_reducible exact Below.refl _ _ | with_reducible refine Below.setCell ?_ (by first | omega | (simp; done) | (simp; omega)) _ | with_reducible refine bDrewN ?_ _ | with_reducible refine Below.drew ?_ | with_reducible refine Below.alloc ?_ (by first | omega | (simp; done) | (simp; omega)) _)) (hh.mono (by first | omega | (simp; done) | (simp; omega)))
  have lw1 : w.heap.size ≤ w1.heap.size := hb.size
  have ca0 : w1.cell? ⟨w.heap.size, 0, none⟩ = some (.int .i64 t) := by rw [hh.cell (by first | omega | (simp; done) | (simp; omega))]; first | (simp; done) | (simp [go_sem]; done)
  have ca1 : w1.cell? ⟨w.heap.size, 1, none⟩ = some (.bool h) := by rw [hh.cell (by first | omega | (simp; done) | (simp; omega))]; first | (simp; done) | (simp [go_sem]; done)
  have ca2 : w1.cell? ⟨w.heap.size, 2, none⟩ = some (.int .i64 q) := by rw [hh.cell (by first | omega | (simp; done) | (simp; omega))]; first | (simp; done) | (simp [go_sem]; done)
  have ca3 : w1.cell? ⟨w.heap.size, 3, none⟩ = some (.int .i64 a) := by rw [hh.cell (by first | omega | (simp; done) | (simp; omega))]; first | (simp; done) | (simp [go_sem]; done)
  have ca4 : w1.cell? ⟨w.heap.size, 4, none⟩ = some (.int .i64 l) := by rw [hh.cell (by first | omega | (simp; done) | (simp; omega))]; first | (simp; done) | (simp [go_sem]; done)
  have ca5 : w1.cell? ⟨w.heap.size, 5, none⟩ = some (.slice s n c) := by rw [hh.cell (by first | omega | (simp; done) | (simp; omega))]; first | (simp; done) | (simp [go_sem]; done)
  have za : w.heap.size < w1.heap.size := by have := hh.size; simp at this; omega
  have ya := za
  have B0 : Below w.heap.size w w1 := hb
  clear hb hh
  go_wp2_with fail
  refine (toLink_any t h q a l s n c V _ hn (HR.out.below B0)).mono ?_
  rintro e w2 ⟨bt, rfl, -, -, OT, hh⟩
  have hb : Below w1.heap.size w1 w2 := Below.trans (by repeat (first | with_reducible exact Below.refl _ _ | with_reducible refine Below.setCell ?_ (by first | omega | (simp; done) | (simp; omega)) _ | with_reducible refine bDrewN ?_ _ | with_reducible refine Below.drew ?_ | with_reducible refine Below.alloc ?_ (by first | omega | (simp; done) | (simp; omega)) _)) (hh.mono (by first | omega | (simp; done) | (simp; omega)))
  have lw2 : w1.heap.size ≤ w2.heap.size := hb.size
  replace ca0 := (hb.cell (p := ⟨w.heap.size, 0, none⟩) za).trans ca0
  replace ca1 := (hb.cell (p := ⟨w.heap.size, 1, none⟩) za).trans ca1
  replace ca2 := (hb.cell (p := ⟨w.heap.size, 2, none⟩) za).trans ca2
  replace ca3 := (hb.cell (p := ⟨w.heap.size, 3, none⟩) za).trans ca3
  replace ca4 := (hb.cell (p := ⟨w.heap.size, 4, none⟩) za).trans ca4
  replace ca5 := (hb.cell (p := ⟨w.heap.size, 5, none⟩) za).trans ca5
  replace za := Nat.lt_of_lt_of_le za hb.size
  replace B0 : Below w.heap.size w w2 := B0.trans (hb.mono B0.size)
  clear hb hh
  have Ot : Hid (OwnI w1.heap.size w2 (some ⟨bt, 0, none⟩) n V) := OT
  clear OT
  go_wp2_with fail
  refine (toByteS_b s2 n2 c2 V2 _ hn2 (HY.out.below B0)).mono ?_
  rintro e w3 ⟨bu, rfl, -, -, OU, hh⟩
  have hb : Below w2.heap.size w2 w3 := Below.trans (by repeat (first | with_reducible exact Below.refl _ _ | with_reducible refine Below.setCell ?_ (by first | omega | (simp; done) | (simp; omega)) _ | with_reducible refine bDrewN ?_ _ | with_reducible refine Below.drew ?_ | with_reducible refine Below.alloc ?_ (by first | omega | (simp; done) | (simp; omega)) _)) (hh.mono (by first | omega | (simp; done) | (simp; omega)))
  have lw3 : w2.heap.size ≤ w3.heap.size := hb.size
  replace ca0 := (hb.cell (p := ⟨w.heap.size, 0, none⟩) za).trans ca0
  replace ca1 := (hb.cell (p := ⟨w.heap.size, 1, none⟩) za).trans ca1
  replace ca2 := (hb.cell (p := ⟨w.heap.size, 2, none⟩) za).trans ca2
  replace ca3 := (hb.cell (p := ⟨w.heap.size, 3, none⟩) za).trans ca3
  replace ca4 := (hb.cell (p := ⟨w.heap.size, 4, none⟩) za).trans ca4
  replace ca5 := (hb.cell (p := ⟨w.heap.size, 5, none⟩) za).trans ca5
  replace za := Nat.lt_of_lt_of_le za hb.size
  replace Ot : Hid (OwnI w1.heap.size w3 (some ⟨bt, 0, none⟩) n V) := Ot.out.below hb
  replace B0 : Below w.heap.size w w3 := B0.trans (hb.mono B0.size)
  clear hb hh
  have Ou : Hid (OwnY w2.heap.size w3 (some ⟨bu, 0, none⟩) n2 V2) := OU
  clear OU
  go_wp2_with fail
  refine (H1.out _ _ _ _ _ Ot.out.row Ou.out.row).mono ?_
  rintro e w4 ⟨sW, cW, rfl, OW, hh⟩
  have hb : Below w3.heap.size w3 w4 := Below.trans (by repeat (first | with_reducible exact Below.refl _ _ | with_reducible refine Below.setCell ?_ (by first | omega | (simp; done) | (simp; omega)) _ | with_reducible refine bDrewN ?_ _ | with_reducible refine Below.drew ?_ | with_reducible refine Below.alloc ?_ (by first | omega | (simp; done) | (simp; omega)) _)) (hh.mono (by first | omega | (simp; done) | (simp; omega)))
  have lw4 : w3.heap.size ≤ w4.heap.size := hb.size
  replace ca0 := (hb.cell (p := ⟨w.heap.size, 0, none⟩) za).trans ca0
  replace ca1 := (hb.cell (p := ⟨w.heap.size, 1, none⟩) za).trans ca1
  replace ca2 := (hb.cell (p := ⟨w.heap.size, 2, none⟩) za).trans ca2
  replace ca3 := (hb.cell (p := ⟨w.heap.size, 3, none⟩) za).trans ca3
  replace ca4 := (hb.cell (p := ⟨w.heap.size, 4, none⟩) za).trans ca4
  replace ca5 := (hb.cell (p := ⟨w.heap.size, 5, none⟩) za).trans ca5
  replace za := Nat.lt_of_lt_of_le za hb.size
  replace Ot : Hid (OwnI w1.heap.size w4 (some ⟨bt, 0, none⟩) n V) := Ot.out.below hb
  replace Ou : Hid (OwnY w2.heap.size w4 (some ⟨bu, 0, none⟩) n2 V2) := Ou.out.below hb
  replace B0 : Below w.heap.size w w4 := B0.trans (hb.mono B0.size)
  clear hb hh
  clear Ot
  clear Ou
  have Bs : Below w4.heap.size w4 w4 := Below.refl _ _
  have RW : Hid (RowI w4 sW m U) := OW.row
  clear OW
  go_wp2_with fail
  refine (toLink_any t h q a l s n c V _ hn (row_one (HR.out.below B0))).mono ?_
  rintro e w5 ⟨bx, rfl, lx, ux, OX0, hh⟩
  have hb : Below w4.heap.size w4 w5 := Below.trans (by repeat (first | with_reducible exact Below.refl _ _ | with_reducible refine Below.setCell ?_ (by first | omega | (simp; done) | (simp; omega)) _ | with_reducible refine bDrewN ?_ _ | with_reducible refine Below.drew ?_ | with_reducible refine Below.alloc ?_ (by first | omega | (simp; done) | (simp; omega)) _)) (hh.mono (by first | omega | (simp; done) | (simp; omega)))
  have lw5 : w4.heap.size ≤ w5.heap.size := hb.size
  have cw0 : w5.cell? ⟨w4.heap.size, 0, none⟩ = some (.int .i64 T) := by rw [hh.cell (by first | omega | (simp; done) | (simp; omega))]; first | (simp; done) | (simp [go_sem]; done)
  have cw1 : w5.cell? ⟨w4.heap.size, 1, none⟩ = some (.bool Hh) := by rw [hh.cell (by first | omega | (simp; done) | (simp; omega))]; first | (simp; done) | (simp [go_sem]; done)
  have cw2 : w5.cell? ⟨w4.heap.size, 2, none⟩ = some (.int .i64 Q) := by rw [hh.cell (by first | omega | (simp; done) | (simp; omega))]; first | (simp; done) | (simp [go_sem]; done)
  have cw3 : w5.cell? ⟨w4.heap.size, 3, none⟩ = some (.int .i64 A) := by rw [hh.cell (by first | omega | (simp; done) | (simp; omega))]; first | (simp; done) | (simp [go_sem]; done)
  have cw4 : w5.cell? ⟨w4.heap.size, 4, none⟩ = some (.int .i64 Lo) := by rw [hh.cell (by first | omega | (simp; done) | (simp; omega))]; first | (simp; done) | (simp [go_sem]; done)
  have cw5 : w5.cell? ⟨w4.heap.size, 5, none⟩ = some (.slice sW m cW) := by rw [hh.cell (by first | omega | (simp; done) | (simp; omega))]; first | (simp; done) | (simp [go_sem]; done)
  have zw : w4.heap.size < w5.heap.size := by have := hh.size; simp at this; omega
  have yw := zw
  replace ca0 := (hb.cell (p := ⟨w.heap.size, 0, none⟩) za).trans ca0
  replace ca1 := (hb.cell (p := ⟨w.heap.size, 1, none⟩) za).trans ca1
  replace ca2 := (hb.cell (p := ⟨w.heap.size, 2, none⟩) za).trans ca2
  replace ca3 := (hb.cell (p := ⟨w.heap.size, 3, none⟩) za).trans ca3
  replace ca4 := (hb.cell (p := ⟨w.heap.size, 4, none⟩) za).trans ca4
  replace ca5 := (hb.cell (p := ⟨w.heap.size, 5, none⟩) za).trans ca5
  replace za := Nat.lt_of_lt_of_le za hb.size
  replace Bs : Below w4.heap.size w4 w5 := Bs.trans (hb.mono Bs.size)
  replace B0 : Below w.heap.size w w5 := B0.trans (hb.mono B0.size)
  clear hb hh
  have Ox : Hid (OwnI (w4.heap.size + 1) w5 (some ⟨bx, 0, none⟩) n V) := OX0.mono (by first | omega | (simp; done) | (simp; omega))
  clear OX0 lx
  go_wp2_with fail
  refine (toByteS_b s2 n2 c2 V2 _ hn2 (rowY_one (HY.out.below B0))).mono ?_
  rintro e w6 ⟨bv, rfl, ly, uy, OY0, hh⟩
  have hb : Below w5.heap.size w5 w6 := Below.trans (by repeat (first | with_reducible exact Below.refl _ _ | with_reducible refine Below.setCell ?_ (by first | omega | (simp; done) | (simp; omega)) _ | with_reducible refine bDrewN ?_ _ | with_reducible refine Below.drew ?_ | with_reducible refine Below.alloc ?_ (by first | omega | (simp; done) | (simp; omega)) _)) (hh.mono (by first | omega | (simp; done) | (simp; omega)))
  have lw6 : w5.heap.size ≤ w6.heap.size := hb.size
  have cx0 : w6.cell? ⟨w5.heap.size, 0, none⟩ = some (.int .i64 t) := by rw [hh.cell (by first | omega | (simp; done) | (simp; omega))]; first | (simp; done) | (simp [go_sem]; done)
  have cx1 : w6.cell? ⟨w5.heap.size, 1, none⟩ = some (.bool h) := by rw [hh.cell (by first | omega | (simp; done) | (simp; omega))]; first | (simp; done) | (simp [go_sem]; done)
  have cx2 : w6.cell? ⟨w5.heap.size, 2, none⟩ = some (.int .i64 q) := by rw [hh.cell (by first | omega | (simp; done) | (simp; omega))]; first | (simp; done) | (simp [go_sem]; done)
  have cx3 : w6.cell? ⟨w5.heap.size, 3, none⟩ = some (.int .i64 a) := by rw [hh.cell (by first | omega | (simp; done) | (simp; omega))]; first | (simp; done) | (simp [go_sem]; done)
  have cx4 : w6.cell? ⟨w5.heap.size, 4, none⟩ = some (.int .i64 l) := by rw [hh.cell (by first | omega | (simp; done) | (simp; omega))]; first | (simp; done) | (simp [go_sem]; done)
  have cx5 : w6.cell? ⟨w5.heap.size, 5, none⟩ = some (.slice (some ⟨bx, 0, none⟩) n n) := by rw [hh.cell (by first | omega | (simp; done) | (simp; omega))]; first | (simp; done) | (simp [go_sem]; done)
  have zx : w5.heap.size < w6.heap.size := by have := hh.size; simp at this; omega
  have yx := zx
  replace ca0 := (hb.cell (p := ⟨w.heap.size, 0, none⟩) za).trans ca0
  replace ca1 := (hb.cell (p := ⟨w.heap.size, 1, none⟩) za).trans ca1
  replace ca2 := (hb.cell (p := ⟨w.heap.size, 2, none⟩) za).trans ca2
  replace ca3 := (hb.cell (p := ⟨w.heap.size, 3, none⟩) za).trans ca3
  replace ca4 := (hb.cell (p := ⟨w.heap.size, 4, none⟩) za).trans ca4
  replace ca5 := (hb.cell (p := ⟨w.heap.size, 5, none⟩) za).trans ca5
  replace za := Nat.lt_of_lt_of_le za hb.size
  replace cw0 := (hb.cell (p := ⟨w4.heap.size, 0, none⟩) zw).trans cw0
  replace cw1 := (hb.cell (p := ⟨w4.heap.size, 1, none⟩) zw).trans cw1
  replace cw2 := (hb.cell (p := ⟨w4.heap.size, 2, none⟩) zw).trans cw2
  replace cw3 := (hb.cell (p := ⟨w4.heap.size, 3, none⟩) zw).trans cw3
  replace cw4 := (hb.cell (p := ⟨w4.heap.size, 4, none⟩) zw).trans cw4
  replace cw5 := (hb.cell (p := ⟨w4.heap.size, 5, none⟩) zw).trans cw5
  replace zw := Nat.lt_of_lt_of_le zw hb.size
  replace Ox : Hid (OwnI (w4.heap.size + 1) w6 (some ⟨bx, 0, none⟩) n V) := Ox.out.below hb
  replace Bs : Below w4.heap.size w4 w6 := Bs.trans (hb.mono Bs.size)
  replace B0 : Below w.heap.size w w6 := B0.trans (hb.mono B0.size)
  clear hb hh
  have Oy : Hid (OwnY (w5.heap.size + 1) w6 (some ⟨bv, 0, none⟩) n2 V2) := OY0.mono (by first | omega | (simp; done) | (simp; omega))
  clear OY0
  have ly1 : w5.heap.size + 1 ≤ bv := by simpa using ly
  clear ly
  go_wp2_with fail
  refine (H2.out _ _ _ _ _ Ox.out.row Oy.out.row).mono ?_
  rintro e w7 ⟨sG, cG, rfl, OG0, hh⟩
  have hb : Below w6.heap.size w6 w7 := Below.trans (by repeat (first | with_reducible exact Below.refl _ _ | with_reducible refine Below.setCell ?_ (by first | omega | (simp; done) | (simp; omega)) _ | with_reducible refine bDrewN ?_ _ | with_reducible refine Below.drew ?_ | with_reducible refine Below.alloc ?_ (by first | omega | (simp; done) | (simp; omega)) _)) (hh.mono (by first | omega | (simp; done) | (simp; omega)))
  have lw7 : w6.heap.size ≤ w7.heap.size := hb.size
  replace ca0 := (hb.cell (p := ⟨w.heap.size, 0, none⟩) za).trans ca0
  replace ca1 := (hb.cell (p := ⟨w.heap.size, 1, none⟩) za).trans ca1
  replace ca2 := (hb.cell (p := ⟨w.heap.size, 2, none⟩) za).trans ca2
  replace ca3 := (hb.cell (p := ⟨w.heap.size, 3, none⟩) za).trans ca3
  replace ca4 := (hb.cell (p := ⟨w.heap.size, 4, none⟩) za).trans ca4
  replace ca5 := (hb.cell (p := ⟨w.heap.size, 5, none⟩) za).trans ca5
  replace za := Nat.lt_of_lt_of_le za hb.size
  replace cw0 := (hb.cell (p := ⟨w4.heap.size, 0, none⟩) zw).trans cw0
  replace cw1 := (hb.cell (p := ⟨w4.heap.size, 1, none⟩) zw).trans cw1
  replace cw2 := (hb.cell (p := ⟨w4.heap.size, 2, none⟩) zw).trans cw2
  replace cw3 := (hb.cell (p := ⟨w4.heap.size, 3, none⟩) zw).trans cw3
  replace cw4 := (hb.cell (p := ⟨w4.heap.size, 4, none⟩) zw).trans cw4
  replace cw5 := (hb.cell (p := ⟨w4.heap.size, 5, none⟩) zw).trans cw5
  replace zw := Nat.lt_of_lt_of_le zw hb.size
  replace cx0 := (hb.cell (p := ⟨w5.heap.size, 0, none⟩) zx).trans cx0
  replace cx1 := (hb.cell (p := ⟨w5.heap.size, 1, none⟩) zx).trans cx1
  replace cx2 := (hb.cell (p := ⟨w5.heap.size, 2, none⟩) zx).trans cx2
  replace cx3 := (hb.cell (p := ⟨w5.heap.size, 3, none⟩) zx).trans cx3
  replace cx4 := (hb.cell (p := ⟨w5.heap.size, 4, none⟩) zx).trans cx4
  replace cx5 := (hb.cell (p := ⟨w5.heap.size, 5, none⟩) zx).trans cx5
  replace zx := Nat.lt_of_lt_of_le zx hb.size
  replace Ox : Hid (OwnI (w4.heap.size + 1) w7 (some ⟨bx, 0, none⟩) n V) := Ox.out.below hb
  replace Oy : Hid (OwnY (w5.heap.size + 1) w7 (some ⟨bv, 0, none⟩) n2 V2) := Oy.out.below hb
  replace Bs : Below w4.heap.size w4 w7 := Bs.trans (hb.mono Bs.size)
  replace B0 : Below w.heap.size w w7 := B0.trans (hb.mono B0.size)
  clear hb hh
  have Og : Hid (OwnI w6.heap.size w7 sG m U) := OG0
  clear OG0
  have bG : Hid (0 < m → ∀ b, sG = some ⟨b, 0, none⟩ → w6.heap.size ≤ b ∧ b < w7.heap.size) := own_at Og.out
  go_wp2_with fail
  refine (eqLink_any T Hh Q A Lo sG sW m cG cW U _ hm (row_one Og.out.row) (row_one (RW.out.below Bs))).mono ?_
  rintro e w8 ⟨rfl, hh⟩
  have hb : Below w7.heap.size w7 w8 := Below.trans (by repeat (first | with_reducible exact Below.refl _ _ | with_reducible refine Below.setCell ?_ (by first | omega | (simp; done) | (simp; omega)) _ | with_reducible refine bDrewN ?_ _ | with_reducible refine Below.drew ?_ | with_reducible refine Below.alloc ?_ (by first | omega | (simp; done) | (simp; omega)) _)) (hh.mono (by first | omega | (simp; done) | (simp; omega)))
  have lw8 : w7.heap.size ≤ w8.heap.size := hb.size
  have cg0 : w8.cell? ⟨w7.heap.size, 0, none⟩ = some (.int .i64 T) := by rw [hh.cell (by first | omega | (simp; done) | (simp; omega))]; first | (simp; done) | (simp [go_sem]; done)
  have cg1 : w8.cell? ⟨w7.heap.size, 1, none⟩ = some (.bool Hh) := by rw [hh.cell (by first | omega | (simp; done) | (simp; omega))]; first | (simp; done) | (simp [go_sem]; done)
  have cg2 : w8.cell? ⟨w7.heap.size, 2, none⟩ = some (.int .i64 Q) := by rw [hh.cell (by first | omega | (simp; done) | (simp; omega))]; first | (simp; done) | (simp [go_sem]; done)
  have cg3 : w8.cell? ⟨w7.heap.size, 3, none⟩ = some (.int .i64 A) := by rw [hh.cell (by first | omega | (simp; done) | (simp; omega))]; first | (simp; done) | (simp [go_sem]; done)
  have cg4 : w8.cell? ⟨w7.heap.size, 4, none⟩ = some (.int .i64 Lo) := by rw [hh.cell (by first | omega | (simp; done) | (simp; omega))]; first | (simp; done) | (simp [go_sem]; done)
  have cg5 : w8.cell? ⟨w7.heap.size, 5, none⟩ = some (.slice sG m cG) := by rw [hh.cell (by first | omega | (simp; done) | (simp; omega))]; first | (simp; done) | (simp [go_sem]; done)
  have zg : w7.heap.size < w8.heap.size := by have := hh.size; simp at this; omega
  have yg := zg
  replace ca0 := (hb.cell (p := ⟨w.heap.size, 0, none⟩) za).trans ca0
  replace ca1 := (hb.cell (p := ⟨w.heap.size, 1, none⟩) za).trans ca1
  replace ca2 := (hb.cell (p := ⟨w.heap.size, 2, none⟩) za).trans ca2
  replace ca3 := (hb.cell (p := ⟨w.heap.size, 3, none⟩) za).trans ca3
  replace ca4 := (hb.cell (p := ⟨w.heap.size, 4, none⟩) za).trans ca4
  replace ca5 := (hb.cell (p := ⟨w.heap.size, 5, none⟩) za).trans ca5
  replace za := Nat.lt_of_lt_of_le za hb.size
  replace cw0 := (hb.cell (p := ⟨w4.heap.size, 0, none⟩) zw).trans cw0
  replace cw1 := (hb.cell (p := ⟨w4.heap.size, 1, none⟩) zw).trans cw1
  replace cw2 := (hb.cell (p := ⟨w4.heap.size, 2, none⟩) zw).trans cw2
  replace cw3 := (hb.cell (p := ⟨w4.heap.size, 3, none⟩) zw).trans cw3
  replace cw4 := (hb.cell (p := ⟨w4.heap.size, 4, none⟩) zw).trans cw4
  replace cw5 := (hb.cell (p := ⟨w4.heap.size, 5, none⟩) zw).trans cw5
  replace zw := Nat.lt_of_lt_of_le zw hb.size
  replace cx0 := (hb.cell (p := ⟨w5.heap.size, 0, none⟩) zx).trans cx0
  replace cx1 := (hb.cell (p := ⟨w5.heap.size, 1, none⟩) zx).trans cx1
  replace cx2 := (hb.cell (p := ⟨w5.heap.size, 2, none⟩) zx).trans cx2
  replace cx3 := (hb.cell (p := ⟨w5.heap.size, 3, none⟩) zx).trans cx3
  replace cx4 := (hb.cell (p := ⟨w5.heap.size, 4, none⟩) zx).trans cx4
  replace cx5 := (hb.cell (p := ⟨w5.heap.size, 5, none⟩) zx).trans cx5
  replace zx := Nat.lt_of_lt_of_le zx hb.size
  replace Ox : Hid (OwnI (w4.heap.size + 1) w8 (some ⟨bx, 0, none⟩) n V) := Ox.out.below hb
  replace Oy : Hid (OwnY (w5.heap.size + 1) w8 (some ⟨bv, 0, none⟩) n2 V2) := Oy.out.below hb
  replace Og : Hid (OwnI w6.heap.size w8 sG m U) := Og.out.below hb
  replace Bs : Below w4.heap.size w4 w8 := Bs.trans (hb.mono Bs.size)
  replace B0 : Below w.heap.size w w8 := B0.trans (hb.mono B0.size)
  clear hb hh
  go_upto_region 13 with fail
  have HB : Hid (Below w.heap.size w w8) := B0
  go_cut [56] (fun y wx => y = .bool false ∧ Below w8.heap.size w8 wx)
  case first =>
    go_region_held3 (fun w' => w'.cell? ⟨w.heap.size, 0, none⟩ = some (.int .i64 t) ∧ w'.cell? ⟨w.heap.size, 1, none⟩ = some (.bool h) ∧ w'.cell? ⟨w.heap.size, 2, none⟩ = some (.int .i64 q) ∧ w'.cell? ⟨w.heap.size, 3, none⟩ = some (.int .i64 a) ∧ w'.cell? ⟨w.heap.size, 4, none⟩ = some (.int .i64 l) ∧ w'.cell? ⟨w.heap.size, 5, none⟩ = some (.slice s n c) ∧ w'.cell? ⟨w5.heap.size, 0, none⟩ = some (.int .i64 t) ∧ w'.cell? ⟨w5.heap.size, 1, none⟩ = some (.bool h) ∧ w'.cell? ⟨w5.heap.size, 2, none⟩ = some (.int .i64 q) ∧ w'.cell? ⟨w5.heap.size, 3, none⟩ = some (.int .i64 a) ∧ w'.cell? ⟨w5.heap.size, 4, none⟩ = some (.int .i64 l) ∧ w'.cell? ⟨w5.heap.size, 5, none⟩ = some (.slice (some ⟨bx, 0, none⟩) n n)) (first | (exact ⟨ca0, ca1, ca2, ca3, ca4, ca5, cx0, cx1, cx2, cx3, cx4, cx5⟩) | (refine keepL ca0 ca1 ca2 ca3 ca4 ca5 cx0 cx1 cx2 cx3 cx4 cx5 za zx ?_; exact (by repeat (first | with_reducible exact Below.refl _ _ | with_reducible exact B8 | with_reducible exact B7 | with_reducible refine Below.setCell ?_ (by first | omega | (simp; done) | (simp; omega)) _ | with_reducible refine bDrewN ?_ _ | with_reducible refine Below.drew ?_ | with_reducible refine Below.alloc ?_ (by first | omega | (simp; done) | (simp; omega)) _)))) (first
      | (go_at_call 8; refine (toLink_any t h q a l s n c V _ hn (HR.out.below (HB.out.trans (Below.mono (by repeat (first | with_reducible exact Below.refl _ _ | with_reducible refine Below.setCell ?_ (by first | omega | (simp; done) | (simp; omega)) _ | with_reducible refine bDrewN ?_ _ | with_reducible refine Below.drew ?_ | with_reducible refine Below.alloc ?_ (by first | omega | (simp; done) | (simp; omega)) _)) HB.out.size)))).mono ?_; rintro e wy ⟨y, rfl, -, -, OY, h7⟩; have B7 : Below w8.heap.size w8 wy := Below.trans (by repeat (first | with_reducible exact Below.refl _ _ | with_reducible refine Below.setCell ?_ (by first | omega | (simp; done) | (simp; omega)) _ | with_reducible refine bDrewN ?_ _ | with_reducible refine Below.drew ?_ | with_reducible refine Below.alloc ?_ (by first | omega | (simp; done) | (simp; omega)) _)) (h7.mono (by first | omega | (simp; done) | (simp; omega))); have s7 := B7.size; have PY : Hid (RowI wy (some ⟨y, 0, none⟩) n V) := OY.row; have PX : Hid (RowI wy (some ⟨bx, 0, none⟩) n V) := Ox.out.row.below B7; clear h7 OY)
      | (go_at_call 11; refine (eqLink_any t h q a l _ _ n _ _ V _ hn PX.out PY.out).mono ?_; rintro e wz ⟨rfl, h8⟩; have B8 : Below w8.heap.size w8 wz := Below.trans (by repeat (first | with_reducible exact Below.refl _ _ | with_reducible exact B7 | with_reducible refine Below.setCell ?_ (by first | omega | (simp; done) | (simp; omega)) _ | with_reducible refine bDrewN ?_ _ | with_reducible refine Below.drew ?_ | with_reducible refine Below.alloc ?_ (by first | omega | (simp; done) | (simp; omega)) _)) (h8.mono (by first | omega | (simp; done) | (simp; omega))); clear h8))
    all_goals
      go_wp2_with fail
      go_meet
      exact ⟨rfl, B8⟩
  obtain ⟨rfl, hb⟩ := hcut
  rename World => w9
  have lw9 : w8.heap.size ≤ w9.heap.size := hb.size
  replace ca0 := (hb.cell (p := ⟨w.heap.size, 0, none⟩) za).trans ca0
  replace ca1 := (hb.cell (p := ⟨w.heap.size, 1, none⟩) za).trans ca1
  replace ca2 := (hb.cell (p := ⟨w.heap.size, 2, none⟩) za).trans ca2
  replace ca3 := (hb.cell (p := ⟨w.heap.size, 3, none⟩) za).trans ca3
  replace ca4 := (hb.cell (p := ⟨w.heap.size, 4, none⟩) za).trans ca4
  replace ca5 := (hb.cell (p := ⟨w.heap.size, 5, none⟩) za).trans ca5
  replace za := Nat.lt_of_lt_of_le za hb.size
  replace cw0 := (hb.cell (p := ⟨w4.heap.size, 0, none⟩) zw).trans cw0
  replace cw1 := (hb.cell (p := ⟨w4.heap.size, 1, none⟩) zw).trans cw1
  replace cw2 := (hb.cell (p := ⟨w4.heap.size, 2, none⟩) zw).trans cw2
  replace cw3 := (hb.cell (p := ⟨w4.heap.size, 3, none⟩) zw).trans cw3
  replace cw4 := (hb.cell (p := ⟨w4.heap.size, 4, none⟩) zw).trans cw4
  replace cw5 := (hb.cell (p := ⟨w4.heap.size, 5, none⟩) zw).trans cw5
  replace zw := Nat.lt_of_lt_of_le zw hb.size
  replace cx0 := (hb.cell (p := ⟨w5.heap.size, 0, none⟩) zx).trans cx0
  replace cx1 := (hb.cell (p := ⟨w5.heap.size, 1, none⟩) zx).trans cx1
  replace cx2 := (hb.cell (p := ⟨w5.heap.size, 2, none⟩) zx).trans cx2
  replace cx3 := (hb.cell (p := ⟨w5.heap.size, 3, none⟩) zx).trans cx3
  replace cx4 := (hb.cell (p := ⟨w5.heap.size, 4, none⟩) zx).trans cx4
  replace cx5 := (hb.cell (p := ⟨w5.heap.size, 5, none⟩) zx).trans cx5
  replace zx := Nat.lt_of_lt_of_le zx hb.size
  replace cg0 := (hb.cell (p := ⟨w7.heap.size, 0, none⟩) zg).trans cg0
  replace cg1 := (hb.cell (p := ⟨w7.heap.size, 1, none⟩) zg).trans cg1
  replace cg2 := (hb.cell (p := ⟨w7.heap.size, 2, none⟩) zg).trans cg2
  replace cg3 := (hb.cell (p := ⟨w7.heap.size, 3, none⟩) zg).trans cg3
  replace cg4 := (hb.cell (p := ⟨w7.heap.size, 4, none⟩) zg).trans cg4
  replace cg5 := (hb.cell (p := ⟨w7.heap.size, 5, none⟩) zg).trans cg5
  replace zg := Nat.lt_of_lt_of_le zg hb.size
  replace Ox : Hid (OwnI (w4.heap.size + 1) w9 (some ⟨bx, 0, none⟩) n V) := Ox.out.below hb
  replace Oy : Hid (OwnY (w5.heap.size + 1) w9 (some ⟨bv, 0, none⟩) n2 V2) := Oy.out.below hb
  replace Og : Hid (OwnI w6.heap.size w9 sG m U) := Og.out.below hb
  replace Bs : Below w4.heap.size w4 w9 := Bs.trans (hb.mono Bs.size)
  replace B0 : Below w.heap.size w w9 := B0.trans (hb.mono B0.size)
  clear hb HB
  go_wp2_with fail
  refine (toByteS_b s2 n2 c2 V2 _ hn2 (HY.out.below B0)).mono ?_
  rintro e w10 ⟨bu, rfl, -, -, OU, hh⟩
  have hb : Below w9.heap.size w9 w10 := Below.trans (by repeat (first | with_reducible exact Below.refl _ _ | with_reducible refine Below.setCell ?_ (by first | omega | (simp; done) | (simp; omega)) _ | with_reducible refine bDrewN ?_ _ | with_reducible refine Below.drew ?_ | with_reducible refine Below.alloc ?_ (by first | omega | (simp; done) | (simp; omega)) _)) (hh.mono (by first | omega | (simp; done) | (simp; omega)))
  have lw10 : w9.heap.size ≤ w10.heap.size := hb.size
  replace ca0 := (hb.cell (p := ⟨w.heap.size, 0, none⟩) za).trans ca0
  replace ca1 := (hb.cell (p := ⟨w.heap.size, 1, none⟩) za).trans ca1
  replace ca2 := (hb.cell (p := ⟨w.heap.size, 2, none⟩) za).trans ca2
  replace ca3 := (hb.cell (p := ⟨w.heap.size, 3, none⟩) za).trans ca3
  replace ca4 := (hb.cell (p := ⟨w.heap.size, 4, none⟩) za).trans ca4
  replace ca5 := (hb.cell (p := ⟨w.heap.size, 5, none⟩) za).trans ca5
  replace za := Nat.lt_of_lt_of_le za hb.size
  replace cw0 := (hb.cell (p := ⟨w4.heap.size, 0, none⟩) zw).trans cw0
  replace cw1 := (hb.cell (p := ⟨w4.heap.size, 1, none⟩) zw).trans cw1
  replace cw2 := (hb.cell (p := ⟨w4.heap.size, 2, none⟩) zw).trans cw2
  replace cw3 := (hb.cell (p := ⟨w4.heap.size, 3, none⟩) zw).trans cw3
  replace cw4 := (hb.cell (p := ⟨w4.heap.size, 4, none⟩) zw).trans cw4
  replace cw5 := (hb.cell (p := ⟨w4.heap.size, 5, none⟩) zw).trans cw5
  replace zw := Nat.lt_of_lt_of_le zw hb.size
  replace cx0 := (hb.cell (p := ⟨w5.heap.size, 0, none⟩) zx).trans cx0
  replace cx1 := (hb.cell (p := ⟨w5.heap.size, 1, none⟩) zx).trans cx1
  replace cx2 := (hb.cell (p := ⟨w5.heap.size, 2, none⟩) zx).trans cx2
  replace cx3 := (hb.cell (p := ⟨w5.heap.size, 3, none⟩) zx).trans cx3
  replace cx4 := (hb.cell (p := ⟨w5.heap.size, 4, none⟩) zx).trans cx4
  replace cx5 := (hb.cell (p := ⟨w5.heap.size, 5, none⟩) zx).trans cx5
  replace zx := Nat.lt_of_lt_of_le zx hb.size
  replace cg0 := (hb.cell (p := ⟨w7.heap.size, 0, none⟩) zg).trans cg0
  replace cg1 := (hb.cell (p := ⟨w7.heap.size, 1, none⟩) zg).trans cg1
  replace cg2 := (hb.cell (p := ⟨w7.heap.size, 2, none⟩) zg).trans cg2
  replace cg3 := (hb.cell (p := ⟨w7.heap.size, 3, none⟩) zg).trans cg3
  replace cg4 := (hb.cell (p := ⟨w7.heap.size, 4, none⟩) zg).trans cg4
  replace cg5 := (hb.cell (p := ⟨w7.heap.size, 5, none⟩) zg).trans cg5
  replace zg := Nat.lt_of_lt_of_le zg hb.size
  replace Ox : Hid (OwnI (w4.heap.size + 1) w10 (some ⟨bx, 0, none⟩) n V) := Ox.out.below hb
  replace Oy : Hid (OwnY (w5.heap.size + 1) w10 (some ⟨bv, 0, none⟩) n2 V2) := Oy.out.below hb
  replace Og : Hid (OwnI w6.heap.size w10 sG m U) := Og.out.below hb
  replace Bs : Below w4.heap.size w4 w10 := Bs.trans (hb.mono Bs.size)
  replace B0 : Below w.heap.size w w10 := B0.trans (hb.mono B0.size)
  clear hb hh
  have PU : Hid (RowY w10 (some ⟨bu, 0, none⟩) n2 V2) := OU.row
  clear OU
  go_wp2_with fail
  refine (eqByteS_any _ _ n2 _ _ V2 _ hn2 Oy.out.row PU.out).mono ?_
  rintro e w11 ⟨rfl, hh⟩
  have hb : Below w10.heap.size w10 w11 := Below.trans (by repeat (first | with_reducible exact Below.refl _ _ | with_reducible refine Below.setCell ?_ (by first | omega | (simp; done) | (simp; omega)) _ | with_reducible refine bDrewN ?_ _ | with_reducible refine Below.drew ?_ | with_reducible refine Below.alloc ?_ (by first | omega | (simp; done) | (simp; omega)) _)) (hh.mono (by first | omega | (simp; done) | (simp; omega)))
  have lw11 : w10.heap.size ≤ w11.heap.size := hb.size
  replace ca0 := (hb.cell (p := ⟨w.heap.size, 0, none⟩) za).trans ca0
  replace ca1 := (hb.cell (p := ⟨w.heap.size, 1, none⟩) za).trans ca1
  replace ca2 := (hb.cell (p := ⟨w.heap.size, 2, none⟩) za).trans ca2
  replace ca3 := (hb.cell (p := ⟨w.heap.size, 3, none⟩) za).trans ca3
  replace ca4 := (hb.cell (p := ⟨w.heap.size, 4, none⟩) za).trans ca4
  replace ca5 := (hb.cell (p := ⟨w.heap.size, 5, none⟩) za).trans ca5
  replace za := Nat.lt_of_lt_of_le za hb.size
  replace cw0 := (hb.cell (p := ⟨w4.heap.size, 0, none⟩) zw).trans cw0
  replace cw1 := (hb.cell (p := ⟨w4.heap.size, 1, none⟩) zw).trans cw1
  replace cw2 := (hb.cell (p := ⟨w4.heap.size, 2, none⟩) zw).trans cw2
  replace cw3 := (hb.cell (p := ⟨w4.heap.size, 3, none⟩) zw).trans cw3
  replace cw4 := (hb.cell (p := ⟨w4.heap.size, 4, none⟩) zw).trans cw4
  replace cw5 := (hb.cell (p := ⟨w4.heap.size, 5, none⟩) zw).trans cw5
  replace zw := Nat.lt_of_lt_of_le zw hb.size
  replace cx0 := (hb.cell (p := ⟨w5.heap.size, 0, none⟩) zx).trans cx0
  replace cx1 := (hb.cell (p := ⟨w5.heap.size, 1, none⟩) zx).trans cx1
  replace cx2 := (hb.cell (p := ⟨w5.heap.size, 2, none⟩) zx).trans cx2
  replace cx3 := (hb.cell (p := ⟨w5.heap.size, 3, none⟩) zx).trans cx3
  replace cx4 := (hb.cell (p := ⟨w5.heap.size, 4, none⟩) zx).trans cx4
  replace cx5 := (hb.cell (p := ⟨w5.heap.size, 5, none⟩) zx).trans cx5
  replace zx := Nat.lt_of_lt_of_le zx hb.size
  replace cg0 := (hb.cell (p := ⟨w7.heap.size, 0, none⟩) zg).trans cg0
  replace cg1 := (hb.cell (p := ⟨w7.heap.size, 1, none⟩) zg).trans cg1
  replace cg2 := (hb.cell (p := ⟨w7.heap.size, 2, none⟩) zg).trans cg2
  replace cg3 := (hb.cell (p := ⟨w7.heap.size, 3, none⟩) zg).trans cg3
  replace cg4 := (hb.cell (p := ⟨w7.heap.size, 4, none⟩) zg).trans cg4
  replace cg5 := (hb.cell (p := ⟨w7.heap.size, 5, none⟩) zg).trans cg5
  replace zg := Nat.lt_of_lt_of_le zg hb.size
  replace Ox : Hid (OwnI (w4.heap.size + 1) w11 (some ⟨bx, 0, none⟩) n V) := Ox.out.below hb
  replace Oy : Hid (OwnY (w5.heap.size + 1) w11 (some ⟨bv, 0, none⟩) n2 V2) := Oy.out.below hb
  replace Og : Hid (OwnI w6.heap.size w11 sG m U) := Og.out.below hb
  replace Bs : Below w4.heap.size w4 w11 := Bs.trans (hb.mono Bs.size)
  replace B0 : Below w.heap.size w w11 := B0.trans (hb.mono B0.size)
  clear hb hh
  clear PU
  go_wp2_with fail
  refine (markLink_sp t h q a l (w4.heap.size + 1) _ n n 1 V _ hn (by decide) (by decide) (by omega) Ox.out).mono ?_
  rintro e w12 ⟨rfl, OM, hh, hs⟩
  have lw12 : w11.heap.size ≤ w12.heap.size := hh.size
  replace ca0 := (hh.cell (p := ⟨w.heap.size, 0, none⟩) (by show w.heap.size < _; omega)).trans ca0
  replace ca1 := (hh.cell (p := ⟨w.heap.size, 1, none⟩) (by show w.heap.size < _; omega)).trans ca1
  replace ca2 := (hh.cell (p := ⟨w.heap.size, 2, none⟩) (by show w.heap.size < _; omega)).trans ca2
  replace ca3 := (hh.cell (p := ⟨w.heap.size, 3, none⟩) (by show w.heap.size < _; omega)).trans ca3
  replace ca4 := (hh.cell (p := ⟨w.heap.size, 4, none⟩) (by show w.heap.size < _; omega)).trans ca4
  replace ca5 := (hh.cell (p := ⟨w.heap.size, 5, none⟩) (by show w.heap.size < _; omega)).trans ca5
  replace za := Nat.lt_of_lt_of_le za hh.size
  replace cw0 := (hh.cell (p := ⟨w4.heap.size, 0, none⟩) (by show w4.heap.size < _; omega)).trans cw0
  replace cw1 := (hh.cell (p := ⟨w4.heap.size, 1, none⟩) (by show w4.heap.size < _; omega)).trans cw1
  replace cw2 := (hh.cell (p := ⟨w4.heap.size, 2, none⟩) (by show w4.heap.size < _; omega)).trans cw2
  replace cw3 := (hh.cell (p := ⟨w4.heap.size, 3, none⟩) (by show w4.heap.size < _; omega)).trans cw3
  replace cw4 := (hh.cell (p := ⟨w4.heap.size, 4, none⟩) (by show w4.heap.size < _; omega)).trans cw4
  replace cw5 := (hh.cell (p := ⟨w4.heap.size, 5, none⟩) (by show w4.heap.size < _; omega)).trans cw5
  replace zw := Nat.lt_of_lt_of_le zw hh.size
  replace cx0 := (hs.cell (p := ⟨w5.heap.size, 0, none⟩) zx (fun _ b e => by cases e; show bx ≠ w5.heap.size; omega)).trans cx0
  replace cx1 := (hs.cell (p := ⟨w5.heap.size, 1, none⟩) zx (fun _ b e => by cases e; show bx ≠ w5.heap.size; omega)).trans cx1
  replace cx2 := (hs.cell (p := ⟨w5.heap.size, 2, none⟩) zx (fun _ b e => by cases e; show bx ≠ w5.heap.size; omega)).trans cx2
  replace cx3 := (hs.cell (p := ⟨w5.heap.size, 3, none⟩) zx (fun _ b e => by cases e; show bx ≠ w5.heap.size; omega)).trans cx3
  replace cx4 := (hs.cell (p := ⟨w5.heap.size, 4, none⟩) zx (fun _ b e => by cases e; show bx ≠ w5.heap.size; omega)).trans cx4
  replace cx5 := (hs.cell (p := ⟨w5.heap.size, 5, none⟩) zx (fun _ b e => by cases e; show bx ≠ w5.heap.size; omega)).trans cx5
  replace zx := Nat.lt_of_lt_of_le zx hh.size
  replace cg0 := (hs.cell (p := ⟨w7.heap.size, 0, none⟩) zg (fun _ b e => by cases e; show bx ≠ w7.heap.size; omega)).trans cg0
  replace cg1 := (hs.cell (p := ⟨w7.heap.size, 1, none⟩) zg (fun _ b e => by cases e; show bx ≠ w7.heap.size; omega)).trans cg1
  replace cg2 := (hs.cell (p := ⟨w7.heap.size, 2, none⟩) zg (fun _ b e => by cases e; show bx ≠ w7.heap.size; omega)).trans cg2
  replace cg3 := (hs.cell (p := ⟨w7.heap.size, 3, none⟩) zg (fun _ b e => by cases e; show bx ≠ w7.heap.size; omega)).trans cg3
  replace cg4 := (hs.cell (p := ⟨w7.heap.size, 4, none⟩) zg (fun _ b e => by cases e; show bx ≠ w7.heap.size; omega)).trans cg4
  replace cg5 := (hs.cell (p := ⟨w7.heap.size, 5, none⟩) zg (fun _ b e => by cases e; show bx ≠ w7.heap.size; omega)).trans cg5
  replace zg := Nat.lt_of_lt_of_le zg hh.size
  replace Oy : Hid (OwnY (w5.heap.size + 1) w12 (some ⟨bv, 0, none⟩) n2 V2) := Oy.out.spared hs hh.size (fun _ b e => by cases e; omega)
  replace Og : Hid (OwnI w6.heap.size w12 sG m U) := Og.out.spared hs hh.size (fun _ b e => by cases e; omega)
  replace Bs : Below w4.heap.size w4 w12 := Bs.trans (hh.mono (by omega))
  replace B0 : Below w.heap.size w w12 := B0.trans (hh.mono (by omega))
  replace Ox : Hid (OwnI (w4.heap.size + 1) w12 (some ⟨bx, 0, none⟩) n (fun j => 1 + (j : Int))) := OM
  clear OM hh hs
  clear Ox
  go_wp2_with fail
  refine (markByteS_sp (w5.heap.size + 1) _ n2 n2 (1 + (n : Int)) V2 _ hn2 (by omega) (by omega) (by omega) Oy.out).mono ?_
  rintro e w13 ⟨rfl, OM, hh, hs⟩
  have lw13 : w12.heap.size ≤ w13.heap.size := hh.size
  replace ca0 := (hh.cell (p := ⟨w.heap.size, 0, none⟩) (by show w.heap.size < _; omega)).trans ca0
  replace ca1 := (hh.cell (p := ⟨w.heap.size, 1, none⟩) (by show w.heap.size < _; omega)).trans ca1
  replace ca2 := (hh.cell (p := ⟨w.heap.size, 2, none⟩) (by show w.heap.size < _; omega)).trans ca2
  replace ca3 := (hh.cell (p := ⟨w.heap.size, 3, none⟩) (by show w.heap.size < _; omega)).trans ca3
  replace ca4 := (hh.cell (p := ⟨w.heap.size, 4, none⟩) (by show w.heap.size < _; omega)).trans ca4
  replace ca5 := (hh.cell (p := ⟨w.heap.size, 5, none⟩) (by show w.heap.size < _; omega)).trans ca5
  replace za := Nat.lt_of_lt_of_le za hh.size
  replace cw0 := (hh.cell (p := ⟨w4.heap.size, 0, none⟩) (by show w4.heap.size < _; omega)).trans cw0
  replace cw1 := (hh.cell (p := ⟨w4.heap.size, 1, none⟩) (by show w4.heap.size < _; omega)).trans cw1
  replace cw2 := (hh.cell (p := ⟨w4.heap.size, 2, none⟩) (by show w4.heap.size < _; omega)).trans cw2
  replace cw3 := (hh.cell (p := ⟨w4.heap.size, 3, none⟩) (by show w4.heap.size < _; omega)).trans cw3
  replace cw4 := (hh.cell (p := ⟨w4.heap.size, 4, none⟩) (by show w4.heap.size < _; omega)).trans cw4
  replace cw5 := (hh.cell (p := ⟨w4.heap.size, 5, none⟩) (by show w4.heap.size < _; omega)).trans cw5
  replace zw := Nat.lt_of_lt_of_le zw hh.size
  replace cx0 := (hh.cell (p := ⟨w5.heap.size, 0, none⟩) (by show w5.heap.size < _; omega)).trans cx0
  replace cx1 := (hh.cell (p := ⟨w5.heap.size, 1, none⟩) (by show w5.heap.size < _; omega)).trans cx1
  replace cx2 := (hh.cell (p := ⟨w5.heap.size, 2, none⟩) (by show w5.heap.size < _; omega)).trans cx2
  replace cx3 := (hh.cell (p := ⟨w5.heap.size, 3, none⟩) (by show w5.heap.size < _; omega)).trans cx3
  replace cx4 := (hh.cell (p := ⟨w5.heap.size, 4, none⟩) (by show w5.heap.size < _; omega)).trans cx4
  replace cx5 := (hh.cell (p := ⟨w5.heap.size, 5, none⟩) (by show w5.heap.size < _; omega)).trans cx5
  replace zx := Nat.lt_of_lt_of_le zx hh.size
  replace cg0 := (hs.cell (p := ⟨w7.heap.size, 0, none⟩) zg (fun _ b e => by cases e; show bv ≠ w7.heap.size; omega)).trans cg0
  replace cg1 := (hs.cell (p := ⟨w7.heap.size, 1, none⟩) zg (fun _ b e => by cases e; show bv ≠ w7.heap.size; omega)).trans cg1
  replace cg2 := (hs.cell (p := ⟨w7.heap.size, 2, none⟩) zg (fun _ b e => by cases e; show bv ≠ w7.heap.size; omega)).trans cg2
  replace cg3 := (hs.cell (p := ⟨w7.heap.size, 3, none⟩) zg (fun _ b e => by cases e; show bv ≠ w7.heap.size; omega)).trans cg3
  replace cg4 := (hs.cell (p := ⟨w7.heap.size, 4, none⟩) zg (fun _ b e => by cases e; show bv ≠ w7.heap.size; omega)).trans cg4
  replace cg5 := (hs.cell (p := ⟨w7.heap.size, 5, none⟩) zg (fun _ b e => by cases e; show bv ≠ w7.heap.size; omega)).trans cg5
  replace zg := Nat.lt_of_lt_of_le zg hh.size
  replace Og : Hid (OwnI w6.heap.size w13 sG m U) := Og.out.spared hs hh.size (fun _ b e => by cases e; omega)
  replace Bs : Below w4.heap.size w4 w13 := Bs.trans (hh.mono (by omega))
  replace B0 : Below w.heap.size w w13 := B0.trans (hh.mono (by omega))
  replace Oy : Hid (OwnY (w5.heap.size + 1) w13 (some ⟨bv, 0, none⟩) n2 (markY (1 + (n : Int)))) := OM
  clear OM hh hs
  clear Oy
  go_wp2_with fail
  refine (eqLink_any T Hh Q A Lo sG sW m cG cW U _ hm Og.out.row (RW.out.below Bs)).mono ?_
  rintro e w14 ⟨rfl, hh⟩
  have hb : Below w13.heap.size w13 w14 := Below.trans (by repeat (first | with_reducible exact Below.refl _ _ | with_reducible refine Below.setCell ?_ (by first | omega | (simp; done) | (simp; omega)) _ | with_reducible refine bDrewN ?_ _ | with_reducible refine Below.drew ?_ | with_reducible refine Below.alloc ?_ (by first | omega | (simp; done) | (simp; omega)) _)) (hh.mono (by first | omega | (simp; done) | (simp; omega)))
  have lw14 : w13.heap.size ≤ w14.heap.size := hb.size
  replace ca0 := (hb.cell (p := ⟨w.heap.size, 0, none⟩) za).trans ca0
  replace ca1 := (hb.cell (p := ⟨w.heap.size, 1, none⟩) za).trans ca1
  replace ca2 := (hb.cell (p := ⟨w.heap.size, 2, none⟩) za).trans ca2
  replace ca3 := (hb.cell (p := ⟨w.heap.size, 3, none⟩) za).trans ca3
  replace ca4 := (hb.cell (p := ⟨w.heap.size, 4, none⟩) za).trans ca4
  replace ca5 := (hb.cell (p := ⟨w.heap.size, 5, none⟩) za).trans ca5
  replace za := Nat.lt_of_lt_of_le za hb.size
  replace cw0 := (hb.cell (p := ⟨w4.heap.size, 0, none⟩) zw).trans cw0
  replace cw1 := (hb.cell (p := ⟨w4.heap.size, 1, none⟩) zw).trans cw1
  replace cw2 := (hb.cell (p := ⟨w4.heap.size, 2, none⟩) zw).trans cw2
  replace cw3 := (hb.cell (p := ⟨w4.heap.size, 3, none⟩) zw).trans cw3
  replace cw4 := (hb.cell (p := ⟨w4.heap.size, 4, none⟩) zw).trans cw4
  replace cw5 := (hb.cell (p := ⟨w4.heap.size, 5, none⟩) zw).trans cw5
  replace zw := Nat.lt_of_lt_of_le zw hb.size
  replace cx0 := (hb.cell (p := ⟨w5.heap.size, 0, none⟩) zx).trans cx0
  replace cx1 := (hb.cell (p := ⟨w5.heap.size, 1, none⟩) zx).trans cx1
  replace cx2 := (hb.cell (p := ⟨w5.heap.size, 2, none⟩) zx).trans cx2
  replace cx3 := (hb.cell (p := ⟨w5.heap.size, 3, none⟩) zx).trans cx3
  replace cx4 := (hb.cell (p := ⟨w5.heap.size, 4, none⟩) zx).trans cx4
  replace cx5 := (hb.cell (p := ⟨w5.heap.size, 5, none⟩) zx).trans cx5
  replace zx := Nat.lt_of_lt_of_le zx hb.size
  replace cg0 := (hb.cell (p := ⟨w7.heap.size, 0, none⟩) zg).trans cg0
  replace cg1 := (hb.cell (p := ⟨w7.heap.size, 1, none⟩) zg).trans cg1
  replace cg2 := (hb.cell (p := ⟨w7.heap.size, 2, none⟩) zg).trans cg2
  replace cg3 := (hb.cell (p := ⟨w7.heap.size, 3, none⟩) zg).trans cg3
  replace cg4 := (hb.cell (p := ⟨w7.heap.size, 4, none⟩) zg).trans cg4
  replace cg5 := (hb.cell (p := ⟨w7.heap.size, 5, none⟩) zg).trans cg5
  replace zg := Nat.lt_of_lt_of_le zg hb.size
  replace Og : Hid (OwnI w6.heap.size w14 sG m U) := Og.out.below hb
  replace Bs : Below w4.heap.size w4 w14 := Bs.trans (hb.mono Bs.size)
  replace B0 : Below w.heap.size w w14 := B0.trans (hb.mono B0.size)
  clear hb hh
  go_wp2_with fail
  refine (markLink_sp T Hh Q A Lo w6.heap.size sG m cG 1 U _ hm (by decide) (by decide) (by omega) Og.out).mono ?_
  rintro e w15 ⟨rfl, OM, hh, hs⟩
  have lw15 : w14.heap.size ≤ w15.heap.size := hh.size
  replace ca0 := (hh.cell (p := ⟨w.heap.size, 0, none⟩) (by show w.heap.size < _; omega)).trans ca0
  replace ca1 := (hh.cell (p := ⟨w.heap.size, 1, none⟩) (by show w.heap.size < _; omega)).trans ca1
  replace ca2 := (hh.cell (p := ⟨w.heap.size, 2, none⟩) (by show w.heap.size < _; omega)).trans ca2
  replace ca3 := (hh.cell (p := ⟨w.heap.size, 3, none⟩) (by show w.heap.size < _; omega)).trans ca3
  replace ca4 := (hh.cell (p := ⟨w.heap.size, 4, none⟩) (by show w.heap.size < _; omega)).trans ca4
  replace ca5 := (hh.cell (p := ⟨w.heap.size, 5, none⟩) (by show w.heap.size < _; omega)).trans ca5
  replace za := Nat.lt_of_lt_of_le za hh.size
  replace cw0 := (hh.cell (p := ⟨w4.heap.size, 0, none⟩) (by show w4.heap.size < _; omega)).trans cw0
  replace cw1 := (hh.cell (p := ⟨w4.heap.size, 1, none⟩) (by show w4.heap.size < _; omega)).trans cw1
  replace cw2 := (hh.cell (p := ⟨w4.heap.size, 2, none⟩) (by show w4.heap.size < _; omega)).trans cw2
  replace cw3 := (hh.cell (p := ⟨w4.heap.size, 3, none⟩) (by show w4.heap.size < _; omega)).trans cw3
  replace cw4 := (hh.cell (p := ⟨w4.heap.size, 4, none⟩) (by show w4.heap.size < _; omega)).trans cw4
  replace cw5 := (hh.cell (p := ⟨w4.heap.size, 5, none⟩) (by show w4.heap.size < _; omega)).trans cw5
  replace zw := Nat.lt_of_lt_of_le zw hh.size
  replace cx0 := (hh.cell (p := ⟨w5.heap.size, 0, none⟩) (by show w5.heap.size < _; omega)).trans cx0
  replace cx1 := (hh.cell (p := ⟨w5.heap.size, 1, none⟩) (by show w5.heap.size < _; omega)).trans cx1
  replace cx2 := (hh.cell (p := ⟨w5.heap.size, 2, none⟩) (by show w5.heap.size < _; omega)).trans cx2
  replace cx3 := (hh.cell (p := ⟨w5.heap.size, 3, none⟩) (by show w5.heap.size < _; omega)).trans cx3
  replace cx4 := (hh.cell (p := ⟨w5.heap.size, 4, none⟩) (by show w5.heap.size < _; omega)).trans cx4
  replace cx5 := (hh.cell (p := ⟨w5.heap.size, 5, none⟩) (by show w5.heap.size < _; omega)).trans cx5
  replace zx := Nat.lt_of_lt_of_le zx hh.size
  replace cg0 := (hs.cell (p := ⟨w7.heap.size, 0, none⟩) zg (fun hp b e => Nat.ne_of_lt (bG.out hp b e).2)).trans cg0
  replace cg1 := (hs.cell (p := ⟨w7.heap.size, 1, none⟩) zg (fun hp b e => Nat.ne_of_lt (bG.out hp b e).2)).trans cg1
  replace cg2 := (hs.cell (p := ⟨w7.heap.size, 2, none⟩) zg (fun hp b e => Nat.ne_of_lt (bG.out hp b e).2)).trans cg2
  replace cg3 := (hs.cell (p := ⟨w7.heap.size, 3, none⟩) zg (fun hp b e => Nat.ne_of_lt (bG.out hp b e).2)).trans cg3
  replace cg4 := (hs.cell (p := ⟨w7.heap.size, 4, none⟩) zg (fun hp b e => Nat.ne_of_lt (bG.out hp b e).2)).trans cg4
  replace cg5 := (hs.cell (p := ⟨w7.heap.size, 5, none⟩) zg (fun hp b e => Nat.ne_of_lt (bG.out hp b e).2)).trans cg5
  replace zg := Nat.lt_of_lt_of_le zg hh.size
  replace Bs : Below w4.heap.size w4 w15 := Bs.trans (hh.mono (by omega))
  replace B0 : Below w.heap.size w w15 := B0.trans (hh.mono (by omega))
  replace Og : Hid (OwnI w6.heap.size w15 sG m (fun j => 1 + (j : Int))) := OM
  clear OM hh hs
  clear cx0 cx1 cx2 cx3 cx4 cx5 zx
  go_wp2_with fail
  refine (heldLink_any T Hh Q A Lo sG m cG 1 _ hm (by decide) (by decide) Og.out.row).mono ?_
  rintro e w16 ⟨rfl, hh⟩
  have hb : Below w15.heap.size w15 w16 := Below.trans (by repeat (first | with_reducible exact Below.refl _ _ | with_reducible refine Below.setCell ?_ (by first | omega | (simp; done) | (simp; omega)) _ | with_reducible refine bDrewN ?_ _ | with_reducible refine Below.drew ?_ | with_reducible refine Below.alloc ?_ (by first | omega | (simp; done) | (simp; omega)) _)) (hh.mono (by first | omega | (simp; done) | (simp; omega)))
  have lw16 : w15.heap.size ≤ w16.heap.size := hb.size
  replace ca0 := (hb.cell (p := ⟨w.heap.size, 0, none⟩) za).trans ca0
  replace ca1 := (hb.cell (p := ⟨w.heap.size, 1, none⟩) za).trans ca1
  replace ca2 := (hb.cell (p := ⟨w.heap.size, 2, none⟩) za).trans ca2
  replace ca3 := (hb.cell (p := ⟨w.heap.size, 3, none⟩) za).trans ca3
  replace ca4 := (hb.cell (p := ⟨w.heap.size, 4, none⟩) za).trans ca4
  replace ca5 := (hb.cell (p := ⟨w.heap.size, 5, none⟩) za).trans ca5
  replace za := Nat.lt_of_lt_of_le za hb.size
  replace cw0 := (hb.cell (p := ⟨w4.heap.size, 0, none⟩) zw).trans cw0
  replace cw1 := (hb.cell (p := ⟨w4.heap.size, 1, none⟩) zw).trans cw1
  replace cw2 := (hb.cell (p := ⟨w4.heap.size, 2, none⟩) zw).trans cw2
  replace cw3 := (hb.cell (p := ⟨w4.heap.size, 3, none⟩) zw).trans cw3
  replace cw4 := (hb.cell (p := ⟨w4.heap.size, 4, none⟩) zw).trans cw4
  replace cw5 := (hb.cell (p := ⟨w4.heap.size, 5, none⟩) zw).trans cw5
  replace zw := Nat.lt_of_lt_of_le zw hb.size
  replace cg0 := (hb.cell (p := ⟨w7.heap.size, 0, none⟩) zg).trans cg0
  replace cg1 := (hb.cell (p := ⟨w7.heap.size, 1, none⟩) zg).trans cg1
  replace cg2 := (hb.cell (p := ⟨w7.heap.size, 2, none⟩) zg).trans cg2
  replace cg3 := (hb.cell (p := ⟨w7.heap.size, 3, none⟩) zg).trans cg3
  replace cg4 := (hb.cell (p := ⟨w7.heap.size, 4, none⟩) zg).trans cg4
  replace cg5 := (hb.cell (p := ⟨w7.heap.size, 5, none⟩) zg).trans cg5
  replace zg := Nat.lt_of_lt_of_le zg hb.size
  replace Og : Hid (OwnI w6.heap.size w16 sG m (fun j => 1 + (j : Int))) := Og.out.below hb
  replace Bs : Below w4.heap.size w4 w16 := Bs.trans (hb.mono Bs.size)
  replace B0 : Below w.heap.size w w16 := B0.trans (hb.mono B0.size)
  clear hb hh
  go_wp2_with fail
  refine (toLink_any t h q a l s n c V _ hn (HR.out.below B0)).mono ?_
  rintro e w17 ⟨bt, rfl, -, -, OT, hh⟩
  have hb : Below w16.heap.size w16 w17 := Below.trans (by repeat (first | with_reducible exact Below.refl _ _ | with_reducible refine Below.setCell ?_ (by first | omega | (simp; done) | (simp; omega)) _ | with_reducible refine bDrewN ?_ _ | with_reducible refine Below.drew ?_ | with_reducible refine Below.alloc ?_ (by first | omega | (simp; done) | (simp; omega)) _)) (hh.mono (by first | omega | (simp; done) | (simp; omega)))
  have lw17 : w16.heap.size ≤ w17.heap.size := hb.size
  replace ca0 := (hb.cell (p := ⟨w.heap.size, 0, none⟩) za).trans ca0
  replace ca1 := (hb.cell (p := ⟨w.heap.size, 1, none⟩) za).trans ca1
  replace ca2 := (hb.cell (p := ⟨w.heap.size, 2, none⟩) za).trans ca2
  replace ca3 := (hb.cell (p := ⟨w.heap.size, 3, none⟩) za).trans ca3
  replace ca4 := (hb.cell (p := ⟨w.heap.size, 4, none⟩) za).trans ca4
  replace ca5 := (hb.cell (p := ⟨w.heap.size, 5, none⟩) za).trans ca5
  replace za := Nat.lt_of_lt_of_le za hb.size
  replace cw0 := (hb.cell (p := ⟨w4.heap.size, 0, none⟩) zw).trans cw0
  replace cw1 := (hb.cell (p := ⟨w4.heap.size, 1, none⟩) zw).trans cw1
  replace cw2 := (hb.cell (p := ⟨w4.heap.size, 2, none⟩) zw).trans cw2
  replace cw3 := (hb.cell (p := ⟨w4.heap.size, 3, none⟩) zw).trans cw3
  replace cw4 := (hb.cell (p := ⟨w4.heap.size, 4, none⟩) zw).trans cw4
  replace cw5 := (hb.cell (p := ⟨w4.heap.size, 5, none⟩) zw).trans cw5
  replace zw := Nat.lt_of_lt_of_le zw hb.size
  replace cg0 := (hb.cell (p := ⟨w7.heap.size, 0, none⟩) zg).trans cg0
  replace cg1 := (hb.cell (p := ⟨w7.heap.size, 1, none⟩) zg).trans cg1
  replace cg2 := (hb.cell (p := ⟨w7.heap.size, 2, none⟩) zg).trans cg2
  replace cg3 := (hb.cell (p := ⟨w7.heap.size, 3, none⟩) zg).trans cg3
  replace cg4 := (hb.cell (p := ⟨w7.heap.size, 4, none⟩) zg).trans cg4
  replace cg5 := (hb.cell (p := ⟨w7.heap.size, 5, none⟩) zg).trans cg5
  replace zg := Nat.lt_of_lt_of_le zg hb.size
  replace Og : Hid (OwnI w6.heap.size w17 sG m (fun j => 1 + (j : Int))) := Og.out.below hb
  replace Bs : Below w4.heap.size w4 w17 := Bs.trans (hb.mono Bs.size)
  replace B0 : Below w.heap.size w w17 := B0.trans (hb.mono B0.size)
  clear hb hh
  have Ot : Hid (OwnI w16.heap.size w17 (some ⟨bt, 0, none⟩) n V) := OT
  clear OT
  go_wp2_with fail
  refine (toByteS_b s2 n2 c2 V2 _ hn2 (HY.out.below B0)).mono ?_
  rintro e w18 ⟨bu, rfl, -, -, OU, hh⟩
  have hb : Below w17.heap.size w17 w18 := Below.trans (by repeat (first | with_reducible exact Below.refl _ _ | with_reducible refine Below.setCell ?_ (by first | omega | (simp; done) | (simp; omega)) _ | with_reducible refine bDrewN ?_ _ | with_reducible refine Below.drew ?_ | with_reducible refine Below.alloc ?_ (by first | omega | (simp; done) | (simp; omega)) _)) (hh.mono (by first | omega | (simp; done) | (simp; omega)))
  have lw18 : w17.heap.size ≤ w18.heap.size := hb.size
  replace ca0 := (hb.cell (p := ⟨w.heap.size, 0, none⟩) za).trans ca0
  replace ca1 := (hb.cell (p := ⟨w.heap.size, 1, none⟩) za).trans ca1
  replace ca2 := (hb.cell (p := ⟨w.heap.size, 2, none⟩) za).trans ca2
  replace ca3 := (hb.cell (p := ⟨w.heap.size, 3, none⟩) za).trans ca3
  replace ca4 := (hb.cell (p := ⟨w.heap.size, 4, none⟩) za).trans ca4
  replace ca5 := (hb.cell (p := ⟨w.heap.size, 5, none⟩) za).trans ca5
  replace za := Nat.lt_of_lt_of_le za hb.size
  replace cw0 := (hb.cell (p := ⟨w4.heap.size, 0, none⟩) zw).trans cw0
  replace cw1 := (hb.cell (p := ⟨w4.heap.size, 1, none⟩) zw).trans cw1
  replace cw2 := (hb.cell (p := ⟨w4.heap.size, 2, none⟩) zw).trans cw2
  replace cw3 := (hb.cell (p := ⟨w4.heap.size, 3, none⟩) zw).trans cw3
  replace cw4 := (hb.cell (p := ⟨w4.heap.size, 4, none⟩) zw).trans cw4
  replace cw5 := (hb.cell (p := ⟨w4.heap.size, 5, none⟩) zw).trans cw5
  replace zw := Nat.lt_of_lt_of_le zw hb.size
  replace cg0 := (hb.cell (p := ⟨w7.heap.size, 0, none⟩) zg).trans cg0
  replace cg1 := (hb.cell (p := ⟨w7.heap.size, 1, none⟩) zg).trans cg1
  replace cg2 := (hb.cell (p := ⟨w7.heap.size, 2, none⟩) zg).trans cg2
  replace cg3 := (hb.cell (p := ⟨w7.heap.size, 3, none⟩) zg).trans cg3
  replace cg4 := (hb.cell (p := ⟨w7.heap.size, 4, none⟩) zg).trans cg4
  replace cg5 := (hb.cell (p := ⟨w7.heap.size, 5, none⟩) zg).trans cg5
  replace zg := Nat.lt_of_lt_of_le zg hb.size
  replace Og : Hid (OwnI w6.heap.size w18 sG m (fun j => 1 + (j : Int))) := Og.out.below hb
  replace Ot : Hid (OwnI w16.heap.size w18 (some ⟨bt, 0, none⟩) n V) := Ot.out.below hb
  replace Bs : Below w4.heap.size w4 w18 := Bs.trans (hb.mono Bs.size)
  replace B0 : Below w.heap.size w w18 := B0.trans (hb.mono B0.size)
  clear hb hh
  have Ou : Hid (OwnY w17.heap.size w18 (some ⟨bu, 0, none⟩) n2 V2) := OU
  clear OU
  go_wp2_with fail
  refine (H2.out _ _ _ _ _ Ot.out.row Ou.out.row).mono ?_
  rintro e w19 ⟨sH, cH, rfl, OH, hh⟩
  have hb : Below w18.heap.size w18 w19 := Below.trans (by repeat (first | with_reducible exact Below.refl _ _ | with_reducible refine Below.setCell ?_ (by first | omega | (simp; done) | (simp; omega)) _ | with_reducible refine bDrewN ?_ _ | with_reducible refine Below.drew ?_ | with_reducible refine Below.alloc ?_ (by first | omega | (simp; done) | (simp; omega)) _)) (hh.mono (by first | omega | (simp; done) | (simp; omega)))
  have lw19 : w18.heap.size ≤ w19.heap.size := hb.size
  replace ca0 := (hb.cell (p := ⟨w.heap.size, 0, none⟩) za).trans ca0
  replace ca1 := (hb.cell (p := ⟨w.heap.size, 1, none⟩) za).trans ca1
  replace ca2 := (hb.cell (p := ⟨w.heap.size, 2, none⟩) za).trans ca2
  replace ca3 := (hb.cell (p := ⟨w.heap.size, 3, none⟩) za).trans ca3
  replace ca4 := (hb.cell (p := ⟨w.heap.size, 4, none⟩) za).trans ca4
  replace ca5 := (hb.cell (p := ⟨w.heap.size, 5, none⟩) za).trans ca5
  replace za := Nat.lt_of_lt_of_le za hb.size
  replace cw0 := (hb.cell (p := ⟨w4.heap.size, 0, none⟩) zw).trans cw0
  replace cw1 := (hb.cell (p := ⟨w4.heap.size, 1, none⟩) zw).trans cw1
  replace cw2 := (hb.cell (p := ⟨w4.heap.size, 2, none⟩) zw).trans cw2
  replace cw3 := (hb.cell (p := ⟨w4.heap.size, 3, none⟩) zw).trans cw3
  replace cw4 := (hb.cell (p := ⟨w4.heap.size, 4, none⟩) zw).trans cw4
  replace cw5 := (hb.cell (p := ⟨w4.heap.size, 5, none⟩) zw).trans cw5
  replace zw := Nat.lt_of_lt_of_le zw hb.size
  replace cg0 := (hb.cell (p := ⟨w7.heap.size, 0, none⟩) zg).trans cg0
  replace cg1 := (hb.cell (p := ⟨w7.heap.size, 1, none⟩) zg).trans cg1
  replace cg2 := (hb.cell (p := ⟨w7.heap.size, 2, none⟩) zg).trans cg2
  replace cg3 := (hb.cell (p := ⟨w7.heap.size, 3, none⟩) zg).trans cg3
  replace cg4 := (hb.cell (p := ⟨w7.heap.size, 4, none⟩) zg).trans cg4
  replace cg5 := (hb.cell (p := ⟨w7.heap.size, 5, none⟩) zg).trans cg5
  replace zg := Nat.lt_of_lt_of_le zg hb.size
  replace Og : Hid (OwnI w6.heap.size w19 sG m (fun j => 1 + (j : Int))) := Og.out.below hb
  replace Ot : Hid (OwnI w16.heap.size w19 (some ⟨bt, 0, none⟩) n V) := Ot.out.below hb
  replace Ou : Hid (OwnY w17.heap.size w19 (some ⟨bu, 0, none⟩) n2 V2) := Ou.out.below hb
  replace Bs : Below w4.heap.size w4 w19 := Bs.trans (hb.mono Bs.size)
  replace B0 : Below w.heap.size w w19 := B0.trans (hb.mono B0.size)
  clear hb hh
  clear Ot
  clear Ou
  have PH : Hid (RowI w19 sH m U) := OH.row
  clear OH
  go_wp2_with fail
  refine (eqLink_any T Hh Q A Lo sH sW m cH cW U _ hm (row_one PH.out) (row_one (RW.out.below Bs))).mono ?_
  rintro e w20 ⟨rfl, hh⟩
  have hb : Below w19.heap.size w19 w20 := Below.trans (by repeat (first | with_reducible exact Below.refl _ _ | with_reducible refine Below.setCell ?_ (by first | omega | (simp; done) | (simp; omega)) _ | with_reducible refine bDrewN ?_ _ | with_reducible refine Below.drew ?_ | with_reducible refine Below.alloc ?_ (by first | omega | (simp; done) | (simp; omega)) _)) (hh.mono (by first | omega | (simp; done) | (simp; omega)))
  have lw20 : w19.heap.size ≤ w20.heap.size := hb.size
  replace ca0 := (hb.cell (p := ⟨w.heap.size, 0, none⟩) za).trans ca0
  replace ca1 := (hb.cell (p := ⟨w.heap.size, 1, none⟩) za).trans ca1
  replace ca2 := (hb.cell (p := ⟨w.heap.size, 2, none⟩) za).trans ca2
  replace ca3 := (hb.cell (p := ⟨w.heap.size, 3, none⟩) za).trans ca3
  replace ca4 := (hb.cell (p := ⟨w.heap.size, 4, none⟩) za).trans ca4
  replace ca5 := (hb.cell (p := ⟨w.heap.size, 5, none⟩) za).trans ca5
  replace za := Nat.lt_of_lt_of_le za hb.size
  replace cw0 := (hb.cell (p := ⟨w4.heap.size, 0, none⟩) zw).trans cw0
  replace cw1 := (hb.cell (p := ⟨w4.heap.size, 1, none⟩) zw).trans cw1
  replace cw2 := (hb.cell (p := ⟨w4.heap.size, 2, none⟩) zw).trans cw2
  replace cw3 := (hb.cell (p := ⟨w4.heap.size, 3, none⟩) zw).trans cw3
  replace cw4 := (hb.cell (p := ⟨w4.heap.size, 4, none⟩) zw).trans cw4
  replace cw5 := (hb.cell (p := ⟨w4.heap.size, 5, none⟩) zw).trans cw5
  replace zw := Nat.lt_of_lt_of_le zw hb.size
  replace cg0 := (hb.cell (p := ⟨w7.heap.size, 0, none⟩) zg).trans cg0
  replace cg1 := (hb.cell (p := ⟨w7.heap.size, 1, none⟩) zg).trans cg1
  replace cg2 := (hb.cell (p := ⟨w7.heap.size, 2, none⟩) zg).trans cg2
  replace cg3 := (hb.cell (p := ⟨w7.heap.size, 3, none⟩) zg).trans cg3
  replace cg4 := (hb.cell (p := ⟨w7.heap.size, 4, none⟩) zg).trans cg4
  replace cg5 := (hb.cell (p := ⟨w7.heap.size, 5, none⟩) zg).trans cg5
  replace zg := Nat.lt_of_lt_of_le zg hb.size
  replace Og : Hid (OwnI w6.heap.size w20 sG m (fun j => 1 + (j : Int))) := Og.out.below hb
  replace Bs : Below w4.heap.size w4 w20 := Bs.trans (hb.mono Bs.size)
  replace B0 : Below w.heap.size w w20 := B0.trans (hb.mono B0.size)
  clear hb hh
  clear PH
  go_wp2_with fail
  refine (heldLink_any T Hh Q A Lo sG m cG 1 _ hm (by decide) (by decide) Og.out.row).mono ?_
  rintro e w21 ⟨rfl, hh⟩
  have hb : Below w20.heap.size w20 w21 := Below.trans (by repeat (first | with_reducible exact Below.refl _ _ | with_reducible refine Below.setCell ?_ (by first | omega | (simp; done) | (simp; omega)) _ | with_reducible refine bDrewN ?_ _ | with_reducible refine Below.drew ?_ | with_reducible refine Below.alloc ?_ (by first | omega | (simp; done) | (simp; omega)) _)) (hh.mono (by first | omega | (simp; done) | (simp; omega)))
  have lw21 : w20.heap.size ≤ w21.heap.size := hb.size
  replace ca0 := (hb.cell (p := ⟨w.heap.size, 0, none⟩) za).trans ca0
  replace ca1 := (hb.cell (p := ⟨w.heap.size, 1, none⟩) za).trans ca1
  replace ca2 := (hb.cell (p := ⟨w.heap.size, 2, none⟩) za).trans ca2
  replace ca3 := (hb.cell (p := ⟨w.heap.size, 3, none⟩) za).trans ca3
  replace ca4 := (hb.cell (p := ⟨w.heap.size, 4, none⟩) za).trans ca4
  replace ca5 := (hb.cell (p := ⟨w.heap.size, 5, none⟩) za).trans ca5
  replace za := Nat.lt_of_lt_of_le za hb.size
  replace cw0 := (hb.cell (p := ⟨w4.heap.size, 0, none⟩) zw).trans cw0
  replace cw1 := (hb.cell (p := ⟨w4.heap.size, 1, none⟩) zw).trans cw1
  replace cw2 := (hb.cell (p := ⟨w4.heap.size, 2, none⟩) zw).trans cw2
  replace cw3 := (hb.cell (p := ⟨w4.heap.size, 3, none⟩) zw).trans cw3
  replace cw4 := (hb.cell (p := ⟨w4.heap.size, 4, none⟩) zw).trans cw4
  replace cw5 := (hb.cell (p := ⟨w4.heap.size, 5, none⟩) zw).trans cw5
  replace zw := Nat.lt_of_lt_of_le zw hb.size
  replace cg0 := (hb.cell (p := ⟨w7.heap.size, 0, none⟩) zg).trans cg0
  replace cg1 := (hb.cell (p := ⟨w7.heap.size, 1, none⟩) zg).trans cg1
  replace cg2 := (hb.cell (p := ⟨w7.heap.size, 2, none⟩) zg).trans cg2
  replace cg3 := (hb.cell (p := ⟨w7.heap.size, 3, none⟩) zg).trans cg3
  replace cg4 := (hb.cell (p := ⟨w7.heap.size, 4, none⟩) zg).trans cg4
  replace cg5 := (hb.cell (p := ⟨w7.heap.size, 5, none⟩) zg).trans cg5
  replace zg := Nat.lt_of_lt_of_le zg hb.size
  replace Og : Hid (OwnI w6.heap.size w21 sG m (fun j => 1 + (j : Int))) := Og.out.below hb
  replace Bs : Below w4.heap.size w4 w21 := Bs.trans (hb.mono Bs.size)
  replace B0 : Below w.heap.size w w21 := B0.trans (hb.mono B0.size)
  clear hb hh
  go_wp2
  go_ret
  exact ⟨rfl, B0⟩

set_option maxHeartbeats 800000 in
theorem hear_far1 (w : World) (t : Int) (h : Bool) (q a l : Int) (s : Option Addr) (n c : Nat) (s2 : Option Addr) (n2 c2 : Nat) (hn2 : (1048576 : Int) < n2) :
    Calls Try.prog 3 #[.agg #[.int .i64 t, .bool h, .int .i64 q, .int .i64 a, .int .i64 l, .slice s n c], .slice s2 n2 c2] w fun e w' => e = .returned (.bool true) ∧ Below w.heap.size w w' := by
  go_enter Try.func3, Try.ntmps3
  go_wp2
  go_ret
  exact ⟨rfl, (by repeat (first | with_reducible exact Below.refl _ _ | with_reducible refine Below.setCell ?_ (by first | omega | (simp; done) | (simp; omega)) _ | with_reducible refine bDrewN ?_ _ | with_reducible refine Below.drew ?_ | with_reducible refine Below.alloc ?_ (by first | omega | (simp; done) | (simp; omega)) _))⟩
set_option maxHeartbeats 800000 in
theorem hear_far2 (w : World) (t : Int) (h : Bool) (q a l : Int) (s : Option Addr) (n c : Nat) (s2 : Option Addr) (n2 c2 : Nat) (hn2 : (n2 : Int) ≤ 1048576) (hn : (1048576 : Int) < n) (hn' : (n : Int) ≤ 9223372036854775807) :
    Calls Try.prog 3 #[.agg #[.int .i64 t, .bool h, .int .i64 q, .int .i64 a, .int .i64 l, .slice s n c], .slice s2 n2 c2] w fun e w' => e = .returned (.bool true) ∧ Below w.heap.size w w' := by
  go_enter Try.func3, Try.ntmps3
  go_wp2_with fail
  refine (szLink_off t h q a l s n c _ _ (by omega) (by omega) hn hn').mono ?_
  rintro e w1 ⟨rfl, h1⟩
  have B0 : Below w.heap.size w w1 := Below.trans (by repeat (first | with_reducible exact Below.refl _ _ | with_reducible refine Below.setCell ?_ (by first | omega | (simp; done) | (simp; omega)) _ | with_reducible refine bDrewN ?_ _ | with_reducible refine Below.drew ?_ | with_reducible refine Below.alloc ?_ (by first | omega | (simp; done) | (simp; omega)) _)) (h1.mono (by first | omega | (simp; done) | (simp; omega)))
  go_wp2
  go_ret
  exact ⟨rfl, B0⟩
theorem he_le (t : Int) (h : Bool) (q a l : Int) (n : Nat) (V : Nat → Int) (n2 : Nat) (V2 : Nat → Int) (hn : (n : Int) ≤ 1048576) : ((heV t h q a l n V n2 V2).m : Int) ≤ 1048576 := by
  unfold heV
  split
  · split
    · exact hn
    · split
      · exact hn
      · split
        · exact hn
        · exact rd_le
  · show ((0 : Nat) : Int) ≤ 1048576
    decide
theorem fnExactHear_walk (w : World) (t : Int) (h : Bool) (q a l : Int) (s : Option Addr) (n c : Nat) (V : Nat → Int) (hm : n ≤ 9223372036854775807) (R : RowI w s n V) (s2 : Option Addr) (n2 c2 : Nat) (V2 : Nat → Int) (hm2 : n2 ≤ 9223372036854775807) (R2 : RowY w s2 n2 V2) (hV2 : ∀ j, j < n2 → 0 ≤ V2 j ∧ V2 j < 256) :
    Calls Try.prog 3 #[.agg #[.int .i64 t, .bool h, .int .i64 q, .int .i64 a, .int .i64 l, .slice s n c], .slice s2 n2 c2] w fun e w' => e = .returned (.bool true) ∧ Below w.heap.size w w' := by
  by_cases hn2 : (n2 : Int) ≤ 1048576
  · by_cases hn : (n : Int) ≤ 1048576
    · exact hear_near w t h q a l s n c V s2 n2 c2 V2 hn hn2 R R2 _ _ _ _ _ _ _ _ (he_le t h q a l n V n2 V2 hn) (fun ad c b o w h1 h2 => specHear_any t h q a l ad n c V b o n2 V2 w hn hn2 hV2 h1 h2) (fun ad c b o w h1 h2 => implHear_any t h q a l ad n c V b o n2 V2 w hn hn2 hV2 h1 h2)
    · exact hear_far2 w t h q a l s n c s2 n2 c2 hn2 (by omega) (by omega)
  · exact hear_far1 w t h q a l s n c s2 n2 c2 (by omega)

set_option maxRecDepth 100000 in
theorem fnExactHear_lifted (os : Os) (started : os.Started) (H : Type) (enc : TypeId × Value → H) :
    ReturnsInHanded {} Try.checked os 3 .any (Rows.fnExactHearSpec.pre6 enc Try.prog Try.f3 Rows.fnExactHearRow.domain false) (Rows.fnExactHearSpec.post enc Try.prog Try.f3 false true false false) := by
  refine returnsInHanded_of_change (C := Try.checked) own started (by kernel_rfl) Try.func3
    (ChangeSpec.witness6 (enc := enc) (C := Try.checked) false ⟨#[], #[.agg #[.int .i64 0, .bool false, .int .i64 0, .int .i64 0, .int .i64 0, .slice none 0 0], .slice none 0 0], []⟩ 8 (by kernel_rfl) (by kernel_rfl) (by kernel_rfl) (by kernel_rfl)) ?_
  intro W base args ds gs before hval0 hW hcnd _
  have hval : ∀ (j : Nat) t v, Try.f3.params[j]? = some t → args[j]? = some v → Value.okWide Try.prog W .any base t v := hval0
  have hW' := hW
  obtain ⟨p, q, hA0, hV, rfl, hfz, hnd⟩ := hW
  have hA : DataW.TrodAll enc Try.prog W 0 (fun _ => true) true Try.f3.params.toList args.toList ds p := hA0
  rw [Try.params3] at hA hval
  obtain ⟨v0, vs0, d0, ds0, p0, q0, hargs, rfl, rfl, h0, r0⟩ := trodAll_cons hA
  obtain ⟨v1, vs1, d1, ds1, p1, q1, rfl, rfl, rfl, h1, r1⟩ := trodAll_cons r0
  obtain ⟨rfl, rfl, rfl⟩ := trodAll_nil r1
  obtain rfl : args = #[v0, v1] := by cases args; simp_all
  obtain ⟨rfl, rfl⟩ := trodVars_none hV
  have k0 := h0
  have lt0 : ∀ x ∈ p0, x.block < W.heap.size := by obtain ⟨m, hm⟩ := k0; exact DataW.trod_lt m _ _ _ hm
  have k1 := h1
  have lt1 : ∀ x ∈ p1, x.block < W.heap.size := by obtain ⟨m, hm⟩ := k1; exact DataW.trod_lt m _ _ _ hm
  obtain ⟨t0, h0b, q0b, a0b, l0, s0, n0, c0, V0, rfl, wt0, wq0, wa0, wl0, m0, R0, w0⟩ := open_link Try.underlying24 (l := 22) (by kernel_rfl) (by kernel_rfl) rfl rfl (by kernel_rfl) Try.underlying2 Try.underlying4 Try.underlying22 Try.underlying2 (by kernel_rfl) (hval 0 24 v0 rfl rfl) h0
  obtain ⟨s1, n1, c1, V1, rfl, m1, R1, w1⟩ := open_u8s Try.underlying25 Try.underlying5 (by kernel_rfl) (hval 1 25 v1 rfl rfl) h1
  clear hA0 hval0
  refine (fnExactHear_walk W t0 h0b q0b a0b l0 s0 n0 c0 V0 m0 R0 s1 n1 c1 V1 m1 R1 w1).mono fun e W' ⟨he, bel⟩ => ?_
  subst he
  exact ⟨_, rfl, _, _, _, [], _, [], hW', trodAll_mk1 (shut_bool Try.underlying4 _), (trodAll_cons_mk (Below.trod laidOut (by kernel_rfl) (of_decide_eq_true (by kernel_rfl)) k0 bel lt0) (trodAll_cons_mk (Below.trod laidOut (by kernel_rfl) (of_decide_eq_true (by kernel_rfl)) k1 bel lt1) trodAll_mk0)), rfl, bel.frame _, fun h => by cases h⟩

theorem fnExactHear_holds : Rows.FnExactHearSaid :=
  OpenClaim.holds_of_wide 3 Try.f3 rfl rfl rfl rfl rfl rfl rfl ⟨rfl, rfl, rfl, rfl, rfl⟩ rfl rfl rfl rfl rfl (by kernel_rfl) Try.func3 (by kernel_rfl)
    (of_decide_eq_true (by kernel_rfl)) (by unfold Func.isWrapper; first | (rw [if_pos (by decide +kernel)]; kernel_rfl) | (rw [if_neg (by decide +kernel)]; exact ⟨rfl, rfl⟩))
    (fun os started H enc _ => fnExactHear_lifted os started H enc)
#print axioms fnExactHear_holds
end Go.Proofs.Ytiekcafibdiljaa
