/-
What is proved: at every burner and every list of what is seen impl.BurnerRun answers as the specification's BurnerRun, leaves the list alone, and its answer owns its memory; no condition.
-/
import Derived.Test.YtaimdbgimkgelaaBrS
import Derived.Test.YtaimdbgimkgelaaBrI
import Derived.Test.YtaimdbgimkgelaaBuH
import Derived.Test.YtaimdbgimkgelaaBuL
import Derived.Test.YtaimdbgimkgelaaInn
import Derived.Test.YtaimdbgimkgelaaInnM
import Derived.Test.YtaimdbgimkgelaaOtl
namespace Go.Proofs.Ytaimdbgimkgelaa
set_option maxRecDepth 40000
open Go.ChangeShapes Go.WideShapes Go.ChangeAt Go.RowKit
set_option linter.unusedVariables false
set_option linter.unusedSimpArgs false

theorem ownB_at {base : Nat} {w : World} {s : Option Addr} {n : Nat} {V : Nat → Bool} (h : OwnB base w s n V) : 0 < n → ∀ b, s = some ⟨b, 0, none⟩ → base ≤ b ∧ b < w.heap.size := fun hn b e => by
  obtain ⟨b', e', h1, h2, _⟩ := h 0 hn
  rw [e] at e'
  cases e'
  exact ⟨h1, h2⟩
theorem OwnB.spared {base : Nat} {w w' : World} {s sx : Option Addr} {n nx : Nat} {V : Nat → Bool} (h : OwnB base w s n V) (hs : Spared sx nx w w') (hz : w.heap.size ≤ w'.heap.size) (hb : 0 < nx → ∀ b, sx = some ⟨b, 0, none⟩ → b < base) : OwnB base w' s n V := fun j hj => by
  obtain ⟨b, e, h1, h2, h3, h4⟩ := h j hj
  have hk := hs b h2 (fun hp b' e' => by have := hb hp b' e'; omega)
  exact ⟨b, e, h1, Nat.lt_of_lt_of_le h2 hz, (show w'.cell? ⟨b, j, none⟩ = _ from (World.cell?_of_block (w := w) hk).trans h3), (show w'.frozen? ⟨b, j, none⟩ = _ from (World.frozen?_of_block (w := w) hk).trans h4)⟩
set_option maxRecDepth 20000 in
set_option maxHeartbeats 16000000 in
theorem burnerRun_near (w : World) (s t r : Int) (sl : Option Addr) (n c : Nat) (V : Nat → Bool) (hn : (n : Int) ≤ 1048576) (HR : Hid (RowB w sl (n * 6) V)) (m : Nat) (U : Nat → Bool) (hm : (m : Int) ≤ 1048576) (y0 y1 y2 : Int) (ok : Bool) (H1 : Hid (∀ sl w, RowB w sl (n * 6) V → Calls Try.prog 18 #[.agg #[.int .i64 s, .int .i64 t, .int .i64 r], .slice sl n n] w fun e w' => ∃ s' c', e = .returned (.tuple #[.slice s' m c', .agg #[.int .i64 y0, .int .i64 y1, .int .i64 y2], .bool ok]) ∧ OwnB w.heap.size w' s' (m * 3) U ∧ Below w.heap.size w w')) (H2 : Hid (∀ sl w, RowB w sl (n * 6) V → Calls Try.prog 20 #[.agg #[.int .i64 s, .int .i64 t, .int .i64 r], .slice sl n n] w fun e w' => ∃ s' c', e = .returned (.tuple #[.slice s' m c', .agg #[.int .i64 y0, .int .i64 y1, .int .i64 y2], .bool ok]) ∧ OwnB w.heap.size w' s' (m * 3) U ∧ Below w.heap.size w w')) :
    Calls Try.prog 5 #[.agg #[.int .i64 s, .int .i64 t, .int .i64 r], .slice sl n c] w fun e w' => e = .returned (.bool true) ∧ Below w.heap.size w w' := by
  have nok : (ok != ok) = false := bne_self_eq_false ok
  go_enter Try.func5, Try.ntmps5
  go_wp2_with fail
  refine (szInS_on _ n _ _ _ (by omega) (by omega) hn).mono ?_
  rintro e w0 ⟨rfl, rfl⟩
  go_wp2_with fail
  refine (toBurner_any s t r _).mono ?_
  rintro e w1 ⟨rfl, hh⟩
  have hb : Below w.heap.size w w1 := Below.trans (by repeat (first | with_reducible exact Below.refl _ _ | with_reducible refine Below.setCell ?_ (by first | omega | (simp; done) | (simp; omega)) _ | with_reducible refine bDrewN ?_ _ | with_reducible refine Below.drew ?_ | with_reducible refine Below.alloc ?_ (by first | omega | (simp; done) | (simp; omega)) _)) (hh.mono (by first | omega | (simp; done) | (simp; omega)))
  have lw1 : w.heap.size ≤ w1.heap.size := hb.size
  have ca0 : w1.cell? ⟨w.heap.size, 0, none⟩ = some (.int .i64 s) := by rw [hh.cell (by first | omega | (simp; done) | (simp; omega))]; first | (simp; done) | (simp [go_sem]; done)
  have ca1 : w1.cell? ⟨w.heap.size, 1, none⟩ = some (.int .i64 t) := by rw [hh.cell (by first | omega | (simp; done) | (simp; omega))]; first | (simp; done) | (simp [go_sem]; done)
  have ca2 : w1.cell? ⟨w.heap.size, 2, none⟩ = some (.int .i64 r) := by rw [hh.cell (by first | omega | (simp; done) | (simp; omega))]; first | (simp; done) | (simp [go_sem]; done)
  have za : w.heap.size < w1.heap.size := by have := hh.size; simp at this; omega
  have ya := za
  have B0 : Below w.heap.size w w1 := hb
  clear hb hh
  go_wp2_with fail
  refine (toInS_any sl n c V _ hn (HR.out.below B0)).mono ?_
  rintro e w2 ⟨rfl, -, OT, hh⟩
  have hb : Below w1.heap.size w1 w2 := Below.trans (by repeat (first | with_reducible exact Below.refl _ _ | with_reducible refine Below.setCell ?_ (by first | omega | (simp; done) | (simp; omega)) _ | with_reducible refine bDrewN ?_ _ | with_reducible refine Below.drew ?_ | with_reducible refine Below.alloc ?_ (by first | omega | (simp; done) | (simp; omega)) _)) (hh.mono (by first | omega | (simp; done) | (simp; omega)))
  have lw2 : w1.heap.size ≤ w2.heap.size := hb.size
  replace ca0 := (hb.cell (p := ⟨w.heap.size, 0, none⟩) za).trans ca0
  replace ca1 := (hb.cell (p := ⟨w.heap.size, 1, none⟩) za).trans ca1
  replace ca2 := (hb.cell (p := ⟨w.heap.size, 2, none⟩) za).trans ca2
  replace za := Nat.lt_of_lt_of_le za hb.size
  replace B0 : Below w.heap.size w w2 := B0.trans (hb.mono B0.size)
  clear hb hh
  have PT : Hid (RowB w2 _ (n * 6) V) := OT.row
  clear OT
  go_wp2_with fail
  refine (H1.out _ _ PT.out).mono ?_
  rintro e w3 ⟨sW, cW, rfl, OW, hh⟩
  have hb : Below w2.heap.size w2 w3 := Below.trans (by repeat (first | with_reducible exact Below.refl _ _ | with_reducible refine Below.setCell ?_ (by first | omega | (simp; done) | (simp; omega)) _ | with_reducible refine bDrewN ?_ _ | with_reducible refine Below.drew ?_ | with_reducible refine Below.alloc ?_ (by first | omega | (simp; done) | (simp; omega)) _)) (hh.mono (by first | omega | (simp; done) | (simp; omega)))
  have lw3 : w2.heap.size ≤ w3.heap.size := hb.size
  replace ca0 := (hb.cell (p := ⟨w.heap.size, 0, none⟩) za).trans ca0
  replace ca1 := (hb.cell (p := ⟨w.heap.size, 1, none⟩) za).trans ca1
  replace ca2 := (hb.cell (p := ⟨w.heap.size, 2, none⟩) za).trans ca2
  replace za := Nat.lt_of_lt_of_le za hb.size
  replace B0 : Below w.heap.size w w3 := B0.trans (hb.mono B0.size)
  clear hb hh
  clear PT
  have Bs : Below w3.heap.size w3 w3 := Below.refl _ _
  have RW : Hid (RowB w3 sW (m * 3) U) := OW.row
  clear OW
  go_wp2_with fail
  refine (toInS_any sl n c V _ hn (HR.out.below (B0.trans (Below.mono (by repeat (first | with_reducible exact Below.refl _ _ | with_reducible refine Below.setCell ?_ (by first | omega | (simp; done) | (simp; omega)) _ | with_reducible refine bDrewN ?_ _ | with_reducible refine Below.drew ?_ | with_reducible refine Below.alloc ?_ (by first | omega | (simp; done) | (simp; omega)) _)) B0.size)))).mono ?_
  rintro e w4 ⟨rfl, lx, OX0, hh⟩
  have hb : Below w3.heap.size w3 w4 := Below.trans (by repeat (first | with_reducible exact Below.refl _ _ | with_reducible refine Below.setCell ?_ (by first | omega | (simp; done) | (simp; omega)) _ | with_reducible refine bDrewN ?_ _ | with_reducible refine Below.drew ?_ | with_reducible refine Below.alloc ?_ (by first | omega | (simp; done) | (simp; omega)) _)) (hh.mono (by first | omega | (simp; done) | (simp; omega)))
  have lw4 : w3.heap.size ≤ w4.heap.size := hb.size
  have cp0 : w4.cell? ⟨w3.heap.size, 0, none⟩ = some (.int .i64 y0) := by rw [hh.cell (by first | omega | (simp; done) | (simp; omega))]; first | (simp; done) | (simp [go_sem]; done)
  have cp1 : w4.cell? ⟨w3.heap.size, 1, none⟩ = some (.int .i64 y1) := by rw [hh.cell (by first | omega | (simp; done) | (simp; omega))]; first | (simp; done) | (simp [go_sem]; done)
  have cp2 : w4.cell? ⟨w3.heap.size, 2, none⟩ = some (.int .i64 y2) := by rw [hh.cell (by first | omega | (simp; done) | (simp; omega))]; first | (simp; done) | (simp [go_sem]; done)
  have zp : w3.heap.size < w4.heap.size := by have := hh.size; simp at this; omega
  have yp := zp
  replace ca0 := (hb.cell (p := ⟨w.heap.size, 0, none⟩) za).trans ca0
  replace ca1 := (hb.cell (p := ⟨w.heap.size, 1, none⟩) za).trans ca1
  replace ca2 := (hb.cell (p := ⟨w.heap.size, 2, none⟩) za).trans ca2
  replace za := Nat.lt_of_lt_of_le za hb.size
  replace Bs : Below w3.heap.size w3 w4 := Bs.trans (hb.mono Bs.size)
  replace B0 : Below w.heap.size w w4 := B0.trans (hb.mono B0.size)
  clear hb hh
  have lx2 : w3.heap.size + 1 < w4.heap.size := by simpa using lx
  have Ox : Hid (OwnB (w3.heap.size + 1) w4 (some ⟨w3.heap.size + 1, 0, none⟩) (n * 6) V) := (show OwnB _ _ _ _ _ by simpa using OX0)
  clear OX0 lx
  go_wp2_with fail
  refine (toBurner_any s t r _).mono ?_
  rintro e w5 ⟨rfl, hh⟩
  have hb : Below w4.heap.size w4 w5 := Below.trans (by repeat (first | with_reducible exact Below.refl _ _ | with_reducible refine Below.setCell ?_ (by first | omega | (simp; done) | (simp; omega)) _ | with_reducible refine bDrewN ?_ _ | with_reducible refine Below.drew ?_ | with_reducible refine Below.alloc ?_ (by first | omega | (simp; done) | (simp; omega)) _)) (hh.mono (by first | omega | (simp; done) | (simp; omega)))
  have lw5 : w4.heap.size ≤ w5.heap.size := hb.size
  replace ca0 := (hb.cell (p := ⟨w.heap.size, 0, none⟩) za).trans ca0
  replace ca1 := (hb.cell (p := ⟨w.heap.size, 1, none⟩) za).trans ca1
  replace ca2 := (hb.cell (p := ⟨w.heap.size, 2, none⟩) za).trans ca2
  replace za := Nat.lt_of_lt_of_le za hb.size
  replace cp0 := (hb.cell (p := ⟨w3.heap.size, 0, none⟩) zp).trans cp0
  replace cp1 := (hb.cell (p := ⟨w3.heap.size, 1, none⟩) zp).trans cp1
  replace cp2 := (hb.cell (p := ⟨w3.heap.size, 2, none⟩) zp).trans cp2
  replace zp := Nat.lt_of_lt_of_le zp hb.size
  replace Ox : Hid (OwnB (w3.heap.size + 1) w5 (some ⟨w3.heap.size + 1, 0, none⟩) (n * 6) V) := Ox.out.below hb
  replace Bs : Below w3.heap.size w3 w5 := Bs.trans (hb.mono Bs.size)
  replace B0 : Below w.heap.size w w5 := B0.trans (hb.mono B0.size)
  clear hb hh
  go_wp2_with fail
  refine (H2.out _ _ Ox.out.row).mono ?_
  rintro e w6 ⟨sG, cG, rfl, OG0, hh⟩
  have hb : Below w5.heap.size w5 w6 := Below.trans (by repeat (first | with_reducible exact Below.refl _ _ | with_reducible refine Below.setCell ?_ (by first | omega | (simp; done) | (simp; omega)) _ | with_reducible refine bDrewN ?_ _ | with_reducible refine Below.drew ?_ | with_reducible refine Below.alloc ?_ (by first | omega | (simp; done) | (simp; omega)) _)) (hh.mono (by first | omega | (simp; done) | (simp; omega)))
  have lw6 : w5.heap.size ≤ w6.heap.size := hb.size
  replace ca0 := (hb.cell (p := ⟨w.heap.size, 0, none⟩) za).trans ca0
  replace ca1 := (hb.cell (p := ⟨w.heap.size, 1, none⟩) za).trans ca1
  replace ca2 := (hb.cell (p := ⟨w.heap.size, 2, none⟩) za).trans ca2
  replace za := Nat.lt_of_lt_of_le za hb.size
  replace cp0 := (hb.cell (p := ⟨w3.heap.size, 0, none⟩) zp).trans cp0
  replace cp1 := (hb.cell (p := ⟨w3.heap.size, 1, none⟩) zp).trans cp1
  replace cp2 := (hb.cell (p := ⟨w3.heap.size, 2, none⟩) zp).trans cp2
  replace zp := Nat.lt_of_lt_of_le zp hb.size
  replace Ox : Hid (OwnB (w3.heap.size + 1) w6 (some ⟨w3.heap.size + 1, 0, none⟩) (n * 6) V) := Ox.out.below hb
  replace Bs : Below w3.heap.size w3 w6 := Bs.trans (hb.mono Bs.size)
  replace B0 : Below w.heap.size w w6 := B0.trans (hb.mono B0.size)
  clear hb hh
  have Og : Hid (OwnB w5.heap.size w6 sG (m * 3) U) := OG0
  clear OG0
  have bG : Hid (0 < m * 3 → ∀ b, sG = some ⟨b, 0, none⟩ → w5.heap.size ≤ b ∧ b < w6.heap.size) := ownB_at Og.out
  go_wp2_with fail
  refine (eqOutS_any sG sW m cG cW U _ hm (Og.out.row.below (by repeat (first | with_reducible exact Below.refl _ _ | with_reducible refine Below.setCell ?_ (by first | omega | (simp; done) | (simp; omega)) _ | with_reducible refine bDrewN ?_ _ | with_reducible refine Below.drew ?_ | with_reducible refine Below.alloc ?_ (by first | omega | (simp; done) | (simp; omega)) _))) (RW.out.below (Bs.trans (Below.mono (by repeat (first | with_reducible exact Below.refl _ _ | with_reducible refine Below.setCell ?_ (by first | omega | (simp; done) | (simp; omega)) _ | with_reducible refine bDrewN ?_ _ | with_reducible refine Below.drew ?_ | with_reducible refine Below.alloc ?_ (by first | omega | (simp; done) | (simp; omega)) _)) Bs.size)))).mono ?_
  rintro e w7 ⟨rfl, hh⟩
  have hb : Below w6.heap.size w6 w7 := Below.trans (by repeat (first | with_reducible exact Below.refl _ _ | with_reducible refine Below.setCell ?_ (by first | omega | (simp; done) | (simp; omega)) _ | with_reducible refine bDrewN ?_ _ | with_reducible refine Below.drew ?_ | with_reducible refine Below.alloc ?_ (by first | omega | (simp; done) | (simp; omega)) _)) (hh.mono (by first | omega | (simp; done) | (simp; omega)))
  have lw7 : w6.heap.size ≤ w7.heap.size := hb.size
  have cr0 : w7.cell? ⟨w6.heap.size, 0, none⟩ = some (.int .i64 y0) := by rw [hh.cell (by first | omega | (simp; done) | (simp; omega))]; first | (simp; done) | (simp [go_sem]; done)
  have cr1 : w7.cell? ⟨w6.heap.size, 1, none⟩ = some (.int .i64 y1) := by rw [hh.cell (by first | omega | (simp; done) | (simp; omega))]; first | (simp; done) | (simp [go_sem]; done)
  have cr2 : w7.cell? ⟨w6.heap.size, 2, none⟩ = some (.int .i64 y2) := by rw [hh.cell (by first | omega | (simp; done) | (simp; omega))]; first | (simp; done) | (simp [go_sem]; done)
  have zr : w6.heap.size < w7.heap.size := by have := hh.size; simp at this; omega
  have yr := zr
  replace ca0 := (hb.cell (p := ⟨w.heap.size, 0, none⟩) za).trans ca0
  replace ca1 := (hb.cell (p := ⟨w.heap.size, 1, none⟩) za).trans ca1
  replace ca2 := (hb.cell (p := ⟨w.heap.size, 2, none⟩) za).trans ca2
  replace za := Nat.lt_of_lt_of_le za hb.size
  replace cp0 := (hb.cell (p := ⟨w3.heap.size, 0, none⟩) zp).trans cp0
  replace cp1 := (hb.cell (p := ⟨w3.heap.size, 1, none⟩) zp).trans cp1
  replace cp2 := (hb.cell (p := ⟨w3.heap.size, 2, none⟩) zp).trans cp2
  replace zp := Nat.lt_of_lt_of_le zp hb.size
  replace Ox : Hid (OwnB (w3.heap.size + 1) w7 (some ⟨w3.heap.size + 1, 0, none⟩) (n * 6) V) := Ox.out.below hb
  replace Og : Hid (OwnB w5.heap.size w7 sG (m * 3) U) := Og.out.below hb
  replace Bs : Below w3.heap.size w3 w7 := Bs.trans (hb.mono Bs.size)
  replace B0 : Below w.heap.size w w7 := B0.trans (hb.mono B0.size)
  clear hb hh
  go_wp2_with fail
  refine (eqBurner_any y0 y1 y2 _).mono ?_
  rintro e w8 ⟨rfl, hh⟩
  have hb : Below w7.heap.size w7 w8 := Below.trans (by repeat (first | with_reducible exact Below.refl _ _ | with_reducible refine Below.setCell ?_ (by first | omega | (simp; done) | (simp; omega)) _ | with_reducible refine bDrewN ?_ _ | with_reducible refine Below.drew ?_ | with_reducible refine Below.alloc ?_ (by first | omega | (simp; done) | (simp; omega)) _)) (hh.mono (by first | omega | (simp; done) | (simp; omega)))
  have lw8 : w7.heap.size ≤ w8.heap.size := hb.size
  replace ca0 := (hb.cell (p := ⟨w.heap.size, 0, none⟩) za).trans ca0
  replace ca1 := (hb.cell (p := ⟨w.heap.size, 1, none⟩) za).trans ca1
  replace ca2 := (hb.cell (p := ⟨w.heap.size, 2, none⟩) za).trans ca2
  replace za := Nat.lt_of_lt_of_le za hb.size
  replace cp0 := (hb.cell (p := ⟨w3.heap.size, 0, none⟩) zp).trans cp0
  replace cp1 := (hb.cell (p := ⟨w3.heap.size, 1, none⟩) zp).trans cp1
  replace cp2 := (hb.cell (p := ⟨w3.heap.size, 2, none⟩) zp).trans cp2
  replace zp := Nat.lt_of_lt_of_le zp hb.size
  replace cr0 := (hb.cell (p := ⟨w6.heap.size, 0, none⟩) zr).trans cr0
  replace cr1 := (hb.cell (p := ⟨w6.heap.size, 1, none⟩) zr).trans cr1
  replace cr2 := (hb.cell (p := ⟨w6.heap.size, 2, none⟩) zr).trans cr2
  replace zr := Nat.lt_of_lt_of_le zr hb.size
  replace Ox : Hid (OwnB (w3.heap.size + 1) w8 (some ⟨w3.heap.size + 1, 0, none⟩) (n * 6) V) := Ox.out.below hb
  replace Og : Hid (OwnB w5.heap.size w8 sG (m * 3) U) := Og.out.below hb
  replace Bs : Below w3.heap.size w3 w8 := Bs.trans (hb.mono Bs.size)
  replace B0 : Below w.heap.size w w8 := B0.trans (hb.mono B0.size)
  clear hb hh
  go_wp2_with fail
  refine (toInS_any sl n c V _ hn (HR.out.below B0)).mono ?_
  rintro e w9 ⟨rfl, -, OT, hh⟩
  have hb : Below w8.heap.size w8 w9 := Below.trans (by repeat (first | with_reducible exact Below.refl _ _ | with_reducible refine Below.setCell ?_ (by first | omega | (simp; done) | (simp; omega)) _ | with_reducible refine bDrewN ?_ _ | with_reducible refine Below.drew ?_ | with_reducible refine Below.alloc ?_ (by first | omega | (simp; done) | (simp; omega)) _)) (hh.mono (by first | omega | (simp; done) | (simp; omega)))
  have lw9 : w8.heap.size ≤ w9.heap.size := hb.size
  replace ca0 := (hb.cell (p := ⟨w.heap.size, 0, none⟩) za).trans ca0
  replace ca1 := (hb.cell (p := ⟨w.heap.size, 1, none⟩) za).trans ca1
  replace ca2 := (hb.cell (p := ⟨w.heap.size, 2, none⟩) za).trans ca2
  replace za := Nat.lt_of_lt_of_le za hb.size
  replace cp0 := (hb.cell (p := ⟨w3.heap.size, 0, none⟩) zp).trans cp0
  replace cp1 := (hb.cell (p := ⟨w3.heap.size, 1, none⟩) zp).trans cp1
  replace cp2 := (hb.cell (p := ⟨w3.heap.size, 2, none⟩) zp).trans cp2
  replace zp := Nat.lt_of_lt_of_le zp hb.size
  replace cr0 := (hb.cell (p := ⟨w6.heap.size, 0, none⟩) zr).trans cr0
  replace cr1 := (hb.cell (p := ⟨w6.heap.size, 1, none⟩) zr).trans cr1
  replace cr2 := (hb.cell (p := ⟨w6.heap.size, 2, none⟩) zr).trans cr2
  replace zr := Nat.lt_of_lt_of_le zr hb.size
  replace Ox : Hid (OwnB (w3.heap.size + 1) w9 (some ⟨w3.heap.size + 1, 0, none⟩) (n * 6) V) := Ox.out.below hb
  replace Og : Hid (OwnB w5.heap.size w9 sG (m * 3) U) := Og.out.below hb
  replace Bs : Below w3.heap.size w3 w9 := Bs.trans (hb.mono Bs.size)
  replace B0 : Below w.heap.size w w9 := B0.trans (hb.mono B0.size)
  clear hb hh
  have PT : Hid (RowB w9 _ (n * 6) V) := OT.row
  clear OT
  go_wp2_with fail
  refine (eqInS_any _ _ n _ _ V _ hn Ox.out.row PT.out).mono ?_
  rintro e w10 ⟨rfl, hh⟩
  have hb : Below w9.heap.size w9 w10 := Below.trans (by repeat (first | with_reducible exact Below.refl _ _ | with_reducible refine Below.setCell ?_ (by first | omega | (simp; done) | (simp; omega)) _ | with_reducible refine bDrewN ?_ _ | with_reducible refine Below.drew ?_ | with_reducible refine Below.alloc ?_ (by first | omega | (simp; done) | (simp; omega)) _)) (hh.mono (by first | omega | (simp; done) | (simp; omega)))
  have lw10 : w9.heap.size ≤ w10.heap.size := hb.size
  replace ca0 := (hb.cell (p := ⟨w.heap.size, 0, none⟩) za).trans ca0
  replace ca1 := (hb.cell (p := ⟨w.heap.size, 1, none⟩) za).trans ca1
  replace ca2 := (hb.cell (p := ⟨w.heap.size, 2, none⟩) za).trans ca2
  replace za := Nat.lt_of_lt_of_le za hb.size
  replace cp0 := (hb.cell (p := ⟨w3.heap.size, 0, none⟩) zp).trans cp0
  replace cp1 := (hb.cell (p := ⟨w3.heap.size, 1, none⟩) zp).trans cp1
  replace cp2 := (hb.cell (p := ⟨w3.heap.size, 2, none⟩) zp).trans cp2
  replace zp := Nat.lt_of_lt_of_le zp hb.size
  replace cr0 := (hb.cell (p := ⟨w6.heap.size, 0, none⟩) zr).trans cr0
  replace cr1 := (hb.cell (p := ⟨w6.heap.size, 1, none⟩) zr).trans cr1
  replace cr2 := (hb.cell (p := ⟨w6.heap.size, 2, none⟩) zr).trans cr2
  replace zr := Nat.lt_of_lt_of_le zr hb.size
  replace Ox : Hid (OwnB (w3.heap.size + 1) w10 (some ⟨w3.heap.size + 1, 0, none⟩) (n * 6) V) := Ox.out.below hb
  replace Og : Hid (OwnB w5.heap.size w10 sG (m * 3) U) := Og.out.below hb
  replace Bs : Below w3.heap.size w3 w10 := Bs.trans (hb.mono Bs.size)
  replace B0 : Below w.heap.size w w10 := B0.trans (hb.mono B0.size)
  clear hb hh
  clear PT
  go_wp2_with fail
  refine (markInS_own (w3.heap.size + 1) _ n n 1 V _ hn (by decide) (by decide) (by omega) Ox.out).mono ?_
  rintro e w11 ⟨rfl, OM, hh, hs⟩
  have lw11 : w10.heap.size ≤ w11.heap.size := hh.size
  replace ca0 := (hh.cell (p := ⟨w.heap.size, 0, none⟩) (by show w.heap.size < _; omega)).trans ca0
  replace ca1 := (hh.cell (p := ⟨w.heap.size, 1, none⟩) (by show w.heap.size < _; omega)).trans ca1
  replace ca2 := (hh.cell (p := ⟨w.heap.size, 2, none⟩) (by show w.heap.size < _; omega)).trans ca2
  replace za := Nat.lt_of_lt_of_le za hh.size
  replace cp0 := (hh.cell (p := ⟨w3.heap.size, 0, none⟩) (by show w3.heap.size < _; omega)).trans cp0
  replace cp1 := (hh.cell (p := ⟨w3.heap.size, 1, none⟩) (by show w3.heap.size < _; omega)).trans cp1
  replace cp2 := (hh.cell (p := ⟨w3.heap.size, 2, none⟩) (by show w3.heap.size < _; omega)).trans cp2
  replace zp := Nat.lt_of_lt_of_le zp hh.size
  replace cr0 := (hs.cell (p := ⟨w6.heap.size, 0, none⟩) zr (fun _ b e => by cases e; show w3.heap.size + 1 ≠ w6.heap.size; omega)).trans cr0
  replace cr1 := (hs.cell (p := ⟨w6.heap.size, 1, none⟩) zr (fun _ b e => by cases e; show w3.heap.size + 1 ≠ w6.heap.size; omega)).trans cr1
  replace cr2 := (hs.cell (p := ⟨w6.heap.size, 2, none⟩) zr (fun _ b e => by cases e; show w3.heap.size + 1 ≠ w6.heap.size; omega)).trans cr2
  replace zr := Nat.lt_of_lt_of_le zr hh.size
  replace Og : Hid (OwnB w5.heap.size w11 sG (m * 3) U) := Og.out.spared hs hh.size (fun _ b e => by cases e; omega)
  replace Bs : Below w3.heap.size w3 w11 := Bs.trans (hh.mono (by omega))
  replace B0 : Below w.heap.size w w11 := B0.trans (hh.mono (by omega))
  replace Ox : Hid (OwnB (w3.heap.size + 1) w11 (some ⟨w3.heap.size + 1, 0, none⟩) (n * 6) (markB 1)) := OM
  clear OM hh hs
  clear Ox
  go_wp2_with fail
  refine (eqOutS_any sG sW m cG cW U _ hm Og.out.row (RW.out.below Bs)).mono ?_
  rintro e w12 ⟨rfl, hh⟩
  have hb : Below w11.heap.size w11 w12 := Below.trans (by repeat (first | with_reducible exact Below.refl _ _ | with_reducible refine Below.setCell ?_ (by first | omega | (simp; done) | (simp; omega)) _ | with_reducible refine bDrewN ?_ _ | with_reducible refine Below.drew ?_ | with_reducible refine Below.alloc ?_ (by first | omega | (simp; done) | (simp; omega)) _)) (hh.mono (by first | omega | (simp; done) | (simp; omega)))
  have lw12 : w11.heap.size ≤ w12.heap.size := hb.size
  replace ca0 := (hb.cell (p := ⟨w.heap.size, 0, none⟩) za).trans ca0
  replace ca1 := (hb.cell (p := ⟨w.heap.size, 1, none⟩) za).trans ca1
  replace ca2 := (hb.cell (p := ⟨w.heap.size, 2, none⟩) za).trans ca2
  replace za := Nat.lt_of_lt_of_le za hb.size
  replace cp0 := (hb.cell (p := ⟨w3.heap.size, 0, none⟩) zp).trans cp0
  replace cp1 := (hb.cell (p := ⟨w3.heap.size, 1, none⟩) zp).trans cp1
  replace cp2 := (hb.cell (p := ⟨w3.heap.size, 2, none⟩) zp).trans cp2
  replace zp := Nat.lt_of_lt_of_le zp hb.size
  replace cr0 := (hb.cell (p := ⟨w6.heap.size, 0, none⟩) zr).trans cr0
  replace cr1 := (hb.cell (p := ⟨w6.heap.size, 1, none⟩) zr).trans cr1
  replace cr2 := (hb.cell (p := ⟨w6.heap.size, 2, none⟩) zr).trans cr2
  replace zr := Nat.lt_of_lt_of_le zr hb.size
  replace Og : Hid (OwnB w5.heap.size w12 sG (m * 3) U) := Og.out.below hb
  replace Bs : Below w3.heap.size w3 w12 := Bs.trans (hb.mono Bs.size)
  replace B0 : Below w.heap.size w w12 := B0.trans (hb.mono B0.size)
  clear hb hh
  go_wp2_with fail
  refine (eqBurner_any y0 y1 y2 _).mono ?_
  rintro e w13 ⟨rfl, hh⟩
  have hb : Below w12.heap.size w12 w13 := Below.trans (by repeat (first | with_reducible exact Below.refl _ _ | with_reducible refine Below.setCell ?_ (by first | omega | (simp; done) | (simp; omega)) _ | with_reducible refine bDrewN ?_ _ | with_reducible refine Below.drew ?_ | with_reducible refine Below.alloc ?_ (by first | omega | (simp; done) | (simp; omega)) _)) (hh.mono (by first | omega | (simp; done) | (simp; omega)))
  have lw13 : w12.heap.size ≤ w13.heap.size := hb.size
  replace ca0 := (hb.cell (p := ⟨w.heap.size, 0, none⟩) za).trans ca0
  replace ca1 := (hb.cell (p := ⟨w.heap.size, 1, none⟩) za).trans ca1
  replace ca2 := (hb.cell (p := ⟨w.heap.size, 2, none⟩) za).trans ca2
  replace za := Nat.lt_of_lt_of_le za hb.size
  replace cp0 := (hb.cell (p := ⟨w3.heap.size, 0, none⟩) zp).trans cp0
  replace cp1 := (hb.cell (p := ⟨w3.heap.size, 1, none⟩) zp).trans cp1
  replace cp2 := (hb.cell (p := ⟨w3.heap.size, 2, none⟩) zp).trans cp2
  replace zp := Nat.lt_of_lt_of_le zp hb.size
  replace cr0 := (hb.cell (p := ⟨w6.heap.size, 0, none⟩) zr).trans cr0
  replace cr1 := (hb.cell (p := ⟨w6.heap.size, 1, none⟩) zr).trans cr1
  replace cr2 := (hb.cell (p := ⟨w6.heap.size, 2, none⟩) zr).trans cr2
  replace zr := Nat.lt_of_lt_of_le zr hb.size
  replace Og : Hid (OwnB w5.heap.size w13 sG (m * 3) U) := Og.out.below hb
  replace Bs : Below w3.heap.size w3 w13 := Bs.trans (hb.mono Bs.size)
  replace B0 : Below w.heap.size w w13 := B0.trans (hb.mono B0.size)
  clear hb hh
  go_wp2_with fail
  refine (markOutS_own w5.heap.size sG m cG 1 U _ hm (by decide) (by decide) (by omega) Og.out).mono ?_
  rintro e w14 ⟨rfl, OM, hh, hs⟩
  have lw14 : w13.heap.size ≤ w14.heap.size := hh.size
  replace ca0 := (hh.cell (p := ⟨w.heap.size, 0, none⟩) (by show w.heap.size < _; omega)).trans ca0
  replace ca1 := (hh.cell (p := ⟨w.heap.size, 1, none⟩) (by show w.heap.size < _; omega)).trans ca1
  replace ca2 := (hh.cell (p := ⟨w.heap.size, 2, none⟩) (by show w.heap.size < _; omega)).trans ca2
  replace za := Nat.lt_of_lt_of_le za hh.size
  replace cp0 := (hh.cell (p := ⟨w3.heap.size, 0, none⟩) (by show w3.heap.size < _; omega)).trans cp0
  replace cp1 := (hh.cell (p := ⟨w3.heap.size, 1, none⟩) (by show w3.heap.size < _; omega)).trans cp1
  replace cp2 := (hh.cell (p := ⟨w3.heap.size, 2, none⟩) (by show w3.heap.size < _; omega)).trans cp2
  replace zp := Nat.lt_of_lt_of_le zp hh.size
  replace cr0 := (hs.cell (p := ⟨w6.heap.size, 0, none⟩) zr (fun hp b e => by have := bG.out hp b e; show b ≠ w6.heap.size; omega)).trans cr0
  replace cr1 := (hs.cell (p := ⟨w6.heap.size, 1, none⟩) zr (fun hp b e => by have := bG.out hp b e; show b ≠ w6.heap.size; omega)).trans cr1
  replace cr2 := (hs.cell (p := ⟨w6.heap.size, 2, none⟩) zr (fun hp b e => by have := bG.out hp b e; show b ≠ w6.heap.size; omega)).trans cr2
  replace zr := Nat.lt_of_lt_of_le zr hh.size
  replace Bs : Below w3.heap.size w3 w14 := Bs.trans (hh.mono (by omega))
  replace B0 : Below w.heap.size w w14 := B0.trans (hh.mono (by omega))
  replace Og : Hid (OwnB w5.heap.size w14 sG (m * 3) (markB 1)) := OM
  clear OM hh hs
  clear cr0 cr1 cr2 zr
  go_wp2_with fail
  refine (heldOutS_any sG m cG 1 _ hm (by decide) (by decide) Og.out.row).mono ?_
  rintro e w14 ⟨rfl, rfl⟩
  go_wp2_with fail
  refine (toBurner_any s t r _).mono ?_
  rintro e w15 ⟨rfl, hh⟩
  have hb : Below w14.heap.size w14 w15 := Below.trans (by repeat (first | with_reducible exact Below.refl _ _ | with_reducible refine Below.setCell ?_ (by first | omega | (simp; done) | (simp; omega)) _ | with_reducible refine bDrewN ?_ _ | with_reducible refine Below.drew ?_ | with_reducible refine Below.alloc ?_ (by first | omega | (simp; done) | (simp; omega)) _)) (hh.mono (by first | omega | (simp; done) | (simp; omega)))
  have lw15 : w14.heap.size ≤ w15.heap.size := hb.size
  replace ca0 := (hb.cell (p := ⟨w.heap.size, 0, none⟩) za).trans ca0
  replace ca1 := (hb.cell (p := ⟨w.heap.size, 1, none⟩) za).trans ca1
  replace ca2 := (hb.cell (p := ⟨w.heap.size, 2, none⟩) za).trans ca2
  replace za := Nat.lt_of_lt_of_le za hb.size
  replace cp0 := (hb.cell (p := ⟨w3.heap.size, 0, none⟩) zp).trans cp0
  replace cp1 := (hb.cell (p := ⟨w3.heap.size, 1, none⟩) zp).trans cp1
  replace cp2 := (hb.cell (p := ⟨w3.heap.size, 2, none⟩) zp).trans cp2
  replace zp := Nat.lt_of_lt_of_le zp hb.size
  replace Og : Hid (OwnB w5.heap.size w15 sG (m * 3) (markB 1)) := Og.out.below hb
  replace Bs : Below w3.heap.size w3 w15 := Bs.trans (hb.mono Bs.size)
  replace B0 : Below w.heap.size w w15 := B0.trans (hb.mono B0.size)
  clear hb hh
  go_wp2_with fail
  refine (toInS_any sl n c V _ hn (HR.out.below B0)).mono ?_
  rintro e w16 ⟨rfl, -, OT, hh⟩
  have hb : Below w15.heap.size w15 w16 := Below.trans (by repeat (first | with_reducible exact Below.refl _ _ | with_reducible refine Below.setCell ?_ (by first | omega | (simp; done) | (simp; omega)) _ | with_reducible refine bDrewN ?_ _ | with_reducible refine Below.drew ?_ | with_reducible refine Below.alloc ?_ (by first | omega | (simp; done) | (simp; omega)) _)) (hh.mono (by first | omega | (simp; done) | (simp; omega)))
  have lw16 : w15.heap.size ≤ w16.heap.size := hb.size
  replace ca0 := (hb.cell (p := ⟨w.heap.size, 0, none⟩) za).trans ca0
  replace ca1 := (hb.cell (p := ⟨w.heap.size, 1, none⟩) za).trans ca1
  replace ca2 := (hb.cell (p := ⟨w.heap.size, 2, none⟩) za).trans ca2
  replace za := Nat.lt_of_lt_of_le za hb.size
  replace cp0 := (hb.cell (p := ⟨w3.heap.size, 0, none⟩) zp).trans cp0
  replace cp1 := (hb.cell (p := ⟨w3.heap.size, 1, none⟩) zp).trans cp1
  replace cp2 := (hb.cell (p := ⟨w3.heap.size, 2, none⟩) zp).trans cp2
  replace zp := Nat.lt_of_lt_of_le zp hb.size
  replace Og : Hid (OwnB w5.heap.size w16 sG (m * 3) (markB 1)) := Og.out.below hb
  replace Bs : Below w3.heap.size w3 w16 := Bs.trans (hb.mono Bs.size)
  replace B0 : Below w.heap.size w w16 := B0.trans (hb.mono B0.size)
  clear hb hh
  have PT : Hid (RowB w16 _ (n * 6) V) := OT.row
  clear OT
  go_wp2_with fail
  refine (H2.out _ _ PT.out).mono ?_
  rintro e w17 ⟨sH, cH, rfl, OH, hh⟩
  have hb : Below w16.heap.size w16 w17 := Below.trans (by repeat (first | with_reducible exact Below.refl _ _ | with_reducible refine Below.setCell ?_ (by first | omega | (simp; done) | (simp; omega)) _ | with_reducible refine bDrewN ?_ _ | with_reducible refine Below.drew ?_ | with_reducible refine Below.alloc ?_ (by first | omega | (simp; done) | (simp; omega)) _)) (hh.mono (by first | omega | (simp; done) | (simp; omega)))
  have lw17 : w16.heap.size ≤ w17.heap.size := hb.size
  replace ca0 := (hb.cell (p := ⟨w.heap.size, 0, none⟩) za).trans ca0
  replace ca1 := (hb.cell (p := ⟨w.heap.size, 1, none⟩) za).trans ca1
  replace ca2 := (hb.cell (p := ⟨w.heap.size, 2, none⟩) za).trans ca2
  replace za := Nat.lt_of_lt_of_le za hb.size
  replace cp0 := (hb.cell (p := ⟨w3.heap.size, 0, none⟩) zp).trans cp0
  replace cp1 := (hb.cell (p := ⟨w3.heap.size, 1, none⟩) zp).trans cp1
  replace cp2 := (hb.cell (p := ⟨w3.heap.size, 2, none⟩) zp).trans cp2
  replace zp := Nat.lt_of_lt_of_le zp hb.size
  replace Og : Hid (OwnB w5.heap.size w17 sG (m * 3) (markB 1)) := Og.out.below hb
  replace Bs : Below w3.heap.size w3 w17 := Bs.trans (hb.mono Bs.size)
  replace B0 : Below w.heap.size w w17 := B0.trans (hb.mono B0.size)
  clear hb hh
  clear PT
  have PH : Hid (RowB w17 sH (m * 3) U) := OH.row
  clear OH
  go_wp2_with fail
  refine (eqOutS_any sH sW m cH cW U _ hm (PH.out.below (by repeat (first | with_reducible exact Below.refl _ _ | with_reducible refine Below.setCell ?_ (by first | omega | (simp; done) | (simp; omega)) _ | with_reducible refine bDrewN ?_ _ | with_reducible refine Below.drew ?_ | with_reducible refine Below.alloc ?_ (by first | omega | (simp; done) | (simp; omega)) _))) (RW.out.below (Bs.trans (Below.mono (by repeat (first | with_reducible exact Below.refl _ _ | with_reducible refine Below.setCell ?_ (by first | omega | (simp; done) | (simp; omega)) _ | with_reducible refine bDrewN ?_ _ | with_reducible refine Below.drew ?_ | with_reducible refine Below.alloc ?_ (by first | omega | (simp; done) | (simp; omega)) _)) Bs.size)))).mono ?_
  rintro e w18 ⟨rfl, hh⟩
  have hb : Below w17.heap.size w17 w18 := Below.trans (by repeat (first | with_reducible exact Below.refl _ _ | with_reducible refine Below.setCell ?_ (by first | omega | (simp; done) | (simp; omega)) _ | with_reducible refine bDrewN ?_ _ | with_reducible refine Below.drew ?_ | with_reducible refine Below.alloc ?_ (by first | omega | (simp; done) | (simp; omega)) _)) (hh.mono (by first | omega | (simp; done) | (simp; omega)))
  have lw18 : w17.heap.size ≤ w18.heap.size := hb.size
  have cq0 : w18.cell? ⟨w17.heap.size, 0, none⟩ = some (.int .i64 y0) := by rw [hh.cell (by first | omega | (simp; done) | (simp; omega))]; first | (simp; done) | (simp [go_sem]; done)
  have cq1 : w18.cell? ⟨w17.heap.size, 1, none⟩ = some (.int .i64 y1) := by rw [hh.cell (by first | omega | (simp; done) | (simp; omega))]; first | (simp; done) | (simp [go_sem]; done)
  have cq2 : w18.cell? ⟨w17.heap.size, 2, none⟩ = some (.int .i64 y2) := by rw [hh.cell (by first | omega | (simp; done) | (simp; omega))]; first | (simp; done) | (simp [go_sem]; done)
  have zq : w17.heap.size < w18.heap.size := by have := hh.size; simp at this; omega
  have yq := zq
  replace ca0 := (hb.cell (p := ⟨w.heap.size, 0, none⟩) za).trans ca0
  replace ca1 := (hb.cell (p := ⟨w.heap.size, 1, none⟩) za).trans ca1
  replace ca2 := (hb.cell (p := ⟨w.heap.size, 2, none⟩) za).trans ca2
  replace za := Nat.lt_of_lt_of_le za hb.size
  replace cp0 := (hb.cell (p := ⟨w3.heap.size, 0, none⟩) zp).trans cp0
  replace cp1 := (hb.cell (p := ⟨w3.heap.size, 1, none⟩) zp).trans cp1
  replace cp2 := (hb.cell (p := ⟨w3.heap.size, 2, none⟩) zp).trans cp2
  replace zp := Nat.lt_of_lt_of_le zp hb.size
  replace Og : Hid (OwnB w5.heap.size w18 sG (m * 3) (markB 1)) := Og.out.below hb
  replace Bs : Below w3.heap.size w3 w18 := Bs.trans (hb.mono Bs.size)
  replace B0 : Below w.heap.size w w18 := B0.trans (hb.mono B0.size)
  clear hb hh
  clear PH
  go_wp2_with fail
  refine (eqBurner_any y0 y1 y2 _).mono ?_
  rintro e w19 ⟨rfl, hh⟩
  have hb : Below w18.heap.size w18 w19 := Below.trans (by repeat (first | with_reducible exact Below.refl _ _ | with_reducible refine Below.setCell ?_ (by first | omega | (simp; done) | (simp; omega)) _ | with_reducible refine bDrewN ?_ _ | with_reducible refine Below.drew ?_ | with_reducible refine Below.alloc ?_ (by first | omega | (simp; done) | (simp; omega)) _)) (hh.mono (by first | omega | (simp; done) | (simp; omega)))
  have lw19 : w18.heap.size ≤ w19.heap.size := hb.size
  replace ca0 := (hb.cell (p := ⟨w.heap.size, 0, none⟩) za).trans ca0
  replace ca1 := (hb.cell (p := ⟨w.heap.size, 1, none⟩) za).trans ca1
  replace ca2 := (hb.cell (p := ⟨w.heap.size, 2, none⟩) za).trans ca2
  replace za := Nat.lt_of_lt_of_le za hb.size
  replace cp0 := (hb.cell (p := ⟨w3.heap.size, 0, none⟩) zp).trans cp0
  replace cp1 := (hb.cell (p := ⟨w3.heap.size, 1, none⟩) zp).trans cp1
  replace cp2 := (hb.cell (p := ⟨w3.heap.size, 2, none⟩) zp).trans cp2
  replace zp := Nat.lt_of_lt_of_le zp hb.size
  replace cq0 := (hb.cell (p := ⟨w17.heap.size, 0, none⟩) zq).trans cq0
  replace cq1 := (hb.cell (p := ⟨w17.heap.size, 1, none⟩) zq).trans cq1
  replace cq2 := (hb.cell (p := ⟨w17.heap.size, 2, none⟩) zq).trans cq2
  replace zq := Nat.lt_of_lt_of_le zq hb.size
  replace Og : Hid (OwnB w5.heap.size w19 sG (m * 3) (markB 1)) := Og.out.below hb
  replace Bs : Below w3.heap.size w3 w19 := Bs.trans (hb.mono Bs.size)
  replace B0 : Below w.heap.size w w19 := B0.trans (hb.mono B0.size)
  clear hb hh
  go_wp2_with fail
  refine (heldOutS_any sG m cG 1 _ hm (by decide) (by decide) Og.out.row).mono ?_
  rintro e w19 ⟨rfl, rfl⟩
  go_wp2
  go_ret
  exact ⟨rfl, B0⟩

set_option maxHeartbeats 800000 in
theorem burnerRun_far (w : World) (s t r : Int) (sl : Option Addr) (n c : Nat) (hn : (1048576 : Int) < n) (hn' : (n : Int) ≤ 9223372036854775807) :
    Calls Try.prog 5 #[.agg #[.int .i64 s, .int .i64 t, .int .i64 r], .slice sl n c] w fun e w' => e = .returned (.bool true) ∧ Below w.heap.size w w' := by
  go_enter Try.func5, Try.ntmps5
  go_wp2_with fail
  refine (szInS_off _ n _ _ _ (by omega) (by omega) hn hn').mono ?_
  rintro e w1 ⟨rfl, rfl⟩
  go_wp2
  go_ret
  exact ⟨rfl, (by repeat (first | with_reducible exact Below.refl _ _ | with_reducible refine Below.setCell ?_ (by first | omega | (simp; done) | (simp; omega)) _ | with_reducible refine bDrewN ?_ _ | with_reducible refine Below.drew ?_ | with_reducible refine Below.alloc ?_ (by first | omega | (simp; done) | (simp; omega)) _))⟩
theorem fnExactBurnerRun_walk (w : World) (s : Int) (ws : (Lit.int .i64 s).wf = true) (t : Int) (wt : (Lit.int .i64 t).wf = true) (r : Int) (wr : (Lit.int .i64 r).wf = true) (sl : Option Addr) (n c : Nat) (V : Nat → Bool) (m0 : n ≤ 9223372036854775807) (R0 : RowB w sl (n * 6) V) :
    Calls Try.prog 5 #[.agg #[.int .i64 s, .int .i64 t, .int .i64 r], .slice sl n c] w fun e w' => e = .returned (.bool true) ∧ Below w.heap.size w w' := by
  by_cases h0 : (n : Int) ≤ 1048576
  · exact burnerRun_near w s t r sl n c V h0 R0 (rnN (s, t, r) n) (outU (s, t, r) V) (by have := rnN_le (s, t, r) n; omega) _ _ _ _ (fun sl w q => specRun_any s t r sl n n V w h0 q) (fun sl w q => implRun_any s t r sl n n V w h0 q)
  · exact burnerRun_far w s t r sl n c (by omega) (by omega)

set_option maxRecDepth 100000 in
theorem fnExactBurnerRun_lifted (os : Os) (started : os.Started) (H : Type) (enc : TypeId × Value → H) :
    ReturnsInHanded {} Try.checked os 5 .any (Rows.fnExactBurnerRunSpec.pre6 enc Try.prog Try.f5 Rows.fnExactBurnerRunRow.domain false) (Rows.fnExactBurnerRunSpec.post enc Try.prog Try.f5 false true false false) := by
  refine returnsInHanded_of_change (C := Try.checked) own started (by kernel_rfl) Try.func5
    (ChangeSpec.witness6 (enc := enc) (C := Try.checked) false ⟨#[], #[.agg #[.int .i64 0, .int .i64 0, .int .i64 0], .slice none 0 0], []⟩ 8 (by kernel_rfl) (by kernel_rfl) (by kernel_rfl) (by kernel_rfl)) ?_
  intro W base args ds gs before hval0 hW hcnd _
  have hval : ∀ (j : Nat) t v, Try.f5.params[j]? = some t → args[j]? = some v → Value.okWide Try.prog W .any base t v := hval0
  have hW' := hW
  obtain ⟨p, q, hA0, hV, rfl, hfz, hnd⟩ := hW
  have hA : DataW.TrodAll enc Try.prog W 0 (fun _ => true) true Try.f5.params.toList args.toList ds p := hA0
  rw [Try.params5] at hA hval
  obtain ⟨v0, vs0, d0, ds0, p0, q0, hargs, rfl, rfl, h0, r0⟩ := trodAll_cons hA
  obtain ⟨v1, vs1, d1, ds1, p1, q1, rfl, rfl, rfl, h1, r1⟩ := trodAll_cons r0
  obtain ⟨rfl, rfl, rfl⟩ := trodAll_nil r1
  obtain rfl : args = #[v0, v1] := by cases args; simp_all
  obtain ⟨rfl, rfl⟩ := trodVars_none hV
  have k0 := h0
  have lt0 : ∀ x ∈ p0, x.block < W.heap.size := by obtain ⟨m, hm⟩ := k0; exact DataW.trod_lt m _ _ _ hm
  have k1 := h1
  have lt1 : ∀ x ∈ p1, x.block < W.heap.size := by obtain ⟨m, hm⟩ := k1; exact DataW.trod_lt m _ _ _ hm
  obtain ⟨vs0, rfl, c0⟩ := open_cells Try.underlying23 (ts := [2, 2, 2]) (by kernel_rfl) (by kernel_rfl) (hval 0 23 v0 rfl rfl)
  obtain ⟨x0_0, r0_0, rfl, o0_0, c0_0⟩ := cellsOk_cons c0
  obtain ⟨a0_0, rfl, w0_0⟩ := cell_int Try.underlying2 o0_0
  obtain ⟨x0_1, r0_1, rfl, o0_1, c0_1⟩ := cellsOk_cons c0_0
  obtain ⟨a0_1, rfl, w0_1⟩ := cell_int Try.underlying2 o0_1
  obtain ⟨x0_2, r0_2, rfl, o0_2, c0_2⟩ := cellsOk_cons c0_1
  obtain ⟨a0_2, rfl, w0_2⟩ := cell_int Try.underlying2 o0_2
  obtain rfl := cellsOk_nil c0_2
  obtain ⟨s1, n1, c1, V1, rfl, m1, R1⟩ := open_rowsb6 Try.underlying39 Try.underlying29 (by kernel_rfl) rfl rfl rfl rfl rfl rfl (by kernel_rfl) (by kernel_rfl) (by kernel_rfl) (by kernel_rfl) (by kernel_rfl) (by kernel_rfl) (by kernel_rfl) (by kernel_rfl) (by kernel_rfl) (by kernel_rfl) (by kernel_rfl) (by kernel_rfl) (hval 1 39 v1 rfl rfl) h1
  clear hA0 hval0
  refine (fnExactBurnerRun_walk W a0_0 w0_0 a0_1 w0_1 a0_2 w0_2 s1 n1 c1 V1 m1 R1).mono fun e W' ⟨he, bel⟩ => ?_
  subst he
  exact ⟨_, rfl, _, _, _, [], _, [], hW', trodAll_mk1 (shut_bool Try.underlying4 _), (trodAll_cons_mk (Below.trod laidOut (by kernel_rfl) (of_decide_eq_true (by kernel_rfl)) k0 bel lt0) (trodAll_cons_mk (Below.trod laidOut (by kernel_rfl) (of_decide_eq_true (by kernel_rfl)) k1 bel lt1) trodAll_mk0)), rfl, bel.frame _, fun h => by cases h⟩

theorem fnExactBurnerRun_holds : Rows.FnExactBurnerRunSaid :=
  OpenClaim.holds_of_wide 5 Try.f5 rfl rfl rfl rfl rfl rfl rfl ⟨rfl, rfl, rfl, rfl, rfl⟩ rfl rfl rfl rfl rfl (by kernel_rfl) Try.func5 (by kernel_rfl)
    (of_decide_eq_true (by kernel_rfl)) (by unfold Func.isWrapper; first | (rw [if_pos (by decide +kernel)]; kernel_rfl) | (rw [if_neg (by decide +kernel)]; exact ⟨rfl, rfl⟩))
    (fun os started H enc _ => fnExactBurnerRun_lifted os started H enc)
#print axioms fnExactBurnerRun_holds
end Go.Proofs.Ytaimdbgimkgelaa
