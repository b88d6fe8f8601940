/-
What is proved: at every drive and every list of pushes impl.DriveRun answers as the specification's DriveRun, leaves the list alone, and its answer owns its memory; no condition.
-/
import Derived.Test.YtafifjodpgmiiaaDrQ
import Derived.Test.YtafifjodpgmiiaaDrS
import Derived.Test.YtafifjodpgmiiaaPsE
import Derived.Test.YtafifjodpgmiiaaPsM
import Derived.Test.YtafifjodpgmiiaaPsO
import Derived.Test.YtafifjodpgmiiaaI64R
namespace Go.Proofs.Ytafifjodpgmiiaa
set_option maxRecDepth 40000
open Go.ChangeShapes Go.WideShapes Go.ChangeAt Go.RowKit
set_option linter.unusedVariables false
set_option linter.unusedSimpArgs false

set_option maxRecDepth 20000 in
set_option maxHeartbeats 16000000 in
theorem driveRun_near (w : World) (P W T : Int) (F : Bool) (sl : Option Addr) (n c : Nat) (S : Nat → Option Addr) (K C : Nat → Nat) (V : Nat → Nat → Int) (X : Nat → Int) (J : Nat → Bool) (hn : (n : Int) ≤ 1048576) (hK9 : Hid (∀ j, j < n → (K j : Int) ≤ 9223372036854775807)) (HR : Hid (PshR w sl n S K C V X J)) (m : Nat) (U : Nat → Int) (hm : (m : Int) ≤ 1048576) (v0 v1 v2 : Int) (v3 ok : Bool) (H1 : Hid (∀ sl S C w, PshR w sl n S K C V X J → Calls Try.prog 15 #[.agg #[.int .i64 P, .int .i64 W, .int .i64 T, .bool F], .slice sl n n] w fun e w' => ∃ s' c', e = .returned (.tuple #[.slice s' m c', .agg #[.int .i64 v0, .int .i64 v1, .int .i64 v2, .bool v3], .bool ok]) ∧ OwnI w.heap.size w' s' m U ∧ Below w.heap.size w w')) (H2 : Hid (∀ sl S C w, PshR w sl n S K C V X J → Calls Try.prog 18 #[.agg #[.int .i64 P, .int .i64 W, .int .i64 T, .bool F], .slice sl n n] w fun e w' => ∃ s' c', e = .returned (.tuple #[.slice s' m c', .agg #[.int .i64 v0, .int .i64 v1, .int .i64 v2, .bool v3], .bool ok]) ∧ OwnI w.heap.size w' s' m U ∧ Below w.heap.size w w')) :
    Calls Try.prog 5 #[.agg #[.int .i64 P, .int .i64 W, .int .i64 T, .bool F], .slice sl n c] w fun e w' => e = .returned (.bool true) ∧ Below w.heap.size w w' := by
  have nok : (ok != ok) = false := bne_self_eq_false ok
  go_enter Try.func5, Try.ntmps5
  go_wp2_with fail
  refine (szPushS_near sl n c S K C V X J _ 1048576 (by omega) (by omega) hn hK9 (HR.out.below (by repeat (first | with_reducible exact Below.refl _ _ | with_reducible refine Below.setCell ?_ (by first | omega | (simp; done) | (simp; omega)) _ | with_reducible refine bDrewN ?_ _ | with_reducible refine Below.drew ?_ | with_reducible refine Below.alloc ?_ (by first | omega | (simp; done) | (simp; omega)) _)))).mono ?_
  rintro e w1 ⟨hor, hh⟩
  have B0 : Below w.heap.size w w1 := Below.trans (by repeat (first | with_reducible exact Below.refl _ _ | with_reducible refine Below.setCell ?_ (by first | omega | (simp; done) | (simp; omega)) _ | with_reducible refine bDrewN ?_ _ | with_reducible refine Below.drew ?_ | with_reducible refine Below.alloc ?_ (by first | omega | (simp; done) | (simp; omega)) _)) (hh.mono (by first | omega | (simp; done) | (simp; omega)))
  have ca0 : w1.cell? ⟨w.heap.size, 0, none⟩ = some (.int .i64 P) := by rw [hh.cell (by first | omega | (simp; done) | (simp; omega))]; first | (simp; done) | (simp [go_sem]; done)
  have ca1 : w1.cell? ⟨w.heap.size, 1, none⟩ = some (.int .i64 W) := by rw [hh.cell (by first | omega | (simp; done) | (simp; omega))]; first | (simp; done) | (simp [go_sem]; done)
  have ca2 : w1.cell? ⟨w.heap.size, 2, none⟩ = some (.int .i64 T) := by rw [hh.cell (by first | omega | (simp; done) | (simp; omega))]; first | (simp; done) | (simp [go_sem]; done)
  have ca3 : w1.cell? ⟨w.heap.size, 3, none⟩ = some (.bool F) := by rw [hh.cell (by first | omega | (simp; done) | (simp; omega))]; first | (simp; done) | (simp [go_sem]; done)
  have za : w.heap.size < w1.heap.size := by have := hh.size; simp at this; omega
  have ya := za
  clear hh
  rcases hor with rfl | ⟨r, r0, r1, rfl, hKK⟩
  · go_wp2
    go_ret
    exact ⟨rfl, B0⟩
  have hK : Hid (∀ j, j < n → (K j : Int) ≤ 1048576) := hKK
  clear hKK
  go_wp2_with fail
  refine (toDrive_below P W T F _).mono ?_
  rintro e w2 ⟨rfl, hh⟩
  have hb : Below w1.heap.size w1 w2 := Below.trans (by repeat (first | with_reducible exact Below.refl _ _ | with_reducible refine Below.setCell ?_ (by first | omega | (simp; done) | (simp; omega)) _ | with_reducible refine bDrewN ?_ _ | with_reducible refine Below.drew ?_ | with_reducible refine Below.alloc ?_ (by first | omega | (simp; done) | (simp; omega)) _)) (hh.mono (by first | omega | (simp; done) | (simp; omega)))
  have lw2 : w1.heap.size ≤ w2.heap.size := hb.size
  replace ca0 := (hb.cell (p := ⟨w.heap.size, 0, none⟩) za).trans ca0
  replace ca1 := (hb.cell (p := ⟨w.heap.size, 1, none⟩) za).trans ca1
  replace ca2 := (hb.cell (p := ⟨w.heap.size, 2, none⟩) za).trans ca2
  replace ca3 := (hb.cell (p := ⟨w.heap.size, 3, none⟩) za).trans ca3
  replace za := Nat.lt_of_lt_of_le za hb.size
  replace B0 : Below w.heap.size w w2 := B0.trans (hb.mono B0.size)
  clear hb hh
  go_wp2_with fail
  refine (toPushS_any sl n c S K C V X J _ hn hK (HR.out.below B0)).mono ?_
  rintro e w3 ⟨rfl, ⟨GT, CTT⟩, hh⟩
  have hb : Below w2.heap.size w2 w3 := Below.trans (by repeat (first | with_reducible exact Below.refl _ _ | with_reducible refine Below.setCell ?_ (by first | omega | (simp; done) | (simp; omega)) _ | with_reducible refine bDrewN ?_ _ | with_reducible refine Below.drew ?_ | with_reducible refine Below.alloc ?_ (by first | omega | (simp; done) | (simp; omega)) _)) (hh.mono (by first | omega | (simp; done) | (simp; omega)))
  have lw3 : w2.heap.size ≤ w3.heap.size := hb.size
  replace ca0 := (hb.cell (p := ⟨w.heap.size, 0, none⟩) za).trans ca0
  replace ca1 := (hb.cell (p := ⟨w.heap.size, 1, none⟩) za).trans ca1
  replace ca2 := (hb.cell (p := ⟨w.heap.size, 2, none⟩) za).trans ca2
  replace ca3 := (hb.cell (p := ⟨w.heap.size, 3, none⟩) za).trans ca3
  replace za := Nat.lt_of_lt_of_le za hb.size
  replace B0 : Below w.heap.size w w3 := B0.trans (hb.mono B0.size)
  clear hb hh
  have PT : Hid (PshR w3 _ n (fun j => some ⟨GT j, 0, none⟩) K K V X J) := CTT.row
  clear CTT
  go_wp2_with fail
  refine (H1.out _ _ _ _ PT.out).mono ?_
  rintro e w4 ⟨sW, cW, rfl, OW, hh⟩
  have hb : Below w3.heap.size w3 w4 := Below.trans (by repeat (first | with_reducible exact Below.refl _ _ | with_reducible refine Below.setCell ?_ (by first | omega | (simp; done) | (simp; omega)) _ | with_reducible refine bDrewN ?_ _ | with_reducible refine Below.drew ?_ | with_reducible refine Below.alloc ?_ (by first | omega | (simp; done) | (simp; omega)) _)) (hh.mono (by first | omega | (simp; done) | (simp; omega)))
  have lw4 : w3.heap.size ≤ w4.heap.size := hb.size
  replace ca0 := (hb.cell (p := ⟨w.heap.size, 0, none⟩) za).trans ca0
  replace ca1 := (hb.cell (p := ⟨w.heap.size, 1, none⟩) za).trans ca1
  replace ca2 := (hb.cell (p := ⟨w.heap.size, 2, none⟩) za).trans ca2
  replace ca3 := (hb.cell (p := ⟨w.heap.size, 3, none⟩) za).trans ca3
  replace za := Nat.lt_of_lt_of_le za hb.size
  replace B0 : Below w.heap.size w w4 := B0.trans (hb.mono B0.size)
  clear hb hh
  clear PT
  have Bs : Below w4.heap.size w4 w4 := Below.refl _ _
  have RW : Hid (RowI w4 sW m U) := OW.row
  clear OW
  go_wp2_with fail
  refine (toPushS_any sl n c S K C V X J _ hn hK (HR.out.below (B0.trans (Below.mono (by repeat (first | with_reducible exact Below.refl _ _ | with_reducible refine Below.setCell ?_ (by first | omega | (simp; done) | (simp; omega)) _ | with_reducible refine bDrewN ?_ _ | with_reducible refine Below.drew ?_ | with_reducible refine Below.alloc ?_ (by first | omega | (simp; done) | (simp; omega)) _)) B0.size)))).mono ?_
  rintro e w5 ⟨rfl, ⟨GT, CTT⟩, hh⟩
  have hb : Below w4.heap.size w4 w5 := Below.trans (by repeat (first | with_reducible exact Below.refl _ _ | with_reducible refine Below.setCell ?_ (by first | omega | (simp; done) | (simp; omega)) _ | with_reducible refine bDrewN ?_ _ | with_reducible refine Below.drew ?_ | with_reducible refine Below.alloc ?_ (by first | omega | (simp; done) | (simp; omega)) _)) (hh.mono (by first | omega | (simp; done) | (simp; omega)))
  have lw5 : w4.heap.size ≤ w5.heap.size := hb.size
  have cp0 : w5.cell? ⟨w4.heap.size, 0, none⟩ = some (.int .i64 v0) := by rw [hh.cell (by first | omega | (simp; done) | (simp; omega))]; first | (simp; done) | (simp [go_sem]; done)
  have cp1 : w5.cell? ⟨w4.heap.size, 1, none⟩ = some (.int .i64 v1) := by rw [hh.cell (by first | omega | (simp; done) | (simp; omega))]; first | (simp; done) | (simp [go_sem]; done)
  have cp2 : w5.cell? ⟨w4.heap.size, 2, none⟩ = some (.int .i64 v2) := by rw [hh.cell (by first | omega | (simp; done) | (simp; omega))]; first | (simp; done) | (simp [go_sem]; done)
  have cp3 : w5.cell? ⟨w4.heap.size, 3, none⟩ = some (.bool v3) := by rw [hh.cell (by first | omega | (simp; done) | (simp; omega))]; first | (simp; done) | (simp [go_sem]; done)
  have zp : w4.heap.size < w5.heap.size := by have := hh.size; simp at this; omega
  have yp := zp
  replace ca0 := (hb.cell (p := ⟨w.heap.size, 0, none⟩) za).trans ca0
  replace ca1 := (hb.cell (p := ⟨w.heap.size, 1, none⟩) za).trans ca1
  replace ca2 := (hb.cell (p := ⟨w.heap.size, 2, none⟩) za).trans ca2
  replace ca3 := (hb.cell (p := ⟨w.heap.size, 3, none⟩) za).trans ca3
  replace za := Nat.lt_of_lt_of_le za hb.size
  replace Bs : Below w4.heap.size w4 w5 := Bs.trans (hb.mono Bs.size)
  replace B0 : Below w.heap.size w w5 := B0.trans (hb.mono B0.size)
  clear hb hh
  have CX : Hid (PushC (w4.heap.size + 1) w5 n n GT K V X J) := by show PushC _ _ _ _ _ _ _ _ _; simpa using CTT
  clear CTT
  have bx : w4.heap.size + 1 < w5.heap.size := CX.out.1
  obtain ⟨KX0, DX0⟩ := Ps_kept CX.out
  obtain ⟨bB, hbB⟩ : ∃ B, B = w5.heap.size := ⟨_, rfl⟩
  have DX : Hid (∀ i j, i < j → j < n → GT i ≠ GT j) := DX0
  rw [← hbB] at KX0
  have Ok : Hid (PushK (w4.heap.size + 1) bB w5 n GT K) := KX0
  have Ox : Hid (PushC (w4.heap.size + 1) w5 n n GT K V X J) := CX.out
  have hB1 : bB = w5.heap.size := hbB
  clear KX0 DX0 CX hbB
  go_wp2_with fail
  refine (toDrive_below P W T F _).mono ?_
  rintro e w6 ⟨rfl, hh⟩
  have hb : Below w5.heap.size w5 w6 := Below.trans (by repeat (first | with_reducible exact Below.refl _ _ | with_reducible refine Below.setCell ?_ (by first | omega | (simp; done) | (simp; omega)) _ | with_reducible refine bDrewN ?_ _ | with_reducible refine Below.drew ?_ | with_reducible refine Below.alloc ?_ (by first | omega | (simp; done) | (simp; omega)) _)) (hh.mono (by first | omega | (simp; done) | (simp; omega)))
  have lw6 : w5.heap.size ≤ w6.heap.size := hb.size
  replace ca0 := (hb.cell (p := ⟨w.heap.size, 0, none⟩) za).trans ca0
  replace ca1 := (hb.cell (p := ⟨w.heap.size, 1, none⟩) za).trans ca1
  replace ca2 := (hb.cell (p := ⟨w.heap.size, 2, none⟩) za).trans ca2
  replace ca3 := (hb.cell (p := ⟨w.heap.size, 3, none⟩) za).trans ca3
  replace za := Nat.lt_of_lt_of_le za hb.size
  replace cp0 := (hb.cell (p := ⟨w4.heap.size, 0, none⟩) zp).trans cp0
  replace cp1 := (hb.cell (p := ⟨w4.heap.size, 1, none⟩) zp).trans cp1
  replace cp2 := (hb.cell (p := ⟨w4.heap.size, 2, none⟩) zp).trans cp2
  replace cp3 := (hb.cell (p := ⟨w4.heap.size, 3, none⟩) zp).trans cp3
  replace zp := Nat.lt_of_lt_of_le zp hb.size
  replace Ok : Hid (PushK (w4.heap.size + 1) bB w6 n GT K) := Ok.out.below hb
  replace Ox : Hid (PushC (w4.heap.size + 1) w6 n n GT K V X J) := Ox.out.below hb
  replace Bs : Below w4.heap.size w4 w6 := Bs.trans (hb.mono Bs.size)
  replace B0 : Below w.heap.size w w6 := B0.trans (hb.mono B0.size)
  clear hb hh
  go_wp2_with fail
  refine (H2.out _ _ _ _ Ox.out.row).mono ?_
  rintro e w7 ⟨sG, cG, rfl, OG0, hh⟩
  have hb : Below w6.heap.size w6 w7 := Below.trans (by repeat (first | with_reducible exact Below.refl _ _ | with_reducible refine Below.setCell ?_ (by first | omega | (simp; done) | (simp; omega)) _ | with_reducible refine bDrewN ?_ _ | with_reducible refine Below.drew ?_ | with_reducible refine Below.alloc ?_ (by first | omega | (simp; done) | (simp; omega)) _)) (hh.mono (by first | omega | (simp; done) | (simp; omega)))
  have lw7 : w6.heap.size ≤ w7.heap.size := hb.size
  replace ca0 := (hb.cell (p := ⟨w.heap.size, 0, none⟩) za).trans ca0
  replace ca1 := (hb.cell (p := ⟨w.heap.size, 1, none⟩) za).trans ca1
  replace ca2 := (hb.cell (p := ⟨w.heap.size, 2, none⟩) za).trans ca2
  replace ca3 := (hb.cell (p := ⟨w.heap.size, 3, none⟩) za).trans ca3
  replace za := Nat.lt_of_lt_of_le za hb.size
  replace cp0 := (hb.cell (p := ⟨w4.heap.size, 0, none⟩) zp).trans cp0
  replace cp1 := (hb.cell (p := ⟨w4.heap.size, 1, none⟩) zp).trans cp1
  replace cp2 := (hb.cell (p := ⟨w4.heap.size, 2, none⟩) zp).trans cp2
  replace cp3 := (hb.cell (p := ⟨w4.heap.size, 3, none⟩) zp).trans cp3
  replace zp := Nat.lt_of_lt_of_le zp hb.size
  replace Ok : Hid (PushK (w4.heap.size + 1) bB w7 n GT K) := Ok.out.below hb
  replace Ox : Hid (PushC (w4.heap.size + 1) w7 n n GT K V X J) := Ox.out.below hb
  replace Bs : Below w4.heap.size w4 w7 := Bs.trans (hb.mono Bs.size)
  replace B0 : Below w.heap.size w w7 := B0.trans (hb.mono B0.size)
  clear hb hh
  have Og : Hid (OwnI w6.heap.size w7 sG m U) := OG0
  clear OG0
  go_wp2_with fail
  refine (eqInt64S_any sG sW m cG cW U _ hm (Og.out.row.below (by repeat (first | with_reducible exact Below.refl _ _ | with_reducible refine Below.setCell ?_ (by first | omega | (simp; done) | (simp; omega)) _ | with_reducible refine bDrewN ?_ _ | with_reducible refine Below.drew ?_ | with_reducible refine Below.alloc ?_ (by first | omega | (simp; done) | (simp; omega)) _))) (RW.out.below (Bs.trans (Below.mono (by repeat (first | with_reducible exact Below.refl _ _ | with_reducible refine Below.setCell ?_ (by first | omega | (simp; done) | (simp; omega)) _ | with_reducible refine bDrewN ?_ _ | with_reducible refine Below.drew ?_ | with_reducible refine Below.alloc ?_ (by first | omega | (simp; done) | (simp; omega)) _)) Bs.size)))).mono ?_
  rintro e w8 ⟨rfl, hh⟩
  have hb : Below w7.heap.size w7 w8 := Below.trans (by repeat (first | with_reducible exact Below.refl _ _ | with_reducible refine Below.setCell ?_ (by first | omega | (simp; done) | (simp; omega)) _ | with_reducible refine bDrewN ?_ _ | with_reducible refine Below.drew ?_ | with_reducible refine Below.alloc ?_ (by first | omega | (simp; done) | (simp; omega)) _)) (hh.mono (by first | omega | (simp; done) | (simp; omega)))
  have lw8 : w7.heap.size ≤ w8.heap.size := hb.size
  have cr0 : w8.cell? ⟨w7.heap.size, 0, none⟩ = some (.int .i64 v0) := by rw [hh.cell (by first | omega | (simp; done) | (simp; omega))]; first | (simp; done) | (simp [go_sem]; done)
  have cr1 : w8.cell? ⟨w7.heap.size, 1, none⟩ = some (.int .i64 v1) := by rw [hh.cell (by first | omega | (simp; done) | (simp; omega))]; first | (simp; done) | (simp [go_sem]; done)
  have cr2 : w8.cell? ⟨w7.heap.size, 2, none⟩ = some (.int .i64 v2) := by rw [hh.cell (by first | omega | (simp; done) | (simp; omega))]; first | (simp; done) | (simp [go_sem]; done)
  have cr3 : w8.cell? ⟨w7.heap.size, 3, none⟩ = some (.bool v3) := by rw [hh.cell (by first | omega | (simp; done) | (simp; omega))]; first | (simp; done) | (simp [go_sem]; done)
  have zr : w7.heap.size < w8.heap.size := by have := hh.size; simp at this; omega
  have yr := zr
  replace ca0 := (hb.cell (p := ⟨w.heap.size, 0, none⟩) za).trans ca0
  replace ca1 := (hb.cell (p := ⟨w.heap.size, 1, none⟩) za).trans ca1
  replace ca2 := (hb.cell (p := ⟨w.heap.size, 2, none⟩) za).trans ca2
  replace ca3 := (hb.cell (p := ⟨w.heap.size, 3, none⟩) za).trans ca3
  replace za := Nat.lt_of_lt_of_le za hb.size
  replace cp0 := (hb.cell (p := ⟨w4.heap.size, 0, none⟩) zp).trans cp0
  replace cp1 := (hb.cell (p := ⟨w4.heap.size, 1, none⟩) zp).trans cp1
  replace cp2 := (hb.cell (p := ⟨w4.heap.size, 2, none⟩) zp).trans cp2
  replace cp3 := (hb.cell (p := ⟨w4.heap.size, 3, none⟩) zp).trans cp3
  replace zp := Nat.lt_of_lt_of_le zp hb.size
  replace Ok : Hid (PushK (w4.heap.size + 1) bB w8 n GT K) := Ok.out.below hb
  replace Ox : Hid (PushC (w4.heap.size + 1) w8 n n GT K V X J) := Ox.out.below hb
  replace Og : Hid (OwnI w6.heap.size w8 sG m U) := Og.out.below hb
  replace Bs : Below w4.heap.size w4 w8 := Bs.trans (hb.mono Bs.size)
  replace B0 : Below w.heap.size w w8 := B0.trans (hb.mono B0.size)
  clear hb hh
  go_wp2_with fail
  refine (eqDrive_any v0 v1 v2 v3 _).mono ?_
  rintro e w9 ⟨rfl, hh⟩
  have hb : Below w8.heap.size w8 w9 := Below.trans (by repeat (first | with_reducible exact Below.refl _ _ | with_reducible refine Below.setCell ?_ (by first | omega | (simp; done) | (simp; omega)) _ | with_reducible refine bDrewN ?_ _ | with_reducible refine Below.drew ?_ | with_reducible refine Below.alloc ?_ (by first | omega | (simp; done) | (simp; omega)) _)) (hh.mono (by first | omega | (simp; done) | (simp; omega)))
  have lw9 : w8.heap.size ≤ w9.heap.size := hb.size
  replace ca0 := (hb.cell (p := ⟨w.heap.size, 0, none⟩) za).trans ca0
  replace ca1 := (hb.cell (p := ⟨w.heap.size, 1, none⟩) za).trans ca1
  replace ca2 := (hb.cell (p := ⟨w.heap.size, 2, none⟩) za).trans ca2
  replace ca3 := (hb.cell (p := ⟨w.heap.size, 3, none⟩) za).trans ca3
  replace za := Nat.lt_of_lt_of_le za hb.size
  replace cp0 := (hb.cell (p := ⟨w4.heap.size, 0, none⟩) zp).trans cp0
  replace cp1 := (hb.cell (p := ⟨w4.heap.size, 1, none⟩) zp).trans cp1
  replace cp2 := (hb.cell (p := ⟨w4.heap.size, 2, none⟩) zp).trans cp2
  replace cp3 := (hb.cell (p := ⟨w4.heap.size, 3, none⟩) zp).trans cp3
  replace zp := Nat.lt_of_lt_of_le zp hb.size
  replace cr0 := (hb.cell (p := ⟨w7.heap.size, 0, none⟩) zr).trans cr0
  replace cr1 := (hb.cell (p := ⟨w7.heap.size, 1, none⟩) zr).trans cr1
  replace cr2 := (hb.cell (p := ⟨w7.heap.size, 2, none⟩) zr).trans cr2
  replace cr3 := (hb.cell (p := ⟨w7.heap.size, 3, none⟩) zr).trans cr3
  replace zr := Nat.lt_of_lt_of_le zr hb.size
  replace Ok : Hid (PushK (w4.heap.size + 1) bB w9 n GT K) := Ok.out.below hb
  replace Ox : Hid (PushC (w4.heap.size + 1) w9 n n GT K V X J) := Ox.out.below hb
  replace Og : Hid (OwnI w6.heap.size w9 sG m U) := Og.out.below hb
  replace Bs : Below w4.heap.size w4 w9 := Bs.trans (hb.mono Bs.size)
  replace B0 : Below w.heap.size w w9 := B0.trans (hb.mono B0.size)
  clear hb hh
  go_wp2_with fail
  refine (toPushS_any sl n c S K C V X J _ hn hK (HR.out.below B0)).mono ?_
  rintro e w10 ⟨rfl, ⟨GT2, CTT⟩, hh⟩
  have hb : Below w9.heap.size w9 w10 := Below.trans (by repeat (first | with_reducible exact Below.refl _ _ | with_reducible refine Below.setCell ?_ (by first | omega | (simp; done) | (simp; omega)) _ | with_reducible refine bDrewN ?_ _ | with_reducible refine Below.drew ?_ | with_reducible refine Below.alloc ?_ (by first | omega | (simp; done) | (simp; omega)) _)) (hh.mono (by first | omega | (simp; done) | (simp; omega)))
  have lw10 : w9.heap.size ≤ w10.heap.size := hb.size
  replace ca0 := (hb.cell (p := ⟨w.heap.size, 0, none⟩) za).trans ca0
  replace ca1 := (hb.cell (p := ⟨w.heap.size, 1, none⟩) za).trans ca1
  replace ca2 := (hb.cell (p := ⟨w.heap.size, 2, none⟩) za).trans ca2
  replace ca3 := (hb.cell (p := ⟨w.heap.size, 3, none⟩) za).trans ca3
  replace za := Nat.lt_of_lt_of_le za hb.size
  replace cp0 := (hb.cell (p := ⟨w4.heap.size, 0, none⟩) zp).trans cp0
  replace cp1 := (hb.cell (p := ⟨w4.heap.size, 1, none⟩) zp).trans cp1
  replace cp2 := (hb.cell (p := ⟨w4.heap.size, 2, none⟩) zp).trans cp2
  replace cp3 := (hb.cell (p := ⟨w4.heap.size, 3, none⟩) zp).trans cp3
  replace zp := Nat.lt_of_lt_of_le zp hb.size
  replace cr0 := (hb.cell (p := ⟨w7.heap.size, 0, none⟩) zr).trans cr0
  replace cr1 := (hb.cell (p := ⟨w7.heap.size, 1, none⟩) zr).trans cr1
  replace cr2 := (hb.cell (p := ⟨w7.heap.size, 2, none⟩) zr).trans cr2
  replace cr3 := (hb.cell (p := ⟨w7.heap.size, 3, none⟩) zr).trans cr3
  replace zr := Nat.lt_of_lt_of_le zr hb.size
  replace Ok : Hid (PushK (w4.heap.size + 1) bB w10 n GT K) := Ok.out.below hb
  replace Ox : Hid (PushC (w4.heap.size + 1) w10 n n GT K V X J) := Ox.out.below hb
  replace Og : Hid (OwnI w6.heap.size w10 sG m U) := Og.out.below hb
  replace Bs : Below w4.heap.size w4 w10 := Bs.trans (hb.mono Bs.size)
  replace B0 : Below w.heap.size w w10 := B0.trans (hb.mono B0.size)
  clear hb hh
  have PT : Hid (PshR w10 _ n (fun j => some ⟨GT2 j, 0, none⟩) K K V X J) := CTT.row
  clear CTT
  go_wp2_with fail
  refine (eqPushS_any _ _ n _ _ _ K _ V X J _ _ _ hn hK Ox.out.row PT.out).mono ?_
  rintro e w11 ⟨rfl, hh⟩
  have hb : Below w10.heap.size w10 w11 := Below.trans (by repeat (first | with_reducible exact Below.refl _ _ | with_reducible refine Below.setCell ?_ (by first | omega | (simp; done) | (simp; omega)) _ | with_reducible refine bDrewN ?_ _ | with_reducible refine Below.drew ?_ | with_reducible refine Below.alloc ?_ (by first | omega | (simp; done) | (simp; omega)) _)) (hh.mono (by first | omega | (simp; done) | (simp; omega)))
  have lw11 : w10.heap.size ≤ w11.heap.size := hb.size
  replace ca0 := (hb.cell (p := ⟨w.heap.size, 0, none⟩) za).trans ca0
  replace ca1 := (hb.cell (p := ⟨w.heap.size, 1, none⟩) za).trans ca1
  replace ca2 := (hb.cell (p := ⟨w.heap.size, 2, none⟩) za).trans ca2
  replace ca3 := (hb.cell (p := ⟨w.heap.size, 3, none⟩) za).trans ca3
  replace za := Nat.lt_of_lt_of_le za hb.size
  replace cp0 := (hb.cell (p := ⟨w4.heap.size, 0, none⟩) zp).trans cp0
  replace cp1 := (hb.cell (p := ⟨w4.heap.size, 1, none⟩) zp).trans cp1
  replace cp2 := (hb.cell (p := ⟨w4.heap.size, 2, none⟩) zp).trans cp2
  replace cp3 := (hb.cell (p := ⟨w4.heap.size, 3, none⟩) zp).trans cp3
  replace zp := Nat.lt_of_lt_of_le zp hb.size
  replace cr0 := (hb.cell (p := ⟨w7.heap.size, 0, none⟩) zr).trans cr0
  replace cr1 := (hb.cell (p := ⟨w7.heap.size, 1, none⟩) zr).trans cr1
  replace cr2 := (hb.cell (p := ⟨w7.heap.size, 2, none⟩) zr).trans cr2
  replace cr3 := (hb.cell (p := ⟨w7.heap.size, 3, none⟩) zr).trans cr3
  replace zr := Nat.lt_of_lt_of_le zr hb.size
  replace Ok : Hid (PushK (w4.heap.size + 1) bB w11 n GT K) := Ok.out.below hb
  replace Ox : Hid (PushC (w4.heap.size + 1) w11 n n GT K V X J) := Ox.out.below hb
  replace Og : Hid (OwnI w6.heap.size w11 sG m U) := Og.out.below hb
  replace Bs : Below w4.heap.size w4 w11 := Bs.trans (hb.mono Bs.size)
  replace B0 : Below w.heap.size w w11 := B0.trans (hb.mono B0.size)
  clear hb hh
  clear PT
  clear Ox
  go_wp2_with fail
  refine (markPushS_any (w4.heap.size + 1) bB n _ GT K _ hn hK DX Ok).mono ?_
  rintro e w12 ⟨rk, rk0, rfl, hr⟩
  have hh : Below (w4.heap.size + 1) w11 w12 := hr.below (by omega)
  have lw12 : w11.heap.size ≤ w12.heap.size := hh.size
  replace ca0 := (hh.cell (p := ⟨w.heap.size, 0, none⟩) (by show w.heap.size < _; omega)).trans ca0
  replace ca1 := (hh.cell (p := ⟨w.heap.size, 1, none⟩) (by show w.heap.size < _; omega)).trans ca1
  replace ca2 := (hh.cell (p := ⟨w.heap.size, 2, none⟩) (by show w.heap.size < _; omega)).trans ca2
  replace ca3 := (hh.cell (p := ⟨w.heap.size, 3, none⟩) (by show w.heap.size < _; omega)).trans ca3
  replace za := Nat.lt_of_lt_of_le za hh.size
  replace cp0 := (hh.cell (p := ⟨w4.heap.size, 0, none⟩) (by show w4.heap.size < _; omega)).trans cp0
  replace cp1 := (hh.cell (p := ⟨w4.heap.size, 1, none⟩) (by show w4.heap.size < _; omega)).trans cp1
  replace cp2 := (hh.cell (p := ⟨w4.heap.size, 2, none⟩) (by show w4.heap.size < _; omega)).trans cp2
  replace cp3 := (hh.cell (p := ⟨w4.heap.size, 3, none⟩) (by show w4.heap.size < _; omega)).trans cp3
  replace zp := Nat.lt_of_lt_of_le zp hh.size
  replace cr0 := (hr.cell (p := ⟨w7.heap.size, 0, none⟩) zr (Or.inr (by show bB ≤ w7.heap.size; omega))).trans cr0
  replace cr1 := (hr.cell (p := ⟨w7.heap.size, 1, none⟩) zr (Or.inr (by show bB ≤ w7.heap.size; omega))).trans cr1
  replace cr2 := (hr.cell (p := ⟨w7.heap.size, 2, none⟩) zr (Or.inr (by show bB ≤ w7.heap.size; omega))).trans cr2
  replace cr3 := (hr.cell (p := ⟨w7.heap.size, 3, none⟩) zr (Or.inr (by show bB ≤ w7.heap.size; omega))).trans cr3
  replace zr := Nat.lt_of_lt_of_le zr hh.size
  replace Og : Hid (OwnI w6.heap.size w12 sG m U) := Og.out.ranged hr (by omega)
  replace Bs : Below w4.heap.size w4 w12 := Bs.trans (hh.mono (by omega))
  replace B0 : Below w.heap.size w w12 := B0.trans (hh.mono (by omega))
  clear Ok hr hh
  go_wp2_with fail
  refine (eqInt64S_any sG sW m cG cW U _ hm Og.out.row (RW.out.below Bs)).mono ?_
  rintro e w13 ⟨rfl, hh⟩
  have hb : Below w12.heap.size w12 w13 := Below.trans (by repeat (first | with_reducible exact Below.refl _ _ | with_reducible refine Below.setCell ?_ (by first | omega | (simp; done) | (simp; omega)) _ | with_reducible refine bDrewN ?_ _ | with_reducible refine Below.drew ?_ | with_reducible refine Below.alloc ?_ (by first | omega | (simp; done) | (simp; omega)) _)) (hh.mono (by first | omega | (simp; done) | (simp; omega)))
  have lw13 : w12.heap.size ≤ w13.heap.size := hb.size
  replace ca0 := (hb.cell (p := ⟨w.heap.size, 0, none⟩) za).trans ca0
  replace ca1 := (hb.cell (p := ⟨w.heap.size, 1, none⟩) za).trans ca1
  replace ca2 := (hb.cell (p := ⟨w.heap.size, 2, none⟩) za).trans ca2
  replace ca3 := (hb.cell (p := ⟨w.heap.size, 3, none⟩) za).trans ca3
  replace za := Nat.lt_of_lt_of_le za hb.size
  replace cp0 := (hb.cell (p := ⟨w4.heap.size, 0, none⟩) zp).trans cp0
  replace cp1 := (hb.cell (p := ⟨w4.heap.size, 1, none⟩) zp).trans cp1
  replace cp2 := (hb.cell (p := ⟨w4.heap.size, 2, none⟩) zp).trans cp2
  replace cp3 := (hb.cell (p := ⟨w4.heap.size, 3, none⟩) zp).trans cp3
  replace zp := Nat.lt_of_lt_of_le zp hb.size
  replace cr0 := (hb.cell (p := ⟨w7.heap.size, 0, none⟩) zr).trans cr0
  replace cr1 := (hb.cell (p := ⟨w7.heap.size, 1, none⟩) zr).trans cr1
  replace cr2 := (hb.cell (p := ⟨w7.heap.size, 2, none⟩) zr).trans cr2
  replace cr3 := (hb.cell (p := ⟨w7.heap.size, 3, none⟩) zr).trans cr3
  replace zr := Nat.lt_of_lt_of_le zr hb.size
  replace Og : Hid (OwnI w6.heap.size w13 sG m U) := Og.out.below hb
  replace Bs : Below w4.heap.size w4 w13 := Bs.trans (hb.mono Bs.size)
  replace B0 : Below w.heap.size w w13 := B0.trans (hb.mono B0.size)
  clear hb hh
  go_wp2_with fail
  refine (eqDrive_any v0 v1 v2 v3 _).mono ?_
  rintro e w14 ⟨rfl, hh⟩
  have hb : Below w13.heap.size w13 w14 := Below.trans (by repeat (first | with_reducible exact Below.refl _ _ | with_reducible refine Below.setCell ?_ (by first | omega | (simp; done) | (simp; omega)) _ | with_reducible refine bDrewN ?_ _ | with_reducible refine Below.drew ?_ | with_reducible refine Below.alloc ?_ (by first | omega | (simp; done) | (simp; omega)) _)) (hh.mono (by first | omega | (simp; done) | (simp; omega)))
  have lw14 : w13.heap.size ≤ w14.heap.size := hb.size
  replace ca0 := (hb.cell (p := ⟨w.heap.size, 0, none⟩) za).trans ca0
  replace ca1 := (hb.cell (p := ⟨w.heap.size, 1, none⟩) za).trans ca1
  replace ca2 := (hb.cell (p := ⟨w.heap.size, 2, none⟩) za).trans ca2
  replace ca3 := (hb.cell (p := ⟨w.heap.size, 3, none⟩) za).trans ca3
  replace za := Nat.lt_of_lt_of_le za hb.size
  replace cp0 := (hb.cell (p := ⟨w4.heap.size, 0, none⟩) zp).trans cp0
  replace cp1 := (hb.cell (p := ⟨w4.heap.size, 1, none⟩) zp).trans cp1
  replace cp2 := (hb.cell (p := ⟨w4.heap.size, 2, none⟩) zp).trans cp2
  replace cp3 := (hb.cell (p := ⟨w4.heap.size, 3, none⟩) zp).trans cp3
  replace zp := Nat.lt_of_lt_of_le zp hb.size
  replace cr0 := (hb.cell (p := ⟨w7.heap.size, 0, none⟩) zr).trans cr0
  replace cr1 := (hb.cell (p := ⟨w7.heap.size, 1, none⟩) zr).trans cr1
  replace cr2 := (hb.cell (p := ⟨w7.heap.size, 2, none⟩) zr).trans cr2
  replace cr3 := (hb.cell (p := ⟨w7.heap.size, 3, none⟩) zr).trans cr3
  replace zr := Nat.lt_of_lt_of_le zr hb.size
  replace Og : Hid (OwnI w6.heap.size w14 sG m U) := Og.out.below hb
  replace Bs : Below w4.heap.size w4 w14 := Bs.trans (hb.mono Bs.size)
  replace B0 : Below w.heap.size w w14 := B0.trans (hb.mono B0.size)
  clear hb hh
  clear cr0 cr1 cr2 cr3 zr
  go_wp2_with fail
  refine (markInt64S_own w6.heap.size sG m cG 1 U _ hm (by omega) (by omega) (by omega) Og.out).mono ?_
  rintro e w15 ⟨rfl, OM, hh, -⟩
  have lw15 : w14.heap.size ≤ w15.heap.size := hh.size
  replace ca0 := (hh.cell (p := ⟨w.heap.size, 0, none⟩) (by show w.heap.size < _; omega)).trans ca0
  replace ca1 := (hh.cell (p := ⟨w.heap.size, 1, none⟩) (by show w.heap.size < _; omega)).trans ca1
  replace ca2 := (hh.cell (p := ⟨w.heap.size, 2, none⟩) (by show w.heap.size < _; omega)).trans ca2
  replace ca3 := (hh.cell (p := ⟨w.heap.size, 3, none⟩) (by show w.heap.size < _; omega)).trans ca3
  replace za := Nat.lt_of_lt_of_le za hh.size
  replace cp0 := (hh.cell (p := ⟨w4.heap.size, 0, none⟩) (by show w4.heap.size < _; omega)).trans cp0
  replace cp1 := (hh.cell (p := ⟨w4.heap.size, 1, none⟩) (by show w4.heap.size < _; omega)).trans cp1
  replace cp2 := (hh.cell (p := ⟨w4.heap.size, 2, none⟩) (by show w4.heap.size < _; omega)).trans cp2
  replace cp3 := (hh.cell (p := ⟨w4.heap.size, 3, none⟩) (by show w4.heap.size < _; omega)).trans cp3
  replace zp := Nat.lt_of_lt_of_le zp hh.size
  replace Bs : Below w4.heap.size w4 w15 := Bs.trans (hh.mono (by omega))
  replace B0 : Below w.heap.size w w15 := B0.trans (hh.mono (by omega))
  clear Og hh
  have Og : Hid (OwnI w6.heap.size w15 sG m (fun j => 1 + (j : Int))) := OM
  clear OM
  go_wp2_with fail
  refine (heldInt64S_any sG m cG 1 _ hm (by omega) (by omega) Og.out.row).mono ?_
  rintro e w15 ⟨rfl, rfl⟩
  go_wp2_with fail
  refine (toDrive_below P W T F _).mono ?_
  rintro e w16 ⟨rfl, hh⟩
  have hb : Below w15.heap.size w15 w16 := Below.trans (by repeat (first | with_reducible exact Below.refl _ _ | with_reducible refine Below.setCell ?_ (by first | omega | (simp; done) | (simp; omega)) _ | with_reducible refine bDrewN ?_ _ | with_reducible refine Below.drew ?_ | with_reducible refine Below.alloc ?_ (by first | omega | (simp; done) | (simp; omega)) _)) (hh.mono (by first | omega | (simp; done) | (simp; omega)))
  have lw16 : w15.heap.size ≤ w16.heap.size := hb.size
  replace ca0 := (hb.cell (p := ⟨w.heap.size, 0, none⟩) za).trans ca0
  replace ca1 := (hb.cell (p := ⟨w.heap.size, 1, none⟩) za).trans ca1
  replace ca2 := (hb.cell (p := ⟨w.heap.size, 2, none⟩) za).trans ca2
  replace ca3 := (hb.cell (p := ⟨w.heap.size, 3, none⟩) za).trans ca3
  replace za := Nat.lt_of_lt_of_le za hb.size
  replace cp0 := (hb.cell (p := ⟨w4.heap.size, 0, none⟩) zp).trans cp0
  replace cp1 := (hb.cell (p := ⟨w4.heap.size, 1, none⟩) zp).trans cp1
  replace cp2 := (hb.cell (p := ⟨w4.heap.size, 2, none⟩) zp).trans cp2
  replace cp3 := (hb.cell (p := ⟨w4.heap.size, 3, none⟩) zp).trans cp3
  replace zp := Nat.lt_of_lt_of_le zp hb.size
  replace Og : Hid (OwnI w6.heap.size w16 sG m (fun j => 1 + (j : Int))) := Og.out.below hb
  replace Bs : Below w4.heap.size w4 w16 := Bs.trans (hb.mono Bs.size)
  replace B0 : Below w.heap.size w w16 := B0.trans (hb.mono B0.size)
  clear hb hh
  go_wp2_with fail
  refine (toPushS_any sl n c S K C V X J _ hn hK (HR.out.below B0)).mono ?_
  rintro e w17 ⟨rfl, ⟨GT3, CTT⟩, hh⟩
  have hb : Below w16.heap.size w16 w17 := Below.trans (by repeat (first | with_reducible exact Below.refl _ _ | with_reducible refine Below.setCell ?_ (by first | omega | (simp; done) | (simp; omega)) _ | with_reducible refine bDrewN ?_ _ | with_reducible refine Below.drew ?_ | with_reducible refine Below.alloc ?_ (by first | omega | (simp; done) | (simp; omega)) _)) (hh.mono (by first | omega | (simp; done) | (simp; omega)))
  have lw17 : w16.heap.size ≤ w17.heap.size := hb.size
  replace ca0 := (hb.cell (p := ⟨w.heap.size, 0, none⟩) za).trans ca0
  replace ca1 := (hb.cell (p := ⟨w.heap.size, 1, none⟩) za).trans ca1
  replace ca2 := (hb.cell (p := ⟨w.heap.size, 2, none⟩) za).trans ca2
  replace ca3 := (hb.cell (p := ⟨w.heap.size, 3, none⟩) za).trans ca3
  replace za := Nat.lt_of_lt_of_le za hb.size
  replace cp0 := (hb.cell (p := ⟨w4.heap.size, 0, none⟩) zp).trans cp0
  replace cp1 := (hb.cell (p := ⟨w4.heap.size, 1, none⟩) zp).trans cp1
  replace cp2 := (hb.cell (p := ⟨w4.heap.size, 2, none⟩) zp).trans cp2
  replace cp3 := (hb.cell (p := ⟨w4.heap.size, 3, none⟩) zp).trans cp3
  replace zp := Nat.lt_of_lt_of_le zp hb.size
  replace Og : Hid (OwnI w6.heap.size w17 sG m (fun j => 1 + (j : Int))) := Og.out.below hb
  replace Bs : Below w4.heap.size w4 w17 := Bs.trans (hb.mono Bs.size)
  replace B0 : Below w.heap.size w w17 := B0.trans (hb.mono B0.size)
  clear hb hh
  have PT : Hid (PshR w17 _ n (fun j => some ⟨GT3 j, 0, none⟩) K K V X J) := CTT.row
  clear CTT
  go_wp2_with fail
  refine (H2.out _ _ _ _ PT.out).mono ?_
  rintro e w18 ⟨sH, cH, rfl, OH, hh⟩
  have hb : Below w17.heap.size w17 w18 := Below.trans (by repeat (first | with_reducible exact Below.refl _ _ | with_reducible refine Below.setCell ?_ (by first | omega | (simp; done) | (simp; omega)) _ | with_reducible refine bDrewN ?_ _ | with_reducible refine Below.drew ?_ | with_reducible refine Below.alloc ?_ (by first | omega | (simp; done) | (simp; omega)) _)) (hh.mono (by first | omega | (simp; done) | (simp; omega)))
  have lw18 : w17.heap.size ≤ w18.heap.size := hb.size
  replace ca0 := (hb.cell (p := ⟨w.heap.size, 0, none⟩) za).trans ca0
  replace ca1 := (hb.cell (p := ⟨w.heap.size, 1, none⟩) za).trans ca1
  replace ca2 := (hb.cell (p := ⟨w.heap.size, 2, none⟩) za).trans ca2
  replace ca3 := (hb.cell (p := ⟨w.heap.size, 3, none⟩) za).trans ca3
  replace za := Nat.lt_of_lt_of_le za hb.size
  replace cp0 := (hb.cell (p := ⟨w4.heap.size, 0, none⟩) zp).trans cp0
  replace cp1 := (hb.cell (p := ⟨w4.heap.size, 1, none⟩) zp).trans cp1
  replace cp2 := (hb.cell (p := ⟨w4.heap.size, 2, none⟩) zp).trans cp2
  replace cp3 := (hb.cell (p := ⟨w4.heap.size, 3, none⟩) zp).trans cp3
  replace zp := Nat.lt_of_lt_of_le zp hb.size
  replace Og : Hid (OwnI w6.heap.size w18 sG m (fun j => 1 + (j : Int))) := Og.out.below hb
  replace Bs : Below w4.heap.size w4 w18 := Bs.trans (hb.mono Bs.size)
  replace B0 : Below w.heap.size w w18 := B0.trans (hb.mono B0.size)
  clear hb hh
  clear PT
  have PH : Hid (RowI w18 sH m U) := OH.row
  clear OH
  go_wp2_with fail
  refine (eqInt64S_any sH sW m cH cW U _ hm (PH.out.below (by repeat (first | with_reducible exact Below.refl _ _ | with_reducible refine Below.setCell ?_ (by first | omega | (simp; done) | (simp; omega)) _ | with_reducible refine bDrewN ?_ _ | with_reducible refine Below.drew ?_ | with_reducible refine Below.alloc ?_ (by first | omega | (simp; done) | (simp; omega)) _))) (RW.out.below (Bs.trans (Below.mono (by repeat (first | with_reducible exact Below.refl _ _ | with_reducible refine Below.setCell ?_ (by first | omega | (simp; done) | (simp; omega)) _ | with_reducible refine bDrewN ?_ _ | with_reducible refine Below.drew ?_ | with_reducible refine Below.alloc ?_ (by first | omega | (simp; done) | (simp; omega)) _)) Bs.size)))).mono ?_
  rintro e w19 ⟨rfl, hh⟩
  have hb : Below w18.heap.size w18 w19 := Below.trans (by repeat (first | with_reducible exact Below.refl _ _ | with_reducible refine Below.setCell ?_ (by first | omega | (simp; done) | (simp; omega)) _ | with_reducible refine bDrewN ?_ _ | with_reducible refine Below.drew ?_ | with_reducible refine Below.alloc ?_ (by first | omega | (simp; done) | (simp; omega)) _)) (hh.mono (by first | omega | (simp; done) | (simp; omega)))
  have lw19 : w18.heap.size ≤ w19.heap.size := hb.size
  have cq0 : w19.cell? ⟨w18.heap.size, 0, none⟩ = some (.int .i64 v0) := by rw [hh.cell (by first | omega | (simp; done) | (simp; omega))]; first | (simp; done) | (simp [go_sem]; done)
  have cq1 : w19.cell? ⟨w18.heap.size, 1, none⟩ = some (.int .i64 v1) := by rw [hh.cell (by first | omega | (simp; done) | (simp; omega))]; first | (simp; done) | (simp [go_sem]; done)
  have cq2 : w19.cell? ⟨w18.heap.size, 2, none⟩ = some (.int .i64 v2) := by rw [hh.cell (by first | omega | (simp; done) | (simp; omega))]; first | (simp; done) | (simp [go_sem]; done)
  have cq3 : w19.cell? ⟨w18.heap.size, 3, none⟩ = some (.bool v3) := by rw [hh.cell (by first | omega | (simp; done) | (simp; omega))]; first | (simp; done) | (simp [go_sem]; done)
  have zq : w18.heap.size < w19.heap.size := by have := hh.size; simp at this; omega
  have yq := zq
  replace ca0 := (hb.cell (p := ⟨w.heap.size, 0, none⟩) za).trans ca0
  replace ca1 := (hb.cell (p := ⟨w.heap.size, 1, none⟩) za).trans ca1
  replace ca2 := (hb.cell (p := ⟨w.heap.size, 2, none⟩) za).trans ca2
  replace ca3 := (hb.cell (p := ⟨w.heap.size, 3, none⟩) za).trans ca3
  replace za := Nat.lt_of_lt_of_le za hb.size
  replace cp0 := (hb.cell (p := ⟨w4.heap.size, 0, none⟩) zp).trans cp0
  replace cp1 := (hb.cell (p := ⟨w4.heap.size, 1, none⟩) zp).trans cp1
  replace cp2 := (hb.cell (p := ⟨w4.heap.size, 2, none⟩) zp).trans cp2
  replace cp3 := (hb.cell (p := ⟨w4.heap.size, 3, none⟩) zp).trans cp3
  replace zp := Nat.lt_of_lt_of_le zp hb.size
  replace Og : Hid (OwnI w6.heap.size w19 sG m (fun j => 1 + (j : Int))) := Og.out.below hb
  replace Bs : Below w4.heap.size w4 w19 := Bs.trans (hb.mono Bs.size)
  replace B0 : Below w.heap.size w w19 := B0.trans (hb.mono B0.size)
  clear hb hh
  clear PH
  go_wp2_with fail
  refine (eqDrive_any v0 v1 v2 v3 _).mono ?_
  rintro e w20 ⟨rfl, hh⟩
  have hb : Below w19.heap.size w19 w20 := Below.trans (by repeat (first | with_reducible exact Below.refl _ _ | with_reducible refine Below.setCell ?_ (by first | omega | (simp; done) | (simp; omega)) _ | with_reducible refine bDrewN ?_ _ | with_reducible refine Below.drew ?_ | with_reducible refine Below.alloc ?_ (by first | omega | (simp; done) | (simp; omega)) _)) (hh.mono (by first | omega | (simp; done) | (simp; omega)))
  have lw20 : w19.heap.size ≤ w20.heap.size := hb.size
  replace ca0 := (hb.cell (p := ⟨w.heap.size, 0, none⟩) za).trans ca0
  replace ca1 := (hb.cell (p := ⟨w.heap.size, 1, none⟩) za).trans ca1
  replace ca2 := (hb.cell (p := ⟨w.heap.size, 2, none⟩) za).trans ca2
  replace ca3 := (hb.cell (p := ⟨w.heap.size, 3, none⟩) za).trans ca3
  replace za := Nat.lt_of_lt_of_le za hb.size
  replace cp0 := (hb.cell (p := ⟨w4.heap.size, 0, none⟩) zp).trans cp0
  replace cp1 := (hb.cell (p := ⟨w4.heap.size, 1, none⟩) zp).trans cp1
  replace cp2 := (hb.cell (p := ⟨w4.heap.size, 2, none⟩) zp).trans cp2
  replace cp3 := (hb.cell (p := ⟨w4.heap.size, 3, none⟩) zp).trans cp3
  replace zp := Nat.lt_of_lt_of_le zp hb.size
  replace cq0 := (hb.cell (p := ⟨w18.heap.size, 0, none⟩) zq).trans cq0
  replace cq1 := (hb.cell (p := ⟨w18.heap.size, 1, none⟩) zq).trans cq1
  replace cq2 := (hb.cell (p := ⟨w18.heap.size, 2, none⟩) zq).trans cq2
  replace cq3 := (hb.cell (p := ⟨w18.heap.size, 3, none⟩) zq).trans cq3
  replace zq := Nat.lt_of_lt_of_le zq hb.size
  replace Og : Hid (OwnI w6.heap.size w20 sG m (fun j => 1 + (j : Int))) := Og.out.below hb
  replace Bs : Below w4.heap.size w4 w20 := Bs.trans (hb.mono Bs.size)
  replace B0 : Below w.heap.size w w20 := B0.trans (hb.mono B0.size)
  clear hb hh
  go_wp2_with fail
  refine (heldInt64S_any sG m cG 1 _ hm (by omega) (by omega) Og.out.row).mono ?_
  rintro e w20 ⟨rfl, rfl⟩
  go_wp2
  go_ret
  exact ⟨rfl, B0⟩

set_option maxHeartbeats 800000 in
theorem driveRun_far (w : World) (P W T : Int) (F : Bool) (sl : Option Addr) (n c : Nat) (hn : (1048576 : Int) < n) (hn' : (n : Int) ≤ 9223372036854775807) :
    Calls Try.prog 5 #[.agg #[.int .i64 P, .int .i64 W, .int .i64 T, .bool F], .slice sl n c] w fun e w' => e = .returned (.bool true) ∧ Below w.heap.size w w' := by
  go_enter Try.func5, Try.ntmps5
  go_wp2_with fail
  refine (szPushS_far _ n _ _ hn hn').mono ?_
  rintro e w1 ⟨rfl, hh⟩
  have B0 : Below w.heap.size w w1 := Below.trans (by repeat (first | with_reducible exact Below.refl _ _ | with_reducible refine Below.setCell ?_ (by first | omega | (simp; done) | (simp; omega)) _ | with_reducible refine bDrewN ?_ _ | with_reducible refine Below.drew ?_ | with_reducible refine Below.alloc ?_ (by first | omega | (simp; done) | (simp; omega)) _)) (hh.mono (by first | omega | (simp; done) | (simp; omega)))
  go_wp2
  go_ret
  exact ⟨rfl, B0⟩
theorem runV_some (d : Drv) (n : Nat) (K : Nat → Nat) (V : Nat → Nat → Int) (X : Nat → Int) (J : Nat → Bool) : ∃ (m : Nat) (v0 v1 v2 : Int) (v3 ok : Bool), m ≤ n ∧ (runB d n K V X J = true → m = n ∧ stD d K V X J n = (v0, v1, v2, v3) ∧ ok = true) ∧ (runB d n K V X J = false → m = 0 ∧ v0 = 0 ∧ v1 = 0 ∧ v2 = 0 ∧ v3 = false ∧ ok = false) := by
  cases h : runB d n K V X J
  · exact ⟨0, 0, 0, 0, false, false, by omega, fun q => by simp at q, fun _ => ⟨rfl, rfl, rfl, rfl, rfl, rfl⟩⟩
  · exact ⟨n, (stD d K V X J n).1, (stD d K V X J n).2.1, (stD d K V X J n).2.2.1, (stD d K V X J n).2.2.2, true, Nat.le_refl _, fun _ => ⟨rfl, rfl, rfl⟩, fun q => by simp at q⟩
theorem fnExactDriveRun_walk (w : World) (P : Int) (wP : (Lit.int .i64 P).wf = true) (W : Int) (wW : (Lit.int .i64 W).wf = true) (T : Int) (wT : (Lit.int .i64 T).wf = true) (F : Bool) (sl : Option Addr) (n c : Nat) (S : Nat → Option Addr) (K C : Nat → Nat) (V : Nat → Nat → Int) (X : Nat → Int) (J : Nat → Bool) (m0 : n ≤ 9223372036854775807) (mK : ∀ j, j < n → K j ≤ 9223372036854775807) (R0 : PshR w sl n S K C V X J) :
    Calls Try.prog 5 #[.agg #[.int .i64 P, .int .i64 W, .int .i64 T, .bool F], .slice sl n c] w fun e w' => e = .returned (.bool true) ∧ Below w.heap.size w w' := by
  by_cases h0 : (n : Int) ≤ 1048576
  · obtain ⟨m, v0, v1, v2, v3, ok, hm, h1, h2⟩ := runV_some (P, W, T, F) n K V X J
    exact driveRun_near w P W T F sl n c S K C V X J h0 (fun j hj => by have := mK j hj; omega) R0 m (fun k => (stD (P, W, T, F) K V X J (k + 1)).1) (by omega) v0 v1 v2 v3 ok (fun sl S C w q => specRun_any P W T F sl n n S K C V X J w h0 q m v0 v1 v2 v3 ok h1 h2) (fun sl S C w q => implRun_any P W T F sl n n S K C V X J w h0 q m v0 v1 v2 v3 ok h1 h2)
  · exact driveRun_far w P W T F sl n c (by omega) (by omega)

set_option maxRecDepth 100000 in
theorem fnExactDriveRun_lifted (os : Os) (started : os.Started) (H : Type) (enc : TypeId × Value → H) :
    ReturnsInHanded {} Try.checked os 5 .any (Rows.fnExactDriveRunSpec.pre6 enc Try.prog Try.f5 Rows.fnExactDriveRunRow.domain false) (Rows.fnExactDriveRunSpec.post enc Try.prog Try.f5 false true false false) := by
  refine returnsInHanded_of_change (C := Try.checked) own started (by kernel_rfl) Try.func5
    (ChangeSpec.witness6 (enc := enc) (C := Try.checked) false ⟨#[], #[.agg #[.int .i64 0, .int .i64 0, .int .i64 0, .bool false], .slice none 0 0], []⟩ 8 (by kernel_rfl) (by kernel_rfl) (by kernel_rfl) (by kernel_rfl)) ?_
  intro W base args ds gs before hval0 hW hcnd _
  have hval : ∀ (j : Nat) t v, Try.f5.params[j]? = some t → args[j]? = some v → Value.okWide Try.prog W .any base t v := hval0
  have hW' := hW
  obtain ⟨p, q, hA0, hV, rfl, hfz, hnd⟩ := hW
  have hA : DataW.TrodAll enc Try.prog W 0 (fun _ => true) true Try.f5.params.toList args.toList ds p := hA0
  rw [Try.params5] at hA hval
  obtain ⟨v0, vs0, d0, ds0, p0, q0, hargs, rfl, rfl, h0, r0⟩ := trodAll_cons hA
  obtain ⟨v1, vs1, d1, ds1, p1, q1, rfl, rfl, rfl, h1, r1⟩ := trodAll_cons r0
  obtain ⟨rfl, rfl, rfl⟩ := trodAll_nil r1
  obtain rfl : args = #[v0, v1] := by cases args; simp_all
  obtain ⟨rfl, rfl⟩ := trodVars_none hV
  have k0 := h0
  have lt0 : ∀ x ∈ p0, x.block < W.heap.size := by obtain ⟨m, hm⟩ := k0; exact DataW.trod_lt m _ _ _ hm
  have k1 := h1
  have lt1 : ∀ x ∈ p1, x.block < W.heap.size := by obtain ⟨m, hm⟩ := k1; exact DataW.trod_lt m _ _ _ hm
  obtain ⟨vs0, rfl, c0⟩ := open_cells Try.underlying36 (ts := [2, 2, 2, 4]) (by kernel_rfl) (by kernel_rfl) (hval 0 36 v0 rfl rfl)
  obtain ⟨x0_0, r0_0, rfl, o0_0, c0_0⟩ := cellsOk_cons c0
  obtain ⟨a0_0, rfl, w0_0⟩ := cell_int Try.underlying2 o0_0
  obtain ⟨x0_1, r0_1, rfl, o0_1, c0_1⟩ := cellsOk_cons c0_0
  obtain ⟨a0_1, rfl, w0_1⟩ := cell_int Try.underlying2 o0_1
  obtain ⟨x0_2, r0_2, rfl, o0_2, c0_2⟩ := cellsOk_cons c0_1
  obtain ⟨a0_2, rfl, w0_2⟩ := cell_int Try.underlying2 o0_2
  obtain ⟨x0_3, r0_3, rfl, o0_3, c0_3⟩ := cellsOk_cons c0_2
  obtain ⟨a0_3, rfl⟩ := cell_bool Try.underlying4 o0_3
  obtain rfl := cellsOk_nil c0_3
  obtain ⟨s1, n1, c1, S1, K1, C1, V1, X1, J1, rfl, m1, mK1, R1⟩ := open_PushS Try.underlying37 Try.underlying70 (by kernel_rfl) rfl (by kernel_rfl) rfl (by kernel_rfl) rfl (by kernel_rfl) Try.underlying22 Try.underlying59 (by kernel_rfl) rfl (by kernel_rfl) (by kernel_rfl) rfl (by kernel_rfl) (by kernel_rfl) (by kernel_rfl) (by kernel_rfl) (hval 1 37 v1 rfl rfl) h1
  clear hA0 hval0
  refine (fnExactDriveRun_walk W a0_0 w0_0 a0_1 w0_1 a0_2 w0_2 a0_3 s1 n1 c1 S1 K1 C1 V1 X1 J1 m1 mK1 R1).mono fun e W' ⟨he, bel⟩ => ?_
  subst he
  exact ⟨_, rfl, _, _, _, [], _, [], hW', trodAll_mk1 (shut_bool Try.underlying4 _), (trodAll_cons_mk (Below.trod laidOut (by kernel_rfl) (of_decide_eq_true (by kernel_rfl)) k0 bel lt0) (trodAll_cons_mk (Below.trod laidOut (by kernel_rfl) (of_decide_eq_true (by kernel_rfl)) k1 bel lt1) trodAll_mk0)), rfl, bel.frame _, fun h => by cases h⟩

theorem fnExactDriveRun_holds : Rows.FnExactDriveRunSaid :=
  OpenClaim.holds_of_wide 5 Try.f5 rfl rfl rfl rfl rfl rfl rfl ⟨rfl, rfl, rfl, rfl, rfl⟩ rfl rfl rfl rfl rfl (by kernel_rfl) Try.func5 (by kernel_rfl)
    (of_decide_eq_true (by kernel_rfl)) (by unfold Func.isWrapper; first | (rw [if_pos (by decide +kernel)]; kernel_rfl) | (rw [if_neg (by decide +kernel)]; exact ⟨rfl, rfl⟩))
    (fun os started H enc _ => fnExactDriveRun_lifted os started H enc)
#print axioms fnExactDriveRun_holds
end Go.Proofs.Ytafifjodpgmiiaa
