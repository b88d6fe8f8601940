/-
What is proved: a loop that is drawn from a code: seven int64s, its bounds small.
-/
import Derived.Test.YtdpghhgfkhlliaaDrawZ
import Derived.Test.YtdpghhgfkhlliaaLrL
import Derived.Deep.RegionHeld3
import Derived.Deep.DeepCutAuto
namespace Go.Proofs.Ytdpghhgfkhlliaa
set_option maxRecDepth 40000
open Go.RowKit
set_option linter.unusedVariables false
set_option linter.unusedSimpArgs false

theorem LoopAt.set4 {w : World} {p : Nat} {P I D S L H B : Int} (h : LoopAt w p P I D S L H B) (x : Int) : LoopAt (w.setCell ⟨p, 4, none⟩ (.int .i64 x)) p P I D S x H B := by
  obtain ⟨h1, c0, c1, c2, c3, c4, c5, c6⟩ := h
  refine ⟨by simpa using h1, ?_, ?_, ?_, ?_, ?_, ?_, ?_⟩
  all_goals simp [go_sem, c0, c1, c2, c3, c4, c5, c6]
set_option maxRecDepth 20000 in
set_option maxHeartbeats 8000000 in
theorem loop_any {r : Nat} {s : Option Addr} {n c p : Nat} {w : World} (h : Hid (Rd w r s n c p)) :
    Calls Try.prog 29 #[.pointer (some ⟨r, 0, none⟩)] w fun e w' => ∃ P I D S L H B p', e = .returned (.agg #[.int .i64 P, .int .i64 I, .int .i64 D, .int .i64 S, .int .i64 L, .int .i64 H, .int .i64 B]) ∧ -2000000 ≤ L ∧ L ≤ 2000000 ∧ -2000000 ≤ H ∧ H ≤ 2000000 ∧ Rd w' r s n c p' ∧ Beside r w w' := by
  have zr : r < w.heap.size := h.out.1
  go_enter Try.func29, Try.ntmps29
  go_upto_region 1 with fail
  obtain ⟨wd, hwd⟩ : ∃ wd, wd = w.alloc (.cells #[.int .i64 0, .int .i64 0, .int .i64 0, .int .i64 0, .int .i64 0, .int .i64 0, .int .i64 0] 27) := ⟨_, rfl⟩
  rw [← hwd]
  have B0 : Below w.heap.size w wd := by rw [hwd]; exact (by repeat (first | with_reducible exact Below.refl _ _ | with_reducible refine Below.setCell ?_ (by first | omega | (simp; done) | (simp; omega)) _ | with_reducible refine bDrewN ?_ _ | with_reducible refine Below.drew ?_ | with_reducible refine Below.alloc ?_ (by first | omega | (simp; done) | (simp; omega)) _))
  have A0 : Hid (LoopAt wd w.heap.size 0 0 0 0 0 0 0 ∧ ∀ o, wd.frozen? ⟨w.heap.size, o, none⟩ = false) := by rw [hwd]; refine ⟨⟨by simp, ?_, ?_, ?_, ?_, ?_, ?_, ?_⟩, fun o => ?_⟩ <;> simp [go_sem]
  have R0 : Hid (Rd wd r s n c p) := h.out.below B0
  have S0 : Hid (Beside r w wd) := Beside.of B0
  have y0 : w.heap.size < wd.heap.size := A0.out.1.1
  clear hwd B0
  go_wp2_with fail
  refine (near_any 0 1000 (by omega) (by omega) (by omega) R0.out).mono ?_
  rintro e w1 ⟨P, p1, rfl, Pa, Pb, R1x, b1⟩
  have R1 : Hid (Rd w1 r s n c p1) := R1x
  have S1 : Hid (Beside r w w1) := S0.out.trans b1
  have A1 : Hid (LoopAt w1 w.heap.size 0 0 0 0 0 0 0 ∧ ∀ o, w1.frozen? ⟨w.heap.size, o, none⟩ = false) := ⟨A0.out.1.beside b1 (by omega), fun o => (b1.frozen (p := ⟨w.heap.size, o, none⟩) A0.out.1.1 (by show w.heap.size ≠ r; omega)).trans (A0.out.2 o)⟩
  clear R1x b1 R0 S0 A0
  go_wp2_with fail
  refine (near_any 0 50 (by omega) (by omega) (by omega) R1.out).mono ?_
  rintro e w2 ⟨I, p2, rfl, Ia, Ib, R2x, b2⟩
  have R2 : Hid (Rd w2 r s n c p2) := R2x
  have S2 : Hid (Beside r w w2) := S1.out.trans b2
  have A2 : Hid (LoopAt w2 w.heap.size 0 0 0 0 0 0 0 ∧ ∀ o, w2.frozen? ⟨w.heap.size, o, none⟩ = false) := ⟨A1.out.1.beside b2 (by omega), fun o => (b2.frozen (p := ⟨w.heap.size, o, none⟩) A1.out.1.1 (by show w.heap.size ≠ r; omega)).trans (A1.out.2 o)⟩
  clear R2x b2 R1 S1 A1
  go_wp2_with fail
  refine (near_any 0 50 (by omega) (by omega) (by omega) R2.out).mono ?_
  rintro e w3 ⟨D, p3, rfl, Da, Db, R3x, b3⟩
  have R3 : Hid (Rd w3 r s n c p3) := R3x
  have S3 : Hid (Beside r w w3) := S2.out.trans b3
  have A3 : Hid (LoopAt w3 w.heap.size 0 0 0 0 0 0 0 ∧ ∀ o, w3.frozen? ⟨w.heap.size, o, none⟩ = false) := ⟨A2.out.1.beside b3 (by omega), fun o => (b3.frozen (p := ⟨w.heap.size, o, none⟩) A2.out.1.1 (by show w.heap.size ≠ r; omega)).trans (A2.out.2 o)⟩
  clear R3x b3 R2 S2 A2
  go_wp2_with fail
  refine (near_any 1 1000 (by omega) (by omega) (by omega) R3.out).mono ?_
  rintro e w4 ⟨S, p4, rfl, Sa, Sb, R4x, b4⟩
  have R4 : Hid (Rd w4 r s n c p4) := R4x
  have S4 : Hid (Beside r w w4) := S3.out.trans b4
  have A4 : Hid (LoopAt w4 w.heap.size 0 0 0 0 0 0 0 ∧ ∀ o, w4.frozen? ⟨w.heap.size, o, none⟩ = false) := ⟨A3.out.1.beside b4 (by omega), fun o => (b4.frozen (p := ⟨w.heap.size, o, none⟩) A3.out.1.1 (by show w.heap.size ≠ r; omega)).trans (A3.out.2 o)⟩
  clear R4x b4 R3 S3 A3
  go_wp2_with fail
  refine (near_any 0 10 (by omega) (by omega) (by omega) R4.out).mono ?_
  rintro e w5 ⟨B, p5, rfl, Ba, Bb, R5x, b5⟩
  have R5 : Hid (Rd w5 r s n c p5) := R5x
  have S5 : Hid (Beside r w w5) := S4.out.trans b5
  have A5 : Hid (LoopAt w5 w.heap.size 0 0 0 0 0 0 0 ∧ ∀ o, w5.frozen? ⟨w.heap.size, o, none⟩ = false) := ⟨A4.out.1.beside b5 (by omega), fun o => (b5.frozen (p := ⟨w.heap.size, o, none⟩) A4.out.1.1 (by show w.heap.size ≠ r; omega)).trans (A4.out.2 o)⟩
  clear R5x b5 R4 S4 A4
  go_wp2_with fail
  refine (near_any 0 2000 (by omega) (by omega) (by omega) R5.out).mono ?_
  rintro e w6 ⟨L0, p6, rfl, L0a, L0b, R6x, b6⟩
  have R6 : Hid (Rd w6 r s n c p6) := R6x
  have S6 : Hid (Beside r w w6) := S5.out.trans b6
  have A6 : Hid (LoopAt w6 w.heap.size 0 0 0 0 0 0 0 ∧ ∀ o, w6.frozen? ⟨w.heap.size, o, none⟩ = false) := ⟨A5.out.1.beside b6 (by omega), fun o => (b6.frozen (p := ⟨w.heap.size, o, none⟩) A5.out.1.1 (by show w.heap.size ≠ r; omega)).trans (A5.out.2 o)⟩
  clear R6x b6 R5 S5 A5
  go_wp2_with fail
  refine (near_any 0 2000 (by omega) (by omega) (by omega) R6.out).mono ?_
  rintro e w7 ⟨H, p7, rfl, Ha, Hb, R7x, b7⟩
  have R7 : Hid (Rd w7 r s n c p7) := R7x
  have S7 : Hid (Beside r w w7) := S6.out.trans b7
  have A7 : Hid (LoopAt w7 w.heap.size 0 0 0 0 0 0 0 ∧ ∀ o, w7.frozen? ⟨w.heap.size, o, none⟩ = false) := ⟨A6.out.1.beside b7 (by omega), fun o => (b7.frozen (p := ⟨w.heap.size, o, none⟩) A6.out.1.1 (by show w.heap.size ≠ r; omega)).trans (A6.out.2 o)⟩
  clear R7x b7 R6 S6 A6
  go_upto_region 2 with fail
  obtain ⟨we, hwe⟩ : ∃ we, we = w7.alloc (.cells #[.int .i64 P, .int .i64 I, .int .i64 D, .int .i64 S, .int .i64 (-L0), .int .i64 H, .int .i64 B] 27) := ⟨_, rfl⟩
  rw [← hwe]
  have z7 : w.heap.size < w7.heap.size := A7.out.1.1
  have zr7 : r < w7.heap.size := R7.out.1
  have BE : Below w7.heap.size w7 we := by rw [hwe]; exact (by repeat (first | with_reducible exact Below.refl _ _ | with_reducible refine Below.setCell ?_ (by first | omega | (simp; done) | (simp; omega)) _ | with_reducible refine bDrewN ?_ _ | with_reducible refine Below.drew ?_ | with_reducible refine Below.alloc ?_ (by first | omega | (simp; done) | (simp; omega)) _))
  have RE : Hid (Rd we r s n c p7) := R7.out.below BE
  have SE : Hid (Beside r w we) := S7.out.trans (Beside.of BE)
  have AE : Hid (LoopAt we w.heap.size 0 0 0 0 0 0 0 ∧ ∀ o, we.frozen? ⟨w.heap.size, o, none⟩ = false) := ⟨A7.out.1.below BE, fun o => (BE.frozen (p := ⟨w.heap.size, o, none⟩) z7).trans (A7.out.2 o)⟩
  have CE : Hid (LoopAt we w7.heap.size P I D S (-L0) H B ∧ ∀ o, we.frozen? ⟨w7.heap.size, o, none⟩ = false) := by rw [hwe]; refine ⟨⟨by simp, ?_, ?_, ?_, ?_, ?_, ?_, ?_⟩, fun o => ?_⟩ <;> simp [go_sem]
  clear hwe BE A7 R7 S7
  go_wp2_with fail
  refine (below_any 24 RE.out).mono ?_
  rintro e w8 ⟨k, p8, rfl, k0, k1, k2, R8x, b8⟩
  have R8 : Hid (Rd w8 r s n c p8) := R8x
  have S8 : Hid (Beside r w w8) := SE.out.trans b8
  have A8 : Hid (LoopAt w8 w.heap.size 0 0 0 0 0 0 0 ∧ ∀ o, w8.frozen? ⟨w.heap.size, o, none⟩ = false) := ⟨AE.out.1.beside b8 (by omega), fun o => (b8.frozen (p := ⟨w.heap.size, o, none⟩) AE.out.1.1 (by show w.heap.size ≠ r; omega)).trans (AE.out.2 o)⟩
  have C8 : Hid (LoopAt w8 w7.heap.size P I D S (-L0) H B ∧ ∀ o, w8.frozen? ⟨w7.heap.size, o, none⟩ = false) := ⟨CE.out.1.beside b8 (by omega), fun o => (b8.frozen (p := ⟨w7.heap.size, o, none⟩) CE.out.1.1 (by show w7.heap.size ≠ r; omega)).trans (CE.out.2 o)⟩
  clear R8x b8 RE SE AE CE
  by_cases q0 : k = 0
  · subst q0
    go_wp2_with fail
    refine (off_any 0 1000 (by omega) (by omega) (by omega) R8.out).mono ?_
    rintro e w9 ⟨x, p9, rfl, wx, Rx, bx⟩
    have R9 : Hid (Rd w9 r s n c p9) := Rx
    have S9 : Hid (Beside r w w9) := S8.out.trans bx
    have A9 : Hid (LoopAt w9 w.heap.size 0 0 0 0 0 0 0 ∧ ∀ o, w9.frozen? ⟨w.heap.size, o, none⟩ = false) := ⟨A8.out.1.beside bx (by omega), fun o => (bx.frozen (p := ⟨w.heap.size, o, none⟩) A8.out.1.1 (by show w.heap.size ≠ r; omega)).trans (A8.out.2 o)⟩
    have C9 : Hid (LoopAt w9 w7.heap.size P I D S (-L0) H B ∧ ∀ o, w9.frozen? ⟨w7.heap.size, o, none⟩ = false) := ⟨C8.out.1.beside bx (by omega), fun o => (bx.frozen (p := ⟨w7.heap.size, o, none⟩) C8.out.1.1 (by show w7.heap.size ≠ r; omega)).trans (C8.out.2 o)⟩
    clear Rx bx
    obtain ⟨⟨zq, c0, c1, c2, c3, c4, c5, c6⟩, fq⟩ := C9.out
    obtain ⟨⟨zw, a0, a1, a2, a3, a4, a5, a6⟩, fw⟩ := A9.out
    have fq0 := fq 0
    have fw0 := fw 0
    have fq1 := fq 1
    have fw1 := fw 1
    have fq2 := fq 2
    have fw2 := fw 2
    have fq3 := fq 3
    have fw3 := fw 3
    have fq4 := fq 4
    have fw4 := fw 4
    have fq5 := fq 5
    have fw5 := fw 5
    have fq6 := fq 6
    have fw6 := fw 6
    have ne : ¬ w7.heap.size = w.heap.size := by omega
    clear fq fw
    go_wp2
    exact bodyPost_ret (v := .agg #[.int .i64 x, .int .i64 I, .int .i64 D, .int .i64 S, .int .i64 (-L0), .int .i64 H, .int .i64 B]) (by simp [results, Try.results29, go_sem, a0, a1, a2, a3, a4, a5, a6]) rfl ⟨x, I, D, S, (-L0), H, B, p9, rfl, by omega, by omega, by omega, by omega, Rd.below' R9.out (show Below (r + 1) w9 _ from (by repeat (first | with_reducible exact Below.refl _ _ | with_reducible refine Below.setCell ?_ (by first | omega | (simp; done) | (simp; omega)) _ | with_reducible refine bDrewN ?_ _ | with_reducible refine Below.drew ?_ | with_reducible refine Below.alloc ?_ (by first | omega | (simp; done) | (simp; omega)) _))), S9.out.on (show Below w.heap.size w9 _ from (by repeat (first | with_reducible exact Below.refl _ _ | with_reducible refine Below.setCell ?_ (by first | omega | (simp; done) | (simp; omega)) _ | with_reducible refine bDrewN ?_ _ | with_reducible refine Below.drew ?_ | with_reducible refine Below.alloc ?_ (by first | omega | (simp; done) | (simp; omega)) _)))⟩
  by_cases q1 : k = 1
  · subst q1
    go_wp2_with fail
    refine (off_any 1 1000 (by omega) (by omega) (by omega) R8.out).mono ?_
    rintro e w9 ⟨x, p9, rfl, wx, Rx, bx⟩
    have R9 : Hid (Rd w9 r s n c p9) := Rx
    have S9 : Hid (Beside r w w9) := S8.out.trans bx
    have A9 : Hid (LoopAt w9 w.heap.size 0 0 0 0 0 0 0 ∧ ∀ o, w9.frozen? ⟨w.heap.size, o, none⟩ = false) := ⟨A8.out.1.beside bx (by omega), fun o => (bx.frozen (p := ⟨w.heap.size, o, none⟩) A8.out.1.1 (by show w.heap.size ≠ r; omega)).trans (A8.out.2 o)⟩
    have C9 : Hid (LoopAt w9 w7.heap.size P I D S (-L0) H B ∧ ∀ o, w9.frozen? ⟨w7.heap.size, o, none⟩ = false) := ⟨C8.out.1.beside bx (by omega), fun o => (bx.frozen (p := ⟨w7.heap.size, o, none⟩) C8.out.1.1 (by show w7.heap.size ≠ r; omega)).trans (C8.out.2 o)⟩
    clear Rx bx
    obtain ⟨⟨zq, c0, c1, c2, c3, c4, c5, c6⟩, fq⟩ := C9.out
    obtain ⟨⟨zw, a0, a1, a2, a3, a4, a5, a6⟩, fw⟩ := A9.out
    have fq0 := fq 0
    have fw0 := fw 0
    have fq1 := fq 1
    have fw1 := fw 1
    have fq2 := fq 2
    have fw2 := fw 2
    have fq3 := fq 3
    have fw3 := fw 3
    have fq4 := fq 4
    have fw4 := fw 4
    have fq5 := fq 5
    have fw5 := fw 5
    have fq6 := fq 6
    have fw6 := fw 6
    have ne : ¬ w7.heap.size = w.heap.size := by omega
    clear fq fw
    go_wp2
    exact bodyPost_ret (v := .agg #[.int .i64 P, .int .i64 I, .int .i64 D, .int .i64 x, .int .i64 (-L0), .int .i64 H, .int .i64 B]) (by simp [results, Try.results29, go_sem, a0, a1, a2, a3, a4, a5, a6]) rfl ⟨P, I, D, x, (-L0), H, B, p9, rfl, by omega, by omega, by omega, by omega, Rd.below' R9.out (show Below (r + 1) w9 _ from (by repeat (first | with_reducible exact Below.refl _ _ | with_reducible refine Below.setCell ?_ (by first | omega | (simp; done) | (simp; omega)) _ | with_reducible refine bDrewN ?_ _ | with_reducible refine Below.drew ?_ | with_reducible refine Below.alloc ?_ (by first | omega | (simp; done) | (simp; omega)) _))), S9.out.on (show Below w.heap.size w9 _ from (by repeat (first | with_reducible exact Below.refl _ _ | with_reducible refine Below.setCell ?_ (by first | omega | (simp; done) | (simp; omega)) _ | with_reducible refine bDrewN ?_ _ | with_reducible refine Below.drew ?_ | with_reducible refine Below.alloc ?_ (by first | omega | (simp; done) | (simp; omega)) _)))⟩
  by_cases q2 : k = 2
  · subst q2
    obtain ⟨⟨zq, c0, c1, c2, c3, c4, c5, c6⟩, fq⟩ := C8.out
    obtain ⟨⟨zw, a0, a1, a2, a3, a4, a5, a6⟩, fw⟩ := A8.out
    have fq0 := fq 0
    have fw0 := fw 0
    have fq1 := fq 1
    have fw1 := fw 1
    have fq2 := fq 2
    have fw2 := fw 2
    have fq3 := fq 3
    have fw3 := fw 3
    have fq4 := fq 4
    have fw4 := fw 4
    have fq5 := fq 5
    have fw5 := fw 5
    have fq6 := fq 6
    have fw6 := fw 6
    have ne : ¬ w7.heap.size = w.heap.size := by omega
    clear fq fw
    go_wp2
    exact bodyPost_ret (v := .agg #[.int .i64 P, .int .i64 I, .int .i64 D, .int .i64 S, .int .i64 (H + 1), .int .i64 H, .int .i64 B]) (by simp [results, Try.results29, go_sem, a0, a1, a2, a3, a4, a5, a6]) rfl ⟨P, I, D, S, (H + 1), H, B, p8, rfl, by omega, by omega, by omega, by omega, Rd.below' R8.out (show Below (r + 1) w8 _ from (by repeat (first | with_reducible exact Below.refl _ _ | with_reducible refine Below.setCell ?_ (by first | omega | (simp; done) | (simp; omega)) _ | with_reducible refine bDrewN ?_ _ | with_reducible refine Below.drew ?_ | with_reducible refine Below.alloc ?_ (by first | omega | (simp; done) | (simp; omega)) _))), S8.out.on (show Below w.heap.size w8 _ from (by repeat (first | with_reducible exact Below.refl _ _ | with_reducible refine Below.setCell ?_ (by first | omega | (simp; done) | (simp; omega)) _ | with_reducible refine bDrewN ?_ _ | with_reducible refine Below.drew ?_ | with_reducible refine Below.alloc ?_ (by first | omega | (simp; done) | (simp; omega)) _)))⟩
  by_cases q3 : k = 3
  · subst q3
    go_wp2_with fail
    refine (below_any 2 R8.out).mono ?_
    rintro e w9 ⟨x, p9, rfl, x0, x1, x2, Rx, bx⟩
    have R9 : Hid (Rd w9 r s n c p9) := Rx
    have S9 : Hid (Beside r w w9) := S8.out.trans bx
    have A9 : Hid (LoopAt w9 w.heap.size 0 0 0 0 0 0 0 ∧ ∀ o, w9.frozen? ⟨w.heap.size, o, none⟩ = false) := ⟨A8.out.1.beside bx (by omega), fun o => (bx.frozen (p := ⟨w.heap.size, o, none⟩) A8.out.1.1 (by show w.heap.size ≠ r; omega)).trans (A8.out.2 o)⟩
    have C9 : Hid (LoopAt w9 w7.heap.size P I D S (-L0) H B ∧ ∀ o, w9.frozen? ⟨w7.heap.size, o, none⟩ = false) := ⟨C8.out.1.beside bx (by omega), fun o => (bx.frozen (p := ⟨w7.heap.size, o, none⟩) C8.out.1.1 (by show w7.heap.size ≠ r; omega)).trans (C8.out.2 o)⟩
    clear Rx bx
    obtain ⟨⟨zq, c0, c1, c2, c3, c4, c5, c6⟩, fq⟩ := C9.out
    have fq4 := fq 4
    go_upto_region 11 with fail
    obtain ⟨wf, hwf⟩ : ∃ wf, wf = w9.setCell ⟨w7.heap.size, 4, none⟩ (.int .i64 (-1000000 - x)) := ⟨_, rfl⟩
    rw [← hwf]
    have Rf : Hid (Rd wf r s n c p9) := by rw [hwf]; exact Rd.below' R9.out (show Below (r + 1) w9 _ from (by repeat (first | with_reducible exact Below.refl _ _ | with_reducible refine Below.setCell ?_ (by first | omega | (simp; done) | (simp; omega)) _ | with_reducible refine bDrewN ?_ _ | with_reducible refine Below.drew ?_ | with_reducible refine Below.alloc ?_ (by first | omega | (simp; done) | (simp; omega)) _)))
    have Sf : Hid (Beside r w wf) := by rw [hwf]; exact S9.out.on (show Below w.heap.size w9 _ from (by repeat (first | with_reducible exact Below.refl _ _ | with_reducible refine Below.setCell ?_ (by first | omega | (simp; done) | (simp; omega)) _ | with_reducible refine bDrewN ?_ _ | with_reducible refine Below.drew ?_ | with_reducible refine Below.alloc ?_ (by first | omega | (simp; done) | (simp; omega)) _)))
    have Af : Hid (LoopAt wf w.heap.size 0 0 0 0 0 0 0 ∧ ∀ o, wf.frozen? ⟨w.heap.size, o, none⟩ = false) := by
      rw [hwf]
      have bb : Beside w7.heap.size w9 (w9.setCell ⟨w7.heap.size, 4, none⟩ (.int .i64 (-1000000 - x))) := Beside.setCell _ _ 4 _
      exact ⟨A9.out.1.beside bb (by omega), fun o => (bb.frozen (p := ⟨w.heap.size, o, none⟩) A9.out.1.1 (by show w.heap.size ≠ _; omega)).trans (A9.out.2 o)⟩
    have Cf : Hid (LoopAt wf w7.heap.size P I D S (-1000000 - x) H B ∧ ∀ o, wf.frozen? ⟨w7.heap.size, o, none⟩ = false) := by
      rw [hwf]
      exact ⟨C9.out.1.set4 _, fun o => by have := fq o; simpa [go_sem] using this⟩
    clear hwf zq c0 c1 c2 c3 c4 c5 c6 fq fq4
    go_wp2_with fail
    refine (below_any 2 Rf.out).mono ?_
    rintro e wg ⟨y, pg, rfl, yy0, yy1, yy2, Rx, bx⟩
    have Rg : Hid (Rd wg r s n c pg) := Rx
    have Sg : Hid (Beside r w wg) := Sf.out.trans bx
    have Ag : Hid (LoopAt wg w.heap.size 0 0 0 0 0 0 0 ∧ ∀ o, wg.frozen? ⟨w.heap.size, o, none⟩ = false) := ⟨Af.out.1.beside bx (by omega), fun o => (bx.frozen (p := ⟨w.heap.size, o, none⟩) Af.out.1.1 (by show w.heap.size ≠ r; omega)).trans (Af.out.2 o)⟩
    have Cg : Hid (LoopAt wg w7.heap.size P I D S (-1000000 - x) H B ∧ ∀ o, wg.frozen? ⟨w7.heap.size, o, none⟩ = false) := ⟨Cf.out.1.beside bx (by omega), fun o => (bx.frozen (p := ⟨w7.heap.size, o, none⟩) Cf.out.1.1 (by show w7.heap.size ≠ r; omega)).trans (Cf.out.2 o)⟩
    clear Rx bx
    obtain ⟨⟨zq, c0, c1, c2, c3, c4, c5, c6⟩, fq⟩ := Cg.out
    obtain ⟨⟨zw, a0, a1, a2, a3, a4, a5, a6⟩, fw⟩ := Ag.out
    have fq0 := fq 0
    have fw0 := fw 0
    have fq1 := fq 1
    have fw1 := fw 1
    have fq2 := fq 2
    have fw2 := fw 2
    have fq3 := fq 3
    have fw3 := fw 3
    have fq4 := fq 4
    have fw4 := fw 4
    have fq5 := fq 5
    have fw5 := fw 5
    have fq6 := fq 6
    have fw6 := fw 6
    have ne : ¬ w7.heap.size = w.heap.size := by omega
    clear fq fw
    go_wp2
    exact bodyPost_ret (v := .agg #[.int .i64 P, .int .i64 I, .int .i64 D, .int .i64 S, .int .i64 (-1000000 - x), .int .i64 (1000000 + y), .int .i64 B]) (by simp [results, Try.results29, go_sem, a0, a1, a2, a3, a4, a5, a6]) rfl ⟨P, I, D, S, (-1000000 - x), (1000000 + y), B, pg, rfl, by omega, by omega, by omega, by omega, Rd.below' Rg.out (show Below (r + 1) wg _ from (by repeat (first | with_reducible exact Below.refl _ _ | with_reducible refine Below.setCell ?_ (by first | omega | (simp; done) | (simp; omega)) _ | with_reducible refine bDrewN ?_ _ | with_reducible refine Below.drew ?_ | with_reducible refine Below.alloc ?_ (by first | omega | (simp; done) | (simp; omega)) _))), Sg.out.on (show Below w.heap.size wg _ from (by repeat (first | with_reducible exact Below.refl _ _ | with_reducible refine Below.setCell ?_ (by first | omega | (simp; done) | (simp; omega)) _ | with_reducible refine bDrewN ?_ _ | with_reducible refine Below.drew ?_ | with_reducible refine Below.alloc ?_ (by first | omega | (simp; done) | (simp; omega)) _)))⟩
  have e0 : (k == 0) = false := by simpa using q0
  have e1 : (k == 1) = false := by simpa using q1
  have e2 : (k == 2) = false := by simpa using q2
  have e3 : (k == 3) = false := by simpa using q3
  obtain ⟨⟨zq, c0, c1, c2, c3, c4, c5, c6⟩, fq⟩ := C8.out
  obtain ⟨⟨zw, a0, a1, a2, a3, a4, a5, a6⟩, fw⟩ := A8.out
  have fq0 := fq 0
  have fw0 := fw 0
  have fq1 := fq 1
  have fw1 := fw 1
  have fq2 := fq 2
  have fw2 := fw 2
  have fq3 := fq 3
  have fw3 := fw 3
  have fq4 := fq 4
  have fw4 := fw 4
  have fq5 := fq 5
  have fw5 := fw 5
  have fq6 := fq 6
  have fw6 := fw 6
  have ne : ¬ w7.heap.size = w.heap.size := by omega
  clear fq fw
  go_wp2
  exact bodyPost_ret (v := .agg #[.int .i64 P, .int .i64 I, .int .i64 D, .int .i64 S, .int .i64 (-L0), .int .i64 H, .int .i64 B]) (by simp [results, Try.results29, go_sem, a0, a1, a2, a3, a4, a5, a6]) rfl ⟨P, I, D, S, (-L0), H, B, p8, rfl, by omega, by omega, by omega, by omega, Rd.below' R8.out (show Below (r + 1) w8 _ from (by repeat (first | with_reducible exact Below.refl _ _ | with_reducible refine Below.setCell ?_ (by first | omega | (simp; done) | (simp; omega)) _ | with_reducible refine bDrewN ?_ _ | with_reducible refine Below.drew ?_ | with_reducible refine Below.alloc ?_ (by first | omega | (simp; done) | (simp; omega)) _))), S8.out.on (show Below w.heap.size w8 _ from (by repeat (first | with_reducible exact Below.refl _ _ | with_reducible refine Below.setCell ?_ (by first | omega | (simp; done) | (simp; omega)) _ | with_reducible refine bDrewN ?_ _ | with_reducible refine Below.drew ?_ | with_reducible refine Below.alloc ?_ (by first | omega | (simp; done) | (simp; omega)) _)))⟩
end Go.Proofs.Ytdpghhgfkhlliaa
