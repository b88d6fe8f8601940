/-
What is proved: a hold that is drawn from a code for a loop: a bool and three int64s.
-/
import Derived.Test.YtdpghhgfkhlliaaLbL
import Derived.Deep.RegionHeld3
import Derived.Deep.DeepCutAuto
namespace Go.Proofs.Ytdpghhgfkhlliaa
set_option maxRecDepth 40000
open Go.RowKit
set_option linter.unusedVariables false
set_option linter.unusedSimpArgs false

theorem keepH {W W' : World} {p r : Nat} {a b : Value} (h0 : W.cell? ⟨p, 4, none⟩ = some a) (h1 : W.cell? ⟨p, 5, none⟩ = some b) (hp : p < W.heap.size) (ne : p ≠ r) (hb : Beside r W W') : W'.cell? ⟨p, 4, none⟩ = some a ∧ W'.cell? ⟨p, 5, none⟩ = some b :=
  ⟨(hb.cell (p := ⟨p, 4, none⟩) hp ne).trans h0, (hb.cell (p := ⟨p, 5, none⟩) hp ne).trans h1⟩
set_option maxRecDepth 20000 in
set_option maxHeartbeats 8000000 in
theorem hold_any {r : Nat} {s : Option Addr} {n c p : Nat} {w : World} (P I D S L H B : Int) (H1 : -2000000 ≤ H) (H2 : H ≤ 2000000) (h : Hid (Rd w r s n c p)) :
    Calls Try.prog 30 #[.pointer (some ⟨r, 0, none⟩), .agg #[.int .i64 P, .int .i64 I, .int .i64 D, .int .i64 S, .int .i64 L, .int .i64 H, .int .i64 B]] w fun e w' => ∃ on u v o p', e = .returned (.agg #[.bool on, .int .i64 u, .int .i64 v, .int .i64 o]) ∧ Rd w' r s n c p' ∧ Beside r w w' := by
  have zr : r < w.heap.size := h.out.1
  go_enter Try.func30, Try.ntmps30
  go_upto_region 1 with fail
  obtain ⟨wd, hwd⟩ : ∃ wd, wd = (w.alloc (.cells #[.int .i64 P, .int .i64 I, .int .i64 D, .int .i64 S, .int .i64 L, .int .i64 H, .int .i64 B] 27)).alloc (.cells #[.bool false, .int .i64 0, .int .i64 0, .int .i64 0] 29) := ⟨_, rfl⟩
  rw [← hwd]
  have B0 : Below w.heap.size w wd := by rw [hwd]; exact (by repeat (first | with_reducible exact Below.refl _ _ | with_reducible refine Below.setCell ?_ (by first | omega | (simp; done) | (simp; omega)) _ | with_reducible refine bDrewN ?_ _ | with_reducible refine Below.drew ?_ | with_reducible refine Below.alloc ?_ (by first | omega | (simp; done) | (simp; omega)) _))
  have L0 : Hid (LoopAt wd w.heap.size P I D S L H B) := by rw [hwd]; refine ⟨by simp; omega, ?_, ?_, ?_, ?_, ?_, ?_, ?_⟩ <;> simp [go_sem]
  have A0 : Hid (HoldAt wd (w.heap.size + 1) false 0 0 0) := by rw [hwd]; refine ⟨by simp, fun o => ?_, ?_, ?_, ?_, ?_⟩ <;> simp [go_sem]
  have R0 : Hid (Rd wd r s n c p) := h.out.below B0
  have S0 : Hid (Beside r w wd) := Beside.of B0
  clear hwd B0
  go_wp2_with fail
  refine (once_any 4 (by omega) (by omega) R0.out).mono ?_
  rintro e w1 ⟨b, p1, rfl, R1x, b1⟩
  have R1 : Hid (Rd w1 r s n c p1) := R1x
  have S1 : Hid (Beside r w w1) := S0.out.trans b1
  have L1 : Hid (LoopAt w1 w.heap.size P I D S L H B) := L0.out.beside b1 (by omega)
  have A1 : Hid (HoldAt w1 (w.heap.size + 1) false 0 0 0) := A0.out.beside b1 (by omega)
  clear R1x b1 R0 S0 L0 A0
  cases b
  case true =>
    go_wp2_with fail
    refine (below_any 8 R1.out).mono ?_
    rintro e w2 ⟨k, p2, rfl, k0, k1, k2, R2x, b2⟩
    have R2 : Hid (Rd w2 r s n c p2) := R2x
    have S2 : Hid (Beside r w w2) := S1.out.trans b2
    obtain ⟨z2, f2, c0, c1, c2, c3⟩ := A1.out.beside b2 (by omega)
    have f20 := f2 0
    have f21 := f2 1
    have f22 := f2 2
    have f23 := f2 3
    have kd : k.tdiv 7 = k / 7 := Int.tdiv_eq_ediv_of_nonneg k0
    clear R2x b2 f2
    go_wp2
    exact bodyPost_ret (v := .agg #[.bool false, .int .i64 (k / 7), .int .i64 0, .int .i64 0]) (by simp [results, Try.results30, go_sem, c0, c1, c2, c3]) rfl ⟨false, _, _, _, p2, rfl, Rd.below' R2.out (show Below (r + 1) w2 _ from (by repeat (first | with_reducible exact Below.refl _ _ | with_reducible refine Below.setCell ?_ (by first | omega | (simp; done) | (simp; omega)) _ | with_reducible refine bDrewN ?_ _ | with_reducible refine Below.drew ?_ | with_reducible refine Below.alloc ?_ (by first | omega | (simp; done) | (simp; omega)) _))), S2.out.on (show Below w.heap.size w2 _ from (by repeat (first | with_reducible exact Below.refl _ _ | with_reducible refine Below.setCell ?_ (by first | omega | (simp; done) | (simp; omega)) _ | with_reducible refine bDrewN ?_ _ | with_reducible refine Below.drew ?_ | with_reducible refine Below.alloc ?_ (by first | omega | (simp; done) | (simp; omega)) _)))⟩
  case false =>
    obtain ⟨zb, -, -, -, -, d4, d5, -⟩ := L1.out
    have zr1 : r < w1.heap.size := R1.out.1
    go_wp2_with fail
    go_cut [5] (fun t wx => ∃ g u v o px, t = .pointer (some ⟨g, 0, none⟩) ∧ w1.heap.size ≤ g ∧ g < wx.heap.size ∧ (∀ o, wx.frozen? ⟨g, o, none⟩ = false) ∧ wx.cell? ⟨g, 0, none⟩ = some (.bool true) ∧ wx.cell? ⟨g, 1, none⟩ = some (.int .i64 u) ∧ wx.cell? ⟨g, 2, none⟩ = some (.int .i64 v) ∧ wx.cell? ⟨g, 3, none⟩ = some (.int .i64 o) ∧ Rd wx r s n c px ∧ Beside r w1 wx)
    case first =>
      clear S1 A1 L1
      go_region_held3 (fun w' => w'.cell? ⟨w.heap.size, 4, none⟩ = some (.int .i64 L) ∧ w'.cell? ⟨w.heap.size, 5, none⟩ = some (.int .i64 H)) (first | (refine keepH (r := r) d4 d5 zb (by omega) (S5.on ?_); exact (by repeat (first | with_reducible exact Below.refl _ _ | with_reducible refine Below.setCell ?_ (by first | omega | (simp; done) | (simp; omega)) _ | with_reducible refine bDrewN ?_ _ | with_reducible refine Below.drew ?_ | with_reducible refine Below.alloc ?_ (by first | omega | (simp; done) | (simp; omega)) _))) | (refine keepH (r := r) d4 d5 zb (by omega) (S4.on ?_); exact (by repeat (first | with_reducible exact Below.refl _ _ | with_reducible refine Below.setCell ?_ (by first | omega | (simp; done) | (simp; omega)) _ | with_reducible refine bDrewN ?_ _ | with_reducible refine Below.drew ?_ | with_reducible refine Below.alloc ?_ (by first | omega | (simp; done) | (simp; omega)) _))) | (refine keepH (r := r) d4 d5 zb (by omega) (S3.on ?_); exact (by repeat (first | with_reducible exact Below.refl _ _ | with_reducible refine Below.setCell ?_ (by first | omega | (simp; done) | (simp; omega)) _ | with_reducible refine bDrewN ?_ _ | with_reducible refine Below.drew ?_ | with_reducible refine Below.alloc ?_ (by first | omega | (simp; done) | (simp; omega)) _))) | (refine keepH (r := r) d4 d5 zb (by omega) (Beside.of ?_); exact (by repeat (first | with_reducible exact Below.refl _ _ | with_reducible refine Below.setCell ?_ (by first | omega | (simp; done) | (simp; omega)) _ | with_reducible refine bDrewN ?_ _ | with_reducible refine Below.drew ?_ | with_reducible refine Below.alloc ?_ (by first | omega | (simp; done) | (simp; omega)) _)))) (first
        | (go_at_call_of 31 (Value.int IntKind.i64 5000); refine (near_any (-5000) 5000 (by omega) (by omega) (by omega) (Rd.below' R1.out (show Below (r + 1) w1 _ from (by repeat (first | with_reducible exact Below.refl _ _ | with_reducible refine Below.setCell ?_ (by first | omega | (simp; done) | (simp; omega)) _ | with_reducible refine bDrewN ?_ _ | with_reducible refine Below.drew ?_ | with_reducible refine Below.alloc ?_ (by first | omega | (simp; done) | (simp; omega)) _))))).mono ?_; rintro e w3 ⟨u, p3, rfl, ua, ub, R3, b3⟩; have S3 : Beside r w1 w3 := (Beside.of (by repeat (first | with_reducible exact Below.refl _ _ | with_reducible refine Below.setCell ?_ (by first | omega | (simp; done) | (simp; omega)) _ | with_reducible refine bDrewN ?_ _ | with_reducible refine Below.drew ?_ | with_reducible refine Below.alloc ?_ (by first | omega | (simp; done) | (simp; omega)) _))).trans b3; have z3 := S3.2.2.2.1; (try (have AY3 : HoldAt w3 (w1.heap.size) false 0 0 0 := HoldAt.beside ⟨(by first | (simp; done) | (simp; omega) | fail), fun o => (by first | (simp [go_sem]; done) | fail), (by first | (simp [go_sem]; done) | fail), (by first | (simp [go_sem]; done) | fail), (by first | (simp [go_sem]; done) | fail), (by first | (simp [go_sem]; done) | fail)⟩ b3 (by omega))); clear b3)
        | (go_at_call_of 31 (Value.int IntKind.i64 900); refine (near_any (-900) 900 (by omega) (by omega) (by omega) (Rd.below' R3 (show Below (r + 1) w3 _ from (by repeat (first | with_reducible exact Below.refl _ _ | with_reducible refine Below.setCell ?_ (by first | omega | (simp; done) | (simp; omega)) _ | with_reducible refine bDrewN ?_ _ | with_reducible refine Below.drew ?_ | with_reducible refine Below.alloc ?_ (by first | omega | (simp; done) | (simp; omega)) _))))).mono ?_; rintro e w4 ⟨v, p4, rfl, va, vb, R4, b4⟩; have S34 : Beside r w3 w4 := (Beside.of (by repeat (first | with_reducible exact Below.refl _ _ | with_reducible refine Below.setCell ?_ (by first | omega | (simp; done) | (simp; omega)) _ | with_reducible refine bDrewN ?_ _ | with_reducible refine Below.drew ?_ | with_reducible refine Below.alloc ?_ (by first | omega | (simp; done) | (simp; omega)) _))).trans b4; have S4 : Beside r w1 w4 := S3.trans S34; have z4 := S34.2.2.2.1; (try (first | (have AY4 := HoldAt.beside AY3 S34 (by omega)) | (have AY4 : HoldAt w4 (w3.heap.size) false 0 0 0 := HoldAt.beside ⟨(by first | (simp; done) | (simp; omega) | fail), fun o => (by first | (simp [go_sem]; done) | fail), (by first | (simp [go_sem]; done) | fail), (by first | (simp [go_sem]; done) | fail), (by first | (simp [go_sem]; done) | fail), (by first | (simp [go_sem]; done) | fail)⟩ b4 (by omega)))); clear b4)
        | (go_at_call_of 31 (Value.int IntKind.i64 2000); refine (near_any (-2000) 2000 (by omega) (by omega) (by omega) (Rd.below' R4 (show Below (r + 1) w4 _ from (by repeat (first | with_reducible exact Below.refl _ _ | with_reducible refine Below.setCell ?_ (by first | omega | (simp; done) | (simp; omega)) _ | with_reducible refine bDrewN ?_ _ | with_reducible refine Below.drew ?_ | with_reducible refine Below.alloc ?_ (by first | omega | (simp; done) | (simp; omega)) _))))).mono ?_; rintro e w5 ⟨z, p5, rfl, za, zzb, R5, b5⟩; have S45 : Beside r w4 w5 := (Beside.of (by repeat (first | with_reducible exact Below.refl _ _ | with_reducible refine Below.setCell ?_ (by first | omega | (simp; done) | (simp; omega)) _ | with_reducible refine bDrewN ?_ _ | with_reducible refine Below.drew ?_ | with_reducible refine Below.alloc ?_ (by first | omega | (simp; done) | (simp; omega)) _))).trans b5; have S5 : Beside r w1 w5 := S4.trans S45; have z5 := S45.2.2.2.1; (try (first | (have AY5 := HoldAt.beside AY4 S45 (by omega)) | (have AY5 : HoldAt w5 (w4.heap.size) false 0 0 0 := HoldAt.beside ⟨(by first | (simp; done) | (simp; omega) | fail), fun o => (by first | (simp [go_sem]; done) | fail), (by first | (simp [go_sem]; done) | fail), (by first | (simp [go_sem]; done) | fail), (by first | (simp [go_sem]; done) | fail), (by first | (simp [go_sem]; done) | fail)⟩ b5 (by omega)))); obtain ⟨m, em⟩ : ∃ m, (if z < H then z else H) = m := ⟨_, rfl⟩; obtain ⟨oo, eo⟩ : ∃ oo, (if L < m then m else L) = oo := ⟨_, rfl⟩; clear b5; (try (obtain ⟨az, af, a0, a1, a2, a3⟩ := AY5; have af0 := af 0; have af1 := af 1; have af2 := af 2; have af3 := af 3)); skip))
      all_goals
        go_wp2_with fail
        go_meet
        case rel =>
          refine ⟨_, u, v, oo, p5, rfl, ?_, ?_, ?_, ?_, ?_, ?_, ?_, Rd.below' R5 (show Below (r + 1) w5 _ from (by repeat (first | with_reducible exact Below.refl _ _ | with_reducible refine Below.setCell ?_ (by first | omega | (simp; done) | (simp; omega)) _ | with_reducible refine bDrewN ?_ _ | with_reducible refine Below.drew ?_ | with_reducible refine Below.alloc ?_ (by first | omega | (simp; done) | (simp; omega)) _))), S5.on (show Below w1.heap.size w5 _ from (by repeat (first | with_reducible exact Below.refl _ _ | with_reducible refine Below.setCell ?_ (by first | omega | (simp; done) | (simp; omega)) _ | with_reducible refine bDrewN ?_ _ | with_reducible refine Below.drew ?_ | with_reducible refine Below.alloc ?_ (by first | omega | (simp; done) | (simp; omega)) _)))⟩
          all_goals first | omega | (simp [go_sem, *]; done) | (simp [go_sem, *, Nat.add_assoc]; done) | (simp; omega) | (simp [*]; omega) | (intro o; have := af o; simpa [go_sem] using this) | (intro o; simp [go_sem]; done)
    case rest =>
      obtain ⟨g, u, v, o, pC, rfl, gl, gz, gf, g0, g1, g2, g3, Rx, bx⟩ := hcut
      have RC : Hid (Rd wc r s n c pC) := Rx
      have SC : Hid (Beside r w wc) := S1.out.trans bx
      have LC : Hid (LoopAt wc w.heap.size P I D S L H B) := L1.out.beside bx (by omega)
      have AC : Hid (HoldAt wc (w.heap.size + 1) false 0 0 0) := A1.out.beside bx (by omega)
      have GC : Hid (HoldAt wc g true u v o) := ⟨gz, gf, g0, g1, g2, g3⟩
      have y1 : w.heap.size + 1 < w1.heap.size := A1.out.1
      clear Rx bx gz gf g0 g1 g2 g3 d4 d5 zb R1 S1 L1 A1
      go_wp2_with fail
      refine (below_any 20 RC.out).mono ?_
      rintro e w8 ⟨k, p8, rfl, k0, k1, k2, Rx, bx⟩
      have R8 : Hid (Rd w8 r s n c p8) := Rx
      have S8 : Hid (Beside r w w8) := SC.out.trans bx
      have L8 : Hid (LoopAt w8 w.heap.size P I D S L H B) := LC.out.beside bx (by omega)
      have A8 : Hid (HoldAt w8 (w.heap.size + 1) false 0 0 0) := AC.out.beside bx (by omega)
      have G8 : Hid (HoldAt w8 g true u v o) := GC.out.beside bx (by omega)
      clear Rx bx RC SC LC AC GC
      by_cases q0 : k = 0
      · subst q0
        go_wp2_with fail
        refine (off_any (-1000000000) 1000000000 (by omega) (by omega) (by omega) R8.out).mono ?_
        rintro e w9 ⟨x, p9, rfl, wx, Rx, bx⟩
        have R9 : Hid (Rd w9 r s n c p9) := Rx
        have S9 : Hid (Beside r w w9) := S8.out.trans bx
        have L9 : Hid (LoopAt w9 w.heap.size P I D S L H B) := L8.out.beside bx (by omega)
        have A9 : Hid (HoldAt w9 (w.heap.size + 1) false 0 0 0) := A8.out.beside bx (by omega)
        have G9 : Hid (HoldAt w9 g true u v o) := G8.out.beside bx (by omega)
        clear Rx bx R8 S8 L8 A8 G8
        obtain ⟨zl, -, -, -, -, -, l5, -⟩ := L9.out
        obtain ⟨za, fa, c0, c1, c2, c3⟩ := A9.out
        obtain ⟨zg, fg, e0, e1, e2, e3⟩ := G9.out
        have fa0 := fa 0
        have fg0 := fg 0
        have fa1 := fa 1
        have fg1 := fg 1
        have fa2 := fa 2
        have fg2 := fg 2
        have fa3 := fa 3
        have fg3 := fg 3
        have ne : ¬ g = w.heap.size + 1 := by omega
        have ne2 : ¬ g = w.heap.size := by omega
        clear fa fg
        go_wp2
        exact bodyPost_ret (v := .agg #[.bool true, .int .i64 x, .int .i64 v, .int .i64 o]) (by simp [results, Try.results30, go_sem, c0, c1, c2, c3]) rfl ⟨true, x, v, o, p9, rfl, Rd.below' R9.out (show Below (r + 1) w9 _ from (by repeat (first | with_reducible exact Below.refl _ _ | with_reducible refine Below.setCell ?_ (by first | omega | (simp; done) | (simp; omega)) _ | with_reducible refine bDrewN ?_ _ | with_reducible refine Below.drew ?_ | with_reducible refine Below.alloc ?_ (by first | omega | (simp; done) | (simp; omega)) _))), S9.out.on (show Below w.heap.size w9 _ from (by repeat (first | with_reducible exact Below.refl _ _ | with_reducible refine Below.setCell ?_ (by first | omega | (simp; done) | (simp; omega)) _ | with_reducible refine bDrewN ?_ _ | with_reducible refine Below.drew ?_ | with_reducible refine Below.alloc ?_ (by first | omega | (simp; done) | (simp; omega)) _)))⟩
      by_cases q1 : k = 1
      · subst q1
        obtain ⟨zl, -, -, -, -, -, l5, -⟩ := L8.out
        obtain ⟨za, fa, c0, c1, c2, c3⟩ := A8.out
        obtain ⟨zg, fg, e0, e1, e2, e3⟩ := G8.out
        have fa0 := fa 0
        have fg0 := fg 0
        have fa1 := fa 1
        have fg1 := fg 1
        have fa2 := fa 2
        have fg2 := fg 2
        have fa3 := fa 3
        have fg3 := fg 3
        have ne : ¬ g = w.heap.size + 1 := by omega
        have ne2 : ¬ g = w.heap.size := by omega
        clear fa fg
        go_wp2
        exact bodyPost_ret (v := .agg #[.bool true, .int .i64 u, .int .i64 v, .int .i64 (H + 1)]) (by simp [results, Try.results30, go_sem, c0, c1, c2, c3]) rfl ⟨true, u, v, (H + 1), p8, rfl, Rd.below' R8.out (show Below (r + 1) w8 _ from (by repeat (first | with_reducible exact Below.refl _ _ | with_reducible refine Below.setCell ?_ (by first | omega | (simp; done) | (simp; omega)) _ | with_reducible refine bDrewN ?_ _ | with_reducible refine Below.drew ?_ | with_reducible refine Below.alloc ?_ (by first | omega | (simp; done) | (simp; omega)) _))), S8.out.on (show Below w.heap.size w8 _ from (by repeat (first | with_reducible exact Below.refl _ _ | with_reducible refine Below.setCell ?_ (by first | omega | (simp; done) | (simp; omega)) _ | with_reducible refine bDrewN ?_ _ | with_reducible refine Below.drew ?_ | with_reducible refine Below.alloc ?_ (by first | omega | (simp; done) | (simp; omega)) _)))⟩
      by_cases q2 : k = 2
      · subst q2
        go_wp2_with fail
        refine (off_any (-2000000) 2000000 (by omega) (by omega) (by omega) R8.out).mono ?_
        rintro e w9 ⟨x, p9, rfl, wx, Rx, bx⟩
        have R9 : Hid (Rd w9 r s n c p9) := Rx
        have S9 : Hid (Beside r w w9) := S8.out.trans bx
        have L9 : Hid (LoopAt w9 w.heap.size P I D S L H B) := L8.out.beside bx (by omega)
        have A9 : Hid (HoldAt w9 (w.heap.size + 1) false 0 0 0) := A8.out.beside bx (by omega)
        have G9 : Hid (HoldAt w9 g true u v o) := G8.out.beside bx (by omega)
        clear Rx bx R8 S8 L8 A8 G8
        obtain ⟨zl, -, -, -, -, -, l5, -⟩ := L9.out
        obtain ⟨za, fa, c0, c1, c2, c3⟩ := A9.out
        obtain ⟨zg, fg, e0, e1, e2, e3⟩ := G9.out
        have fa0 := fa 0
        have fg0 := fg 0
        have fa1 := fa 1
        have fg1 := fg 1
        have fa2 := fa 2
        have fg2 := fg 2
        have fa3 := fa 3
        have fg3 := fg 3
        have ne : ¬ g = w.heap.size + 1 := by omega
        have ne2 : ¬ g = w.heap.size := by omega
        clear fa fg
        go_wp2
        exact bodyPost_ret (v := .agg #[.bool true, .int .i64 u, .int .i64 x, .int .i64 o]) (by simp [results, Try.results30, go_sem, c0, c1, c2, c3]) rfl ⟨true, u, x, o, p9, rfl, Rd.below' R9.out (show Below (r + 1) w9 _ from (by repeat (first | with_reducible exact Below.refl _ _ | with_reducible refine Below.setCell ?_ (by first | omega | (simp; done) | (simp; omega)) _ | with_reducible refine bDrewN ?_ _ | with_reducible refine Below.drew ?_ | with_reducible refine Below.alloc ?_ (by first | omega | (simp; done) | (simp; omega)) _))), S9.out.on (show Below w.heap.size w9 _ from (by repeat (first | with_reducible exact Below.refl _ _ | with_reducible refine Below.setCell ?_ (by first | omega | (simp; done) | (simp; omega)) _ | with_reducible refine bDrewN ?_ _ | with_reducible refine Below.drew ?_ | with_reducible refine Below.alloc ?_ (by first | omega | (simp; done) | (simp; omega)) _)))⟩
      have h0 : (k == 0) = false := by simpa using q0
      have h1 : (k == 1) = false := by simpa using q1
      have h2 : (k == 2) = false := by simpa using q2
      obtain ⟨zl, -, -, -, -, -, l5, -⟩ := L8.out
      obtain ⟨za, fa, c0, c1, c2, c3⟩ := A8.out
      obtain ⟨zg, fg, e0, e1, e2, e3⟩ := G8.out
      have fa0 := fa 0
      have fg0 := fg 0
      have fa1 := fa 1
      have fg1 := fg 1
      have fa2 := fa 2
      have fg2 := fg 2
      have fa3 := fa 3
      have fg3 := fg 3
      have ne : ¬ g = w.heap.size + 1 := by omega
      have ne2 : ¬ g = w.heap.size := by omega
      clear fa fg
      go_wp2
      exact bodyPost_ret (v := .agg #[.bool true, .int .i64 u, .int .i64 v, .int .i64 o]) (by simp [results, Try.results30, go_sem, c0, c1, c2, c3]) rfl ⟨true, u, v, o, p8, rfl, Rd.below' R8.out (show Below (r + 1) w8 _ from (by repeat (first | with_reducible exact Below.refl _ _ | with_reducible refine Below.setCell ?_ (by first | omega | (simp; done) | (simp; omega)) _ | with_reducible refine bDrewN ?_ _ | with_reducible refine Below.drew ?_ | with_reducible refine Below.alloc ?_ (by first | omega | (simp; done) | (simp; omega)) _))), S8.out.on (show Below w.heap.size w8 _ from (by repeat (first | with_reducible exact Below.refl _ _ | with_reducible refine Below.setCell ?_ (by first | omega | (simp; done) | (simp; omega)) _ | with_reducible refine bDrewN ?_ _ | with_reducible refine Below.drew ?_ | with_reducible refine Below.alloc ?_ (by first | omega | (simp; done) | (simp; omega)) _)))⟩
end Go.Proofs.Ytdpghhgfkhlliaa
