/-
What is proved: a battery that is drawn from a code, and what it is drawn with.
-/
import Derived.Test.YtdoekgnmbdekgaaRdO
import Derived.Test.YtdoekgnmbdekgaaRdC
import Derived.Test.YtdoekgnmbdekgaaBatI
import Derived.Deep.RegionHeld3
import Derived.Deep.DeepCutAuto
namespace Go.Proofs.Ytdoekgnmbdekgaa
set_option maxRecDepth 40000
open Go.RowKit
set_option linter.unusedVariables false
set_option linter.unusedSimpArgs false

theorem Beside.on {r : Nat} {w w1 w2 : World} (h : Beside r w w1) (b : Below w.heap.size w1 w2) : Beside r w w2 := by
  obtain ⟨h1, h2, h3, h4, h5⟩ := h
  exact ⟨b.os.trans h1, b.tape.trans h2, b.output.trans h3, Nat.le_trans h4 b.size, fun k hk hn => (b.block k hk).trans (h5 k hk hn)⟩
theorem BatAt.beside {w w' : World} {p r : Nat} {x0 x1 x2 x3 : Int} (h : BatAt w p x0 x1 x2 x3) (b : Beside r w w') (hp : p ≠ r) : BatAt w' p x0 x1 x2 x3 := by
  obtain ⟨h1, h2, c0, c1, c2, c3⟩ := h
  exact ⟨Nat.lt_of_lt_of_le h1 b.2.2.2.1, fun o => (b.frozen (p := ⟨p, o, none⟩) h1 hp).trans (h2 o), (b.cell (p := ⟨p, 0, none⟩) h1 hp).trans c0, (b.cell (p := ⟨p, 1, none⟩) h1 hp).trans c1, (b.cell (p := ⟨p, 2, none⟩) h1 hp).trans c2, (b.cell (p := ⟨p, 3, none⟩) h1 hp).trans c3⟩
theorem wrapB {x : Int} (h0 : -9223372036854775808 ≤ x) (h1 : x ≤ 9223372036854775807) : IntKind.i64.wrap x = x := by
  rw [IntKind.wrap_i64]; omega
theorem keepB1 {W W' : World} {r p i : Nat} {a : Value} (h : W.cell? ⟨p, i, none⟩ = some a) (hp : p < W.heap.size) (hr : p ≠ r) (b : Beside r W W') : W'.cell? ⟨p, i, none⟩ = some a := (b.cell (p := ⟨p, i, none⟩) hp hr).trans h
theorem BatAt.set1 {w : World} {p : Nat} {x0 x1 x2 x3 : Int} (h : BatAt w p x0 x1 x2 x3) (v : Int) : BatAt (w.setCell ⟨p, 1, none⟩ (.int .i64 v)) p x0 v x2 x3 := by
  obtain ⟨h1, h2, c0, c1, c2, c3⟩ := h
  refine ⟨by simpa using h1, fun o => by simp [go_sem, h2], ?_, ?_, ?_, ?_⟩
  all_goals simp [go_sem, c0, c1, c2, c3]
set_option maxRecDepth 20000 in
set_option maxHeartbeats 8000000 in
theorem battery_any {r : Nat} {s : Option Addr} {n c p : Nat} {w : World} (h : Hid (Rd w r s n c p)) :
    Calls Try.prog 37 #[.pointer (some ⟨r, 0, none⟩)] w fun e w' => ∃ C M G F p', e = .returned (.agg #[.int .i64 C, .int .i64 M, .int .i64 G, .int .i64 F]) ∧ Rd w' r s n c p' ∧ Beside r w w' := by
  have zr : r < w.heap.size := h.out.1
  go_enter Try.func37, Try.ntmps37
  go_upto_region 1 with fail
  obtain ⟨wd, hwd⟩ : ∃ wd, wd = w.alloc (.cells #[.int .i64 0, .int .i64 0, .int .i64 0, .int .i64 0] 34) := ⟨_, rfl⟩
  rw [← hwd]
  have B0 : Below w.heap.size w wd := by rw [hwd]; exact (by repeat (first | with_reducible exact Below.refl _ _ | with_reducible refine Below.setCell ?_ (by first | omega | (simp; done) | (simp; omega)) _ | with_reducible refine bDrewN ?_ _ | with_reducible refine Below.drew ?_ | with_reducible refine Below.alloc ?_ (by first | omega | (simp; done) | (simp; omega)) _))
  have A0 : Hid (BatAt wd w.heap.size 0 0 0 0) := by rw [hwd]; refine ⟨by simp, fun o => ?_, ?_, ?_, ?_, ?_⟩ <;> simp [go_sem]
  have R0 : Hid (Rd wd r s n c p) := h.out.below B0
  have S0 : Hid (Beside r w wd) := Beside.of B0
  clear hwd B0
  go_wp2_with fail
  refine (near_any 0 500 (by omega) (by omega) (by omega) R0.out).mono ?_
  rintro e w1 ⟨C, p1, rfl, Ca, Cb, Rx, bx⟩
  have R1 : Hid (Rd w1 r s n c p1) := Rx
  have S1 : Hid (Beside r w w1) := S0.out.trans bx
  have A1 : Hid (BatAt w1 w.heap.size 0 0 0 0) := A0.out.beside bx (by omega)
  clear Rx bx R0 S0 A0
  go_wp2_with fail
  refine (near_any 0 300 (by omega) (by omega) (by omega) R1.out).mono ?_
  rintro e w2 ⟨M, p2, rfl, Ma, Mb, Rx, bx⟩
  have R2 : Hid (Rd w2 r s n c p2) := Rx
  have S2 : Hid (Beside r w w2) := S1.out.trans bx
  have A2 : Hid (BatAt w2 w.heap.size 0 0 0 0) := A1.out.beside bx (by omega)
  clear Rx bx R1 S1 A1
  go_wp2_with fail
  refine (near_any 0 900 (by omega) (by omega) (by omega) R2.out).mono ?_
  rintro e w3 ⟨G, p3, rfl, Ga, Gb, Rx, bx⟩
  have R3 : Hid (Rd w3 r s n c p3) := Rx
  have S3 : Hid (Beside r w w3) := S2.out.trans bx
  have A3 : Hid (BatAt w3 w.heap.size 0 0 0 0) := A2.out.beside bx (by omega)
  clear Rx bx R2 S2 A2
  go_upto_region 3 with fail
  obtain ⟨we, hwe⟩ : ∃ we, we = (w3.alloc (.cells #[.int .i64 C, .int .i64 (500 + M), .int .i64 G, .int .i64 (C + G)] 34)) := ⟨_, rfl⟩
  (try rw [← hwe])
  have z3 : w.heap.size < w3.heap.size := A3.out.1
  have zr3 : r < w3.heap.size := R3.out.1
  have BE : Below w3.heap.size w3 we := by rw [hwe]; exact (by repeat (first | with_reducible exact Below.refl _ _ | with_reducible refine Below.setCell ?_ (by first | omega | (simp; done) | (simp; omega)) _ | with_reducible refine bDrewN ?_ _ | with_reducible refine Below.drew ?_ | with_reducible refine Below.alloc ?_ (by first | omega | (simp; done) | (simp; omega)) _))
  have RE : Hid (Rd we r s n c p3) := R3.out.below BE
  have SE : Hid (Beside r w we) := S3.out.trans (Beside.of BE)
  have AE : Hid (BatAt we w.heap.size 0 0 0 0) := A3.out.below BE
  have CE : Hid (BatAt we w3.heap.size C (500 + M) G (C + G)) := by rw [hwe]; refine ⟨by simp, fun o => ?_, ?_, ?_, ?_, ?_⟩ <;> simp [go_sem]
  clear hwe BE A3 R3 S3
  go_wp2_with fail
  refine (below_any 24 RE.out).mono ?_
  rintro e w8 ⟨k, p8, rfl, k0, k1, k2, Rx, bx⟩
  have R8 : Hid (Rd w8 r s n c p8) := Rx
  have S8 : Hid (Beside r w w8) := SE.out.trans bx
  have A8 : Hid (BatAt w8 w.heap.size 0 0 0 0) := AE.out.beside bx (by omega)
  have C8 : Hid (BatAt w8 w3.heap.size C (500 + M) G (C + G)) := CE.out.beside bx (by omega)
  clear Rx bx RE SE AE CE
  by_cases q0 : k = 0
  · subst q0
    obtain ⟨zq, fq, c0, c1, c2, c3⟩ := C8.out
    obtain ⟨zw, fw, a0, a1, a2, a3⟩ := A8.out
    have fq0 := fq 0
    have fw0 := fw 0
    have fq1 := fq 1
    have fw1 := fw 1
    have fq2 := fq 2
    have fw2 := fw 2
    have fq3 := fq 3
    have fw3 := fw 3
    have ne : ¬ w3.heap.size = w.heap.size := by omega
    clear fq fw
    go_wp2
    exact bodyPost_ret (v := .agg #[.int .i64 (C), .int .i64 (500 + M), .int .i64 (G), .int .i64 (C + G + 1)]) (by simp [results, Try.results37, go_sem, a0, a1, a2, a3]) rfl ⟨C, 500 + M, G, C + G + 1, p8, rfl, Rd.below' R8.out (show Below (r + 1) w8 _ from (by repeat (first | with_reducible exact Below.refl _ _ | with_reducible refine Below.setCell ?_ (by first | omega | (simp; done) | (simp; omega)) _ | with_reducible refine bDrewN ?_ _ | with_reducible refine Below.drew ?_ | with_reducible refine Below.alloc ?_ (by first | omega | (simp; done) | (simp; omega)) _))), S8.out.on (show Below w.heap.size w8 _ from (by repeat (first | with_reducible exact Below.refl _ _ | with_reducible refine Below.setCell ?_ (by first | omega | (simp; done) | (simp; omega)) _ | with_reducible refine bDrewN ?_ _ | with_reducible refine Below.drew ?_ | with_reducible refine Below.alloc ?_ (by first | omega | (simp; done) | (simp; omega)) _)))⟩
  by_cases q1 : k = 1
  · subst q1
    obtain ⟨zq, fq, c0, c1, c2, c3⟩ := C8.out
    obtain ⟨zw, fw, a0, a1, a2, a3⟩ := A8.out
    have fq0 := fq 0
    have fw0 := fw 0
    have fq1 := fq 1
    have fw1 := fw 1
    have fq2 := fq 2
    have fw2 := fw 2
    have fq3 := fq 3
    have fw3 := fw 3
    have ne : ¬ w3.heap.size = w.heap.size := by omega
    clear fq fw
    go_wp2
    exact bodyPost_ret (v := .agg #[.int .i64 (C), .int .i64 (C - 1), .int .i64 (G), .int .i64 (C + G)]) (by simp [results, Try.results37, go_sem, a0, a1, a2, a3]) rfl ⟨C, C - 1, G, C + G, p8, rfl, Rd.below' R8.out (show Below (r + 1) w8 _ from (by repeat (first | with_reducible exact Below.refl _ _ | with_reducible refine Below.setCell ?_ (by first | omega | (simp; done) | (simp; omega)) _ | with_reducible refine bDrewN ?_ _ | with_reducible refine Below.drew ?_ | with_reducible refine Below.alloc ?_ (by first | omega | (simp; done) | (simp; omega)) _))), S8.out.on (show Below w.heap.size w8 _ from (by repeat (first | with_reducible exact Below.refl _ _ | with_reducible refine Below.setCell ?_ (by first | omega | (simp; done) | (simp; omega)) _ | with_reducible refine bDrewN ?_ _ | with_reducible refine Below.drew ?_ | with_reducible refine Below.alloc ?_ (by first | omega | (simp; done) | (simp; omega)) _)))⟩
  by_cases q2 : k = 2
  · subst q2
    obtain ⟨zq, fq, c0, -, c2, -⟩ := C8.out
    have fq2 := fq 2
    have zr8 : r < w8.heap.size := R8.out.1
    have y3 : r < w3.heap.size := by omega
    have wa : IntKind.i64.wrap (1000000000000 - C) = 1000000000000 - C := wrapB (by omega) (by omega)
    clear fq
    go_wp2_with fail
    go_cut [] (fun wx => ∃ x p9, Rd wx r s n c p9 ∧ Beside r w wx ∧ BatAt wx w.heap.size 0 0 0 0 ∧ 0 ≤ x ∧ x ≤ 1000 ∧ BatAt wx w3.heap.size C (500 + M) (1000000000000 - C - x) (C + G))
    case first =>
      go_region_held3 (fun w' => w'.cell? ⟨w3.heap.size, 0, none⟩ = some (.int .i64 C)) (first | (simp [go_sem, d0]; done) | (refine keepB1 (r := r) c0 zq (by omega) (S9.on ?_); exact (by repeat (first | with_reducible exact Below.refl _ _ | with_reducible refine Below.setCell ?_ (by first | omega | (simp; done) | (simp; omega)) _ | with_reducible refine bDrewN ?_ _ | with_reducible refine Below.drew ?_ | with_reducible refine Below.alloc ?_ (by first | omega | (simp; done) | (simp; omega)) _))) | (refine keepB1 (r := r) c0 zq (by omega) (Beside.of ?_); exact (by repeat (first | with_reducible exact Below.refl _ _ | with_reducible refine Below.setCell ?_ (by first | omega | (simp; done) | (simp; omega)) _ | with_reducible refine bDrewN ?_ _ | with_reducible refine Below.drew ?_ | with_reducible refine Below.alloc ?_ (by first | omega | (simp; done) | (simp; omega)) _)))) (first
        | (go_at_call 43; refine (below_any 99 (Rd.below' R8.out (show Below (r + 1) w8 _ from (by repeat (first | with_reducible exact Below.refl _ _ | with_reducible refine Below.setCell ?_ (by first | omega | (simp; done) | (simp; omega)) _ | with_reducible refine bDrewN ?_ _ | with_reducible refine Below.drew ?_ | with_reducible refine Below.alloc ?_ (by first | omega | (simp; done) | (simp; omega)) _))))).mono ?_; rintro e w9 ⟨x, p9, rfl, x0, x1, x2, R9, b9⟩; have S9 : Beside r w8 w9 := (Beside.of (by repeat (first | with_reducible exact Below.refl _ _ | with_reducible refine Below.setCell ?_ (by first | omega | (simp; done) | (simp; omega)) _ | with_reducible refine bDrewN ?_ _ | with_reducible refine Below.drew ?_ | with_reducible refine Below.alloc ?_ (by first | omega | (simp; done) | (simp; omega)) _))).trans b9; have z9 := S9.2.2.2.1; have C9 := C8.out.beside S9 (by omega); have d0 := C9.2.2.1; have d2 := C9.2.2.2.2.1; have g2 := C9.2.1 2; have wb : IntKind.i64.wrap (1000000000000 - C - x) = 1000000000000 - C - x := wrapB (by omega) (by omega)))
      all_goals
        go_wp2_with fail
        go_meet
        case rel =>
          refine ⟨x, p9, Rd.below' R9 (show Below (r + 1) w9 _ from (by repeat (first | with_reducible exact Below.refl _ _ | with_reducible refine Below.setCell ?_ (by first | omega | (simp; done) | (simp; omega)) _ | with_reducible refine bDrewN ?_ _ | with_reducible refine Below.drew ?_ | with_reducible refine Below.alloc ?_ (by first | omega | (simp; done) | (simp; omega)) _))), (S8.out.trans S9).on (show Below w.heap.size w9 _ from (by repeat (first | with_reducible exact Below.refl _ _ | with_reducible refine Below.setCell ?_ (by first | omega | (simp; done) | (simp; omega)) _ | with_reducible refine bDrewN ?_ _ | with_reducible refine Below.drew ?_ | with_reducible refine Below.alloc ?_ (by first | omega | (simp; done) | (simp; omega)) _))), ?_, x0, by omega, ?_⟩
          · exact BatAt.beside (r := w3.heap.size) (A8.out.beside S9 (by omega)) (Beside.trans (Beside.setCell w3.heap.size w9 2 _) (Beside.of (by repeat (first | with_reducible exact Below.refl _ _ | with_reducible refine Below.setCell ?_ (by first | omega | (simp; done) | (simp; omega)) _ | with_reducible refine bDrewN ?_ _ | with_reducible refine Below.drew ?_ | with_reducible refine Below.alloc ?_ (by first | omega | (simp; done) | (simp; omega)) _)))) (by omega)
          · first | exact BatAt.below (BatAt.set2 C9 _) (by repeat (first | with_reducible exact Below.refl _ _ | with_reducible refine Below.setCell ?_ (by first | omega | (simp; done) | (simp; omega)) _ | with_reducible refine bDrewN ?_ _ | with_reducible refine Below.drew ?_ | with_reducible refine Below.alloc ?_ (by first | omega | (simp; done) | (simp; omega)) _)) | (simp only [wa, wb]; exact BatAt.below (BatAt.set2 C9 _) (by repeat (first | with_reducible exact Below.refl _ _ | with_reducible refine Below.setCell ?_ (by first | omega | (simp; done) | (simp; omega)) _ | with_reducible refine bDrewN ?_ _ | with_reducible refine Below.drew ?_ | with_reducible refine Below.alloc ?_ (by first | omega | (simp; done) | (simp; omega)) _))) | (rw [wa, wb]; exact BatAt.below (BatAt.set2 C9 _) (by repeat (first | with_reducible exact Below.refl _ _ | with_reducible refine Below.setCell ?_ (by first | omega | (simp; done) | (simp; omega)) _ | with_reducible refine bDrewN ?_ _ | with_reducible refine Below.drew ?_ | with_reducible refine Below.alloc ?_ (by first | omega | (simp; done) | (simp; omega)) _)))
    case rest =>
      obtain ⟨x, p9, Rx, bx, Ax, x0, x1, Cx⟩ := hcut
      have R9 : Hid (Rd wc r s n c p9) := Rx
      have S9 : Hid (Beside r w wc) := bx
      have A9 : Hid (BatAt wc w.heap.size 0 0 0 0) := Ax
      have C9 : Hid (BatAt wc w3.heap.size C (500 + M) (1000000000000 - C - x) (C + G)) := Cx
      clear Rx bx Ax Cx zq c0 c2 fq2 R8 S8 A8 C8
      obtain ⟨zq, fq, c0, c1, c2, c3⟩ := C9.out
      obtain ⟨zw, fw, a0, a1, a2, a3⟩ := A9.out
      have fq0 := fq 0
      have fw0 := fw 0
      have fq1 := fq 1
      have fw1 := fw 1
      have fq2 := fq 2
      have fw2 := fw 2
      have fq3 := fq 3
      have fw3 := fw 3
      have ne : ¬ w3.heap.size = w.heap.size := by omega
      clear fq fw
      go_wp2
      exact bodyPost_ret (v := .agg #[.int .i64 (C), .int .i64 (500 + M), .int .i64 (1000000000000 - C - x), .int .i64 (C + (1000000000000 - C - x))]) (by simp [results, Try.results37, go_sem, a0, a1, a2, a3]) rfl ⟨C, 500 + M, 1000000000000 - C - x, C + (1000000000000 - C - x), p9, rfl, Rd.below' R9.out (show Below (r + 1) wc _ from (by repeat (first | with_reducible exact Below.refl _ _ | with_reducible refine Below.setCell ?_ (by first | omega | (simp; done) | (simp; omega)) _ | with_reducible refine bDrewN ?_ _ | with_reducible refine Below.drew ?_ | with_reducible refine Below.alloc ?_ (by first | omega | (simp; done) | (simp; omega)) _))), S9.out.on (show Below w.heap.size wc _ from (by repeat (first | with_reducible exact Below.refl _ _ | with_reducible refine Below.setCell ?_ (by first | omega | (simp; done) | (simp; omega)) _ | with_reducible refine bDrewN ?_ _ | with_reducible refine Below.drew ?_ | with_reducible refine Below.alloc ?_ (by first | omega | (simp; done) | (simp; omega)) _)))⟩
  have e0 : (k == 0) = false := by simpa using q0
  have e1 : (k == 1) = false := by simpa using q1
  have e2 : (k == 2) = false := by simpa using q2
  obtain ⟨zq, fq, c0, c1, c2, c3⟩ := C8.out
  obtain ⟨zw, fw, a0, a1, a2, a3⟩ := A8.out
  have fq0 := fq 0
  have fw0 := fw 0
  have fq1 := fq 1
  have fw1 := fw 1
  have fq2 := fq 2
  have fw2 := fw 2
  have fq3 := fq 3
  have fw3 := fw 3
  have ne : ¬ w3.heap.size = w.heap.size := by omega
  clear fq fw
  go_wp2
  exact bodyPost_ret (v := .agg #[.int .i64 (C), .int .i64 (500 + M), .int .i64 (G), .int .i64 (C + G)]) (by simp [results, Try.results37, go_sem, a0, a1, a2, a3]) rfl ⟨C, 500 + M, G, C + G, p8, rfl, Rd.below' R8.out (show Below (r + 1) w8 _ from (by repeat (first | with_reducible exact Below.refl _ _ | with_reducible refine Below.setCell ?_ (by first | omega | (simp; done) | (simp; omega)) _ | with_reducible refine bDrewN ?_ _ | with_reducible refine Below.drew ?_ | with_reducible refine Below.alloc ?_ (by first | omega | (simp; done) | (simp; omega)) _))), S8.out.on (show Below w.heap.size w8 _ from (by repeat (first | with_reducible exact Below.refl _ _ | with_reducible refine Below.setCell ?_ (by first | omega | (simp; done) | (simp; omega)) _ | with_reducible refine bDrewN ?_ _ | with_reducible refine Below.drew ?_ | with_reducible refine Below.alloc ?_ (by first | omega | (simp; done) | (simp; omega)) _)))⟩
set_option maxRecDepth 20000 in
set_option maxHeartbeats 8000000 in
theorem drawBatteryStep_any {s : Option Addr} {n c : Nat} {w : World} (h : Hid (Code8 w s n)) :
    Calls Try.prog 21 #[.slice s n c] w fun e w' => ∃ C M G F l f, e = .returned (.tuple #[.agg #[.int .i64 C, .int .i64 M, .int .i64 G, .int .i64 F], .int .i64 l, .int .i64 f]) ∧ Below w.heap.size w w' := by
  go_enter Try.func21, Try.ntmps21
  go_upto_region 1 with fail
  obtain ⟨wd, hwd⟩ : ∃ wd, wd = w.alloc (.cells #[.int .i64 0, .int .i64 0, .int .i64 0, .int .i64 0] 34) := ⟨_, rfl⟩
  rw [← hwd]
  have B0 : Below w.heap.size w wd := by rw [hwd]; exact (by repeat (first | with_reducible exact Below.refl _ _ | with_reducible refine Below.setCell ?_ (by first | omega | (simp; done) | (simp; omega)) _ | with_reducible refine bDrewN ?_ _ | with_reducible refine Below.drew ?_ | with_reducible refine Below.alloc ?_ (by first | omega | (simp; done) | (simp; omega)) _))
  have ed : wd.heap.size = w.heap.size + 1 := by rw [hwd]; simp
  have A0 : Hid (BatAt wd w.heap.size 0 0 0 0) := by rw [hwd]; refine ⟨by simp, fun o => ?_, ?_, ?_, ?_, ?_⟩ <;> simp [go_sem]
  clear hwd
  have HC0 : Hid (Code8 wd s n) := h.out.below B0
  go_wp2_with fail
  refine (open_any HC0).mono ?_
  rintro e w1 ⟨rfl, R1x, b1⟩
  have R1 : Hid (Rd w1 wd.heap.size s n c 0) := R1x
  have A1 : Hid (BatAt w1 w.heap.size 0 0 0 0) := A0.out.below b1
  have B1 : Hid (Below w.heap.size w w1) := B0.trans (b1.mono B0.size)
  clear R1x b1 A0 B0
  obtain ⟨r, hr⟩ : ∃ r, r = wd.heap.size := ⟨_, rfl⟩
  rw [← hr] at R1 ed ⊢
  have er : w.heap.size < r := by omega
  clear hr ed
  go_wp2_with fail
  refine (battery_any R1.out).mono ?_
  rintro e w2 ⟨C, M, G, F, p2, rfl, Rx, bx⟩
  have R2 : Hid (Rd w2 r s n c p2) := Rx
  have A2 : Hid (BatAt w2 w.heap.size 0 0 0 0) := A1.out.beside bx (by omega)
  have B2 : Hid (Below w.heap.size w w2) := B1.out.trans (bx.below (by omega) B1.out.size)
  clear Rx bx R1 A1 B1
  go_wp2_with fail
  refine (off_any 0 300 (by omega) (by omega) (by omega) R2.out).mono ?_
  rintro e w3 ⟨l, p3, rfl, wl, Rx, bx⟩
  have R3 : Hid (Rd w3 r s n c p3) := Rx
  have A3 : Hid (BatAt w3 w.heap.size 0 0 0 0) := A2.out.beside bx (by omega)
  have B3 : Hid (Below w.heap.size w w3) := B2.out.trans (bx.below (by omega) B2.out.size)
  clear Rx bx R2 A2 B2
  go_wp2_with fail
  refine (off_any 0 300 (by omega) (by omega) (by omega) R3.out).mono ?_
  rintro e w4 ⟨f, p4, rfl, wf, Rx, bx⟩
  have B4 : Below w.heap.size w w4 := B3.out.trans (bx.below (by omega) B3.out.size)
  obtain ⟨zw, fw, a0, a1, a2, a3⟩ := A3.out.beside bx (by omega)
  have fw0 := fw 0
  have fw1 := fw 1
  have fw2 := fw 2
  have fw3 := fw 3
  clear Rx bx R3 A3 B3 fw
  go_wp2
  exact bodyPost_ret (v := .tuple #[.agg #[.int .i64 C, .int .i64 M, .int .i64 G, .int .i64 F], .int .i64 l, .int .i64 f]) (by simp [results, Try.results21, go_sem, a0, a1, a2, a3]) rfl ⟨C, M, G, F, l, f, rfl, (by repeat (first | with_reducible exact Below.refl _ _ | with_reducible exact B4 | with_reducible refine Below.setCell ?_ (by first | omega | (simp; done) | (simp; omega)) _ | with_reducible refine bDrewN ?_ _ | with_reducible refine Below.drew ?_ | with_reducible refine Below.alloc ?_ (by first | omega | (simp; done) | (simp; omega)) _))⟩
end Go.Proofs.Ytdoekgnmbdekgaa
