/-
What is proved: at every list of steps, every stand and every tick impl.SeqStep answers as the specification's SeqStep and leaves the list as it was; no condition.
-/
import Derived.Test.YtencmnjkkkhngaaSq
import Derived.Test.YtencmnjkkkhngaaPlnE
import Derived.Test.YtencmnjkkkhngaaSqt
import Derived.Deep.RegionHeld3
import Derived.Deep.DeepCutAuto
namespace Go.Proofs.Ytencmnjkkkhngaa
set_option maxRecDepth 40000
open Go.ChangeShapes Go.WideShapes Go.ChangeAt Go.RowKit
set_option linter.unusedVariables false
set_option linter.unusedSimpArgs false

set_option maxHeartbeats 400000 in
theorem seqStep_far (s : Option Addr) (n c : Nat) (a t S : Int) (H : Bool) (w : World) (hf : 1048576 < (n : Int)) (hf2 : (n : Int) ≤ 9223372036854775807) : Calls Try.prog 4 #[.slice s n c, .agg #[.int .i64 a, .int .i64 t], .agg #[.int .i64 S, .bool H]] w fun e w' => e = .returned (.bool true) ∧ Below w.heap.size w w' := by
  go_enter Try.func4, Try.ntmps4
  go_wp2_with fail
  refine (szStepS_off _ n _ _ _ (by omega) (by omega) hf hf2).mono ?_
  rintro e w1 ⟨rfl, rfl⟩
  go_wp2
  go_ret
  exact ⟨rfl, (by repeat (first | with_reducible exact Below.refl _ _ | with_reducible refine Below.setCell ?_ (by first | omega | (simp; done) | (simp; omega)) _ | with_reducible refine bDrewN ?_ _ | with_reducible refine Below.drew ?_ | with_reducible refine Below.alloc ?_ (by first | omega | (simp; done) | (simp; omega)) _))⟩
theorem toStepS_b (s : Option Addr) (n c : Nat) (V : Nat → Int) (w : World) (hn : (n : Int) ≤ 1048576) (HR : Hid (RowI w s (n * 5) V)) :
    Calls Try.prog 9 #[.slice s n c] w fun e w' => ∃ b, e = .returned (.slice (some ⟨b, 0, none⟩) n n) ∧ RowI w' (some ⟨b, 0, none⟩) (n * 5) V ∧ Below w.heap.size w w' :=
  (toStepS_any s n c V w hn HR).mono fun e w' ⟨h1, _, h2, h3⟩ => ⟨_, h1, h2.row, h3⟩
theorem keepS4 {W W' : World} {p q : Nat} {v0 v1 v2 v3 : Value} (h0 : W.cell? ⟨p, 0, none⟩ = some v0) (h1 : W.cell? ⟨p, 1, none⟩ = some v1) (h2 : W.cell? ⟨q, 0, none⟩ = some v2) (h3 : W.cell? ⟨q, 1, none⟩ = some v3) (zp : p < W.heap.size) (zq : q < W.heap.size) (hb : Below W.heap.size W W') : W'.cell? ⟨p, 0, none⟩ = some v0 ∧ W'.cell? ⟨p, 1, none⟩ = some v1 ∧ W'.cell? ⟨q, 0, none⟩ = some v2 ∧ W'.cell? ⟨q, 1, none⟩ = some v3 :=
  ⟨(hb.cell (p := ⟨p, 0, none⟩) zp).trans h0, (hb.cell (p := ⟨p, 1, none⟩) zp).trans h1, (hb.cell (p := ⟨q, 0, none⟩) zq).trans h2, (hb.cell (p := ⟨q, 1, none⟩) zq).trans h3⟩
set_option maxRecDepth 20000 in
set_option maxHeartbeats 40000000 in
theorem seqStep_law (s : Option Addr) (n c : Nat) (V : Nat → Int) (a t S : Int) (H : Bool) (y0 y1 : Int) (ok : Bool) (w : World) (hn : (n : Int) ≤ 1048576) (HR : Hid (RowI w s (n * 5) V))
    (H1 : Hid (∀ (s : Option Addr) (c : Nat) (w : World), Hid (RowI w s (n * 5) V) → Calls Try.prog 12 #[.slice s n c, .agg #[.int .i64 a, .int .i64 t], .agg #[.int .i64 S, .bool H]] w fun e w' => e = .returned (.tuple #[.agg #[.int .i64 y0, .int .i64 y1], .bool ok]) ∧ Below w.heap.size w w'))
    (H2 : Hid (∀ (s : Option Addr) (c : Nat) (w : World), Hid (RowI w s (n * 5) V) → Calls Try.prog 15 #[.slice s n c, .agg #[.int .i64 a, .int .i64 t], .agg #[.int .i64 S, .bool H]] w fun e w' => e = .returned (.tuple #[.agg #[.int .i64 y0, .int .i64 y1], .bool ok]) ∧ Below w.heap.size w w')) :
    Calls Try.prog 4 #[.slice s n c, .agg #[.int .i64 a, .int .i64 t], .agg #[.int .i64 S, .bool H]] w fun e w' => e = .returned (.bool true) ∧ Below w.heap.size w w' := by
  go_enter Try.func4, Try.ntmps4
  go_wp2_with fail
  refine (szStepS_on _ n _ _ _ (by omega) (by omega) (by omega)).mono ?_
  rintro e w1 ⟨rfl, rfl⟩
  go_upto_region 5 with fail
  obtain ⟨wd, hwd⟩ : ∃ wd, wd = ((w.alloc (.cells #[.int .i64 a, .int .i64 t] 30)).alloc (.cells #[.int .i64 S, .bool H] 32)) := ⟨_, rfl⟩
  rw [← hwd]
  have c0 : wd.cell? ⟨w.heap.size, 0, none⟩ = some (.int .i64 a) := by rw [hwd]; simp [go_sem]
  have c1 : wd.cell? ⟨w.heap.size, 1, none⟩ = some (.int .i64 t) := by rw [hwd]; simp [go_sem]
  have c2 : wd.cell? ⟨w.heap.size + 1, 0, none⟩ = some (.int .i64 S) := by rw [hwd]; simp [go_sem]
  have c3 : wd.cell? ⟨w.heap.size + 1, 1, none⟩ = some (.bool H) := by rw [hwd]; simp [go_sem]
  have z0 : w.heap.size < wd.heap.size := by rw [hwd]; simp; omega
  have z1 : w.heap.size + 1 < wd.heap.size := by rw [hwd]; simp
  have B0 : Below w.heap.size w wd := by rw [hwd]; exact (by repeat (first | with_reducible exact Below.refl _ _ | with_reducible refine Below.setCell ?_ (by first | omega | (simp; done) | (simp; omega)) _ | with_reducible refine bDrewN ?_ _ | with_reducible refine Below.drew ?_ | with_reducible refine Below.alloc ?_ (by first | omega | (simp; done) | (simp; omega)) _))
  have s0 := B0.size
  have HB : Hid (Below w.heap.size w wd) := B0
  clear hwd
  go_cut [8, 9] (fun x y wx => ∃ p : Nat, x = .pointer (some ⟨p, 0, none⟩) ∧ y = .bool ok ∧ p < wx.heap.size ∧ wx.cell? ⟨p, 0, none⟩ = some (.int .i64 y0) ∧ wx.cell? ⟨p, 1, none⟩ = some (.int .i64 y1) ∧ Below wd.heap.size wd wx)
  case first =>
    go_region_held3 (fun w' => w'.cell? ⟨w.heap.size, 0, none⟩ = some (.int .i64 a) ∧ w'.cell? ⟨w.heap.size, 1, none⟩ = some (.int .i64 t) ∧ w'.cell? ⟨w.heap.size + 1, 0, none⟩ = some (.int .i64 S) ∧ w'.cell? ⟨w.heap.size + 1, 1, none⟩ = some (.bool H)) (first | (refine keepS4 c0 c1 c2 c3 z0 z1 ?_; exact (by repeat (first | with_reducible exact Below.refl _ _ | with_reducible exact B3 | with_reducible exact BY | with_reducible refine Below.setCell ?_ (by first | omega | (simp; done) | (simp; omega)) _ | with_reducible refine bDrewN ?_ _ | with_reducible refine Below.drew ?_ | with_reducible refine Below.alloc ?_ (by first | omega | (simp; done) | (simp; omega)) _)))) (first
      | (go_at_call 9; refine (toStepS_b _ n _ V _ hn (HR.out.below (HB.out.trans (Below.mono (by repeat (first | with_reducible exact Below.refl _ _ | with_reducible refine Below.setCell ?_ (by first | omega | (simp; done) | (simp; omega)) _ | with_reducible refine bDrewN ?_ _ | with_reducible refine Below.drew ?_ | with_reducible refine Below.alloc ?_ (by first | omega | (simp; done) | (simp; omega)) _)) HB.out.size)))).mono ?_; rintro e wy ⟨bY, rfl, OY, hy⟩; have BY : Below wd.heap.size wd wy := Below.trans (by repeat (first | with_reducible exact Below.refl _ _ | with_reducible refine Below.setCell ?_ (by first | omega | (simp; done) | (simp; omega)) _ | with_reducible refine bDrewN ?_ _ | with_reducible refine Below.drew ?_ | with_reducible refine Below.alloc ?_ (by first | omega | (simp; done) | (simp; omega)) _)) (hy.mono (by first | omega | (simp; done) | (simp; omega))); have sY := BY.size; (try (first | (with_reducible have PZ0 := PzAt.below PzAt.new6 hy) | (with_reducible have PZ0 := PzAt.below (PzAt.al3 PzAt.new3) hy) | (with_reducible have PZ0 := PzAt.below PzAt.new3 hy) | (with_reducible have PZ0 := PzAt.below (PzAt.al6 PzAt.new0) hy) | (with_reducible have PZ0 := PzAt.below (PzAt.al3 PzAt.new0) hy) | (with_reducible have PZ0 := PzAt.below PzAt.new0 hy) | (with_reducible have PZ0 := PzAt.below (PzAt.drew PzAt.new6) hy) | (with_reducible have PZ0 := PzAt.below (PzAt.drew (PzAt.al3 PzAt.new3)) hy) | (with_reducible have PZ0 := PzAt.below (PzAt.drew PzAt.new3) hy) | (with_reducible have PZ0 := PzAt.below (PzAt.drew (PzAt.al6 PzAt.new0)) hy) | (with_reducible have PZ0 := PzAt.below (PzAt.drew (PzAt.al3 PzAt.new0)) hy) | (with_reducible have PZ0 := PzAt.below (PzAt.drew PzAt.new0) hy))); have RY : Hid (RowI wy (some ⟨bY, 0, none⟩) (n * 5) V) := OY; clear OY hy)
      | (go_at_call 13; refine (toStand_is a t _).mono ?_; rintro e wa ⟨rfl, rfl⟩)
      | (go_at_call 14; refine (toTick_is S H _).mono ?_; rintro e wb ⟨rfl, rfl⟩)
      | (go_at_call 12; refine (H1.out _ _ _ (RY.out.below (by repeat (first | with_reducible exact Below.refl _ _ | with_reducible refine Below.setCell ?_ (by first | omega | (simp; done) | (simp; omega)) _ | with_reducible refine bDrewN ?_ _ | with_reducible refine Below.drew ?_ | with_reducible refine Below.alloc ?_ (by first | omega | (simp; done) | (simp; omega)) _)))).mono ?_; rintro e w3 ⟨rfl, h3⟩; have B3 : Below wd.heap.size wd w3 := Below.trans (by repeat (first | with_reducible exact Below.refl _ _ | with_reducible exact BY | with_reducible refine Below.setCell ?_ (by first | omega | (simp; done) | (simp; omega)) _ | with_reducible refine bDrewN ?_ _ | with_reducible refine Below.drew ?_ | with_reducible refine Below.alloc ?_ (by first | omega | (simp; done) | (simp; omega)) _)) (h3.mono (by first | omega | (simp; done) | (simp; omega))); have s3 := B3.size; (try (first | (with_reducible have PZ3 := PzAt.below PZ0 h3) | (with_reducible have PZ3 := PzAt.below (PzAt.al3 PZ0) h3) | (with_reducible have PZ3 := PzAt.below (PzAt.al6 PZ0) h3) | (with_reducible have PZ3 := PzAt.below PzAt.new6 h3) | (with_reducible have PZ3 := PzAt.below (PzAt.al3 PzAt.new3) h3) | (with_reducible have PZ3 := PzAt.below PzAt.new3 h3) | (with_reducible have PZ3 := PzAt.below (PzAt.al6 PzAt.new0) h3) | (with_reducible have PZ3 := PzAt.below (PzAt.al3 PzAt.new0) h3) | (with_reducible have PZ3 := PzAt.below PzAt.new0 h3) | (with_reducible have PZ3 := PzAt.below (PzAt.drew PZ0) h3) | (with_reducible have PZ3 := PzAt.below (PzAt.drew (PzAt.al3 PZ0)) h3) | (with_reducible have PZ3 := PzAt.below (PzAt.drew (PzAt.al6 PZ0)) h3) | (with_reducible have PZ3 := PzAt.below (PzAt.drew PzAt.new6) h3) | (with_reducible have PZ3 := PzAt.below (PzAt.drew (PzAt.al3 PzAt.new3)) h3) | (with_reducible have PZ3 := PzAt.below (PzAt.drew PzAt.new3) h3) | (with_reducible have PZ3 := PzAt.below (PzAt.drew (PzAt.al6 PzAt.new0)) h3) | (with_reducible have PZ3 := PzAt.below (PzAt.drew (PzAt.al3 PzAt.new0)) h3) | (with_reducible have PZ3 := PzAt.below (PzAt.drew PzAt.new0) h3))); (try (obtain ⟨pz0, pz1, pz2, pz3, pz4⟩ := PZ3)); clear h3))
    all_goals
      go_wp2_with fail
      go_meet
      case rel =>
        refine ⟨_, rfl, rfl, ?_, ?_, ?_, (by repeat (first | with_reducible exact Below.refl _ _ | with_reducible exact B3 | with_reducible refine Below.setCell ?_ (by first | omega | (simp; done) | (simp; omega)) _ | with_reducible refine bDrewN ?_ _ | with_reducible refine Below.drew ?_ | with_reducible refine Below.alloc ?_ (by first | omega | (simp; done) | (simp; omega)) _))⟩
        all_goals first | omega | (simp [go_sem, *]; done) | (simp; omega) | (simp [*]; omega)
  case rest =>
    obtain ⟨p, rfl, rfl, lp, p0, p1, hB⟩ := hcut
    rename World => wc
    replace c0 := (hB.cell (p := ⟨w.heap.size, 0, none⟩) z0).trans c0
    replace c1 := (hB.cell (p := ⟨w.heap.size, 1, none⟩) z0).trans c1
    replace c2 := (hB.cell (p := ⟨w.heap.size + 1, 0, none⟩) z1).trans c2
    replace c3 := (hB.cell (p := ⟨w.heap.size + 1, 1, none⟩) z1).trans c3
    replace z0 := Nat.lt_of_lt_of_le z0 hB.size
    replace z1 := Nat.lt_of_lt_of_le z1 hB.size
    replace B0 : Below w.heap.size w wc := B0.trans (hB.mono s0)
    replace s0 := B0.size
    clear hB HB
    go_wp2_with fail
    refine (toStepS_b _ n _ V _ hn (HR.out.below B0)).mono ?_
    rintro e w4 ⟨bX, rfl, OX, h4⟩
    replace c0 := (h4.cell (p := ⟨w.heap.size, 0, none⟩) z0).trans c0
    replace c1 := (h4.cell (p := ⟨w.heap.size, 1, none⟩) z0).trans c1
    replace c2 := (h4.cell (p := ⟨w.heap.size + 1, 0, none⟩) z1).trans c2
    replace c3 := (h4.cell (p := ⟨w.heap.size + 1, 1, none⟩) z1).trans c3
    replace p0 := (h4.cell (p := ⟨p, 0, none⟩) lp).trans p0
    replace p1 := (h4.cell (p := ⟨p, 1, none⟩) lp).trans p1
    replace lp := Nat.lt_of_lt_of_le lp h4.size
    replace z0 := Nat.lt_of_lt_of_le z0 h4.size
    replace z1 := Nat.lt_of_lt_of_le z1 h4.size
    replace B0 : Below w.heap.size w w4 := B0.trans (h4.mono s0)
    replace s0 := B0.size
    have RX : Hid (RowI w4 (some ⟨bX, 0, none⟩) (n * 5) V) := OX
    clear OX h4
    have HPP : Hid (p < w4.heap.size ∧ w4.cell? ⟨p, 0, none⟩ = some (.int .i64 y0) ∧ w4.cell? ⟨p, 1, none⟩ = some (.int .i64 y1)) := ⟨lp, p0, p1⟩
    clear lp p0 p1
    go_upto_region 7 with fail
    go_cut [11, 12] (fun x y wx => ∃ p : Nat, x = .pointer (some ⟨p, 0, none⟩) ∧ y = .bool ok ∧ p < wx.heap.size ∧ wx.cell? ⟨p, 0, none⟩ = some (.int .i64 y0) ∧ wx.cell? ⟨p, 1, none⟩ = some (.int .i64 y1) ∧ Below w4.heap.size w4 wx)
    case first =>
      go_region_held3 (fun w' => w'.cell? ⟨w.heap.size, 0, none⟩ = some (.int .i64 a) ∧ w'.cell? ⟨w.heap.size, 1, none⟩ = some (.int .i64 t) ∧ w'.cell? ⟨w.heap.size + 1, 0, none⟩ = some (.int .i64 S) ∧ w'.cell? ⟨w.heap.size + 1, 1, none⟩ = some (.bool H)) (first | (refine keepS4 c0 c1 c2 c3 z0 z1 ?_; exact (by repeat (first | with_reducible exact Below.refl _ _ | with_reducible exact B3 | with_reducible refine Below.setCell ?_ (by first | omega | (simp; done) | (simp; omega)) _ | with_reducible refine bDrewN ?_ _ | with_reducible refine Below.drew ?_ | with_reducible refine Below.alloc ?_ (by first | omega | (simp; done) | (simp; omega)) _)))) (first
        | (go_at_call 13; refine (toStand_is a t _).mono ?_; rintro e wa ⟨rfl, rfl⟩)
        | (go_at_call 14; refine (toTick_is S H _).mono ?_; rintro e wb ⟨rfl, rfl⟩)
        | (go_at_call 15; refine (H2.out _ _ _ (RX.out.below (by repeat (first | with_reducible exact Below.refl _ _ | with_reducible refine Below.setCell ?_ (by first | omega | (simp; done) | (simp; omega)) _ | with_reducible refine bDrewN ?_ _ | with_reducible refine Below.drew ?_ | with_reducible refine Below.alloc ?_ (by first | omega | (simp; done) | (simp; omega)) _)))).mono ?_; rintro e w3 ⟨rfl, h3⟩; have B3 : Below w4.heap.size w4 w3 := Below.trans (by repeat (first | with_reducible exact Below.refl _ _ | with_reducible refine Below.setCell ?_ (by first | omega | (simp; done) | (simp; omega)) _ | with_reducible refine bDrewN ?_ _ | with_reducible refine Below.drew ?_ | with_reducible refine Below.alloc ?_ (by first | omega | (simp; done) | (simp; omega)) _)) (h3.mono (by first | omega | (simp; done) | (simp; omega))); have s3 := B3.size; have s3b := h3.size; (try simp at s3b); obtain ⟨hc3, hf3⟩ := bcell h3; (try (have sa0 : w4.heap.size < w3.heap.size := (by omega); have ca0_0 := hc3 (w4.heap.size) 0 (by first | omega | (simp; done) | (simp; omega)); have fa0_0 := hf3 (w4.heap.size) 0 (by first | omega | (simp; done) | (simp; omega)); have ca0_1 := hc3 (w4.heap.size) 1 (by first | omega | (simp; done) | (simp; omega)); have fa0_1 := hf3 (w4.heap.size) 1 (by first | omega | (simp; done) | (simp; omega)); simp (maxDischargeDepth := 12) [go_sem] at ca0_0 fa0_0 ca0_1 fa0_1)); (try (have sa1 : w4.heap.size + 1 + 1 + 1 < w3.heap.size := (by omega); have ca1_0 := hc3 (w4.heap.size + 1 + 1 + 1) 0 (by first | omega | (simp; done) | (simp; omega)); have fa1_0 := hf3 (w4.heap.size + 1 + 1 + 1) 0 (by first | omega | (simp; done) | (simp; omega)); have ca1_1 := hc3 (w4.heap.size + 1 + 1 + 1) 1 (by first | omega | (simp; done) | (simp; omega)); have fa1_1 := hf3 (w4.heap.size + 1 + 1 + 1) 1 (by first | omega | (simp; done) | (simp; omega)); simp (maxDischargeDepth := 12) [go_sem] at ca1_0 fa1_0 ca1_1 fa1_1)); (try (have sa2 : w4.heap.size + 1 + 1 + 1 + 1 + 1 + 1 < w3.heap.size := (by omega); have ca2_0 := hc3 (w4.heap.size + 1 + 1 + 1 + 1 + 1 + 1) 0 (by first | omega | (simp; done) | (simp; omega)); have fa2_0 := hf3 (w4.heap.size + 1 + 1 + 1 + 1 + 1 + 1) 0 (by first | omega | (simp; done) | (simp; omega)); have ca2_1 := hc3 (w4.heap.size + 1 + 1 + 1 + 1 + 1 + 1) 1 (by first | omega | (simp; done) | (simp; omega)); have fa2_1 := hf3 (w4.heap.size + 1 + 1 + 1 + 1 + 1 + 1) 1 (by first | omega | (simp; done) | (simp; omega)); simp (maxDischargeDepth := 12) [go_sem] at ca2_0 fa2_0 ca2_1 fa2_1)); clear hc3 hf3; clear h3))
      all_goals
        go_wp2_with fail
        go_meet
        case rel =>
          refine ⟨_, rfl, rfl, ?_, ?_, ?_, (by repeat (first | with_reducible exact Below.refl _ _ | with_reducible exact B3 | with_reducible refine Below.setCell ?_ (by first | omega | (simp; done) | (simp; omega)) _ | with_reducible refine bDrewN ?_ _ | with_reducible refine Below.drew ?_ | with_reducible refine Below.alloc ?_ (by first | omega | (simp; done) | (simp; omega)) _))⟩
          all_goals first | omega | (simp [go_sem, *]; done) | (simp; omega) | (simp [*]; omega)
    case rest =>
      obtain ⟨r, rfl, rfl, lr, r0, r1, hB⟩ := hcut
      rename World => w5
      obtain ⟨lp, p0, p1⟩ := HPP.out
      have RX5 : Hid (RowI w5 (some ⟨bX, 0, none⟩) (n * 5) V) := RX.out.below hB
      replace c0 := (hB.cell (p := ⟨w.heap.size, 0, none⟩) z0).trans c0
      replace c1 := (hB.cell (p := ⟨w.heap.size, 1, none⟩) z0).trans c1
      replace c2 := (hB.cell (p := ⟨w.heap.size + 1, 0, none⟩) z1).trans c2
      replace c3 := (hB.cell (p := ⟨w.heap.size + 1, 1, none⟩) z1).trans c3
      replace p0 := (hB.cell (p := ⟨p, 0, none⟩) lp).trans p0
      replace p1 := (hB.cell (p := ⟨p, 1, none⟩) lp).trans p1
      replace lp := Nat.lt_of_lt_of_le lp hB.size
      replace z0 := Nat.lt_of_lt_of_le z0 hB.size
      replace z1 := Nat.lt_of_lt_of_le z1 hB.size
      replace B0 : Below w.heap.size w w5 := B0.trans (hB.mono s0)
      replace s0 := B0.size
      clear hB RX c0 c1 c2 c3
      go_wp2_with fail
      refine (eqStand_any y0 y1 _).mono ?_
      rintro e w6 ⟨rfl, h6⟩
      have RX6 : Hid (RowI w6 (some ⟨bX, 0, none⟩) (n * 5) V) := RX5.out.below h6
      replace B0 : Below w.heap.size w w6 := B0.trans (h6.mono s0)
      clear h6 s0 RX5
      cases ok
      all_goals
        go_wp2_with fail
        refine (toStepS_any _ n _ V _ hn (HR.out.below B0)).mono ?_
        rintro e w7 ⟨rfl, zv, OV, h7⟩
        have RX7 : Hid (RowI w7 (some ⟨bX, 0, none⟩) (n * 5) V) := RX6.out.below h7
        have B7 : Below w.heap.size w w7 := B0.trans (h7.mono B0.size)
        have RV : Hid (RowI w7 (some ⟨w6.heap.size, 0, none⟩) (n * 5) V) := OV.row
        clear h7 OV
        go_wp2_with fail
        refine (eqStepS_any _ _ n _ _ V _ hn RX7.out RV.out).mono ?_
        rintro e w8 ⟨rfl, h8⟩
        have B8 : Below w.heap.size w w8 := B7.trans (h8.mono B7.size)
        go_wp2
        go_ret
        exact ⟨rfl, B8⟩

theorem fnExactSeqStep_walk (w : World) (s0 : Option Addr) (n0 c0 : Nat) (V0 : Nat → Int) (m0 : n0 ≤ 9223372036854775807) (R0 : RowI w s0 (n0 * 5) V0) (a1_0 : Int) (w1_0 : (Lit.int .i64 a1_0).wf = true) (a1_1 : Int) (w1_1 : (Lit.int .i64 a1_1).wf = true) (a2_0 : Int) (w2_0 : (Lit.int .i64 a2_0).wf = true) (a2_1 : Bool) :
    Calls Try.prog 4 #[.slice s0 n0 c0, .agg #[.int .i64 a1_0, .int .i64 a1_1], .agg #[.int .i64 a2_0, .bool a2_1]] w fun e w' => e = .returned (.bool true) ∧ Below w.heap.size w w' := by
  by_cases h0 : (n0 : Int) ≤ 1048576
  · exact seqStep_law s0 n0 c0 V0 a1_0 a1_1 a2_0 a2_1 _ _ _ w h0 R0 (fun s c w q => specSeqStep_any s n0 c V0 a1_0 a1_1 a2_0 a2_1 w h0 q) (fun s c w q => implSeqStep_any s n0 c V0 a1_0 a1_1 a2_0 a2_1 w h0 q)
  · exact seqStep_far s0 n0 c0 a1_0 a1_1 a2_0 a2_1 w (by omega) (by omega)

set_option maxRecDepth 100000 in
theorem fnExactSeqStep_lifted (os : Os) (started : os.Started) (H : Type) (enc : TypeId × Value → H) :
    ReturnsInHanded {} Try.checked os 4 .any (Rows.fnExactSeqStepSpec.pre6 enc Try.prog Try.f4 Rows.fnExactSeqStepRow.domain false) (Rows.fnExactSeqStepSpec.post enc Try.prog Try.f4 false true false false) := by
  refine returnsInHanded_of_change (C := Try.checked) own started (by kernel_rfl) Try.func4
    (ChangeSpec.witness6 (enc := enc) (C := Try.checked) false ⟨#[], #[.slice none 0 0, .agg #[.int .i64 0, .int .i64 0], .agg #[.int .i64 0, .bool false]], []⟩ 8 (by kernel_rfl) (by kernel_rfl) (by kernel_rfl) (by kernel_rfl)) ?_
  intro W base args ds gs before hval0 hW hcnd _
  have hval : ∀ (j : Nat) t v, Try.f4.params[j]? = some t → args[j]? = some v → Value.okWide Try.prog W .any base t v := hval0
  have hW' := hW
  obtain ⟨p, q, hA0, hV, rfl, hfz, hnd⟩ := hW
  have hA : DataW.TrodAll enc Try.prog W 0 (fun _ => true) true Try.f4.params.toList args.toList ds p := hA0
  rw [Try.params4] at hA hval
  obtain ⟨v0, vs0, d0, ds0, p0, q0, hargs, rfl, rfl, h0, r0⟩ := trodAll_cons hA
  obtain ⟨v1, vs1, d1, ds1, p1, q1, rfl, rfl, rfl, h1, r1⟩ := trodAll_cons r0
  obtain ⟨v2, vs2, d2, ds2, p2, q2, rfl, rfl, rfl, h2, r2⟩ := trodAll_cons r1
  obtain ⟨rfl, rfl, rfl⟩ := trodAll_nil r2
  obtain rfl : args = #[v0, v1, v2] := by cases args; simp_all
  obtain ⟨rfl, rfl⟩ := trodVars_none hV
  have k0 := h0
  have lt0 : ∀ x ∈ p0, x.block < W.heap.size := by obtain ⟨m, hm⟩ := k0; exact DataW.trod_lt m _ _ _ hm
  have k1 := h1
  have lt1 : ∀ x ∈ p1, x.block < W.heap.size := by obtain ⟨m, hm⟩ := k1; exact DataW.trod_lt m _ _ _ hm
  have k2 := h2
  have lt2 : ∀ x ∈ p2, x.block < W.heap.size := by obtain ⟨m, hm⟩ := k2; exact DataW.trod_lt m _ _ _ hm
  obtain ⟨s0, n0, c0, V0, rfl, m0, R0⟩ := open_rows5 Try.underlying22 Try.underlying60 (by kernel_rfl) rfl rfl rfl rfl rfl (by kernel_rfl) (by kernel_rfl) (by kernel_rfl) (by kernel_rfl) (by kernel_rfl) (by kernel_rfl) (by kernel_rfl) (by kernel_rfl) (by kernel_rfl) (by kernel_rfl) (hval 0 22 v0 rfl rfl) h0
  obtain ⟨vs1, rfl, c1⟩ := open_cells Try.underlying30 (ts := [2, 2]) (by kernel_rfl) (by kernel_rfl) (hval 1 30 v1 rfl rfl)
  obtain ⟨x1_0, r1_0, rfl, o1_0, c1_0⟩ := cellsOk_cons c1
  obtain ⟨a1_0, rfl, w1_0⟩ := cell_int Try.underlying2 o1_0
  obtain ⟨x1_1, r1_1, rfl, o1_1, c1_1⟩ := cellsOk_cons c1_0
  obtain ⟨a1_1, rfl, w1_1⟩ := cell_int Try.underlying2 o1_1
  obtain rfl := cellsOk_nil c1_1
  obtain ⟨vs2, rfl, c2⟩ := open_cells Try.underlying32 (ts := [2, 4]) (by kernel_rfl) (by kernel_rfl) (hval 2 32 v2 rfl rfl)
  obtain ⟨x2_0, r2_0, rfl, o2_0, c2_0⟩ := cellsOk_cons c2
  obtain ⟨a2_0, rfl, w2_0⟩ := cell_int Try.underlying2 o2_0
  obtain ⟨x2_1, r2_1, rfl, o2_1, c2_1⟩ := cellsOk_cons c2_0
  obtain ⟨a2_1, rfl⟩ := cell_bool Try.underlying4 o2_1
  obtain rfl := cellsOk_nil c2_1
  clear hA0 hval0
  refine (fnExactSeqStep_walk W s0 n0 c0 V0 m0 R0 a1_0 w1_0 a1_1 w1_1 a2_0 w2_0 a2_1).mono fun e W' ⟨he, bel⟩ => ?_
  subst he
  exact ⟨_, rfl, _, _, _, [], _, [], hW', trodAll_mk1 (shut_bool Try.underlying4 _), (trodAll_cons_mk (Below.trod laidOut (by kernel_rfl) (of_decide_eq_true (by kernel_rfl)) k0 bel lt0) (trodAll_cons_mk (Below.trod laidOut (by kernel_rfl) (of_decide_eq_true (by kernel_rfl)) k1 bel lt1) (trodAll_cons_mk (Below.trod laidOut (by kernel_rfl) (of_decide_eq_true (by kernel_rfl)) k2 bel lt2) trodAll_mk0))), rfl, bel.frame _, fun h => by cases h⟩

theorem fnExactSeqStep_holds : Rows.FnExactSeqStepSaid :=
  OpenClaim.holds_of_wide 4 Try.f4 rfl rfl rfl rfl rfl rfl rfl ⟨rfl, rfl, rfl, rfl, rfl⟩ rfl rfl rfl rfl rfl (by kernel_rfl) Try.func4 (by kernel_rfl)
    (of_decide_eq_true (by kernel_rfl)) (by unfold Func.isWrapper; first | (rw [if_pos (by decide +kernel)]; kernel_rfl) | (rw [if_neg (by decide +kernel)]; exact ⟨rfl, rfl⟩))
    (fun os started H enc _ => fnExactSeqStep_lifted os started H enc)
#print axioms fnExactSeqStep_holds
end Go.Proofs.Ytencmnjkkkhngaa
