/-
What is proved: at every loop, every hold and every two numbers impl.LoopStep answers as the specification's LoopStep; no condition.
-/
import Derived.Test.YtdpghhgfkhlliaaLsS
import Derived.Test.YtdpghhgfkhlliaaLsI
import Derived.Test.YtdpghhgfkhlliaaLsL
import Derived.Deep.RegionHeld3
import Derived.Deep.DeepCutAuto
namespace Go.Proofs.Ytdpghhgfkhlliaa
set_option maxRecDepth 40000
open Go.ChangeShapes Go.WideShapes Go.ChangeAt Go.RowKit
set_option linter.unusedVariables false
set_option linter.unusedSimpArgs false

set_option maxRecDepth 20000 in
set_option maxHeartbeats 8000000 in
theorem loopStep_law (P I D S L H B : Int) (on : Bool) (u v o want seen : Int) (r0 ok : Bool) (r1 r2 r3 : Int) (w : World)
    (H1 : Hid (∀ w, Calls Try.prog 11 #[.agg #[.int .i64 P, .int .i64 I, .int .i64 D, .int .i64 S, .int .i64 L, .int .i64 H, .int .i64 B], .agg #[.bool on, .int .i64 u, .int .i64 v, .int .i64 o], .int .i64 want, .int .i64 seen] w fun e w' => e = .returned (.tuple #[.agg #[.bool r0, .int .i64 r1, .int .i64 r2, .int .i64 r3], .bool ok]) ∧ Below w.heap.size w w'))
    (H2 : Hid (∀ w, Calls Try.prog 12 #[.agg #[.int .i64 P, .int .i64 I, .int .i64 D, .int .i64 S, .int .i64 L, .int .i64 H, .int .i64 B], .agg #[.bool on, .int .i64 u, .int .i64 v, .int .i64 o], .int .i64 want, .int .i64 seen] w fun e w' => e = .returned (.tuple #[.agg #[.bool r0, .int .i64 r1, .int .i64 r2, .int .i64 r3], .bool ok]) ∧ Below w.heap.size w w')) :
    Calls Try.prog 4 #[.agg #[.int .i64 P, .int .i64 I, .int .i64 D, .int .i64 S, .int .i64 L, .int .i64 H, .int .i64 B], .agg #[.bool on, .int .i64 u, .int .i64 v, .int .i64 o], .int .i64 want, .int .i64 seen] w fun e w' => e = .returned (.bool true) ∧ Below w.heap.size w w' := by
  go_enter Try.func4, Try.ntmps4
  go_upto_region 1 with fail
  obtain ⟨wd, hwd⟩ : ∃ wd, wd = ((w.alloc (.cells #[.int .i64 P, .int .i64 I, .int .i64 D, .int .i64 S, .int .i64 L, .int .i64 H, .int .i64 B] 23)).alloc (.cells #[.bool on, .int .i64 u, .int .i64 v, .int .i64 o] 25)) := ⟨_, rfl⟩
  rw [← hwd]
  have c0 : wd.cell? ⟨w.heap.size, 0, none⟩ = some (.int .i64 P) := by rw [hwd]; simp [go_sem]
  have c1 : wd.cell? ⟨w.heap.size, 1, none⟩ = some (.int .i64 I) := by rw [hwd]; simp [go_sem]
  have c2 : wd.cell? ⟨w.heap.size, 2, none⟩ = some (.int .i64 D) := by rw [hwd]; simp [go_sem]
  have c3 : wd.cell? ⟨w.heap.size, 3, none⟩ = some (.int .i64 S) := by rw [hwd]; simp [go_sem]
  have c4 : wd.cell? ⟨w.heap.size, 4, none⟩ = some (.int .i64 L) := by rw [hwd]; simp [go_sem]
  have c5 : wd.cell? ⟨w.heap.size, 5, none⟩ = some (.int .i64 H) := by rw [hwd]; simp [go_sem]
  have c6 : wd.cell? ⟨w.heap.size, 6, none⟩ = some (.int .i64 B) := by rw [hwd]; simp [go_sem]
  have c7 : wd.cell? ⟨w.heap.size + 1, 0, none⟩ = some (.bool on) := by rw [hwd]; simp [go_sem]
  have c8 : wd.cell? ⟨w.heap.size + 1, 1, none⟩ = some (.int .i64 u) := by rw [hwd]; simp [go_sem]
  have c9 : wd.cell? ⟨w.heap.size + 1, 2, none⟩ = some (.int .i64 v) := by rw [hwd]; simp [go_sem]
  have c10 : wd.cell? ⟨w.heap.size + 1, 3, none⟩ = some (.int .i64 o) := by rw [hwd]; simp [go_sem]
  have z0 : w.heap.size < wd.heap.size := by rw [hwd]; simp; omega
  have z1 : w.heap.size + 1 < wd.heap.size := by rw [hwd]; simp
  have B0 : Below w.heap.size w wd := by rw [hwd]; exact (by repeat (first | with_reducible exact Below.refl _ _ | with_reducible refine Below.setCell ?_ (by first | omega | (simp; done) | (simp; omega)) _ | with_reducible refine bDrewN ?_ _ | with_reducible refine Below.drew ?_ | with_reducible refine Below.alloc ?_ (by first | omega | (simp; done) | (simp; omega)) _))
  have s0 := B0.size
  clear hwd
  go_cut [9, 10] (fun s t wx => ∃ g : Nat, s = .pointer (some ⟨g, 0, none⟩) ∧ t = .bool ok ∧ wd.heap.size ≤ g ∧ g < wx.heap.size ∧ wx.cell? ⟨g, 0, none⟩ = some (.bool r0) ∧ wx.cell? ⟨g, 1, none⟩ = some (.int .i64 r1) ∧ wx.cell? ⟨g, 2, none⟩ = some (.int .i64 r2) ∧ wx.cell? ⟨g, 3, none⟩ = some (.int .i64 r3) ∧ Below wd.heap.size wd wx)
  case first =>
    go_region_held3 (fun w' => w'.cell? ⟨w.heap.size, 0, none⟩ = some (.int .i64 P) ∧ w'.cell? ⟨w.heap.size, 1, none⟩ = some (.int .i64 I) ∧ w'.cell? ⟨w.heap.size, 2, none⟩ = some (.int .i64 D) ∧ w'.cell? ⟨w.heap.size, 3, none⟩ = some (.int .i64 S) ∧ w'.cell? ⟨w.heap.size, 4, none⟩ = some (.int .i64 L) ∧ w'.cell? ⟨w.heap.size, 5, none⟩ = some (.int .i64 H) ∧ w'.cell? ⟨w.heap.size, 6, none⟩ = some (.int .i64 B) ∧ w'.cell? ⟨w.heap.size + 1, 0, none⟩ = some (.bool on) ∧ w'.cell? ⟨w.heap.size + 1, 1, none⟩ = some (.int .i64 u) ∧ w'.cell? ⟨w.heap.size + 1, 2, none⟩ = some (.int .i64 v) ∧ w'.cell? ⟨w.heap.size + 1, 3, none⟩ = some (.int .i64 o)) (first | (refine keepLH2 c0 c1 c2 c3 c4 c5 c6 c7 c8 c9 c10 z0 z1 ?_; exact (by repeat (first | with_reducible exact Below.refl _ _ | with_reducible exact B3 | with_reducible refine Below.setCell ?_ (by first | omega | (simp; done) | (simp; omega)) _ | with_reducible refine bDrewN ?_ _ | with_reducible refine Below.drew ?_ | with_reducible refine Below.alloc ?_ (by first | omega | (simp; done) | (simp; omega)) _)))) (first
      | (go_at_call 8; refine (toLoop_is P I D S L H B _).mono ?_; rintro e w1 ⟨rfl, rfl⟩)
      | (go_at_call 9; refine (toHold_is on u v o _).mono ?_; rintro e w2 ⟨rfl, rfl⟩)
      | (go_at_call 11; refine (H1.out _).mono ?_; rintro e w3 ⟨rfl, h3⟩; have B3 : Below wd.heap.size wd w3 := Below.trans (by repeat (first | with_reducible exact Below.refl _ _ | with_reducible refine Below.setCell ?_ (by first | omega | (simp; done) | (simp; omega)) _ | with_reducible refine bDrewN ?_ _ | with_reducible refine Below.drew ?_ | with_reducible refine Below.alloc ?_ (by first | omega | (simp; done) | (simp; omega)) _)) (h3.mono (by first | omega | (simp; done) | (simp; omega))); have s3 := B3.size; have s3b := h3.size; (try simp at s3b); obtain ⟨hc3, hf3⟩ := bcell h3; (try (have ck0 := hc3 (wd.heap.size) 0 (by first | omega | (simp; done) | (simp; omega)); have ck1 := hc3 (wd.heap.size) 1 (by first | omega | (simp; done) | (simp; omega)); have ck2 := hc3 (wd.heap.size) 2 (by first | omega | (simp; done) | (simp; omega)); have ck3 := hc3 (wd.heap.size) 3 (by first | omega | (simp; done) | (simp; omega)); have fk0 := hf3 (wd.heap.size) 0 (by first | omega | (simp; done) | (simp; omega)); have fk1 := hf3 (wd.heap.size) 1 (by first | omega | (simp; done) | (simp; omega)); have fk2 := hf3 (wd.heap.size) 2 (by first | omega | (simp; done) | (simp; omega)); have fk3 := hf3 (wd.heap.size) 3 (by first | omega | (simp; done) | (simp; omega)); simp (maxDischargeDepth := 12) [go_sem] at ck0 fk0 ck1 fk1 ck2 fk2 ck3 fk3)); (try (have ck0 := hc3 (wd.heap.size + 1 + 1 + 1) 0 (by first | omega | (simp; done) | (simp; omega)); have ck1 := hc3 (wd.heap.size + 1 + 1 + 1) 1 (by first | omega | (simp; done) | (simp; omega)); have ck2 := hc3 (wd.heap.size + 1 + 1 + 1) 2 (by first | omega | (simp; done) | (simp; omega)); have ck3 := hc3 (wd.heap.size + 1 + 1 + 1) 3 (by first | omega | (simp; done) | (simp; omega)); have fk0 := hf3 (wd.heap.size + 1 + 1 + 1) 0 (by first | omega | (simp; done) | (simp; omega)); have fk1 := hf3 (wd.heap.size + 1 + 1 + 1) 1 (by first | omega | (simp; done) | (simp; omega)); have fk2 := hf3 (wd.heap.size + 1 + 1 + 1) 2 (by first | omega | (simp; done) | (simp; omega)); have fk3 := hf3 (wd.heap.size + 1 + 1 + 1) 3 (by first | omega | (simp; done) | (simp; omega)); simp (maxDischargeDepth := 12) [go_sem] at ck0 fk0 ck1 fk1 ck2 fk2 ck3 fk3)); (try (have ck0 := hc3 (wd.heap.size + 1 + 1 + 1 + 1 + 1 + 1) 0 (by first | omega | (simp; done) | (simp; omega)); have ck1 := hc3 (wd.heap.size + 1 + 1 + 1 + 1 + 1 + 1) 1 (by first | omega | (simp; done) | (simp; omega)); have ck2 := hc3 (wd.heap.size + 1 + 1 + 1 + 1 + 1 + 1) 2 (by first | omega | (simp; done) | (simp; omega)); have ck3 := hc3 (wd.heap.size + 1 + 1 + 1 + 1 + 1 + 1) 3 (by first | omega | (simp; done) | (simp; omega)); have fk0 := hf3 (wd.heap.size + 1 + 1 + 1 + 1 + 1 + 1) 0 (by first | omega | (simp; done) | (simp; omega)); have fk1 := hf3 (wd.heap.size + 1 + 1 + 1 + 1 + 1 + 1) 1 (by first | omega | (simp; done) | (simp; omega)); have fk2 := hf3 (wd.heap.size + 1 + 1 + 1 + 1 + 1 + 1) 2 (by first | omega | (simp; done) | (simp; omega)); have fk3 := hf3 (wd.heap.size + 1 + 1 + 1 + 1 + 1 + 1) 3 (by first | omega | (simp; done) | (simp; omega)); simp (maxDischargeDepth := 12) [go_sem] at ck0 fk0 ck1 fk1 ck2 fk2 ck3 fk3)); clear hc3 hf3))
    all_goals
      go_wp2_with fail
      go_meet
      case rel =>
        refine ⟨_, rfl, rfl, ?_, ?_, ?_, ?_, ?_, ?_, (by repeat (first | with_reducible exact Below.refl _ _ | with_reducible exact B3 | with_reducible refine Below.setCell ?_ (by first | omega | (simp; done) | (simp; omega)) _ | with_reducible refine bDrewN ?_ _ | with_reducible refine Below.drew ?_ | with_reducible refine Below.alloc ?_ (by first | omega | (simp; done) | (simp; omega)) _))⟩
        all_goals first | omega | (simp [go_sem, *]; done) | (simp [go_sem, *, Nat.add_assoc]; done) | (simp; omega) | (simp [*]; omega)
  case rest =>
    obtain ⟨g, rfl, rfl, hg1, hg2, g0, g1, g2, g3, hB⟩ := hcut
    replace c0 := (hB.cell (p := ⟨w.heap.size, 0, none⟩) z0).trans c0
    replace c1 := (hB.cell (p := ⟨w.heap.size, 1, none⟩) z0).trans c1
    replace c2 := (hB.cell (p := ⟨w.heap.size, 2, none⟩) z0).trans c2
    replace c3 := (hB.cell (p := ⟨w.heap.size, 3, none⟩) z0).trans c3
    replace c4 := (hB.cell (p := ⟨w.heap.size, 4, none⟩) z0).trans c4
    replace c5 := (hB.cell (p := ⟨w.heap.size, 5, none⟩) z0).trans c5
    replace c6 := (hB.cell (p := ⟨w.heap.size, 6, none⟩) z0).trans c6
    replace c7 := (hB.cell (p := ⟨w.heap.size + 1, 0, none⟩) z1).trans c7
    replace c8 := (hB.cell (p := ⟨w.heap.size + 1, 1, none⟩) z1).trans c8
    replace c9 := (hB.cell (p := ⟨w.heap.size + 1, 2, none⟩) z1).trans c9
    replace c10 := (hB.cell (p := ⟨w.heap.size + 1, 3, none⟩) z1).trans c10
    replace z0 := Nat.lt_of_lt_of_le z0 hB.size
    replace z1 := Nat.lt_of_lt_of_le z1 hB.size
    replace B0 : Below w.heap.size w wc := B0.trans (hB.mono s0)
    replace s0 := B0.size
    clear hg1 hB
    go_upto_region 2 with fail
    go_cut [11, 12] (fun s t wx => ∃ g : Nat, s = .pointer (some ⟨g, 0, none⟩) ∧ t = .bool ok ∧ wc.heap.size ≤ g ∧ g < wx.heap.size ∧ wx.cell? ⟨g, 0, none⟩ = some (.bool r0) ∧ wx.cell? ⟨g, 1, none⟩ = some (.int .i64 r1) ∧ wx.cell? ⟨g, 2, none⟩ = some (.int .i64 r2) ∧ wx.cell? ⟨g, 3, none⟩ = some (.int .i64 r3) ∧ Below wc.heap.size wc wx)
    case first =>
      go_region_held3 (fun w' => w'.cell? ⟨w.heap.size, 0, none⟩ = some (.int .i64 P) ∧ w'.cell? ⟨w.heap.size, 1, none⟩ = some (.int .i64 I) ∧ w'.cell? ⟨w.heap.size, 2, none⟩ = some (.int .i64 D) ∧ w'.cell? ⟨w.heap.size, 3, none⟩ = some (.int .i64 S) ∧ w'.cell? ⟨w.heap.size, 4, none⟩ = some (.int .i64 L) ∧ w'.cell? ⟨w.heap.size, 5, none⟩ = some (.int .i64 H) ∧ w'.cell? ⟨w.heap.size, 6, none⟩ = some (.int .i64 B) ∧ w'.cell? ⟨w.heap.size + 1, 0, none⟩ = some (.bool on) ∧ w'.cell? ⟨w.heap.size + 1, 1, none⟩ = some (.int .i64 u) ∧ w'.cell? ⟨w.heap.size + 1, 2, none⟩ = some (.int .i64 v) ∧ w'.cell? ⟨w.heap.size + 1, 3, none⟩ = some (.int .i64 o)) (first | (refine keepLH2 c0 c1 c2 c3 c4 c5 c6 c7 c8 c9 c10 z0 z1 ?_; exact (by repeat (first | with_reducible exact Below.refl _ _ | with_reducible exact B3 | with_reducible refine Below.setCell ?_ (by first | omega | (simp; done) | (simp; omega)) _ | with_reducible refine bDrewN ?_ _ | with_reducible refine Below.drew ?_ | with_reducible refine Below.alloc ?_ (by first | omega | (simp; done) | (simp; omega)) _)))) (first
        | (go_at_call 8; refine (toLoop_is P I D S L H B _).mono ?_; rintro e w1 ⟨rfl, rfl⟩)
        | (go_at_call 9; refine (toHold_is on u v o _).mono ?_; rintro e w2 ⟨rfl, rfl⟩)
        | (go_at_call 12; refine (H2.out _).mono ?_; rintro e w3 ⟨rfl, h3⟩; have B3 : Below wc.heap.size wc w3 := Below.trans (by repeat (first | with_reducible exact Below.refl _ _ | with_reducible refine Below.setCell ?_ (by first | omega | (simp; done) | (simp; omega)) _ | with_reducible refine bDrewN ?_ _ | with_reducible refine Below.drew ?_ | with_reducible refine Below.alloc ?_ (by first | omega | (simp; done) | (simp; omega)) _)) (h3.mono (by first | omega | (simp; done) | (simp; omega))); have s3 := B3.size; have s3b := h3.size; (try simp at s3b); obtain ⟨hc3, hf3⟩ := bcell h3; (try (have ck0 := hc3 (wc.heap.size) 0 (by first | omega | (simp; done) | (simp; omega)); have ck1 := hc3 (wc.heap.size) 1 (by first | omega | (simp; done) | (simp; omega)); have ck2 := hc3 (wc.heap.size) 2 (by first | omega | (simp; done) | (simp; omega)); have ck3 := hc3 (wc.heap.size) 3 (by first | omega | (simp; done) | (simp; omega)); have fk0 := hf3 (wc.heap.size) 0 (by first | omega | (simp; done) | (simp; omega)); have fk1 := hf3 (wc.heap.size) 1 (by first | omega | (simp; done) | (simp; omega)); have fk2 := hf3 (wc.heap.size) 2 (by first | omega | (simp; done) | (simp; omega)); have fk3 := hf3 (wc.heap.size) 3 (by first | omega | (simp; done) | (simp; omega)); simp (maxDischargeDepth := 12) [go_sem] at ck0 fk0 ck1 fk1 ck2 fk2 ck3 fk3)); (try (have ck0 := hc3 (wc.heap.size + 1 + 1 + 1) 0 (by first | omega | (simp; done) | (simp; omega)); have ck1 := hc3 (wc.heap.size + 1 + 1 + 1) 1 (by first | omega | (simp; done) | (simp; omega)); have ck2 := hc3 (wc.heap.size + 1 + 1 + 1) 2 (by first | omega | (simp; done) | (simp; omega)); have ck3 := hc3 (wc.heap.size + 1 + 1 + 1) 3 (by first | omega | (simp; done) | (simp; omega)); have fk0 := hf3 (wc.heap.size + 1 + 1 + 1) 0 (by first | omega | (simp; done) | (simp; omega)); have fk1 := hf3 (wc.heap.size + 1 + 1 + 1) 1 (by first | omega | (simp; done) | (simp; omega)); have fk2 := hf3 (wc.heap.size + 1 + 1 + 1) 2 (by first | omega | (simp; done) | (simp; omega)); have fk3 := hf3 (wc.heap.size + 1 + 1 + 1) 3 (by first | omega | (simp; done) | (simp; omega)); simp (maxDischargeDepth := 12) [go_sem] at ck0 fk0 ck1 fk1 ck2 fk2 ck3 fk3)); (try (have ck0 := hc3 (wc.heap.size + 1 + 1 + 1 + 1 + 1 + 1) 0 (by first | omega | (simp; done) | (simp; omega)); have ck1 := hc3 (wc.heap.size + 1 + 1 + 1 + 1 + 1 + 1) 1 (by first | omega | (simp; done) | (simp; omega)); have ck2 := hc3 (wc.heap.size + 1 + 1 + 1 + 1 + 1 + 1) 2 (by first | omega | (simp; done) | (simp; omega)); have ck3 := hc3 (wc.heap.size + 1 + 1 + 1 + 1 + 1 + 1) 3 (by first | omega | (simp; done) | (simp; omega)); have fk0 := hf3 (wc.heap.size + 1 + 1 + 1 + 1 + 1 + 1) 0 (by first | omega | (simp; done) | (simp; omega)); have fk1 := hf3 (wc.heap.size + 1 + 1 + 1 + 1 + 1 + 1) 1 (by first | omega | (simp; done) | (simp; omega)); have fk2 := hf3 (wc.heap.size + 1 + 1 + 1 + 1 + 1 + 1) 2 (by first | omega | (simp; done) | (simp; omega)); have fk3 := hf3 (wc.heap.size + 1 + 1 + 1 + 1 + 1 + 1) 3 (by first | omega | (simp; done) | (simp; omega)); simp (maxDischargeDepth := 12) [go_sem] at ck0 fk0 ck1 fk1 ck2 fk2 ck3 fk3)); clear hc3 hf3))
      all_goals
        go_wp2_with fail
        go_meet
        case rel =>
          refine ⟨_, rfl, rfl, ?_, ?_, ?_, ?_, ?_, ?_, (by repeat (first | with_reducible exact Below.refl _ _ | with_reducible exact B3 | with_reducible refine Below.setCell ?_ (by first | omega | (simp; done) | (simp; omega)) _ | with_reducible refine bDrewN ?_ _ | with_reducible refine Below.drew ?_ | with_reducible refine Below.alloc ?_ (by first | omega | (simp; done) | (simp; omega)) _))⟩
          all_goals first | omega | (simp [go_sem, *]; done) | (simp [go_sem, *, Nat.add_assoc]; done) | (simp; omega) | (simp [*]; omega)
    case rest =>
      obtain ⟨g', rfl, rfl, hk1, hk2, k0, k1, k2, k3, hB⟩ := hcut
      replace g0 := (hB.cell (p := ⟨g, 0, none⟩) hg2).trans g0
      replace g1 := (hB.cell (p := ⟨g, 1, none⟩) hg2).trans g1
      replace g2 := (hB.cell (p := ⟨g, 2, none⟩) hg2).trans g2
      replace g3 := (hB.cell (p := ⟨g, 3, none⟩) hg2).trans g3
      replace B0 := B0.trans (hB.mono s0)
      clear s0 hB
      have s0 := B0.size
      go_wp2_with fail
      refine (eqHold_any r0 r1 r2 r3 _).mono ?_
      rintro e w5 ⟨rfl, h5⟩
      have B5 := B0.trans (h5.mono s0)
      go_wp2
      go_ret
      exact ⟨rfl, B5⟩

theorem fnExactLoopStep_walk (P : Int) (wP : (Lit.int .i64 P).wf = true) (I : Int) (wI : (Lit.int .i64 I).wf = true) (D : Int) (wD : (Lit.int .i64 D).wf = true) (S : Int) (wS : (Lit.int .i64 S).wf = true) (L : Int) (wL : (Lit.int .i64 L).wf = true) (H : Int) (wH : (Lit.int .i64 H).wf = true) (B : Int) (wB : (Lit.int .i64 B).wf = true) (on : Bool) (u : Int) (wu : (Lit.int .i64 u).wf = true) (v : Int) (wv : (Lit.int .i64 v).wf = true) (o : Int) (wo : (Lit.int .i64 o).wf = true) (want : Int) (wwant : (Lit.int .i64 want).wf = true) (seen : Int) (wseen : (Lit.int .i64 seen).wf = true) (w : World) :
    Calls Try.prog 4 #[.agg #[.int .i64 P, .int .i64 I, .int .i64 D, .int .i64 S, .int .i64 L, .int .i64 H, .int .i64 B], .agg #[.bool on, .int .i64 u, .int .i64 v, .int .i64 o], .int .i64 want, .int .i64 seen] w fun e w' => e = .returned (.bool true) ∧ Below w.heap.size w w' :=
  loopStep_law P I D S L H B on u v o want seen _ _ _ _ _ w (fun w => specStep_any P I D S L H B on u v o want seen w) (fun w => implStep_any P I D S L H B on u v o want seen w)

set_option maxRecDepth 100000 in
theorem fnExactLoopStep_lifted (os : Os) (started : os.Started) (H : Type) (enc : TypeId × Value → H) :
    ReturnsInHanded {} Try.checked os 4 .any (Rows.fnExactLoopStepSpec.pre6 enc Try.prog Try.f4 Rows.fnExactLoopStepRow.domain false) (Rows.fnExactLoopStepSpec.post enc Try.prog Try.f4 false true false false) := by
  refine returnsInHanded_of_change (C := Try.checked) own started (by kernel_rfl) Try.func4
    (ChangeSpec.witness6 (enc := enc) (C := Try.checked) false ⟨#[], #[.agg #[.int .i64 0, .int .i64 0, .int .i64 0, .int .i64 0, .int .i64 0, .int .i64 0, .int .i64 0], .agg #[.bool false, .int .i64 0, .int .i64 0, .int .i64 0], .int .i64 0, .int .i64 0], []⟩ 8 (by kernel_rfl) (by kernel_rfl) (by kernel_rfl) (by kernel_rfl)) ?_
  intro W base args ds gs before hval0 hW hcnd _
  have hval : ∀ (j : Nat) t v, Try.f4.params[j]? = some t → args[j]? = some v → Value.okWide Try.prog W .any base t v := hval0
  have hW' := hW
  obtain ⟨p, q, hA0, hV, rfl, hfz, hnd⟩ := hW
  have hA : DataW.TrodAll enc Try.prog W 0 (fun _ => true) true Try.f4.params.toList args.toList ds p := hA0
  rw [Try.params4] at hA hval
  obtain ⟨v0, vs0, d0, ds0, p0, q0, hargs, rfl, rfl, h0, r0⟩ := trodAll_cons hA
  obtain ⟨v1, vs1, d1, ds1, p1, q1, rfl, rfl, rfl, h1, r1⟩ := trodAll_cons r0
  obtain ⟨v2, vs2, d2, ds2, p2, q2, rfl, rfl, rfl, h2, r2⟩ := trodAll_cons r1
  obtain ⟨v3, vs3, d3, ds3, p3, q3, rfl, rfl, rfl, h3, r3⟩ := trodAll_cons r2
  obtain ⟨rfl, rfl, rfl⟩ := trodAll_nil r3
  obtain rfl : args = #[v0, v1, v2, v3] := by cases args; simp_all
  obtain ⟨rfl, rfl⟩ := trodVars_none hV
  have k0 := h0
  have lt0 : ∀ x ∈ p0, x.block < W.heap.size := by obtain ⟨m, hm⟩ := k0; exact DataW.trod_lt m _ _ _ hm
  have k1 := h1
  have lt1 : ∀ x ∈ p1, x.block < W.heap.size := by obtain ⟨m, hm⟩ := k1; exact DataW.trod_lt m _ _ _ hm
  have k2 := h2
  have lt2 : ∀ x ∈ p2, x.block < W.heap.size := by obtain ⟨m, hm⟩ := k2; exact DataW.trod_lt m _ _ _ hm
  have k3 := h3
  have lt3 : ∀ x ∈ p3, x.block < W.heap.size := by obtain ⟨m, hm⟩ := k3; exact DataW.trod_lt m _ _ _ hm
  obtain ⟨vs0, rfl, c0⟩ := open_cells Try.underlying23 (ts := [2, 2, 2, 2, 2, 2, 2]) (by kernel_rfl) (by kernel_rfl) (hval 0 23 v0 rfl rfl)
  obtain ⟨x0_0, r0_0, rfl, o0_0, c0_0⟩ := cellsOk_cons c0
  obtain ⟨a0_0, rfl, w0_0⟩ := cell_int Try.underlying2 o0_0
  obtain ⟨x0_1, r0_1, rfl, o0_1, c0_1⟩ := cellsOk_cons c0_0
  obtain ⟨a0_1, rfl, w0_1⟩ := cell_int Try.underlying2 o0_1
  obtain ⟨x0_2, r0_2, rfl, o0_2, c0_2⟩ := cellsOk_cons c0_1
  obtain ⟨a0_2, rfl, w0_2⟩ := cell_int Try.underlying2 o0_2
  obtain ⟨x0_3, r0_3, rfl, o0_3, c0_3⟩ := cellsOk_cons c0_2
  obtain ⟨a0_3, rfl, w0_3⟩ := cell_int Try.underlying2 o0_3
  obtain ⟨x0_4, r0_4, rfl, o0_4, c0_4⟩ := cellsOk_cons c0_3
  obtain ⟨a0_4, rfl, w0_4⟩ := cell_int Try.underlying2 o0_4
  obtain ⟨x0_5, r0_5, rfl, o0_5, c0_5⟩ := cellsOk_cons c0_4
  obtain ⟨a0_5, rfl, w0_5⟩ := cell_int Try.underlying2 o0_5
  obtain ⟨x0_6, r0_6, rfl, o0_6, c0_6⟩ := cellsOk_cons c0_5
  obtain ⟨a0_6, rfl, w0_6⟩ := cell_int Try.underlying2 o0_6
  obtain rfl := cellsOk_nil c0_6
  obtain ⟨vs1, rfl, c1⟩ := open_cells Try.underlying25 (ts := [4, 2, 2, 2]) (by kernel_rfl) (by kernel_rfl) (hval 1 25 v1 rfl rfl)
  obtain ⟨x1_0, r1_0, rfl, o1_0, c1_0⟩ := cellsOk_cons c1
  obtain ⟨a1_0, rfl⟩ := cell_bool Try.underlying4 o1_0
  obtain ⟨x1_1, r1_1, rfl, o1_1, c1_1⟩ := cellsOk_cons c1_0
  obtain ⟨a1_1, rfl, w1_1⟩ := cell_int Try.underlying2 o1_1
  obtain ⟨x1_2, r1_2, rfl, o1_2, c1_2⟩ := cellsOk_cons c1_1
  obtain ⟨a1_2, rfl, w1_2⟩ := cell_int Try.underlying2 o1_2
  obtain ⟨x1_3, r1_3, rfl, o1_3, c1_3⟩ := cellsOk_cons c1_2
  obtain ⟨a1_3, rfl, w1_3⟩ := cell_int Try.underlying2 o1_3
  obtain rfl := cellsOk_nil c1_3
  obtain ⟨a2, rfl, rfl, rfl, w2⟩ := open_int Try.underlying2 (hval 2 2 v2 rfl rfl) h2
  obtain ⟨a3, rfl, rfl, rfl, w3⟩ := open_int Try.underlying2 (hval 3 2 v3 rfl rfl) h3
  clear hA0 hval0
  refine (fnExactLoopStep_walk a0_0 w0_0 a0_1 w0_1 a0_2 w0_2 a0_3 w0_3 a0_4 w0_4 a0_5 w0_5 a0_6 w0_6 a1_0 a1_1 w1_1 a1_2 w1_2 a1_3 w1_3 a2 w2 a3 w3 W).mono fun e W' ⟨he, bel⟩ => ?_
  subst he
  exact ⟨_, rfl, _, _, _, [], _, [], hW', trodAll_mk1 (shut_bool Try.underlying4 _), (trodAll_cons_mk (Below.trod laidOut (by kernel_rfl) (of_decide_eq_true (by kernel_rfl)) k0 bel lt0) (trodAll_cons_mk (Below.trod laidOut (by kernel_rfl) (of_decide_eq_true (by kernel_rfl)) k1 bel lt1) (trodAll_cons_mk (Below.trod laidOut (by kernel_rfl) (of_decide_eq_true (by kernel_rfl)) k2 bel lt2) (trodAll_cons_mk (Below.trod laidOut (by kernel_rfl) (of_decide_eq_true (by kernel_rfl)) k3 bel lt3) trodAll_mk0)))), rfl, bel.frame _, fun h => by cases h⟩

theorem fnExactLoopStep_holds : Rows.FnExactLoopStepSaid :=
  OpenClaim.holds_of_wide 4 Try.f4 rfl rfl rfl rfl rfl rfl rfl ⟨rfl, rfl, rfl, rfl, rfl⟩ rfl rfl rfl rfl rfl (by kernel_rfl) Try.func4 (by kernel_rfl)
    (of_decide_eq_true (by kernel_rfl)) (by unfold Func.isWrapper; first | (rw [if_pos (by decide +kernel)]; kernel_rfl) | (rw [if_neg (by decide +kernel)]; exact ⟨rfl, rfl⟩))
    (fun os started H enc _ => fnExactLoopStep_lifted os started H enc)
#print axioms fnExactLoopStep_holds
end Go.Proofs.Ytdpghhgfkhlliaa
