/-
What is proved: at every burner and everything seen impl.BurnerStep answers as the specification's BurnerStep; no condition.
-/
import Derived.Test.YtaimdbgimkgelaaBuP
import Derived.Test.YtaimdbgimkgelaaBuI
import Derived.Test.YtaimdbgimkgelaaBuH
import Derived.Deep.RegionHeld3
import Derived.Deep.DeepCutAuto
namespace Go.Proofs.Ytaimdbgimkgelaa
set_option maxRecDepth 40000
open Go.ChangeShapes Go.WideShapes Go.ChangeAt Go.RowKit
set_option linter.unusedVariables false
set_option linter.unusedSimpArgs false

set_option maxRecDepth 20000 in
set_option maxHeartbeats 40000000 in
theorem burnerStep_law (s t r : Int) (air gas fl st sp rs : Bool) (y0 y1 y2 : Int) (o0 o1 o2 ok : Bool) (w : World) (H1 : Hid (∀ w, Calls Try.prog 12 #[.agg #[.int .i64 s, .int .i64 t, .int .i64 r], .agg #[.bool air, .bool gas, .bool fl, .bool st, .bool sp, .bool rs]] w fun e w' => e = .returned (.tuple #[.agg #[.int .i64 y0, .int .i64 y1, .int .i64 y2], .agg #[.bool o0, .bool o1, .bool o2], .bool ok]) ∧ Below w.heap.size w w')) (H2 : Hid (∀ w, Calls Try.prog 14 #[.agg #[.int .i64 s, .int .i64 t, .int .i64 r], .agg #[.bool air, .bool gas, .bool fl, .bool st, .bool sp, .bool rs]] w fun e w' => e = .returned (.tuple #[.agg #[.int .i64 y0, .int .i64 y1, .int .i64 y2], .agg #[.bool o0, .bool o1, .bool o2], .bool ok]) ∧ Below w.heap.size w w')) :
    Calls Try.prog 4 #[.agg #[.int .i64 s, .int .i64 t, .int .i64 r], .agg #[.bool air, .bool gas, .bool fl, .bool st, .bool sp, .bool rs]] w fun e w' => e = .returned (.bool true) ∧ Below w.heap.size w w' := by
  go_enter Try.func4, Try.ntmps4
  go_upto_region 1 with fail
  obtain ⟨wd, hwd⟩ : ∃ wd, wd = ((w.alloc (.cells #[.int .i64 s, .int .i64 t, .int .i64 r] 23)).alloc (.cells #[.bool air, .bool gas, .bool fl, .bool st, .bool sp, .bool rs] 29)) := ⟨_, rfl⟩
  rw [← hwd]
  have c0 : wd.cell? ⟨w.heap.size, 0, none⟩ = some (.int .i64 s) := by rw [hwd]; simp [go_sem]
  have c1 : wd.cell? ⟨w.heap.size, 1, none⟩ = some (.int .i64 t) := by rw [hwd]; simp [go_sem]
  have c2 : wd.cell? ⟨w.heap.size, 2, none⟩ = some (.int .i64 r) := by rw [hwd]; simp [go_sem]
  have c3 : wd.cell? ⟨w.heap.size + 1, 0, none⟩ = some (.bool air) := by rw [hwd]; simp [go_sem]
  have c4 : wd.cell? ⟨w.heap.size + 1, 1, none⟩ = some (.bool gas) := by rw [hwd]; simp [go_sem]
  have c5 : wd.cell? ⟨w.heap.size + 1, 2, none⟩ = some (.bool fl) := by rw [hwd]; simp [go_sem]
  have c6 : wd.cell? ⟨w.heap.size + 1, 3, none⟩ = some (.bool st) := by rw [hwd]; simp [go_sem]
  have c7 : wd.cell? ⟨w.heap.size + 1, 4, none⟩ = some (.bool sp) := by rw [hwd]; simp [go_sem]
  have c8 : wd.cell? ⟨w.heap.size + 1, 5, none⟩ = some (.bool rs) := by rw [hwd]; simp [go_sem]
  have z0 : w.heap.size < wd.heap.size := by rw [hwd]; simp; omega
  have z1 : w.heap.size + 1 < wd.heap.size := by rw [hwd]; simp
  have B0 : Below w.heap.size w wd := by rw [hwd]; exact (by repeat (first | with_reducible exact Below.refl _ _ | with_reducible refine Below.setCell ?_ (by first | omega | (simp; done) | (simp; omega)) _ | with_reducible refine bDrewN ?_ _ | with_reducible refine Below.drew ?_ | with_reducible refine Below.alloc ?_ (by first | omega | (simp; done) | (simp; omega)) _))
  have s0 := B0.size
  clear hwd
  go_cut [5, 6, 7] (fun a b c wx => ∃ p q : Nat, a = .pointer (some ⟨p, 0, none⟩) ∧ b = .pointer (some ⟨q, 0, none⟩) ∧ c = .bool ok ∧ p < wx.heap.size ∧ q < wx.heap.size ∧ wx.cell? ⟨p, 0, none⟩ = some (.int .i64 y0) ∧ wx.cell? ⟨p, 1, none⟩ = some (.int .i64 y1) ∧ wx.cell? ⟨p, 2, none⟩ = some (.int .i64 y2) ∧ wx.cell? ⟨q, 0, none⟩ = some (.bool o0) ∧ wx.cell? ⟨q, 1, none⟩ = some (.bool o1) ∧ wx.cell? ⟨q, 2, none⟩ = some (.bool o2) ∧ Below wd.heap.size wd wx)
  case first =>
    go_region_held3 (fun w' => w'.cell? ⟨w.heap.size, 0, none⟩ = some (.int .i64 s) ∧ w'.cell? ⟨w.heap.size, 1, none⟩ = some (.int .i64 t) ∧ w'.cell? ⟨w.heap.size, 2, none⟩ = some (.int .i64 r) ∧ w'.cell? ⟨w.heap.size + 1, 0, none⟩ = some (.bool air) ∧ w'.cell? ⟨w.heap.size + 1, 1, none⟩ = some (.bool gas) ∧ w'.cell? ⟨w.heap.size + 1, 2, none⟩ = some (.bool fl) ∧ w'.cell? ⟨w.heap.size + 1, 3, none⟩ = some (.bool st) ∧ w'.cell? ⟨w.heap.size + 1, 4, none⟩ = some (.bool sp) ∧ w'.cell? ⟨w.heap.size + 1, 5, none⟩ = some (.bool rs)) (first | (refine keep9 c0 c1 c2 c3 c4 c5 c6 c7 c8 z0 z1 ?_; exact (by repeat (first | with_reducible exact Below.refl _ _ | with_reducible exact B3 | with_reducible refine Below.setCell ?_ (by first | omega | (simp; done) | (simp; omega)) _ | with_reducible refine bDrewN ?_ _ | with_reducible refine Below.drew ?_ | with_reducible refine Below.alloc ?_ (by first | omega | (simp; done) | (simp; omega)) _)))) (first
      | (go_at_call 10; refine (toBurner_is s t r _).mono ?_; rintro e wa ⟨rfl, rfl⟩)
      | (go_at_call 13; refine (toIn_is air gas fl st sp rs _).mono ?_; rintro e wb ⟨rfl, rfl⟩)
      | (go_at_call 12; refine (H1.out _).mono ?_; rintro e w3 ⟨rfl, h3⟩; have B3 : Below wd.heap.size wd w3 := Below.trans (by repeat (first | with_reducible exact Below.refl _ _ | with_reducible refine Below.setCell ?_ (by first | omega | (simp; done) | (simp; omega)) _ | with_reducible refine bDrewN ?_ _ | with_reducible refine Below.drew ?_ | with_reducible refine Below.alloc ?_ (by first | omega | (simp; done) | (simp; omega)) _)) (h3.mono (by first | omega | (simp; done) | (simp; omega))); have s3 := B3.size; have s3b := h3.size; (try simp at s3b); obtain ⟨hc3, hf3⟩ := bcell h3; (try (have sa0 : wd.heap.size < w3.heap.size := (by omega); have ca0_0 := hc3 (wd.heap.size) 0 (by first | omega | (simp; done) | (simp; omega)); have fa0_0 := hf3 (wd.heap.size) 0 (by first | omega | (simp; done) | (simp; omega)); have ca0_1 := hc3 (wd.heap.size) 1 (by first | omega | (simp; done) | (simp; omega)); have fa0_1 := hf3 (wd.heap.size) 1 (by first | omega | (simp; done) | (simp; omega)); have ca0_2 := hc3 (wd.heap.size) 2 (by first | omega | (simp; done) | (simp; omega)); have fa0_2 := hf3 (wd.heap.size) 2 (by first | omega | (simp; done) | (simp; omega)); simp (maxDischargeDepth := 12) [go_sem] at ca0_0 fa0_0 ca0_1 fa0_1 ca0_2 fa0_2)); (try (have sa1 : wd.heap.size + 1 < w3.heap.size := (by omega); have ca1_0 := hc3 (wd.heap.size + 1) 0 (by first | omega | (simp; done) | (simp; omega)); have fa1_0 := hf3 (wd.heap.size + 1) 0 (by first | omega | (simp; done) | (simp; omega)); have ca1_1 := hc3 (wd.heap.size + 1) 1 (by first | omega | (simp; done) | (simp; omega)); have fa1_1 := hf3 (wd.heap.size + 1) 1 (by first | omega | (simp; done) | (simp; omega)); have ca1_2 := hc3 (wd.heap.size + 1) 2 (by first | omega | (simp; done) | (simp; omega)); have fa1_2 := hf3 (wd.heap.size + 1) 2 (by first | omega | (simp; done) | (simp; omega)); simp (maxDischargeDepth := 12) [go_sem] at ca1_0 fa1_0 ca1_1 fa1_1 ca1_2 fa1_2)); (try (have sa3 : wd.heap.size + 1 + 1 + 1 < w3.heap.size := (by omega); have ca3_0 := hc3 (wd.heap.size + 1 + 1 + 1) 0 (by first | omega | (simp; done) | (simp; omega)); have fa3_0 := hf3 (wd.heap.size + 1 + 1 + 1) 0 (by first | omega | (simp; done) | (simp; omega)); have ca3_1 := hc3 (wd.heap.size + 1 + 1 + 1) 1 (by first | omega | (simp; done) | (simp; omega)); have fa3_1 := hf3 (wd.heap.size + 1 + 1 + 1) 1 (by first | omega | (simp; done) | (simp; omega)); have ca3_2 := hc3 (wd.heap.size + 1 + 1 + 1) 2 (by first | omega | (simp; done) | (simp; omega)); have fa3_2 := hf3 (wd.heap.size + 1 + 1 + 1) 2 (by first | omega | (simp; done) | (simp; omega)); simp (maxDischargeDepth := 12) [go_sem] at ca3_0 fa3_0 ca3_1 fa3_1 ca3_2 fa3_2)); (try (have sa4 : wd.heap.size + 1 + 1 + 1 + 1 < w3.heap.size := (by omega); have ca4_0 := hc3 (wd.heap.size + 1 + 1 + 1 + 1) 0 (by first | omega | (simp; done) | (simp; omega)); have fa4_0 := hf3 (wd.heap.size + 1 + 1 + 1 + 1) 0 (by first | omega | (simp; done) | (simp; omega)); have ca4_1 := hc3 (wd.heap.size + 1 + 1 + 1 + 1) 1 (by first | omega | (simp; done) | (simp; omega)); have fa4_1 := hf3 (wd.heap.size + 1 + 1 + 1 + 1) 1 (by first | omega | (simp; done) | (simp; omega)); have ca4_2 := hc3 (wd.heap.size + 1 + 1 + 1 + 1) 2 (by first | omega | (simp; done) | (simp; omega)); have fa4_2 := hf3 (wd.heap.size + 1 + 1 + 1 + 1) 2 (by first | omega | (simp; done) | (simp; omega)); simp (maxDischargeDepth := 12) [go_sem] at ca4_0 fa4_0 ca4_1 fa4_1 ca4_2 fa4_2)); (try (have sa6 : wd.heap.size + 1 + 1 + 1 + 1 + 1 + 1 < w3.heap.size := (by omega); have ca6_0 := hc3 (wd.heap.size + 1 + 1 + 1 + 1 + 1 + 1) 0 (by first | omega | (simp; done) | (simp; omega)); have fa6_0 := hf3 (wd.heap.size + 1 + 1 + 1 + 1 + 1 + 1) 0 (by first | omega | (simp; done) | (simp; omega)); have ca6_1 := hc3 (wd.heap.size + 1 + 1 + 1 + 1 + 1 + 1) 1 (by first | omega | (simp; done) | (simp; omega)); have fa6_1 := hf3 (wd.heap.size + 1 + 1 + 1 + 1 + 1 + 1) 1 (by first | omega | (simp; done) | (simp; omega)); have ca6_2 := hc3 (wd.heap.size + 1 + 1 + 1 + 1 + 1 + 1) 2 (by first | omega | (simp; done) | (simp; omega)); have fa6_2 := hf3 (wd.heap.size + 1 + 1 + 1 + 1 + 1 + 1) 2 (by first | omega | (simp; done) | (simp; omega)); simp (maxDischargeDepth := 12) [go_sem] at ca6_0 fa6_0 ca6_1 fa6_1 ca6_2 fa6_2)); (try (have sa7 : wd.heap.size + 1 + 1 + 1 + 1 + 1 + 1 + 1 < w3.heap.size := (by omega); have ca7_0 := hc3 (wd.heap.size + 1 + 1 + 1 + 1 + 1 + 1 + 1) 0 (by first | omega | (simp; done) | (simp; omega)); have fa7_0 := hf3 (wd.heap.size + 1 + 1 + 1 + 1 + 1 + 1 + 1) 0 (by first | omega | (simp; done) | (simp; omega)); have ca7_1 := hc3 (wd.heap.size + 1 + 1 + 1 + 1 + 1 + 1 + 1) 1 (by first | omega | (simp; done) | (simp; omega)); have fa7_1 := hf3 (wd.heap.size + 1 + 1 + 1 + 1 + 1 + 1 + 1) 1 (by first | omega | (simp; done) | (simp; omega)); have ca7_2 := hc3 (wd.heap.size + 1 + 1 + 1 + 1 + 1 + 1 + 1) 2 (by first | omega | (simp; done) | (simp; omega)); have fa7_2 := hf3 (wd.heap.size + 1 + 1 + 1 + 1 + 1 + 1 + 1) 2 (by first | omega | (simp; done) | (simp; omega)); simp (maxDischargeDepth := 12) [go_sem] at ca7_0 fa7_0 ca7_1 fa7_1 ca7_2 fa7_2)); clear hc3 hf3))
    all_goals
      go_wp2_with fail
      go_meet
      case rel =>
        refine ⟨_, _, rfl, rfl, rfl, ?_, ?_, ?_, ?_, ?_, ?_, ?_, ?_, (by repeat (first | with_reducible exact Below.refl _ _ | with_reducible exact B3 | with_reducible refine Below.setCell ?_ (by first | omega | (simp; done) | (simp; omega)) _ | with_reducible refine bDrewN ?_ _ | with_reducible refine Below.drew ?_ | with_reducible refine Below.alloc ?_ (by first | omega | (simp; done) | (simp; omega)) _))⟩
        all_goals first | omega | (simp [go_sem, *]; done) | (simp [go_sem, *, Nat.add_assoc]; done) | (simp; omega) | (simp [*]; omega)
  case rest =>
    obtain ⟨p, q, rfl, rfl, rfl, lp, lq, p0, p1, p2, q0, q1, q2, hB⟩ := hcut
    replace c0 := (hB.cell (p := ⟨w.heap.size, 0, none⟩) z0).trans c0
    replace c1 := (hB.cell (p := ⟨w.heap.size, 1, none⟩) z0).trans c1
    replace c2 := (hB.cell (p := ⟨w.heap.size, 2, none⟩) z0).trans c2
    replace c3 := (hB.cell (p := ⟨w.heap.size + 1, 0, none⟩) z1).trans c3
    replace c4 := (hB.cell (p := ⟨w.heap.size + 1, 1, none⟩) z1).trans c4
    replace c5 := (hB.cell (p := ⟨w.heap.size + 1, 2, none⟩) z1).trans c5
    replace c6 := (hB.cell (p := ⟨w.heap.size + 1, 3, none⟩) z1).trans c6
    replace c7 := (hB.cell (p := ⟨w.heap.size + 1, 4, none⟩) z1).trans c7
    replace c8 := (hB.cell (p := ⟨w.heap.size + 1, 5, none⟩) z1).trans c8
    replace z0 := Nat.lt_of_lt_of_le z0 hB.size
    replace z1 := Nat.lt_of_lt_of_le z1 hB.size
    replace B0 : Below w.heap.size w wc := B0.trans (hB.mono s0)
    replace s0 := B0.size
    clear hB
    go_upto_region 2 with fail
    go_cut [8, 9, 10] (fun a b c wx => ∃ p q : Nat, a = .pointer (some ⟨p, 0, none⟩) ∧ b = .pointer (some ⟨q, 0, none⟩) ∧ c = .bool ok ∧ p < wx.heap.size ∧ q < wx.heap.size ∧ wx.cell? ⟨p, 0, none⟩ = some (.int .i64 y0) ∧ wx.cell? ⟨p, 1, none⟩ = some (.int .i64 y1) ∧ wx.cell? ⟨p, 2, none⟩ = some (.int .i64 y2) ∧ wx.cell? ⟨q, 0, none⟩ = some (.bool o0) ∧ wx.cell? ⟨q, 1, none⟩ = some (.bool o1) ∧ wx.cell? ⟨q, 2, none⟩ = some (.bool o2) ∧ Below wc.heap.size wc wx)
    case first =>
      go_region_held3 (fun w' => w'.cell? ⟨w.heap.size, 0, none⟩ = some (.int .i64 s) ∧ w'.cell? ⟨w.heap.size, 1, none⟩ = some (.int .i64 t) ∧ w'.cell? ⟨w.heap.size, 2, none⟩ = some (.int .i64 r) ∧ w'.cell? ⟨w.heap.size + 1, 0, none⟩ = some (.bool air) ∧ w'.cell? ⟨w.heap.size + 1, 1, none⟩ = some (.bool gas) ∧ w'.cell? ⟨w.heap.size + 1, 2, none⟩ = some (.bool fl) ∧ w'.cell? ⟨w.heap.size + 1, 3, none⟩ = some (.bool st) ∧ w'.cell? ⟨w.heap.size + 1, 4, none⟩ = some (.bool sp) ∧ w'.cell? ⟨w.heap.size + 1, 5, none⟩ = some (.bool rs)) (first | (refine keep9 c0 c1 c2 c3 c4 c5 c6 c7 c8 z0 z1 ?_; exact (by repeat (first | with_reducible exact Below.refl _ _ | with_reducible exact B3 | with_reducible refine Below.setCell ?_ (by first | omega | (simp; done) | (simp; omega)) _ | with_reducible refine bDrewN ?_ _ | with_reducible refine Below.drew ?_ | with_reducible refine Below.alloc ?_ (by first | omega | (simp; done) | (simp; omega)) _)))) (first
        | (go_at_call 10; refine (toBurner_is s t r _).mono ?_; rintro e wa ⟨rfl, rfl⟩)
        | (go_at_call 13; refine (toIn_is air gas fl st sp rs _).mono ?_; rintro e wb ⟨rfl, rfl⟩)
        | (go_at_call 14; refine (H2.out _).mono ?_; rintro e w3 ⟨rfl, h3⟩; have B3 : Below wc.heap.size wc w3 := Below.trans (by repeat (first | with_reducible exact Below.refl _ _ | with_reducible refine Below.setCell ?_ (by first | omega | (simp; done) | (simp; omega)) _ | with_reducible refine bDrewN ?_ _ | with_reducible refine Below.drew ?_ | with_reducible refine Below.alloc ?_ (by first | omega | (simp; done) | (simp; omega)) _)) (h3.mono (by first | omega | (simp; done) | (simp; omega))); have s3 := B3.size; have s3b := h3.size; (try simp at s3b); obtain ⟨hc3, hf3⟩ := bcell h3; (try (have sa0 : wc.heap.size < w3.heap.size := (by omega); have ca0_0 := hc3 (wc.heap.size) 0 (by first | omega | (simp; done) | (simp; omega)); have fa0_0 := hf3 (wc.heap.size) 0 (by first | omega | (simp; done) | (simp; omega)); have ca0_1 := hc3 (wc.heap.size) 1 (by first | omega | (simp; done) | (simp; omega)); have fa0_1 := hf3 (wc.heap.size) 1 (by first | omega | (simp; done) | (simp; omega)); have ca0_2 := hc3 (wc.heap.size) 2 (by first | omega | (simp; done) | (simp; omega)); have fa0_2 := hf3 (wc.heap.size) 2 (by first | omega | (simp; done) | (simp; omega)); simp (maxDischargeDepth := 12) [go_sem] at ca0_0 fa0_0 ca0_1 fa0_1 ca0_2 fa0_2)); (try (have sa1 : wc.heap.size + 1 < w3.heap.size := (by omega); have ca1_0 := hc3 (wc.heap.size + 1) 0 (by first | omega | (simp; done) | (simp; omega)); have fa1_0 := hf3 (wc.heap.size + 1) 0 (by first | omega | (simp; done) | (simp; omega)); have ca1_1 := hc3 (wc.heap.size + 1) 1 (by first | omega | (simp; done) | (simp; omega)); have fa1_1 := hf3 (wc.heap.size + 1) 1 (by first | omega | (simp; done) | (simp; omega)); have ca1_2 := hc3 (wc.heap.size + 1) 2 (by first | omega | (simp; done) | (simp; omega)); have fa1_2 := hf3 (wc.heap.size + 1) 2 (by first | omega | (simp; done) | (simp; omega)); simp (maxDischargeDepth := 12) [go_sem] at ca1_0 fa1_0 ca1_1 fa1_1 ca1_2 fa1_2)); (try (have sa3 : wc.heap.size + 1 + 1 + 1 < w3.heap.size := (by omega); have ca3_0 := hc3 (wc.heap.size + 1 + 1 + 1) 0 (by first | omega | (simp; done) | (simp; omega)); have fa3_0 := hf3 (wc.heap.size + 1 + 1 + 1) 0 (by first | omega | (simp; done) | (simp; omega)); have ca3_1 := hc3 (wc.heap.size + 1 + 1 + 1) 1 (by first | omega | (simp; done) | (simp; omega)); have fa3_1 := hf3 (wc.heap.size + 1 + 1 + 1) 1 (by first | omega | (simp; done) | (simp; omega)); have ca3_2 := hc3 (wc.heap.size + 1 + 1 + 1) 2 (by first | omega | (simp; done) | (simp; omega)); have fa3_2 := hf3 (wc.heap.size + 1 + 1 + 1) 2 (by first | omega | (simp; done) | (simp; omega)); simp (maxDischargeDepth := 12) [go_sem] at ca3_0 fa3_0 ca3_1 fa3_1 ca3_2 fa3_2)); (try (have sa4 : wc.heap.size + 1 + 1 + 1 + 1 < w3.heap.size := (by omega); have ca4_0 := hc3 (wc.heap.size + 1 + 1 + 1 + 1) 0 (by first | omega | (simp; done) | (simp; omega)); have fa4_0 := hf3 (wc.heap.size + 1 + 1 + 1 + 1) 0 (by first | omega | (simp; done) | (simp; omega)); have ca4_1 := hc3 (wc.heap.size + 1 + 1 + 1 + 1) 1 (by first | omega | (simp; done) | (simp; omega)); have fa4_1 := hf3 (wc.heap.size + 1 + 1 + 1 + 1) 1 (by first | omega | (simp; done) | (simp; omega)); have ca4_2 := hc3 (wc.heap.size + 1 + 1 + 1 + 1) 2 (by first | omega | (simp; done) | (simp; omega)); have fa4_2 := hf3 (wc.heap.size + 1 + 1 + 1 + 1) 2 (by first | omega | (simp; done) | (simp; omega)); simp (maxDischargeDepth := 12) [go_sem] at ca4_0 fa4_0 ca4_1 fa4_1 ca4_2 fa4_2)); (try (have sa6 : wc.heap.size + 1 + 1 + 1 + 1 + 1 + 1 < w3.heap.size := (by omega); have ca6_0 := hc3 (wc.heap.size + 1 + 1 + 1 + 1 + 1 + 1) 0 (by first | omega | (simp; done) | (simp; omega)); have fa6_0 := hf3 (wc.heap.size + 1 + 1 + 1 + 1 + 1 + 1) 0 (by first | omega | (simp; done) | (simp; omega)); have ca6_1 := hc3 (wc.heap.size + 1 + 1 + 1 + 1 + 1 + 1) 1 (by first | omega | (simp; done) | (simp; omega)); have fa6_1 := hf3 (wc.heap.size + 1 + 1 + 1 + 1 + 1 + 1) 1 (by first | omega | (simp; done) | (simp; omega)); have ca6_2 := hc3 (wc.heap.size + 1 + 1 + 1 + 1 + 1 + 1) 2 (by first | omega | (simp; done) | (simp; omega)); have fa6_2 := hf3 (wc.heap.size + 1 + 1 + 1 + 1 + 1 + 1) 2 (by first | omega | (simp; done) | (simp; omega)); simp (maxDischargeDepth := 12) [go_sem] at ca6_0 fa6_0 ca6_1 fa6_1 ca6_2 fa6_2)); (try (have sa7 : wc.heap.size + 1 + 1 + 1 + 1 + 1 + 1 + 1 < w3.heap.size := (by omega); have ca7_0 := hc3 (wc.heap.size + 1 + 1 + 1 + 1 + 1 + 1 + 1) 0 (by first | omega | (simp; done) | (simp; omega)); have fa7_0 := hf3 (wc.heap.size + 1 + 1 + 1 + 1 + 1 + 1 + 1) 0 (by first | omega | (simp; done) | (simp; omega)); have ca7_1 := hc3 (wc.heap.size + 1 + 1 + 1 + 1 + 1 + 1 + 1) 1 (by first | omega | (simp; done) | (simp; omega)); have fa7_1 := hf3 (wc.heap.size + 1 + 1 + 1 + 1 + 1 + 1 + 1) 1 (by first | omega | (simp; done) | (simp; omega)); have ca7_2 := hc3 (wc.heap.size + 1 + 1 + 1 + 1 + 1 + 1 + 1) 2 (by first | omega | (simp; done) | (simp; omega)); have fa7_2 := hf3 (wc.heap.size + 1 + 1 + 1 + 1 + 1 + 1 + 1) 2 (by first | omega | (simp; done) | (simp; omega)); simp (maxDischargeDepth := 12) [go_sem] at ca7_0 fa7_0 ca7_1 fa7_1 ca7_2 fa7_2)); clear hc3 hf3))
      all_goals
        go_wp2_with fail
        go_meet
        case rel =>
          refine ⟨_, _, rfl, rfl, rfl, ?_, ?_, ?_, ?_, ?_, ?_, ?_, ?_, (by repeat (first | with_reducible exact Below.refl _ _ | with_reducible exact B3 | with_reducible refine Below.setCell ?_ (by first | omega | (simp; done) | (simp; omega)) _ | with_reducible refine bDrewN ?_ _ | with_reducible refine Below.drew ?_ | with_reducible refine Below.alloc ?_ (by first | omega | (simp; done) | (simp; omega)) _))⟩
          all_goals first | omega | (simp [go_sem, *]; done) | (simp [go_sem, *, Nat.add_assoc]; done) | (simp; omega) | (simp [*]; omega)
    case rest =>
      obtain ⟨p', q', rfl, rfl, rfl, lp', lq', p0', p1', p2', q0', q1', q2', hB⟩ := hcut
      replace p0 := (hB.cell (p := ⟨p, 0, none⟩) lp).trans p0
      replace q0 := (hB.cell (p := ⟨q, 0, none⟩) lq).trans q0
      replace p1 := (hB.cell (p := ⟨p, 1, none⟩) lp).trans p1
      replace q1 := (hB.cell (p := ⟨q, 1, none⟩) lq).trans q1
      replace p2 := (hB.cell (p := ⟨p, 2, none⟩) lp).trans p2
      replace q2 := (hB.cell (p := ⟨q, 2, none⟩) lq).trans q2
      replace lp := Nat.lt_of_lt_of_le lp hB.size
      replace lq := Nat.lt_of_lt_of_le lq hB.size
      replace B0 := B0.trans (hB.mono s0)
      clear s0 hB c0 c1 c2 c3 c4 c5 c6 c7 c8
      have s0 := B0.size
      go_wp2_with fail
      refine (eqBurner_any y0 y1 y2 _).mono ?_
      rintro e w5 ⟨rfl, h5⟩
      replace q0 := (h5.cell (p := ⟨q, 0, none⟩) lq).trans q0
      replace q0' := (h5.cell (p := ⟨q', 0, none⟩) lq').trans q0'
      replace q1 := (h5.cell (p := ⟨q, 1, none⟩) lq).trans q1
      replace q1' := (h5.cell (p := ⟨q', 1, none⟩) lq').trans q1'
      replace q2 := (h5.cell (p := ⟨q, 2, none⟩) lq).trans q2
      replace q2' := (h5.cell (p := ⟨q', 2, none⟩) lq').trans q2'
      replace B0 := B0.trans (h5.mono s0)
      clear p0 p1 p2 p0' p1' p2' s0
      have s0 := B0.size
      go_wp2_with fail
      refine (eqOut_any o0 o1 o2 _).mono ?_
      rintro e w6 ⟨rfl, h6⟩
      have B6 := B0.trans (h6.mono s0)
      cases ok
      all_goals
        go_wp2
        go_ret
        exact ⟨rfl, B6⟩
theorem fnExactBurnerStep_walk (s : Int) (ws : (Lit.int .i64 s).wf = true) (t : Int) (wt : (Lit.int .i64 t).wf = true) (r : Int) (wr : (Lit.int .i64 r).wf = true) (air gas fl st sp rs : Bool) (w : World) :
    Calls Try.prog 4 #[.agg #[.int .i64 s, .int .i64 t, .int .i64 r], .agg #[.bool air, .bool gas, .bool fl, .bool st, .bool sp, .bool rs]] w fun e w' => e = .returned (.bool true) ∧ Below w.heap.size w w' :=
  burnerStep_law s t r air gas fl st sp rs _ _ _ _ _ _ _ w (fun w => specStep_any s t r air gas fl st sp rs w) (fun w => implStep_any s t r air gas fl st sp rs w)

set_option maxRecDepth 100000 in
theorem fnExactBurnerStep_lifted (os : Os) (started : os.Started) (H : Type) (enc : TypeId × Value → H) :
    ReturnsInHanded {} Try.checked os 4 .any (Rows.fnExactBurnerStepSpec.pre6 enc Try.prog Try.f4 Rows.fnExactBurnerStepRow.domain false) (Rows.fnExactBurnerStepSpec.post enc Try.prog Try.f4 false true false false) := by
  refine returnsInHanded_of_change (C := Try.checked) own started (by kernel_rfl) Try.func4
    (ChangeSpec.witness6 (enc := enc) (C := Try.checked) false ⟨#[], #[.agg #[.int .i64 0, .int .i64 0, .int .i64 0], .agg #[.bool false, .bool false, .bool false, .bool false, .bool false, .bool false]], []⟩ 8 (by kernel_rfl) (by kernel_rfl) (by kernel_rfl) (by kernel_rfl)) ?_
  intro W base args ds gs before hval0 hW hcnd _
  have hval : ∀ (j : Nat) t v, Try.f4.params[j]? = some t → args[j]? = some v → Value.okWide Try.prog W .any base t v := hval0
  have hW' := hW
  obtain ⟨p, q, hA0, hV, rfl, hfz, hnd⟩ := hW
  have hA : DataW.TrodAll enc Try.prog W 0 (fun _ => true) true Try.f4.params.toList args.toList ds p := hA0
  rw [Try.params4] at hA hval
  obtain ⟨v0, vs0, d0, ds0, p0, q0, hargs, rfl, rfl, h0, r0⟩ := trodAll_cons hA
  obtain ⟨v1, vs1, d1, ds1, p1, q1, rfl, rfl, rfl, h1, r1⟩ := trodAll_cons r0
  obtain ⟨rfl, rfl, rfl⟩ := trodAll_nil r1
  obtain rfl : args = #[v0, v1] := by cases args; simp_all
  obtain ⟨rfl, rfl⟩ := trodVars_none hV
  have k0 := h0
  have lt0 : ∀ x ∈ p0, x.block < W.heap.size := by obtain ⟨m, hm⟩ := k0; exact DataW.trod_lt m _ _ _ hm
  have k1 := h1
  have lt1 : ∀ x ∈ p1, x.block < W.heap.size := by obtain ⟨m, hm⟩ := k1; exact DataW.trod_lt m _ _ _ hm
  obtain ⟨vs0, rfl, c0⟩ := open_cells Try.underlying23 (ts := [2, 2, 2]) (by kernel_rfl) (by kernel_rfl) (hval 0 23 v0 rfl rfl)
  obtain ⟨x0_0, r0_0, rfl, o0_0, c0_0⟩ := cellsOk_cons c0
  obtain ⟨a0_0, rfl, w0_0⟩ := cell_int Try.underlying2 o0_0
  obtain ⟨x0_1, r0_1, rfl, o0_1, c0_1⟩ := cellsOk_cons c0_0
  obtain ⟨a0_1, rfl, w0_1⟩ := cell_int Try.underlying2 o0_1
  obtain ⟨x0_2, r0_2, rfl, o0_2, c0_2⟩ := cellsOk_cons c0_1
  obtain ⟨a0_2, rfl, w0_2⟩ := cell_int Try.underlying2 o0_2
  obtain rfl := cellsOk_nil c0_2
  obtain ⟨vs1, rfl, c1⟩ := open_cells Try.underlying29 (ts := [4, 4, 4, 4, 4, 4]) (by kernel_rfl) (by kernel_rfl) (hval 1 29 v1 rfl rfl)
  obtain ⟨x1_0, r1_0, rfl, o1_0, c1_0⟩ := cellsOk_cons c1
  obtain ⟨a1_0, rfl⟩ := cell_bool Try.underlying4 o1_0
  obtain ⟨x1_1, r1_1, rfl, o1_1, c1_1⟩ := cellsOk_cons c1_0
  obtain ⟨a1_1, rfl⟩ := cell_bool Try.underlying4 o1_1
  obtain ⟨x1_2, r1_2, rfl, o1_2, c1_2⟩ := cellsOk_cons c1_1
  obtain ⟨a1_2, rfl⟩ := cell_bool Try.underlying4 o1_2
  obtain ⟨x1_3, r1_3, rfl, o1_3, c1_3⟩ := cellsOk_cons c1_2
  obtain ⟨a1_3, rfl⟩ := cell_bool Try.underlying4 o1_3
  obtain ⟨x1_4, r1_4, rfl, o1_4, c1_4⟩ := cellsOk_cons c1_3
  obtain ⟨a1_4, rfl⟩ := cell_bool Try.underlying4 o1_4
  obtain ⟨x1_5, r1_5, rfl, o1_5, c1_5⟩ := cellsOk_cons c1_4
  obtain ⟨a1_5, rfl⟩ := cell_bool Try.underlying4 o1_5
  obtain rfl := cellsOk_nil c1_5
  clear hA0 hval0
  refine (fnExactBurnerStep_walk a0_0 w0_0 a0_1 w0_1 a0_2 w0_2 a1_0 a1_1 a1_2 a1_3 a1_4 a1_5 W).mono fun e W' ⟨he, bel⟩ => ?_
  subst he
  exact ⟨_, rfl, _, _, _, [], _, [], hW', trodAll_mk1 (shut_bool Try.underlying4 _), (trodAll_cons_mk (Below.trod laidOut (by kernel_rfl) (of_decide_eq_true (by kernel_rfl)) k0 bel lt0) (trodAll_cons_mk (Below.trod laidOut (by kernel_rfl) (of_decide_eq_true (by kernel_rfl)) k1 bel lt1) trodAll_mk0)), rfl, bel.frame _, fun h => by cases h⟩

theorem fnExactBurnerStep_holds : Rows.FnExactBurnerStepSaid :=
  OpenClaim.holds_of_wide 4 Try.f4 rfl rfl rfl rfl rfl rfl rfl ⟨rfl, rfl, rfl, rfl, rfl⟩ rfl rfl rfl rfl rfl (by kernel_rfl) Try.func4 (by kernel_rfl)
    (of_decide_eq_true (by kernel_rfl)) (by unfold Func.isWrapper; first | (rw [if_pos (by decide +kernel)]; kernel_rfl) | (rw [if_neg (by decide +kernel)]; exact ⟨rfl, rfl⟩))
    (fun os started H enc _ => fnExactBurnerStep_lifted os started H enc)
#print axioms fnExactBurnerStep_holds
end Go.Proofs.Ytaimdbgimkgelaa
