/-
What is proved: at every three pairs impl.Unsequence answers as the specification's Unsequence, part by part, all NaNs being one, and its answer owns its memory; no condition.
-/
import Derived.Test.YtooanlcpbebhlaaSUnsequence
import Derived.Test.YtooanlcpbebhlaaIUnsequence
import Derived.Deep.RegionHeld3
import Derived.Deep.DeepCutAuto
namespace Go.Proofs.Ytooanlcpbebhlaa
set_option maxRecDepth 40000
open Go.ChangeShapes Go.WideShapes Go.ChangeAt Go.RowKit
set_option linter.unusedVariables false
set_option linter.unusedSimpArgs false

theorem f64_lt {x : Nat} (h : (Lit.float .f64 x).wf = true) : x < 18446744073709551616 := by
  simpa [Lit.wf] using h

theorem keep6s {W W' : World} {B : Nat} {p0 p1 p2 : Nat} {v0 v1 v2 v3 v4 v5 : Value} (h0 : W.cell? ⟨p0, 0, none⟩ = some v0) (h1 : W.cell? ⟨p0, 1, none⟩ = some v1) (h2 : W.cell? ⟨p1, 0, none⟩ = some v2) (h3 : W.cell? ⟨p1, 1, none⟩ = some v3) (h4 : W.cell? ⟨p2, 0, none⟩ = some v4) (h5 : W.cell? ⟨p2, 1, none⟩ = some v5) (z0 : p0 < B) (z1 : p1 < B) (z2 : p2 < B) (hb : Below B W W') : W'.cell? ⟨p0, 0, none⟩ = some v0 ∧ W'.cell? ⟨p0, 1, none⟩ = some v1 ∧ W'.cell? ⟨p1, 0, none⟩ = some v2 ∧ W'.cell? ⟨p1, 1, none⟩ = some v3 ∧ W'.cell? ⟨p2, 0, none⟩ = some v4 ∧ W'.cell? ⟨p2, 1, none⟩ = some v5 :=
  ⟨(hb.cell (p := ⟨p0, 0, none⟩) z0).trans h0, (hb.cell (p := ⟨p0, 1, none⟩) z0).trans h1, (hb.cell (p := ⟨p1, 0, none⟩) z1).trans h2, (hb.cell (p := ⟨p1, 1, none⟩) z1).trans h3, (hb.cell (p := ⟨p2, 0, none⟩) z2).trans h4, (hb.cell (p := ⟨p2, 1, none⟩) z2).trans h5⟩

set_option maxRecDepth 20000 in
set_option maxHeartbeats 4000000 in
theorem fnExactUnsequence_core (x1 x2 y1 y2 z1 z2 : Nat) (U : Nat → Option Nat) (w : World)
    (H1 : Hid (∀ w, Calls Try.prog 26 #[.agg #[.float .f64 x1, .float .f64 x2], .agg #[.float .f64 y1, .float .f64 y2], .agg #[.float .f64 z1, .float .f64 z2]] w fun e w' => ∃ b, e = .returned (.slice (some ⟨b, 0, none⟩) 3 3) ∧ w.heap.size ≤ b ∧ b < w'.heap.size ∧ OwnF w.heap.size w' (some ⟨b, 0, none⟩) 6 U ∧ Below w.heap.size w w'))
    (H2 : Hid (∀ w, Calls Try.prog 27 #[.agg #[.float .f64 x1, .float .f64 x2], .agg #[.float .f64 y1, .float .f64 y2], .agg #[.float .f64 z1, .float .f64 z2]] w fun e w' => ∃ b, e = .returned (.slice (some ⟨b, 0, none⟩) 3 3) ∧ w.heap.size ≤ b ∧ b < w'.heap.size ∧ OwnF w.heap.size w' (some ⟨b, 0, none⟩) 6 U ∧ Below w.heap.size w w')) :
    Calls Try.prog 8 #[.agg #[.float .f64 x1, .float .f64 x2], .agg #[.float .f64 y1, .float .f64 y2], .agg #[.float .f64 z1, .float .f64 z2]] w fun e w' => e = .returned (.bool true) ∧ Below w.heap.size w w' := by
  go_enter Try.func8, Try.ntmps8
  go_upto_region 1 with fail
  obtain ⟨wd, hwd⟩ : ∃ wd, wd = (((w.alloc (.cells #[.float .f64 x1, .float .f64 x2] 24)).alloc (.cells #[.float .f64 y1, .float .f64 y2] 24)).alloc (.cells #[.float .f64 z1, .float .f64 z2] 24)) := ⟨_, rfl⟩
  rw [← hwd]
  have q0 : wd.cell? ⟨w.heap.size, 0, none⟩ = some (.float .f64 x1) := by rw [hwd]; simp [go_sem]
  have q1 : wd.cell? ⟨w.heap.size, 1, none⟩ = some (.float .f64 x2) := by rw [hwd]; simp [go_sem]
  have q2 : wd.cell? ⟨w.heap.size + 1, 0, none⟩ = some (.float .f64 y1) := by rw [hwd]; simp [go_sem]
  have q3 : wd.cell? ⟨w.heap.size + 1, 1, none⟩ = some (.float .f64 y2) := by rw [hwd]; simp [go_sem]
  have q4 : wd.cell? ⟨w.heap.size + 1 + 1, 0, none⟩ = some (.float .f64 z1) := by rw [hwd]; simp [go_sem]
  have q5 : wd.cell? ⟨w.heap.size + 1 + 1, 1, none⟩ = some (.float .f64 z2) := by rw [hwd]; simp [go_sem]
  have y0 : w.heap.size < wd.heap.size := by rw [hwd]; simp <;> omega
  have y3 : w.heap.size + 1 < wd.heap.size := by rw [hwd]; simp <;> omega
  have y4 : w.heap.size + 1 + 1 < wd.heap.size := by rw [hwd]; simp <;> omega
  have B0 : Below w.heap.size w wd := by rw [hwd]; exact (by repeat (first | with_reducible exact Below.refl _ _ | with_reducible refine Below.setCell ?_ (by first | omega | (simp; done) | (simp; omega)) _ | with_reducible refine bDrewN ?_ _ | with_reducible refine Below.drew ?_ | with_reducible refine Below.alloc ?_ (by first | omega | (simp; done) | (simp; omega)) _))
  have s0 := B0.size
  clear hwd
  go_cut [7] (fun s wx => ∃ b : Nat, s = .slice (some ⟨b, 0, none⟩) 3 3 ∧ wd.heap.size ≤ b ∧ b < wx.heap.size ∧ OwnF wd.heap.size wx (some ⟨b, 0, none⟩) 6 U ∧ Below wd.heap.size wd wx)
  case first =>
    go_region_held3 (fun w' => w'.cell? ⟨w.heap.size, 0, none⟩ = some (.float .f64 x1) ∧ w'.cell? ⟨w.heap.size, 1, none⟩ = some (.float .f64 x2) ∧ w'.cell? ⟨w.heap.size + 1, 0, none⟩ = some (.float .f64 y1) ∧ w'.cell? ⟨w.heap.size + 1, 1, none⟩ = some (.float .f64 y2) ∧ w'.cell? ⟨w.heap.size + 1 + 1, 0, none⟩ = some (.float .f64 z1) ∧ w'.cell? ⟨w.heap.size + 1 + 1, 1, none⟩ = some (.float .f64 z2)) (first | (refine keep6s q0 q1 q2 q3 q4 q5 y0 y3 y4 ?_; exact (by repeat (first | with_reducible exact Below.refl _ _ | with_reducible exact B3 | with_reducible refine Below.setCell ?_ (by first | omega | (simp; done) | (simp; omega)) _ | with_reducible refine bDrewN ?_ _ | with_reducible refine Below.drew ?_ | with_reducible refine Below.alloc ?_ (by first | omega | (simp; done) | (simp; omega)) _)))) (first
          | (go_at_call_of 10 (Value.float FloatKind.f64 x1); refine (toPair_any x1 x2 _).mono ?_; rintro e w1 ⟨rfl, rfl⟩)
          | (go_at_call_of 10 (Value.float FloatKind.f64 y1); refine (toPair_any y1 y2 _).mono ?_; rintro e w1 ⟨rfl, rfl⟩)
          | (go_at_call_of 10 (Value.float FloatKind.f64 z1); refine (toPair_any z1 z2 _).mono ?_; rintro e w1 ⟨rfl, rfl⟩)
          | (go_at_call 26; refine (H1.out _).mono ?_; rintro e w3 ⟨b3, rfl, l3, u3, O3, h3⟩; have B3 : Below wd.heap.size wd w3 := Below.trans (by repeat (first | with_reducible exact Below.refl _ _ | with_reducible refine Below.setCell ?_ (by first | omega | (simp; done) | (simp; omega)) _ | with_reducible refine bDrewN ?_ _ | with_reducible refine Below.drew ?_ | with_reducible refine Below.alloc ?_ (by first | omega | (simp; done) | (simp; omega)) _)) (h3.mono (by first | omega | (simp; done) | (simp; omega))); have s3 := h3.size; simp at s3 l3; have P3 : Hid (OwnF wd.heap.size w3 (some ⟨b3, 0, none⟩) 6 U) := O3.mono (by first | omega | (simp; done) | (simp; omega)); clear O3 h3))
    all_goals
      go_wp2_with fail
      go_meet
      case rel => exact ⟨b3, rfl, (by omega), (by first | exact u3 | (simp; omega)), P3.out, (by repeat (first | with_reducible exact Below.refl _ _ | with_reducible exact B3 | with_reducible refine Below.setCell ?_ (by first | omega | (simp; done) | (simp; omega)) _ | with_reducible refine bDrewN ?_ _ | with_reducible refine Below.drew ?_ | with_reducible refine Below.alloc ?_ (by first | omega | (simp; done) | (simp; omega)) _))⟩
  case rest =>
    obtain ⟨b0, rfl, l0, m0, O0, hB⟩ := hcut
    have RW : Hid (RowF wc (some ⟨b0, 0, none⟩) 6 U) := O0.row
    clear O0 l0
    replace q0 := (hB.cell (p := ⟨w.heap.size, 0, none⟩) y0).trans q0
    replace q1 := (hB.cell (p := ⟨w.heap.size, 1, none⟩) y0).trans q1
    replace q2 := (hB.cell (p := ⟨w.heap.size + 1, 0, none⟩) y3).trans q2
    replace q3 := (hB.cell (p := ⟨w.heap.size + 1, 1, none⟩) y3).trans q3
    replace q4 := (hB.cell (p := ⟨w.heap.size + 1 + 1, 0, none⟩) y4).trans q4
    replace q5 := (hB.cell (p := ⟨w.heap.size + 1 + 1, 1, none⟩) y4).trans q5
    replace y0 := Nat.lt_of_lt_of_le y0 hB.size
    replace y3 := Nat.lt_of_lt_of_le y3 hB.size
    replace y4 := Nat.lt_of_lt_of_le y4 hB.size
    replace B0 : Below w.heap.size w wc := B0.trans (hB.mono s0)
    replace s0 := B0.size
    obtain ⟨wc1, hw1⟩ : ∃ wc1, wc1 = wc := ⟨_, rfl⟩
    rw [← hw1]
    rw [← hw1] at q0 q1 q2 q3 q4 q5 y0 y3 y4 B0 s0 RW m0
    clear hB hw1
    go_upto_region 2 with fail
    go_cut [8] (fun s wx => ∃ b : Nat, s = .slice (some ⟨b, 0, none⟩) 3 3 ∧ wc1.heap.size ≤ b ∧ b < wx.heap.size ∧ OwnF wc1.heap.size wx (some ⟨b, 0, none⟩) 6 U ∧ Below wc1.heap.size wc1 wx)
    case first =>
      go_region_held3 (fun w' => w'.cell? ⟨w.heap.size, 0, none⟩ = some (.float .f64 x1) ∧ w'.cell? ⟨w.heap.size, 1, none⟩ = some (.float .f64 x2) ∧ w'.cell? ⟨w.heap.size + 1, 0, none⟩ = some (.float .f64 y1) ∧ w'.cell? ⟨w.heap.size + 1, 1, none⟩ = some (.float .f64 y2) ∧ w'.cell? ⟨w.heap.size + 1 + 1, 0, none⟩ = some (.float .f64 z1) ∧ w'.cell? ⟨w.heap.size + 1 + 1, 1, none⟩ = some (.float .f64 z2)) (first | (refine keep6s q0 q1 q2 q3 q4 q5 y0 y3 y4 ?_; exact (by repeat (first | with_reducible exact Below.refl _ _ | with_reducible exact B3 | with_reducible refine Below.setCell ?_ (by first | omega | (simp; done) | (simp; omega)) _ | with_reducible refine bDrewN ?_ _ | with_reducible refine Below.drew ?_ | with_reducible refine Below.alloc ?_ (by first | omega | (simp; done) | (simp; omega)) _)))) (first
            | (go_at_call_of 10 (Value.float FloatKind.f64 x1); refine (toPair_any x1 x2 _).mono ?_; rintro e w1 ⟨rfl, rfl⟩)
            | (go_at_call_of 10 (Value.float FloatKind.f64 y1); refine (toPair_any y1 y2 _).mono ?_; rintro e w1 ⟨rfl, rfl⟩)
            | (go_at_call_of 10 (Value.float FloatKind.f64 z1); refine (toPair_any z1 z2 _).mono ?_; rintro e w1 ⟨rfl, rfl⟩)
            | (go_at_call 27; refine (H2.out _).mono ?_; rintro e w3 ⟨b3, rfl, l3, u3, O3, h3⟩; have B3 : Below wc1.heap.size wc1 w3 := Below.trans (by repeat (first | with_reducible exact Below.refl _ _ | with_reducible refine Below.setCell ?_ (by first | omega | (simp; done) | (simp; omega)) _ | with_reducible refine bDrewN ?_ _ | with_reducible refine Below.drew ?_ | with_reducible refine Below.alloc ?_ (by first | omega | (simp; done) | (simp; omega)) _)) (h3.mono (by first | omega | (simp; done) | (simp; omega))); have s3 := h3.size; simp at s3 l3; have P3 : Hid (OwnF wc1.heap.size w3 (some ⟨b3, 0, none⟩) 6 U) := O3.mono (by first | omega | (simp; done) | (simp; omega)); clear O3 h3))
      all_goals
        go_wp2_with fail
        go_meet
        case rel => exact ⟨b3, rfl, (by omega), (by first | exact u3 | (simp; omega)), P3.out, (by repeat (first | with_reducible exact Below.refl _ _ | with_reducible exact B3 | with_reducible refine Below.setCell ?_ (by first | omega | (simp; done) | (simp; omega)) _ | with_reducible refine bDrewN ?_ _ | with_reducible refine Below.drew ?_ | with_reducible refine Below.alloc ?_ (by first | omega | (simp; done) | (simp; omega)) _))⟩
    case rest =>
      obtain ⟨b1, rfl, l1, m1, O1, hB⟩ := hcut
      have PG : Hid (OwnF wc1.heap.size wc (some ⟨b1, 0, none⟩) 6 U) := O1
      replace RW : Hid (RowF wc (some ⟨b0, 0, none⟩) 6 U) := RW.out.below hB
      have s1 := hB.size
      clear O1
      obtain ⟨k0, k3, k4⟩ : w.heap.size < wc1.heap.size ∧ w.heap.size + 1 < wc1.heap.size ∧ w.heap.size + 1 + 1 < wc1.heap.size := ⟨y0, y3, y4⟩
      replace q0 := (hB.cell (p := ⟨w.heap.size, 0, none⟩) y0).trans q0
      replace q1 := (hB.cell (p := ⟨w.heap.size, 1, none⟩) y0).trans q1
      replace q2 := (hB.cell (p := ⟨w.heap.size + 1, 0, none⟩) y3).trans q2
      replace q3 := (hB.cell (p := ⟨w.heap.size + 1, 1, none⟩) y3).trans q3
      replace q4 := (hB.cell (p := ⟨w.heap.size + 1 + 1, 0, none⟩) y4).trans q4
      replace q5 := (hB.cell (p := ⟨w.heap.size + 1 + 1, 1, none⟩) y4).trans q5
      replace y0 := Nat.lt_of_lt_of_le y0 hB.size
      replace y3 := Nat.lt_of_lt_of_le y3 hB.size
      replace y4 := Nat.lt_of_lt_of_le y4 hB.size
      replace B0 : Below w.heap.size w wc := B0.trans (hB.mono s0)
      replace s0 := B0.size
      clear hB
      go_wp2_with fail
      refine (eqPairS_any _ _ 3 _ _ U _ (by omega) PG.out.row RW.out).mono ?_
      rintro e w5 ⟨rfl, h5⟩
      replace q0 := (h5.cell (p := ⟨w.heap.size, 0, none⟩) y0).trans q0
      replace q1 := (h5.cell (p := ⟨w.heap.size, 1, none⟩) y0).trans q1
      replace q2 := (h5.cell (p := ⟨w.heap.size + 1, 0, none⟩) y3).trans q2
      replace q3 := (h5.cell (p := ⟨w.heap.size + 1, 1, none⟩) y3).trans q3
      replace q4 := (h5.cell (p := ⟨w.heap.size + 1 + 1, 0, none⟩) y4).trans q4
      replace q5 := (h5.cell (p := ⟨w.heap.size + 1 + 1, 1, none⟩) y4).trans q5
      replace y0 := Nat.lt_of_lt_of_le y0 h5.size
      replace y3 := Nat.lt_of_lt_of_le y3 h5.size
      replace y4 := Nat.lt_of_lt_of_le y4 h5.size
      replace RW : Hid (RowF w5 (some ⟨b0, 0, none⟩) 6 U) := RW.out.below h5
      replace PG : Hid (OwnF wc1.heap.size w5 (some ⟨b1, 0, none⟩) 6 U) := PG.out.below h5
      replace B0 : Below w.heap.size w w5 := B0.trans (h5.mono s0)
      replace s0 := B0.size
      clear h5
      have s2 : wc1.heap.size ≤ w5.heap.size := by obtain ⟨bb, xx, ee, hl, hh, _⟩ := PG.out 0 (by omega); omega
      go_wp2_with fail
      refine (markPairS_own wc1.heap.size _ 3 _ _ U _ (by omega) (by omega) (by omega) s2 PG.out).mono ?_
      rintro e w6 ⟨rfl, O6, h6, -⟩
      clear PG
      have PM : Hid (OwnF wc1.heap.size w6 (some ⟨b1, 0, none⟩) 6 (markF 1)) := O6
      clear O6
      replace q0 := (h6.cell (p := ⟨w.heap.size, 0, none⟩) k0).trans q0
      replace q1 := (h6.cell (p := ⟨w.heap.size, 1, none⟩) k0).trans q1
      replace q2 := (h6.cell (p := ⟨w.heap.size + 1, 0, none⟩) k3).trans q2
      replace q3 := (h6.cell (p := ⟨w.heap.size + 1, 1, none⟩) k3).trans q3
      replace q4 := (h6.cell (p := ⟨w.heap.size + 1 + 1, 0, none⟩) k4).trans q4
      replace q5 := (h6.cell (p := ⟨w.heap.size + 1 + 1, 1, none⟩) k4).trans q5
      replace y0 := Nat.lt_of_lt_of_le y0 h6.size
      replace y3 := Nat.lt_of_lt_of_le y3 h6.size
      replace y4 := Nat.lt_of_lt_of_le y4 h6.size
      replace RW : Hid (RowF w6 (some ⟨b0, 0, none⟩) 6 U) := rowF_low RW.out h6 m0
      replace B0 : Below w.heap.size w w6 := B0.trans (h6.mono (Nat.le_of_lt k0))
      replace s0 := B0.size
      clear h6 s2
      go_wp2_with fail
      refine (heldPairS_any _ 3 _ 1 _ (by omega) (by omega) (by omega) PM.out.row).mono ?_
      rintro e w6 ⟨rfl, rfl⟩
      go_upto_region 13 with fail
      go_cut [11] (fun s wx => ∃ b : Nat, s = .slice (some ⟨b, 0, none⟩) 3 3 ∧ w6.heap.size ≤ b ∧ b < wx.heap.size ∧ OwnF w6.heap.size wx (some ⟨b, 0, none⟩) 6 U ∧ Below w6.heap.size w6 wx)
      case first =>
        go_region_held3 (fun w' => w'.cell? ⟨w.heap.size, 0, none⟩ = some (.float .f64 x1) ∧ w'.cell? ⟨w.heap.size, 1, none⟩ = some (.float .f64 x2) ∧ w'.cell? ⟨w.heap.size + 1, 0, none⟩ = some (.float .f64 y1) ∧ w'.cell? ⟨w.heap.size + 1, 1, none⟩ = some (.float .f64 y2) ∧ w'.cell? ⟨w.heap.size + 1 + 1, 0, none⟩ = some (.float .f64 z1) ∧ w'.cell? ⟨w.heap.size + 1 + 1, 1, none⟩ = some (.float .f64 z2)) (first | (refine keep6s q0 q1 q2 q3 q4 q5 y0 y3 y4 ?_; exact (by repeat (first | with_reducible exact Below.refl _ _ | with_reducible exact B3 | with_reducible refine Below.setCell ?_ (by first | omega | (simp; done) | (simp; omega)) _ | with_reducible refine bDrewN ?_ _ | with_reducible refine Below.drew ?_ | with_reducible refine Below.alloc ?_ (by first | omega | (simp; done) | (simp; omega)) _)))) (first
              | (go_at_call_of 10 (Value.float FloatKind.f64 x1); refine (toPair_any x1 x2 _).mono ?_; rintro e w1 ⟨rfl, rfl⟩)
              | (go_at_call_of 10 (Value.float FloatKind.f64 y1); refine (toPair_any y1 y2 _).mono ?_; rintro e w1 ⟨rfl, rfl⟩)
              | (go_at_call_of 10 (Value.float FloatKind.f64 z1); refine (toPair_any z1 z2 _).mono ?_; rintro e w1 ⟨rfl, rfl⟩)
              | (go_at_call 27; refine (H2.out _).mono ?_; rintro e w3 ⟨b3, rfl, l3, u3, O3, h3⟩; have B3 : Below w6.heap.size w6 w3 := Below.trans (by repeat (first | with_reducible exact Below.refl _ _ | with_reducible refine Below.setCell ?_ (by first | omega | (simp; done) | (simp; omega)) _ | with_reducible refine bDrewN ?_ _ | with_reducible refine Below.drew ?_ | with_reducible refine Below.alloc ?_ (by first | omega | (simp; done) | (simp; omega)) _)) (h3.mono (by first | omega | (simp; done) | (simp; omega))); have s3 := h3.size; simp at s3 l3; have P3 : Hid (OwnF w6.heap.size w3 (some ⟨b3, 0, none⟩) 6 U) := O3.mono (by first | omega | (simp; done) | (simp; omega)); clear O3 h3))
        all_goals
          go_wp2_with fail
          go_meet
          case rel => exact ⟨b3, rfl, (by omega), (by first | exact u3 | (simp; omega)), P3.out, (by repeat (first | with_reducible exact Below.refl _ _ | with_reducible exact B3 | with_reducible refine Below.setCell ?_ (by first | omega | (simp; done) | (simp; omega)) _ | with_reducible refine bDrewN ?_ _ | with_reducible refine Below.drew ?_ | with_reducible refine Below.alloc ?_ (by first | omega | (simp; done) | (simp; omega)) _))⟩
      case rest =>
        obtain ⟨b2, rfl, l2, m2, O2, hB⟩ := hcut
        have PH : Hid (RowF wc (some ⟨b2, 0, none⟩) 6 U) := O2.row
        replace RW : Hid (RowF wc (some ⟨b0, 0, none⟩) 6 U) := RW.out.below hB
        replace PM : Hid (OwnF wc1.heap.size wc (some ⟨b1, 0, none⟩) 6 (markF 1)) := PM.out.below hB
        clear O2
        replace q0 := (hB.cell (p := ⟨w.heap.size, 0, none⟩) y0).trans q0
        replace q1 := (hB.cell (p := ⟨w.heap.size, 1, none⟩) y0).trans q1
        replace q2 := (hB.cell (p := ⟨w.heap.size + 1, 0, none⟩) y3).trans q2
        replace q3 := (hB.cell (p := ⟨w.heap.size + 1, 1, none⟩) y3).trans q3
        replace q4 := (hB.cell (p := ⟨w.heap.size + 1 + 1, 0, none⟩) y4).trans q4
        replace q5 := (hB.cell (p := ⟨w.heap.size + 1 + 1, 1, none⟩) y4).trans q5
        replace y0 := Nat.lt_of_lt_of_le y0 hB.size
        replace y3 := Nat.lt_of_lt_of_le y3 hB.size
        replace y4 := Nat.lt_of_lt_of_le y4 hB.size
        replace B0 : Below w.heap.size w wc := B0.trans (hB.mono s0)
        replace s0 := B0.size
        clear hB
        go_wp2_with fail
        refine (eqPairS_any _ _ 3 _ _ U _ (by omega) PH.out RW.out).mono ?_
        rintro e w8 ⟨rfl, h5⟩
        replace q0 := (h5.cell (p := ⟨w.heap.size, 0, none⟩) y0).trans q0
        replace q1 := (h5.cell (p := ⟨w.heap.size, 1, none⟩) y0).trans q1
        replace q2 := (h5.cell (p := ⟨w.heap.size + 1, 0, none⟩) y3).trans q2
        replace q3 := (h5.cell (p := ⟨w.heap.size + 1, 1, none⟩) y3).trans q3
        replace q4 := (h5.cell (p := ⟨w.heap.size + 1 + 1, 0, none⟩) y4).trans q4
        replace q5 := (h5.cell (p := ⟨w.heap.size + 1 + 1, 1, none⟩) y4).trans q5
        replace y0 := Nat.lt_of_lt_of_le y0 h5.size
        replace y3 := Nat.lt_of_lt_of_le y3 h5.size
        replace y4 := Nat.lt_of_lt_of_le y4 h5.size
        replace PM : Hid (OwnF wc1.heap.size w8 (some ⟨b1, 0, none⟩) 6 (markF 1)) := PM.out.below h5
        replace B0 : Below w.heap.size w w8 := B0.trans (h5.mono s0)
        replace s0 := B0.size
        clear h5
        go_wp2_with fail
        refine (heldPairS_any _ 3 _ 1 _ (by omega) (by omega) (by omega) PM.out.row).mono ?_
        rintro e w8 ⟨rfl, rfl⟩
        go_wp2
        go_ret
        exact ⟨rfl, B0⟩

theorem fnExactUnsequence_walk (x1 : Nat) (wx1 : (Lit.float .f64 x1).wf = true) (x2 : Nat) (wx2 : (Lit.float .f64 x2).wf = true) (y1 : Nat) (wy1 : (Lit.float .f64 y1).wf = true) (y2 : Nat) (wy2 : (Lit.float .f64 y2).wf = true) (z1 : Nat) (wz1 : (Lit.float .f64 z1).wf = true) (z2 : Nat) (wz2 : (Lit.float .f64 z2).wf = true) (w : World) :
    Calls Try.prog 8 #[.agg #[.float .f64 x1, .float .f64 x2], .agg #[.float .f64 y1, .float .f64 y2], .agg #[.float .f64 z1, .float .f64 z2]] w fun e w' => e = .returned (.bool true) ∧ Below w.heap.size w w' := by
  have hx1 := fl_of x1 (f64_lt wx1)
  have hx2 := fl_of x2 (f64_lt wx2)
  have hy1 := fl_of y1 (f64_lt wy1)
  have hy2 := fl_of y2 (f64_lt wy2)
  have hz1 := fl_of z1 (f64_lt wz1)
  have hz2 := fl_of z2 (f64_lt wz2)
  exact fnExactUnsequence_core x1 x2 y1 y2 z1 z2 _ w (fun w => specUnsequence_any hx1 hx2 hy1 hy2 hz1 hz2 w) (fun w => implUnsequence_any hx1 hx2 hy1 hy2 hz1 hz2 w)

set_option maxRecDepth 100000 in
theorem fnExactUnsequence_lifted (os : Os) (started : os.Started) (H : Type) (enc : TypeId × Value → H) :
    ReturnsInHanded {} Try.checked os 8 .any (Rows.fnExactUnsequenceSpec.pre6 enc Try.prog Try.f8 Rows.fnExactUnsequenceRow.domain false) (Rows.fnExactUnsequenceSpec.post enc Try.prog Try.f8 false true false false) := by
  refine returnsInHanded_of_change (C := Try.checked) own started (by kernel_rfl) Try.func8
    (ChangeSpec.witness6 (enc := enc) (C := Try.checked) false ⟨#[], #[.agg #[.float .f64 0, .float .f64 0], .agg #[.float .f64 0, .float .f64 0], .agg #[.float .f64 0, .float .f64 0]], []⟩ 8 (by kernel_rfl) (by kernel_rfl) (by kernel_rfl) (by kernel_rfl)) ?_
  intro W base args ds gs before hval0 hW hcnd _
  have hval : ∀ (j : Nat) t v, Try.f8.params[j]? = some t → args[j]? = some v → Value.okWide Try.prog W .any base t v := hval0
  have hW' := hW
  obtain ⟨p, q, hA0, hV, rfl, hfz, hnd⟩ := hW
  have hA : DataW.TrodAll enc Try.prog W 0 (fun _ => true) true Try.f8.params.toList args.toList ds p := hA0
  rw [Try.params8] at hA hval
  obtain ⟨v0, vs0, d0, ds0, p0, q0, hargs, rfl, rfl, h0, r0⟩ := trodAll_cons hA
  obtain ⟨v1, vs1, d1, ds1, p1, q1, rfl, rfl, rfl, h1, r1⟩ := trodAll_cons r0
  obtain ⟨v2, vs2, d2, ds2, p2, q2, rfl, rfl, rfl, h2, r2⟩ := trodAll_cons r1
  obtain ⟨rfl, rfl, rfl⟩ := trodAll_nil r2
  obtain rfl : args = #[v0, v1, v2] := by cases args; simp_all
  obtain ⟨rfl, rfl⟩ := trodVars_none hV
  have k0 := h0
  have lt0 : ∀ x ∈ p0, x.block < W.heap.size := by obtain ⟨m, hm⟩ := k0; exact DataW.trod_lt m _ _ _ hm
  have k1 := h1
  have lt1 : ∀ x ∈ p1, x.block < W.heap.size := by obtain ⟨m, hm⟩ := k1; exact DataW.trod_lt m _ _ _ hm
  have k2 := h2
  have lt2 : ∀ x ∈ p2, x.block < W.heap.size := by obtain ⟨m, hm⟩ := k2; exact DataW.trod_lt m _ _ _ hm
  obtain ⟨vs0, rfl, c0⟩ := open_cells Try.underlying24 (ts := [22, 22]) (by kernel_rfl) (by kernel_rfl) (hval 0 24 v0 rfl rfl)
  obtain ⟨x0_0, r0_0, rfl, o0_0, c0_0⟩ := cellsOk_cons c0
  obtain ⟨a0_0, rfl, w0_0⟩ := cell_float Try.underlying22 o0_0
  obtain ⟨x0_1, r0_1, rfl, o0_1, c0_1⟩ := cellsOk_cons c0_0
  obtain ⟨a0_1, rfl, w0_1⟩ := cell_float Try.underlying22 o0_1
  obtain rfl := cellsOk_nil c0_1
  obtain ⟨vs1, rfl, c1⟩ := open_cells Try.underlying24 (ts := [22, 22]) (by kernel_rfl) (by kernel_rfl) (hval 1 24 v1 rfl rfl)
  obtain ⟨x1_0, r1_0, rfl, o1_0, c1_0⟩ := cellsOk_cons c1
  obtain ⟨a1_0, rfl, w1_0⟩ := cell_float Try.underlying22 o1_0
  obtain ⟨x1_1, r1_1, rfl, o1_1, c1_1⟩ := cellsOk_cons c1_0
  obtain ⟨a1_1, rfl, w1_1⟩ := cell_float Try.underlying22 o1_1
  obtain rfl := cellsOk_nil c1_1
  obtain ⟨vs2, rfl, c2⟩ := open_cells Try.underlying24 (ts := [22, 22]) (by kernel_rfl) (by kernel_rfl) (hval 2 24 v2 rfl rfl)
  obtain ⟨x2_0, r2_0, rfl, o2_0, c2_0⟩ := cellsOk_cons c2
  obtain ⟨a2_0, rfl, w2_0⟩ := cell_float Try.underlying22 o2_0
  obtain ⟨x2_1, r2_1, rfl, o2_1, c2_1⟩ := cellsOk_cons c2_0
  obtain ⟨a2_1, rfl, w2_1⟩ := cell_float Try.underlying22 o2_1
  obtain rfl := cellsOk_nil c2_1
  clear hA0 hval0
  refine (fnExactUnsequence_walk a0_0 w0_0 a0_1 w0_1 a1_0 w1_0 a1_1 w1_1 a2_0 w2_0 a2_1 w2_1 W).mono fun e W' ⟨he, bel⟩ => ?_
  subst he
  exact ⟨_, rfl, _, _, _, [], _, [], hW', trodAll_mk1 (shut_bool Try.underlying4 _), (trodAll_cons_mk (Below.trod laidOut (by kernel_rfl) (of_decide_eq_true (by kernel_rfl)) k0 bel lt0) (trodAll_cons_mk (Below.trod laidOut (by kernel_rfl) (of_decide_eq_true (by kernel_rfl)) k1 bel lt1) (trodAll_cons_mk (Below.trod laidOut (by kernel_rfl) (of_decide_eq_true (by kernel_rfl)) k2 bel lt2) trodAll_mk0))), rfl, bel.frame _, fun h => by cases h⟩

theorem fnExactUnsequence_holds : Rows.FnExactUnsequenceSaid :=
  OpenClaim.holds_of_wide 8 Try.f8 rfl rfl rfl rfl rfl rfl rfl ⟨rfl, rfl, rfl, rfl, rfl⟩ rfl rfl rfl rfl rfl (by kernel_rfl) Try.func8 (by kernel_rfl)
    (of_decide_eq_true (by kernel_rfl)) (by unfold Func.isWrapper; first | (rw [if_pos (by decide +kernel)]; kernel_rfl) | (rw [if_neg (by decide +kernel)]; exact ⟨rfl, rfl⟩))
    (fun os started H enc _ => fnExactUnsequence_lifted os started H enc)
#print axioms fnExactUnsequence_holds
end Go.Proofs.Ytooanlcpbebhlaa
