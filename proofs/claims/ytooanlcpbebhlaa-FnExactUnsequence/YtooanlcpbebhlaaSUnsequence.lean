/-
What is proved: what the specification's Unsequence of three pairs is, up to a NaN's bits, in memory of its own.
-/
import Derived.Test.YtooanlcpbebhlaaSeq
namespace Go.Proofs.Ytooanlcpbebhlaa
set_option maxRecDepth 40000
open Go.RowKit
set_option linter.unusedVariables false
set_option linter.unusedSimpArgs false

set_option maxHeartbeats 6000000 in
theorem specUnsequence_any {x1 x2 y1 y2 z1 z2 : Nat} {a1 a2 b1 b2 c1 c2 : Option Nat} (hx1 : Fl x1 a1) (hx2 : Fl x2 a2) (hy1 : Fl y1 b1) (hy2 : Fl y2 b2) (hz1 : Fl z1 c1) (hz2 : Fl z2 c2) (w : World) : Calls Try.prog 26 #[.agg #[.float .f64 x1, .float .f64 x2], .agg #[.float .f64 y1, .float .f64 y2], .agg #[.float .f64 z1, .float .f64 z2]] w fun e w' => ∃ b, e = .returned (.slice (some ⟨b, 0, none⟩) 3 3) ∧ w.heap.size ≤ b ∧ b < w'.heap.size ∧ OwnF w.heap.size w' (some ⟨b, 0, none⟩) 6 (six (opO .add (opO .add a1 b1) c1) (opO .add (opO .add a2 b2) c2) (sumRe a1 T1 U2 b1 b2 T1 T2 c1 c2) (sumIm a2 T1 U2 b1 b2 T1 T2 c1 c2) (sumRe a1 T1 T2 b1 b2 T1 U2 c1 c2) (sumIm a2 T1 T2 b1 b2 T1 U2 c1 c2)) ∧ Below w.heap.size w w' := by
  have st := store_fp
  go_enter Try.func26, Try.ntmps26
  go_wp2_with fail
  refine (l8Turn_any _).mono ?_
  rintro e wv ⟨rfl, rfl⟩
  go_wp2_with fail
  refine (l8Back_any _).mono ?_
  rintro e wv ⟨rfl, rfl⟩
  go_upto_region 3 with fail
  obtain ⟨wd, hwd⟩ : ∃ wd, wd = ((((((w.alloc (.cells #[.float .f64 x1, .float .f64 x2] 26)).alloc (.cells #[.float .f64 y1, .float .f64 y2] 26)).alloc (.cells #[.float .f64 z1, .float .f64 z2] 26)).alloc (.cells #[.float .f64 13826050856027422720, .float .f64 4605975682916830378] 26)).alloc (.cells #[.float .f64 13826050856027422720, .float .f64 4605975682916830378] 26)).alloc (.cells #[.float .f64 13826050856027422720, .float .f64 13829347719771606186] 26)).alloc (.cells #[.float .f64 13826050856027422720, .float .f64 13829347719771606186] 26) := ⟨_, rfl⟩
  rw [← hwd]
  have g0 : wd.cell? ⟨w.heap.size, 0, none⟩ = some (.float .f64 x1) := by rw [hwd]; simp (maxDischargeDepth := 12) [go_sem]
  have g1 : wd.cell? ⟨w.heap.size, 1, none⟩ = some (.float .f64 x2) := by rw [hwd]; simp (maxDischargeDepth := 12) [go_sem]
  have g2 : wd.cell? ⟨w.heap.size + 1, 0, none⟩ = some (.float .f64 y1) := by rw [hwd]; simp (maxDischargeDepth := 12) [go_sem]
  have g3 : wd.cell? ⟨w.heap.size + 1, 1, none⟩ = some (.float .f64 y2) := by rw [hwd]; simp (maxDischargeDepth := 12) [go_sem]
  have g4 : wd.cell? ⟨w.heap.size + 1 + 1, 0, none⟩ = some (.float .f64 z1) := by rw [hwd]; simp (maxDischargeDepth := 12) [go_sem]
  have g5 : wd.cell? ⟨w.heap.size + 1 + 1, 1, none⟩ = some (.float .f64 z2) := by rw [hwd]; simp (maxDischargeDepth := 12) [go_sem]
  have g6 : wd.cell? ⟨w.heap.size + 1 + 1 + 1 + 1, 0, none⟩ = some (.float .f64 13826050856027422720) := by rw [hwd]; simp (maxDischargeDepth := 12) [go_sem]
  have g7 : wd.cell? ⟨w.heap.size + 1 + 1 + 1 + 1, 1, none⟩ = some (.float .f64 4605975682916830378) := by rw [hwd]; simp (maxDischargeDepth := 12) [go_sem]
  have g8 : wd.cell? ⟨w.heap.size + 1 + 1 + 1 + 1 + 1 + 1, 0, none⟩ = some (.float .f64 13826050856027422720) := by rw [hwd]; simp (maxDischargeDepth := 12) [go_sem]
  have g9 : wd.cell? ⟨w.heap.size + 1 + 1 + 1 + 1 + 1 + 1, 1, none⟩ = some (.float .f64 13829347719771606186) := by rw [hwd]; simp (maxDischargeDepth := 12) [go_sem]
  have zz0 : w.heap.size < wd.heap.size := by rw [hwd]; simp <;> omega
  have zz1 : w.heap.size + 1 < wd.heap.size := by rw [hwd]; simp <;> omega
  have zz2 : w.heap.size + 1 + 1 < wd.heap.size := by rw [hwd]; simp <;> omega
  have zz3 : w.heap.size + 1 + 1 + 1 + 1 < wd.heap.size := by rw [hwd]; simp <;> omega
  have zz4 : w.heap.size + 1 + 1 + 1 + 1 + 1 + 1 < wd.heap.size := by rw [hwd]; simp <;> omega
  have B0 : Below w.heap.size w wd := by rw [hwd]; exact (by repeat (first | with_reducible exact Below.refl _ _ | with_reducible refine Below.setCell ?_ (by first | omega | (simp; done) | (simp; omega)) _ | with_reducible refine bDrewN ?_ _ | with_reducible refine Below.drew ?_ | with_reducible refine Below.alloc ?_ (by first | omega | (simp; done) | (simp; omega)) _))
  have s0 := B0.size
  clear hwd
  go_region_held3 (fun w' => w'.cell? ⟨w.heap.size, 0, none⟩ = some (.float .f64 x1) ∧ w'.cell? ⟨w.heap.size, 1, none⟩ = some (.float .f64 x2) ∧ w'.cell? ⟨w.heap.size + 1, 0, none⟩ = some (.float .f64 y1) ∧ w'.cell? ⟨w.heap.size + 1, 1, none⟩ = some (.float .f64 y2) ∧ w'.cell? ⟨w.heap.size + 1 + 1, 0, none⟩ = some (.float .f64 z1) ∧ w'.cell? ⟨w.heap.size + 1 + 1, 1, none⟩ = some (.float .f64 z2) ∧ w'.cell? ⟨w.heap.size + 1 + 1 + 1 + 1, 0, none⟩ = some (.float .f64 13826050856027422720) ∧ w'.cell? ⟨w.heap.size + 1 + 1 + 1 + 1, 1, none⟩ = some (.float .f64 4605975682916830378) ∧ w'.cell? ⟨w.heap.size + 1 + 1 + 1 + 1 + 1 + 1, 0, none⟩ = some (.float .f64 13826050856027422720) ∧ w'.cell? ⟨w.heap.size + 1 + 1 + 1 + 1 + 1 + 1, 1, none⟩ = some (.float .f64 13829347719771606186)) (first | (refine keep10 g0 g1 g2 g3 g4 g5 g6 g7 g8 g9 zz0 zz1 zz2 zz3 zz4 ?_; exact (by repeat (first | with_reducible exact Below.refl _ _ | with_reducible exact B9 | with_reducible exact B8 | with_reducible exact B7 | with_reducible exact B6 | with_reducible exact B5 | with_reducible exact B4 | with_reducible exact B3 | with_reducible refine Below.setCell ?_ (by first | omega | (simp; done) | (simp; omega)) _ | with_reducible refine bDrewN ?_ _ | with_reducible refine Below.drew ?_ | with_reducible refine Below.alloc ?_ (by first | omega | (simp; done) | (simp; omega)) _)))) (first
    | (go_at_call_of 43 (Value.float FloatKind.f64 r1); refine (specAddPair_any hr1 hi1 hz1 hz2 _).mono ?_; rintro e w4 ⟨r2, i2, rfl, hr2, hi2, h_⟩; have B4 : Below wd.heap.size wd w4 := Below.trans (by repeat (first | with_reducible exact Below.refl _ _ | with_reducible exact B3 | with_reducible refine Below.setCell ?_ (by first | omega | (simp; done) | (simp; omega)) _ | with_reducible refine bDrewN ?_ _ | with_reducible refine Below.drew ?_ | with_reducible refine Below.alloc ?_ (by first | omega | (simp; done) | (simp; omega)) _)) (h_.mono (by first | omega | (simp; done) | (simp; omega))); have s4 := B4.size; clear h_)
    | (go_at_call_of 43 (Value.float FloatKind.f64 x1); refine (specAddPair_any hx1 hx2 hy1 hy2 _).mono ?_; rintro e w3 ⟨r1, i1, rfl, hr1, hi1, h_⟩; have B3 : Below wd.heap.size wd w3 := Below.trans (by repeat (first | with_reducible exact Below.refl _ _ | with_reducible refine Below.setCell ?_ (by first | omega | (simp; done) | (simp; omega)) _ | with_reducible refine bDrewN ?_ _ | with_reducible refine Below.drew ?_ | with_reducible refine Below.alloc ?_ (by first | omega | (simp; done) | (simp; omega)) _)) (h_.mono (by first | omega | (simp; done) | (simp; omega))); have s3 := B3.size; clear h_)
    | (have gd_ := hr4; clear gd_; go_at_call 44; refine (l8Sum_any hx1 hx2 fl_T1 fl_T2 hy1 hy2 fl_T1 fl_U2 hz1 hz2 _).mono ?_; rintro e w6 ⟨r6, i6, rfl, hr6, hi6, h_⟩; have B6 : Below wd.heap.size wd w6 := Below.trans (by repeat (first | with_reducible exact Below.refl _ _ | with_reducible exact B5 | with_reducible exact B4 | with_reducible exact B3 | with_reducible refine Below.setCell ?_ (by first | omega | (simp; done) | (simp; omega)) _ | with_reducible refine bDrewN ?_ _ | with_reducible refine Below.drew ?_ | with_reducible refine Below.alloc ?_ (by first | omega | (simp; done) | (simp; omega)) _)) (h_.mono (by first | omega | (simp; done) | (simp; omega))); have s6 := B6.size; clear h_)
    | (go_at_call 44; refine (l8Sum_any hx1 hx2 fl_T1 fl_U2 hy1 hy2 fl_T1 fl_T2 hz1 hz2 _).mono ?_; rintro e w5 ⟨r4, i4, rfl, hr4, hi4, h_⟩; have B5 : Below wd.heap.size wd w5 := Below.trans (by repeat (first | with_reducible exact Below.refl _ _ | with_reducible exact B4 | with_reducible exact B3 | with_reducible refine Below.setCell ?_ (by first | omega | (simp; done) | (simp; omega)) _ | with_reducible refine bDrewN ?_ _ | with_reducible refine Below.drew ?_ | with_reducible refine Below.alloc ?_ (by first | omega | (simp; done) | (simp; omega)) _)) (h_.mono (by first | omega | (simp; done) | (simp; omega))); have s5 := B5.size; clear h_))
  all_goals
    have Bx : Below w.heap.size w w6 := B0.trans (B6.mono s0)
    have sx := Bx.size
    go_wp2
    go_ret
    refine ⟨_, rfl, ?_, ?_, own_six ?_ ?_ hr2 hi2 hr4 hi4 hr6 hi6, (by repeat (first | with_reducible exact Below.refl _ _ | with_reducible exact Bx | with_reducible refine Below.setCell ?_ (by first | omega | (simp; done) | (simp; omega)) _ | with_reducible refine bDrewN ?_ _ | with_reducible refine Below.drew ?_ | with_reducible refine Below.alloc ?_ (by first | omega | (simp; done) | (simp; omega)) _))⟩
    all_goals first | omega | (simp; done) | (simp; omega)
end Go.Proofs.Ytooanlcpbebhlaa
