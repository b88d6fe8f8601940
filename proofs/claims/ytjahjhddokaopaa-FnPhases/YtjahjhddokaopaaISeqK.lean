/-
What is proved: what the program's own Sequence of three pairs is, up to a NaN's bits, in memory of its own.
-/
import Derived.Test.YtjahjhddokaopaaSeqK
namespace Go.Proofs.Ytjahjhddokaopaa
set_option maxRecDepth 40000
open Go.RowKit
set_option linter.unusedVariables false
set_option linter.unusedSimpArgs false

set_option maxHeartbeats 4000000 in
theorem implSequence_any {x1 x2 y1 y2 z1 z2 : Nat} {a1 a2 b1 b2 c1 c2 : Option Nat} (hx1 : Fl x1 a1) (hx2 : Fl x2 a2) (hy1 : Fl y1 b1) (hy2 : Fl y2 b2) (hz1 : Fl z1 c1) (hz2 : Fl z2 c2) (w : World) : Calls Try.prog 9 #[.agg #[.float .f64 x1, .float .f64 x2], .agg #[.float .f64 y1, .float .f64 y2], .agg #[.float .f64 z1, .float .f64 z2]] w fun e w' => ∃ b, e = .returned (.slice (some ⟨b, 0, none⟩) 3 3) ∧ w.heap.size ≤ b ∧ b < w'.heap.size ∧ OwnF w.heap.size w' (some ⟨b, 0, none⟩) 6 (six (thirdO (opO .add (opO .add a1 b1) c1)) (thirdO (opO .add (opO .add a2 b2) c2)) (thirdO (sumRe a1 T1 T2 b1 b2 T1 U2 c1 c2)) (thirdO (sumIm a2 T1 T2 b1 b2 T1 U2 c1 c2)) (thirdO (sumRe a1 T1 U2 b1 b2 T1 T2 c1 c2)) (thirdO (sumIm a2 T1 U2 b1 b2 T1 T2 c1 c2))) ∧ Below w.heap.size w w' := by
  go_enter Try.func9, Try.ntmps9
  go_upto_region 1 with fail
  go_cut [7, 8, 9] (fun s t u wx => s = .complex .f64 x1 x2 ∧ t = .complex .f64 y1 y2 ∧ u = .complex .f64 z1 z2 ∧ Below w.heap.size w wx)
  case first =>
    go_region_held3 (fun w' => w'.cell? ⟨w.heap.size, 0, none⟩ = some (.float .f64 x1) ∧ w'.cell? ⟨w.heap.size, 1, none⟩ = some (.float .f64 x2) ∧ w'.cell? ⟨w.heap.size + 1, 0, none⟩ = some (.float .f64 y1) ∧ w'.cell? ⟨w.heap.size + 1, 1, none⟩ = some (.float .f64 y2) ∧ w'.cell? ⟨w.heap.size + 1 + 1, 0, none⟩ = some (.float .f64 z1) ∧ w'.cell? ⟨w.heap.size + 1 + 1, 1, none⟩ = some (.float .f64 z2)) (first | (simp [go_sem]; done) | (simp [go_sem, *]; done)) (first
      | (go_at_call_of 21 (Value.float FloatKind.f64 x1); refine (inside_any x1 x2 _).mono ?_; rintro e w1 ⟨rfl, rfl⟩)
      | (go_at_call_of 21 (Value.float FloatKind.f64 y1); refine (inside_any y1 y2 _).mono ?_; rintro e w2 ⟨rfl, rfl⟩)
      | (go_at_call_of 21 (Value.float FloatKind.f64 z1); refine (inside_any z1 z2 _).mono ?_; rintro e w3 ⟨rfl, rfl⟩))
    all_goals
      go_wp2_with fail
      go_meet
      case rel => exact ⟨rfl, rfl, rfl, (by repeat (first | with_reducible exact Below.refl _ _ | with_reducible refine Below.setCell ?_ (by first | omega | (simp; done) | (simp; omega)) _ | with_reducible refine bDrewN ?_ _ | with_reducible refine Below.drew ?_ | with_reducible refine Below.alloc ?_ (by first | omega | (simp; done) | (simp; omega)) _))⟩
  case rest =>
    obtain ⟨rfl, rfl, rfl, B0⟩ := hcut
    have s0 := B0.size
    go_wp2_with fail
    refine (thirdOfTurn_any _).mono ?_
    rintro e wv ⟨rfl, rfl⟩
    go_wp2_with fail
    refine (thirdBack_any _).mono ?_
    rintro e wv ⟨rfl, rfl⟩
    go_wp2_with fail
    refine (addInside_any hx1 hx2 hy1 hy2 _).mono ?_
    rintro e wv ⟨r1, i1, n1, rfl, hr1, hi1, rfl⟩
    go_wp2_with fail
    refine (addInside_any hr1 hi1 hz1 hz2 _).mono ?_
    rintro e wv ⟨r2, i2, n2, rfl, hr2, hi2, rfl⟩
    go_wp2_with fail
    refine (thirdPart_any hr2 hi2 _).mono ?_
    rintro e wv ⟨r3, i3, n3, rfl, hr3, hi3, rfl⟩
    go_wp2_with fail
    refine (pairOf_any _ _ _).mono ?_
    rintro e wv ⟨rfl, rfl⟩
    go_wp2_with fail
    refine (mulInside_any fl_T1 fl_T2 hy1 hy2 _).mono ?_
    rintro e wv ⟨r4, i4, n4, rfl, hr4, hi4, rfl⟩
    go_wp2_with fail
    refine (addInside_any hx1 hx2 hr4 hi4 _).mono ?_
    rintro e wv ⟨r5, i5, n5, rfl, hr5, hi5, rfl⟩
    go_wp2_with fail
    refine (mulInside_any fl_T1 fl_U2 hz1 hz2 _).mono ?_
    rintro e wv ⟨r6, i6, n6, rfl, hr6, hi6, rfl⟩
    go_wp2_with fail
    refine (addInside_any hr5 hi5 hr6 hi6 _).mono ?_
    rintro e wv ⟨r7, i7, n7, rfl, hr7, hi7, rfl⟩
    go_wp2_with fail
    refine (thirdPart_any hr7 hi7 _).mono ?_
    rintro e wv ⟨r8, i8, n8, rfl, hr8, hi8, rfl⟩
    go_wp2_with fail
    refine (pairOf_any _ _ _).mono ?_
    rintro e wv ⟨rfl, rfl⟩
    go_wp2_with fail
    refine (mulInside_any fl_T1 fl_U2 hy1 hy2 _).mono ?_
    rintro e wv ⟨r9, i9, n9, rfl, hr9, hi9, rfl⟩
    go_wp2_with fail
    refine (addInside_any hx1 hx2 hr9 hi9 _).mono ?_
    rintro e wv ⟨r10, i10, n10, rfl, hr10, hi10, rfl⟩
    go_wp2_with fail
    refine (mulInside_any fl_T1 fl_T2 hz1 hz2 _).mono ?_
    rintro e wv ⟨r11, i11, n11, rfl, hr11, hi11, rfl⟩
    go_wp2_with fail
    refine (addInside_any hr10 hi10 hr11 hi11 _).mono ?_
    rintro e wv ⟨r12, i12, n12, rfl, hr12, hi12, rfl⟩
    go_wp2_with fail
    refine (thirdPart_any hr12 hi12 _).mono ?_
    rintro e wv ⟨r13, i13, n13, rfl, hr13, hi13, rfl⟩
    go_wp2_with fail
    refine (pairOf_any _ _ _).mono ?_
    rintro e wv ⟨rfl, rfl⟩
    go_wp2
    go_ret
    refine ⟨_, rfl, ?_, ?_, own_six ?_ ?_ hr3 hi3 hr8 hi8 hr13 hi13, (by repeat (first | with_reducible exact Below.refl _ _ | with_reducible exact B0 | with_reducible refine Below.setCell ?_ (by first | omega | (simp; done) | (simp; omega)) _ | with_reducible refine bDrewN ?_ _ | with_reducible refine Below.drew ?_ | with_reducible refine Below.alloc ?_ (by first | omega | (simp; done) | (simp; omega)) _))⟩
    all_goals first | omega | (simp; done) | (simp; omega)
end Go.Proofs.Ytjahjhddokaopaa
