/-
What is proved: when a burner is right, as both packages tell it.
-/
import Derived.Test.YtpnihekpokfooaaBu
namespace Go.Proofs.Ytpnihekpokfooaa
set_option maxRecDepth 40000
open Go.RowKit
set_option linter.unusedVariables false
set_option linter.unusedSimpArgs false

set_option maxHeartbeats 4000000 in
theorem specOk_any (s t r : Int) (w : World) : Calls Try.prog 9 #[.agg #[.int .i64 s, .int .i64 t, .int .i64 r]] w fun e w' => e = .returned (.bool (okB s t r)) ∧ Below w.heap.size w w' := by
  by_cases e0 : s = 0
  · subst e0
    go_enter Try.func9, Try.ntmps9
    by_cases h1 : t = 0
    case neg =>
      have b1 : (t == 0) = false := by simpa using h1
      go_wp2
      go_ret
      exact ⟨ret_bool (by unfold okB; simp [h1]), (by repeat (first | with_reducible exact Below.refl _ _ | with_reducible refine Below.setCell ?_ (by first | omega | (simp; done) | (simp; omega)) _ | with_reducible refine bDrewN ?_ _ | with_reducible refine Below.drew ?_ | with_reducible refine Below.alloc ?_ (by first | omega | (simp; done) | (simp; omega)) _))⟩
    by_cases h2 : r = 0
    case neg =>
      have b2 : (r == 0) = false := by simpa using h2
      go_wp2
      go_ret
      exact ⟨ret_bool (by unfold okB; simp [h2]), (by repeat (first | with_reducible exact Below.refl _ _ | with_reducible refine Below.setCell ?_ (by first | omega | (simp; done) | (simp; omega)) _ | with_reducible refine bDrewN ?_ _ | with_reducible refine Below.drew ?_ | with_reducible refine Below.alloc ?_ (by first | omega | (simp; done) | (simp; omega)) _))⟩
    go_wp2
    go_ret
    exact ⟨ret_bool (by unfold okB; simp [h1, h2]), (by repeat (first | with_reducible exact Below.refl _ _ | with_reducible refine Below.setCell ?_ (by first | omega | (simp; done) | (simp; omega)) _ | with_reducible refine bDrewN ?_ _ | with_reducible refine Below.drew ?_ | with_reducible refine Below.alloc ?_ (by first | omega | (simp; done) | (simp; omega)) _))⟩
  by_cases e3 : s = 3
  · subst e3
    go_enter Try.func9, Try.ntmps9
    by_cases h1 : t = 0
    case neg =>
      have b1 : (t == 0) = false := by simpa using h1
      go_wp2
      go_ret
      exact ⟨ret_bool (by unfold okB; simp [h1]), (by repeat (first | with_reducible exact Below.refl _ _ | with_reducible refine Below.setCell ?_ (by first | omega | (simp; done) | (simp; omega)) _ | with_reducible refine bDrewN ?_ _ | with_reducible refine Below.drew ?_ | with_reducible refine Below.alloc ?_ (by first | omega | (simp; done) | (simp; omega)) _))⟩
    by_cases h2 : r = 0
    case neg =>
      have b2 : (r == 0) = false := by simpa using h2
      go_wp2
      go_ret
      exact ⟨ret_bool (by unfold okB; simp [h2]), (by repeat (first | with_reducible exact Below.refl _ _ | with_reducible refine Below.setCell ?_ (by first | omega | (simp; done) | (simp; omega)) _ | with_reducible refine bDrewN ?_ _ | with_reducible refine Below.drew ?_ | with_reducible refine Below.alloc ?_ (by first | omega | (simp; done) | (simp; omega)) _))⟩
    go_wp2
    go_ret
    exact ⟨ret_bool (by unfold okB; simp [h1, h2]), (by repeat (first | with_reducible exact Below.refl _ _ | with_reducible refine Below.setCell ?_ (by first | omega | (simp; done) | (simp; omega)) _ | with_reducible refine bDrewN ?_ _ | with_reducible refine Below.drew ?_ | with_reducible refine Below.alloc ?_ (by first | omega | (simp; done) | (simp; omega)) _))⟩
  by_cases e1 : s = 1
  · subst e1
    go_enter Try.func9, Try.ntmps9
    go_wp2_with fail
    refine (l1In_is _ _ _ _).mono ?_
    rintro e w1 ⟨rfl, rfl⟩
    cases h1 : inB 0 4 t
    · go_wp2
      go_ret
      exact ⟨ret_bool (by unfold okB; simp [h1]), (by repeat (first | with_reducible exact Below.refl _ _ | with_reducible refine Below.setCell ?_ (by first | omega | (simp; done) | (simp; omega)) _ | with_reducible refine bDrewN ?_ _ | with_reducible refine Below.drew ?_ | with_reducible refine Below.alloc ?_ (by first | omega | (simp; done) | (simp; omega)) _))⟩
    go_wp2_with fail
    refine (l1In_is _ _ _ _).mono ?_
    rintro e w1 ⟨rfl, rfl⟩
    go_wp2
    go_ret
    exact ⟨ret_bool (by unfold okB; simp [h1]), (by repeat (first | with_reducible exact Below.refl _ _ | with_reducible refine Below.setCell ?_ (by first | omega | (simp; done) | (simp; omega)) _ | with_reducible refine bDrewN ?_ _ | with_reducible refine Below.drew ?_ | with_reducible refine Below.alloc ?_ (by first | omega | (simp; done) | (simp; omega)) _))⟩
  by_cases e2 : s = 2
  · subst e2
    go_enter Try.func9, Try.ntmps9
    go_wp2_with fail
    refine (l1In_is _ _ _ _).mono ?_
    rintro e w1 ⟨rfl, rfl⟩
    cases h1 : inB 0 2 t
    · go_wp2
      go_ret
      exact ⟨ret_bool (by unfold okB; simp [h1]), (by repeat (first | with_reducible exact Below.refl _ _ | with_reducible refine Below.setCell ?_ (by first | omega | (simp; done) | (simp; omega)) _ | with_reducible refine bDrewN ?_ _ | with_reducible refine Below.drew ?_ | with_reducible refine Below.alloc ?_ (by first | omega | (simp; done) | (simp; omega)) _))⟩
    go_wp2_with fail
    refine (l1In_is _ _ _ _).mono ?_
    rintro e w1 ⟨rfl, rfl⟩
    go_wp2
    go_ret
    exact ⟨ret_bool (by unfold okB; simp [h1]), (by repeat (first | with_reducible exact Below.refl _ _ | with_reducible refine Below.setCell ?_ (by first | omega | (simp; done) | (simp; omega)) _ | with_reducible refine bDrewN ?_ _ | with_reducible refine Below.drew ?_ | with_reducible refine Below.alloc ?_ (by first | omega | (simp; done) | (simp; omega)) _))⟩
  by_cases e4 : s = 4
  · subst e4
    go_enter Try.func9, Try.ntmps9
    by_cases h1 : t = 0
    case neg =>
      have b1 : (t == 0) = false := by simpa using h1
      go_wp2
      go_ret
      exact ⟨ret_bool (by unfold okB; simp [h1]), (by repeat (first | with_reducible exact Below.refl _ _ | with_reducible refine Below.setCell ?_ (by first | omega | (simp; done) | (simp; omega)) _ | with_reducible refine bDrewN ?_ _ | with_reducible refine Below.drew ?_ | with_reducible refine Below.alloc ?_ (by first | omega | (simp; done) | (simp; omega)) _))⟩
    go_wp2_with fail
    refine (l1In_is _ _ _ _).mono ?_
    rintro e w1 ⟨rfl, rfl⟩
    go_wp2
    go_ret
    exact ⟨ret_bool (by unfold okB; simp [h1]), (by repeat (first | with_reducible exact Below.refl _ _ | with_reducible refine Below.setCell ?_ (by first | omega | (simp; done) | (simp; omega)) _ | with_reducible refine bDrewN ?_ _ | with_reducible refine Below.drew ?_ | with_reducible refine Below.alloc ?_ (by first | omega | (simp; done) | (simp; omega)) _))⟩
  have b0 : (s == 0) = false := by simpa using e0
  have b3 : (s == 3) = false := by simpa using e3
  have b1 : (s == 1) = false := by simpa using e1
  have b2 : (s == 2) = false := by simpa using e2
  have b4 : (s == 4) = false := by simpa using e4
  go_enter Try.func9, Try.ntmps9
  go_wp2
  go_ret
  exact ⟨ret_bool (by unfold okB; simp [e0, e1, e2, e3, e4]), (by repeat (first | with_reducible exact Below.refl _ _ | with_reducible refine Below.setCell ?_ (by first | omega | (simp; done) | (simp; omega)) _ | with_reducible refine bDrewN ?_ _ | with_reducible refine Below.drew ?_ | with_reducible refine Below.alloc ?_ (by first | omega | (simp; done) | (simp; omega)) _))⟩
set_option maxHeartbeats 4000000 in
theorem implOk_any (s t r : Int) (w : World) : Calls Try.prog 11 #[.agg #[.int .i64 s, .int .i64 t, .int .i64 r]] w fun e w' => e = .returned (.bool (okB s t r)) ∧ Below w.heap.size w w' := by
  by_cases e0 : s = 0
  · subst e0
    go_enter Try.func11, Try.ntmps11
    by_cases h1 : t = 0
    case neg =>
      have b1 : (t == 0) = false := by simpa using h1
      go_wp2
      go_ret
      exact ⟨ret_bool (by unfold okB; simp [h1]), (by repeat (first | with_reducible exact Below.refl _ _ | with_reducible refine Below.setCell ?_ (by first | omega | (simp; done) | (simp; omega)) _ | with_reducible refine bDrewN ?_ _ | with_reducible refine Below.drew ?_ | with_reducible refine Below.alloc ?_ (by first | omega | (simp; done) | (simp; omega)) _))⟩
    by_cases h2 : r = 0
    case neg =>
      have b2 : (r == 0) = false := by simpa using h2
      go_wp2
      go_ret
      exact ⟨ret_bool (by unfold okB; simp [h2]), (by repeat (first | with_reducible exact Below.refl _ _ | with_reducible refine Below.setCell ?_ (by first | omega | (simp; done) | (simp; omega)) _ | with_reducible refine bDrewN ?_ _ | with_reducible refine Below.drew ?_ | with_reducible refine Below.alloc ?_ (by first | omega | (simp; done) | (simp; omega)) _))⟩
    go_wp2
    go_ret
    exact ⟨ret_bool (by unfold okB; simp [h1, h2]), (by repeat (first | with_reducible exact Below.refl _ _ | with_reducible refine Below.setCell ?_ (by first | omega | (simp; done) | (simp; omega)) _ | with_reducible refine bDrewN ?_ _ | with_reducible refine Below.drew ?_ | with_reducible refine Below.alloc ?_ (by first | omega | (simp; done) | (simp; omega)) _))⟩
  by_cases e3 : s = 3
  · subst e3
    go_enter Try.func11, Try.ntmps11
    by_cases h1 : t = 0
    case neg =>
      have b1 : (t == 0) = false := by simpa using h1
      go_wp2
      go_ret
      exact ⟨ret_bool (by unfold okB; simp [h1]), (by repeat (first | with_reducible exact Below.refl _ _ | with_reducible refine Below.setCell ?_ (by first | omega | (simp; done) | (simp; omega)) _ | with_reducible refine bDrewN ?_ _ | with_reducible refine Below.drew ?_ | with_reducible refine Below.alloc ?_ (by first | omega | (simp; done) | (simp; omega)) _))⟩
    by_cases h2 : r = 0
    case neg =>
      have b2 : (r == 0) = false := by simpa using h2
      go_wp2
      go_ret
      exact ⟨ret_bool (by unfold okB; simp [h2]), (by repeat (first | with_reducible exact Below.refl _ _ | with_reducible refine Below.setCell ?_ (by first | omega | (simp; done) | (simp; omega)) _ | with_reducible refine bDrewN ?_ _ | with_reducible refine Below.drew ?_ | with_reducible refine Below.alloc ?_ (by first | omega | (simp; done) | (simp; omega)) _))⟩
    go_wp2
    go_ret
    exact ⟨ret_bool (by unfold okB; simp [h1, h2]), (by repeat (first | with_reducible exact Below.refl _ _ | with_reducible refine Below.setCell ?_ (by first | omega | (simp; done) | (simp; omega)) _ | with_reducible refine bDrewN ?_ _ | with_reducible refine Below.drew ?_ | with_reducible refine Below.alloc ?_ (by first | omega | (simp; done) | (simp; omega)) _))⟩
  by_cases e1 : s = 1
  · subst e1
    go_enter Try.func11, Try.ntmps11
    go_wp2_with fail
    refine (within_is _ _ _ _).mono ?_
    rintro e w1 ⟨rfl, rfl⟩
    cases h1 : inB 0 4 t
    · go_wp2
      go_ret
      exact ⟨ret_bool (by unfold okB; simp [h1]), (by repeat (first | with_reducible exact Below.refl _ _ | with_reducible refine Below.setCell ?_ (by first | omega | (simp; done) | (simp; omega)) _ | with_reducible refine bDrewN ?_ _ | with_reducible refine Below.drew ?_ | with_reducible refine Below.alloc ?_ (by first | omega | (simp; done) | (simp; omega)) _))⟩
    go_wp2_with fail
    refine (within_is _ _ _ _).mono ?_
    rintro e w1 ⟨rfl, rfl⟩
    go_wp2
    go_ret
    exact ⟨ret_bool (by unfold okB; simp [h1]), (by repeat (first | with_reducible exact Below.refl _ _ | with_reducible refine Below.setCell ?_ (by first | omega | (simp; done) | (simp; omega)) _ | with_reducible refine bDrewN ?_ _ | with_reducible refine Below.drew ?_ | with_reducible refine Below.alloc ?_ (by first | omega | (simp; done) | (simp; omega)) _))⟩
  by_cases e2 : s = 2
  · subst e2
    go_enter Try.func11, Try.ntmps11
    go_wp2_with fail
    refine (within_is _ _ _ _).mono ?_
    rintro e w1 ⟨rfl, rfl⟩
    cases h1 : inB 0 2 t
    · go_wp2
      go_ret
      exact ⟨ret_bool (by unfold okB; simp [h1]), (by repeat (first | with_reducible exact Below.refl _ _ | with_reducible refine Below.setCell ?_ (by first | omega | (simp; done) | (simp; omega)) _ | with_reducible refine bDrewN ?_ _ | with_reducible refine Below.drew ?_ | with_reducible refine Below.alloc ?_ (by first | omega | (simp; done) | (simp; omega)) _))⟩
    go_wp2_with fail
    refine (within_is _ _ _ _).mono ?_
    rintro e w1 ⟨rfl, rfl⟩
    go_wp2
    go_ret
    exact ⟨ret_bool (by unfold okB; simp [h1]), (by repeat (first | with_reducible exact Below.refl _ _ | with_reducible refine Below.setCell ?_ (by first | omega | (simp; done) | (simp; omega)) _ | with_reducible refine bDrewN ?_ _ | with_reducible refine Below.drew ?_ | with_reducible refine Below.alloc ?_ (by first | omega | (simp; done) | (simp; omega)) _))⟩
  by_cases e4 : s = 4
  · subst e4
    go_enter Try.func11, Try.ntmps11
    by_cases h1 : t = 0
    case neg =>
      have b1 : (t == 0) = false := by simpa using h1
      go_wp2
      go_ret
      exact ⟨ret_bool (by unfold okB; simp [h1]), (by repeat (first | with_reducible exact Below.refl _ _ | with_reducible refine Below.setCell ?_ (by first | omega | (simp; done) | (simp; omega)) _ | with_reducible refine bDrewN ?_ _ | with_reducible refine Below.drew ?_ | with_reducible refine Below.alloc ?_ (by first | omega | (simp; done) | (simp; omega)) _))⟩
    go_wp2_with fail
    refine (within_is _ _ _ _).mono ?_
    rintro e w1 ⟨rfl, rfl⟩
    go_wp2
    go_ret
    exact ⟨ret_bool (by unfold okB; simp [h1]), (by repeat (first | with_reducible exact Below.refl _ _ | with_reducible refine Below.setCell ?_ (by first | omega | (simp; done) | (simp; omega)) _ | with_reducible refine bDrewN ?_ _ | with_reducible refine Below.drew ?_ | with_reducible refine Below.alloc ?_ (by first | omega | (simp; done) | (simp; omega)) _))⟩
  have b0 : (s == 0) = false := by simpa using e0
  have b3 : (s == 3) = false := by simpa using e3
  have b1 : (s == 1) = false := by simpa using e1
  have b2 : (s == 2) = false := by simpa using e2
  have b4 : (s == 4) = false := by simpa using e4
  go_enter Try.func11, Try.ntmps11
  go_wp2
  go_ret
  exact ⟨ret_bool (by unfold okB; simp [e0, e1, e2, e3, e4]), (by repeat (first | with_reducible exact Below.refl _ _ | with_reducible refine Below.setCell ?_ (by first | omega | (simp; done) | (simp; omega)) _ | with_reducible refine bDrewN ?_ _ | with_reducible refine Below.drew ?_ | with_reducible refine Below.alloc ?_ (by first | omega | (simp; done) | (simp; omega)) _))⟩
end Go.Proofs.Ytpnihekpokfooaa
