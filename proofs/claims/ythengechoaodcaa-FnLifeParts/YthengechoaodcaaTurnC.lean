/-
What is proved: whether a course is right, and its turnings, as both packages tell them.
-/
import Derived.Test.YthengechoaodcaaTurnS
namespace Go.Proofs.Ythengechoaodcaa
set_option maxRecDepth 40000
open Go.RowKit
set_option linter.unusedVariables false

/-- Whether a course is right; the turnings of any course. -/
def courseB (n : Nat) (V : Nat → Int) : Bool := decide (n ≤ 400) && allInB (-100000) 100000 V n
def turnL (n : Nat) (V : Nat → Int) : List Int := if courseB n V = true then turns (rests V n).length (nthI (rests V n)) (rests V n).length else []
theorem turnL_le (n : Nat) (V : Nat → Int) : (turnL n V).length ≤ n := by
  unfold turnL
  split
  · have := turns_le (rests V n).length (nthI (rests V n)) (rests V n).length
    have := rests_le V n
    omega
  · simp

set_option maxHeartbeats 1000000 in
theorem courseOk_any (s : Option Addr) (n c : Nat) (V : Nat → Int) (w : World) (hn : (n : Int) ≤ 1048576) (HR : Hid (RowI w s n V)) :
    Calls Try.prog 44 #[.slice s n c] w fun e w' => e = .returned (.bool (courseB n V)) ∧ w' = w := by
  by_cases h : (n : Int) ≤ 400
  · have E : Hid (courseB n V = allInB (-100000) 100000 V n) := by show _ = _; unfold courseB; rw [decide_eq_true (by omega)]; rfl
    rw [E.out]
    go_enter Try.func44, Try.ntmps44
    go_wp2_with fail
    refine (allWithin_any s n c V _ _ _ hn HR).mono ?_
    rintro e w ⟨rfl, rfl⟩
    go_wp2
    go_ret
    exact ⟨rfl, rfl⟩
  · have E : Hid (courseB n V = false) := by show _ = _; unfold courseB; rw [decide_eq_false (by omega)]; rfl
    have hb : decide ((n : Int) ≤ 400) = false := by simpa using h
    rw [E.out]
    go_enter Try.func44, Try.ntmps44
    go_wp2
    go_ret
    exact ⟨rfl, rfl⟩

set_option maxRecDepth 20000 in
set_option maxHeartbeats 1000000 in
theorem l5Course_any (s : Option Addr) (n c : Nat) (V : Nat → Int) (w : World) (hn : (n : Int) ≤ 1048576) (HR : Hid (RowI w s n V)) :
    Calls Try.prog 43 #[.slice s n c] w fun e w' => e = .returned (.bool (courseB n V)) ∧ w' = w := by
  by_cases h : (n : Int) ≤ 400
  · have E : Hid (courseB n V = allInB (-100000) 100000 V n) := by show _ = _; unfold courseB; rw [decide_eq_true (by omega)]; rfl
    rw [E.out]
    go_enter Try.func43, Try.ntmps43
    go_wp2_with fail
    go_loop [3] (fun i => ∃ k : Nat, k ≤ n ∧ i = .int .i64 k ∧ Hid (∀ j, j < k → -100000 ≤ V j ∧ V j ≤ 100000)) (fun i => n - (intOf i).toNat)
    case atStart => exact ⟨0, Nat.zero_le _, rfl, fun j hj => by omega⟩
    case round =>
      obtain ⟨k, hk, rfl, hP⟩ := hrel
      by_cases hlt : k < n
      · obtain ⟨g, o, rfl, hg, c0⟩ := HR.out k hlt
        have k1 : (k : Int) < (n : Int) := by omega
        by_cases q : -100000 ≤ V k ∧ V k ≤ 100000
        · go_wp2_with fail
          refine (l1In_yes _ _ _ _ q.1 q.2).mono ?_
          rintro e w2 ⟨rfl, rfl⟩
          go_wp2
          go_round
          case rel => exact ⟨k + 1, by omega, by go_num, ball_succ hP.out q⟩
          case measure => simp [intOf]; omega
        · go_wp2_with fail
          refine (l1In_no _ _ _ _ (by omega)).mono ?_
          rintro e w2 ⟨rfl, rfl⟩
          go_wp2
          go_ret
          exact ⟨ret_bool (decide_eq_false (fun h => q (h k hlt))).symm, rfl⟩
      · obtain rfl : k = n := by omega
        go_wp2
        go_ret
        exact ⟨ret_bool (decide_eq_true hP.out).symm, rfl⟩
  · have E : Hid (courseB n V = false) := by show _ = _; unfold courseB; rw [decide_eq_false (by omega)]; rfl
    have h' : (400 : Int) < n := by omega
    rw [E.out]
    go_enter Try.func43, Try.ntmps43
    go_wp2
    go_ret
    exact ⟨rfl, rfl⟩

set_option maxHeartbeats 1000000 in
theorem specTurnings_any (s : Option Addr) (n c : Nat) (V : Nat → Int) (w : World) (hn : (n : Int) ≤ 1048576) (HR : Hid (RowI w s n V)) :
    Calls Try.prog 19 #[.slice s n c] w fun e w' => ∃ s' c', e = .returned (.slice s' (turnL n V).length c') ∧ OwnI w.heap.size w' s' (turnL n V).length (nthI (turnL n V)) ∧ Below w.heap.size w w' := by
  cases q : courseB n V
  · have E : Hid (turnL n V = []) := by show _ = _; unfold turnL; rw [if_neg (by rw [q]; decide)]
    have C : Hid (∀ w', Below w.heap.size w w' → Calls Try.prog 43 #[.slice s n c] w' fun e w'' => e = .returned (.bool false) ∧ w'' = w') := fun w' hb => q ▸ l5Course_any s n c V w' hn (HR.out.below hb)
    rw [E.out]
    clear q
    go_enter Try.func19, Try.ntmps19
    go_wp2_with fail
    refine (C.out _ (by repeat (first | with_reducible exact Below.refl _ _ | with_reducible refine Below.setCell ?_ (by first | omega | (simp; done) | (simp; omega)) _ | with_reducible refine bDrewN ?_ _ | with_reducible refine Below.drew ?_ | with_reducible refine Below.alloc ?_ (by first | omega | (simp; done) | (simp; omega)) _))).mono ?_
    rintro e w0 ⟨rfl, hw0⟩
    subst hw0
    go_wp2
    go_ret
    exact ⟨_, _, rfl, fun j hj => by simp at hj, (by repeat (first | with_reducible exact Below.refl _ _ | with_reducible refine Below.setCell ?_ (by first | omega | (simp; done) | (simp; omega)) _ | with_reducible refine bDrewN ?_ _ | with_reducible refine Below.drew ?_ | with_reducible refine Below.alloc ?_ (by first | omega | (simp; done) | (simp; omega)) _))⟩
  · have h4 : (n : Int) ≤ 400 := by
      unfold courseB at q
      have := of_decide_eq_true (Bool.and_eq_true_iff.1 q).1
      omega
    refine (specTurn_in s n c V w h4 HR (fun w' hb => q ▸ l5Course_any s n c V w' hn (HR.out.below hb))).mono ?_
    rintro e w' ⟨m, U, rfl, rfl, s', c', k1, k2, k3⟩
    have E : turnL n V = turns (rests V n).length (nthI (rests V n)) (rests V n).length := by unfold turnL; rw [if_pos q]
    rw [E]
    exact ⟨s', c', k1, k2, k3⟩

set_option maxHeartbeats 1000000 in
theorem implTurnings_any (s : Option Addr) (n c : Nat) (V : Nat → Int) (w : World) (hn : (n : Int) ≤ 1048576) (HR : Hid (RowI w s n V)) :
    Calls Try.prog 20 #[.slice s n c] w fun e w' => ∃ s' c', e = .returned (.slice s' (turnL n V).length c') ∧ OwnI w.heap.size w' s' (turnL n V).length (nthI (turnL n V)) ∧ Below w.heap.size w w' := by
  cases q : courseB n V
  · have E : Hid (turnL n V = []) := by show _ = _; unfold turnL; rw [if_neg (by rw [q]; decide)]
    have C : Hid (Calls Try.prog 44 #[.slice s n c] w fun e w' => e = .returned (.bool false) ∧ w' = w) := q ▸ courseOk_any s n c V w hn HR
    rw [E.out]
    clear q
    go_enter Try.func20, Try.ntmps20
    go_wp2_with fail
    refine C.out.mono ?_
    rintro e w ⟨rfl, rfl⟩
    go_wp2
    go_ret
    exact ⟨_, _, rfl, fun j hj => by simp at hj, (by repeat (first | with_reducible exact Below.refl _ _ | with_reducible refine Below.setCell ?_ (by first | omega | (simp; done) | (simp; omega)) _ | with_reducible refine bDrewN ?_ _ | with_reducible refine Below.drew ?_ | with_reducible refine Below.alloc ?_ (by first | omega | (simp; done) | (simp; omega)) _))⟩
  · have h4 : (n : Int) ≤ 400 := by
      unfold courseB at q
      have := of_decide_eq_true (Bool.and_eq_true_iff.1 q).1
      omega
    have E : turnL n V = turns (rests V n).length (nthI (rests V n)) (rests V n).length := by unfold turnL; rw [if_pos q]
    rw [E]
    exact implTurn_rest s n c V w h4 HR _ _ (rests_le V n) (q ▸ courseOk_any s n c V w hn HR) (withoutRests_any s n c V w h4 HR)
end Go.Proofs.Ythengechoaodcaa
