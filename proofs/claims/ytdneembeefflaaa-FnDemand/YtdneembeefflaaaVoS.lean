/-
What is proved: a vote, as the specification counts it.
-/
import Derived.Test.YtdneembeefflaaaVo
namespace Go.Proofs.Ytdneembeefflaaa
set_option maxRecDepth 40000
open Go.RowKit
set_option linter.unusedVariables false
set_option linter.unusedSimpArgs false

set_option maxRecDepth 20000 in
set_option maxHeartbeats 4000000 in
theorem specVote_any (s : Option Addr) (n c : Nat) (V : Nat → Int) (need : Int) (w : World) (hn : (n : Int) ≤ 1048576) (HR : Hid (RowI w s n V)) :
    Calls Try.prog 8 #[.slice s n c, .int .i64 need] w fun e w' => e = .returned (.int .i64 (voteV n V need)) ∧ w' = w := by
  go_enter Try.func8, Try.ntmps8
  by_cases a1 : (n : Int) < 1
  · have HO : Hid (voteV n V need = -1) := vote_no1 (by unfold votersB inB; rw [decide_eq_false (by omega)]; rfl)
    go_wp2
    go_ret
    exact ⟨ret_int HO.out.symm, rfl⟩
  by_cases a2 : (8 : Int) < (n : Int)
  · have HO : Hid (voteV n V need = -1) := vote_no1 (by unfold votersB inB; rw [decide_eq_false (by omega)]; rfl)
    go_wp2
    go_ret
    exact ⟨ret_int HO.out.symm, rfl⟩
  go_wp2_with fail
  refine (l1In_is _ _ _ _).mono ?_
  rintro e w1 ⟨rfl, rfl⟩
  cases h0 : inB 1 n need
  · have HO : Hid (voteV n V need = -1) := vote_no1 (by unfold votersB; rw [h0]; simp)
    go_wp2
    go_ret
    exact ⟨ret_int HO.out.symm, rfl⟩
  have HV : Hid (votersB n need = true) := show votersB n need = true by unfold votersB inB at *; rw [h0]; simp; omega
  obtain ⟨m1, m2⟩ := inB_yes h0
  clear h0
  go_wp2_with fail
  go_loop [5, 6, 7] (fun a b i => ∃ k : Nat, k ≤ n ∧ i = .int .i64 k ∧ a = .int .i64 (leftN V k : Nat) ∧ b = .int .i64 (tripN V k : Nat) ∧ Hid (∀ j, j < k → 0 ≤ V j ∧ V j ≤ 3)) (fun _ _ i => n - (intOf i).toNat)
  case atStart => exact ⟨0, Nat.zero_le _, rfl, rfl, rfl, fun j hj => by omega⟩
  case round =>
    obtain ⟨k, hk, rfl, rfl, rfl, hP⟩ := hrel
    by_cases hlt : k < n
    · obtain ⟨g, o, rfl, hg, c0⟩ := HR.out k hlt
      have k1 : (k : Int) < (n : Int) := by omega
      have hl := left_le V k
      have ht := trip_le V k
      by_cases v0 : V k = 0
      · have hx := left_good v0
        obtain ⟨hx1, hx2⟩ := hx
        rw [v0] at c0
        go_wp2
        go_round
        case rel => exact ⟨k + 1, by omega, by go_num, by rw [hx1] <;> try go_num, by rw [hx2] <;> try go_num, ball_succ hP.out (by omega)⟩
        case measure => simp [intOf]; omega
      by_cases v1 : V k = 1
      · have hx := left_trip (.inl v1)
        obtain ⟨hx1, hx2⟩ := hx
        rw [v1] at c0
        go_wp2
        go_round
        case rel => exact ⟨k + 1, by omega, by go_num, by rw [hx1] <;> try go_num, by rw [hx2] <;> try go_num, ball_succ hP.out (by omega)⟩
        case measure => simp [intOf]; omega
      by_cases v2 : V k = 2
      · have hx := left_trip (.inr v2)
        obtain ⟨hx1, hx2⟩ := hx
        rw [v2] at c0
        go_wp2
        go_round
        case rel => exact ⟨k + 1, by omega, by go_num, by rw [hx1] <;> try go_num, by rw [hx2] <;> try go_num, ball_succ hP.out (by omega)⟩
        case measure => simp [intOf]; omega
      by_cases v3 : V k = 3
      · have hx := left_out v3
        obtain ⟨hx1, hx2⟩ := hx
        rw [v3] at c0
        go_wp2
        go_round
        case rel => exact ⟨k + 1, by omega, by go_num, by rw [hx1] <;> try go_num, by rw [hx2] <;> try go_num, ball_succ hP.out (by omega)⟩
        case measure => simp [intOf]; omega
      have HO : Hid (voteV n V need = -1) := vote_no2 (decide_eq_false (fun h => by have := h k hlt; omega))
      go_wp2
      go_ret
      exact ⟨ret_int HO.out.symm, rfl⟩
    · obtain rfl : k = n := by omega
      have hl := left_le V k
      have ht := trip_le V k
      by_cases t : min need (leftN V k : Int) ≤ (tripN V k : Int)
      · have HO : Hid (voteV k V need = 1) := vote_yes HV.out (decide_eq_true hP.out) t
        go_wp2 <;> (go_ret; exact ⟨ret_int HO.out.symm, rfl⟩)
      · have HO : Hid (voteV k V need = 0) := vote_not HV.out (decide_eq_true hP.out) t
        go_wp2 <;> (go_ret; exact ⟨ret_int HO.out.symm, rfl⟩)
end Go.Proofs.Ytdneembeefflaaa
