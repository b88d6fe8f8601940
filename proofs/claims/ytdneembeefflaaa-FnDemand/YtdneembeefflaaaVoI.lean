/-
What is proved: a vote, as the program counts it.
-/
import Derived.Test.YtdneembeefflaaaVo
namespace Go.Proofs.Ytdneembeefflaaa
set_option maxRecDepth 40000
open Go.RowKit
set_option linter.unusedVariables false
set_option linter.unusedSimpArgs false

set_option maxHeartbeats 1000000 in
theorem votersOk_any (n need : Int) (w : World) : Calls Try.prog 16 #[.int .i64 n, .int .i64 need] w fun e w' => e = .returned (.bool (votersB n need)) ∧ w' = w := by
  go_enter Try.func16, Try.ntmps16
  go_wp2_with fail
  refine (within_is _ _ _ _).mono ?_
  rintro e w1 ⟨rfl, rfl⟩
  cases h0 : inB 1 8 n
  · go_wp2
    go_ret
    exact ⟨ret_bool (by unfold votersB; simp [h0]), rfl⟩
  go_wp2_with fail
  refine (within_is _ _ _ _).mono ?_
  rintro e w2 ⟨rfl, rfl⟩
  go_wp2
  go_ret
  exact ⟨ret_bool (by unfold votersB; simp [h0]), rfl⟩
set_option maxRecDepth 20000 in
set_option maxHeartbeats 4000000 in
theorem implVote_any (s : Option Addr) (n c : Nat) (V : Nat → Int) (need : Int) (w : World) (hn : (n : Int) ≤ 1048576) (HR : Hid (RowI w s n V)) :
    Calls Try.prog 10 #[.slice s n c, .int .i64 need] w fun e w' => e = .returned (.int .i64 (voteV n V need)) ∧ w' = w := by
  go_enter Try.func10, Try.ntmps10
  go_wp2_with fail
  refine (votersOk_any _ _ _).mono ?_
  rintro e w1 ⟨rfl, rfl⟩
  cases h0 : votersB n need
  · have HO : Hid (voteV n V need = -1) := vote_no1 h0
    go_wp2
    go_ret
    exact ⟨ret_int HO.out.symm, rfl⟩
  go_wp2_with fail
  refine (allWithin_any s n c V 0 3 _ hn HR).mono ?_
  rintro e w2 ⟨rfl, rfl⟩
  cases h2 : allInB 0 3 V n
  · have HO : Hid (voteV n V need = -1) := vote_no2 h2
    go_wp2
    go_ret
    exact ⟨ret_int HO.out.symm, rfl⟩
  have HV : Hid (votersB n need = true) := h0
  have HA : Hid (allInB 0 3 V n = true) := h2
  have HJ : Hid (∀ j, j < n → 0 ≤ V j ∧ V j ≤ 3) := allIn_yes h2.symm
  have hm : 1 ≤ need ∧ need ≤ n ∧ (n : Int) ≤ 8 := by unfold votersB at h0; simp only [Bool.and_eq_true] at h0; have := inB_yes h0.1; have := inB_yes h0.2; omega
  obtain ⟨m1, m2, m3⟩ := hm
  clear h0 h2
  go_wp2_with fail
  go_loop [5, 6, 21] (fun a b i => ∃ k : Nat, k ≤ n ∧ i = .int .i64 k ∧ a = .int .i64 (leftN V k : Nat) ∧ b = .int .i64 (tripN V k : Nat)) (fun _ _ i => n - (intOf i).toNat)
  case atStart => exact ⟨0, Nat.zero_le _, rfl, rfl, rfl⟩
  case round =>
    obtain ⟨k, hk, rfl, rfl, rfl⟩ := hrel
    by_cases hlt : k < n
    · obtain ⟨g, o, rfl, hg, c0⟩ := HR.out k hlt
      have k1 : (k : Int) < (n : Int) := by omega
      have hl := left_le V k
      have ht := trip_le V k
      have hj := HJ.out k hlt
      by_cases v0 : V k = 0
      · have hx := left_good v0
        obtain ⟨hx1, hx2⟩ := hx
        rw [v0] at c0
        go_wp2
        go_round
        case rel => exact ⟨k + 1, by omega, by go_num, by rw [hx1] <;> try go_num, by rw [hx2] <;> try go_num⟩
        case measure => simp [intOf]; omega
      by_cases v1 : V k = 1
      · have hx := left_trip (.inl v1)
        obtain ⟨hx1, hx2⟩ := hx
        rw [v1] at c0
        go_wp2
        go_round
        case rel => exact ⟨k + 1, by omega, by go_num, by rw [hx1] <;> try go_num, by rw [hx2] <;> try go_num⟩
        case measure => simp [intOf]; omega
      by_cases v2 : V k = 2
      · have hx := left_trip (.inr v2)
        obtain ⟨hx1, hx2⟩ := hx
        rw [v2] at c0
        go_wp2
        go_round
        case rel => exact ⟨k + 1, by omega, by go_num, by rw [hx1] <;> try go_num, by rw [hx2] <;> try go_num⟩
        case measure => simp [intOf]; omega
      have v3 : V k = 3 := by omega
      obtain ⟨hx1, hx2⟩ := left_out v3
      rw [v3] at c0
      go_wp2
      go_round
      case rel => exact ⟨k + 1, by omega, by go_num, by rw [hx1] <;> try go_num, by rw [hx2] <;> try go_num⟩
      case measure => simp [intOf]; omega
    · obtain rfl : k = n := by omega
      have hl := left_le V k
      have ht := trip_le V k
      by_cases t : min need (leftN V k : Int) ≤ (tripN V k : Int)
      · have HO : Hid (voteV k V need = 1) := vote_yes HV.out HA.out t
        go_wp2 <;> (go_ret; exact ⟨ret_int HO.out.symm, rfl⟩)
      · have HO : Hid (voteV k V need = 0) := vote_not HV.out HA.out t
        go_wp2 <;> (go_ret; exact ⟨ret_int HO.out.symm, rfl⟩)
end Go.Proofs.Ytdneembeefflaaa
