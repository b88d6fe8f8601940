/-
What is proved: the first fault of a frame's bytes, as the program tells it.
-/
import Derived.Test.YtkocbklkiehdiaaRfW
import Derived.Test.YtkocbklkiehdiaaCzI
import Derived.Test.YtkocbklkiehdiaaFmR
import Derived.Deep.DeepCutAuto
namespace Go.Proofs.Ytkocbklkiehdiaa
set_option maxRecDepth 40000
open Go.RowKit
set_option linter.unusedVariables false
set_option linter.unusedSimpArgs false

set_option maxRecDepth 20000 in
set_option maxHeartbeats 8000000 in
theorem frameFault_cap (b o n c : Nat) (V : Nat → Int) (w : World) (hn : (n : Int) ≤ 1048576) (hcap : n ≤ c) (hV : Hid (∀ j, j < n → 0 ≤ V j ∧ V j < 256)) (HR : Hid (RowY w (some ⟨b, o, none⟩) n V)) :
    Calls Try.prog 60 #[.slice (some ⟨b, o, none⟩) n c] w fun e w' => e = .returned (.int .i64 (faultV n V)) ∧ ∃ nq, w' = w.drewN nq := by
  by_cases h7 : n < 7
  · have h7i : (n : Int) < 7 := by omega
    go_enter Try.func60, Try.ntmps60
    have HF : Hid (faultV n V = 1) := fault1 h7
    go_wp2
    go_ret
    exact ⟨ret_int HF.out.symm, 0, rfl⟩
  have h7i : ¬ (n : Int) < 7 := by omega
  have d0 := (rowY_at HR.out (j := 0) (by omega)).1
  have d1 := (rowY_at HR.out (j := 1) (by omega)).1
  have d2 := (rowY_at HR.out (j := 2) (by omega)).1
  have d3 := (rowY_at HR.out (j := 3) (by omega)).1
  have d4 := (rowY_at HR.out (j := 4) (by omega)).1
  have hb := (rowY_at HR.out (j := 0) (by omega)).2
  rw [Nat.add_zero] at d0
  have v0 := hV.out 0 (by omega)
  have v1 := hV.out 1 (by omega)
  have v4 := hV.out 4 (by omega)
  have ah : ∀ w : World, (Instr.arrayAt 78 (.slice (some ⟨b, o, none⟩) n c)).run Try.prog w = .ok (.pointer (some ⟨b, o, none⟩)) w := fun w => run_arrayAt w 78 5 5 _ _ _ Try.underlying78 (by omega)
  go_enter Try.func60, Try.ntmps60
  go_wp2_with fail
  refine (headStart_any b o (V 0) _ v0.1 v0.2 d0).mono ?_
  rintro e w1 ⟨rfl, rfl⟩
  by_cases h0 : V 0 = 165
  case neg =>
    have HF : Hid (faultV n V = 2) := fault2 h7 h0
    go_wp2
    go_ret
    exact ⟨ret_int HF.out.symm, 0, rfl⟩
  rw [h0]
  go_wp2_with fail
  refine (headMany_any b o (V 4) _ v4.1 v4.2 d4).mono ?_
  rintro e w1 ⟨rfl, rfl⟩
  by_cases h20 : 20 < V 4
  · have HF : Hid (faultV n V = 3) := fault3 h7 h0 (.inl h20)
    go_wp2
    go_ret
    exact ⟨ret_int HF.out.symm, 0, rfl⟩
  go_wp2_with fail
  refine (headMany_any b o (V 4) _ v4.1 v4.2 d4).mono ?_
  rintro e w1 ⟨rfl, rfl⟩
  by_cases hne : (n : Int) - 2 = 5 + 2 * V 4
  case neg =>
    have hne2 : ((n : Int) - 2 != 5 + 2 * V 4) = true := by simp [hne]
    have HF : Hid (faultV n V = 3) := fault3 h7 h0 (.inr (by omega))
    go_wp2
    go_ret
    exact ⟨ret_int HF.out.symm, 0, rfl⟩
  have hne2 : ((n : Int) - 2 != 5 + 2 * V 4) = false := by simp [hne]
  have h1 : ¬ (20 < V 4 ∨ (n : Int) ≠ 7 + 2 * V 4) := by omega
  go_upto_region 8 with fail
  obtain ⟨k, hk⟩ : ∃ k : Nat, V 4 = (k : Int) := ⟨(V 4).toNat, by omega⟩
  have hnk : n = 7 + 2 * k := by omega
  have en : n - 2 = 5 + 2 * k := by omega
  have d5 := (rowY_at HR.out (j := 5 + 2 * k) (by omega)).1
  have d6 := (rowY_at HR.out (j := 5 + 2 * k + 1) (by omega)).1
  have v5 := hV.out (5 + 2 * k) (by omega)
  have v6 := hV.out (5 + 2 * k + 1) (by omega)
  have nv : numV V (n - 2) = V (5 + 2 * k) * 256 + V (5 + 2 * k + 1) := by unfold numV; rw [en]
  have CR : Hid (∀ w' : World, RowY w' (some ⟨b, o, none⟩) n V → Calls Try.prog 59 #[.slice (some ⟨b, o, none⟩) (5 + 2 * k) c] w' fun e w2 => e = .returned (.int .i64 (crcN V (5 + 2 * k))) ∧ w2 = w') := fun w' h => by
    have := implCrc_any (some ⟨b, o, none⟩) (5 + 2 * k) c V w' (fun j hj => hV.out j (by omega)) (h.less (by omega))
    unfold crcV at this
    rw [if_pos (by omega)] at this
    exact this
  have NU : Hid (∀ w' : World, RowY w' (some ⟨b, o, none⟩) n V → Calls Try.prog 75 #[.pointer (some ⟨b, o + (5 + 2 * k), none⟩)] w' fun e w2 => e = .returned (.int .i64 (V (5 + 2 * k) * 256 + V (5 + 2 * k + 1))) ∧ ∃ m, w2 = w'.drewN m) := fun w' h => number_any b (o + (5 + 2 * k)) _ _ w' v5.1 v5.2 v6.1 v6.2 (rowY_at h (j := 5 + 2 * k) (by omega)).1 (rowY_at h (j := 5 + 2 * k + 1) (by omega)).1
  have hi : ((n : Int) - 2).toNat = 5 + 2 * k := by omega
  have l2 : n - (5 + 2 * k) = 2 := by omega
  have b6 : (n : Int) ≤ (c : Int) := by omega
  have b7 : 5 + 2 * V 4 ≤ (c : Int) := by omega
  have b8 : 5 + 2 * k ≤ c := by omega
  have b9 : ¬ c = 5 + 2 * k := by omega
  have hi2 : (5 + 2 * V 4).toNat = 5 + 2 * k := by omega
  have b4 : (0 : Int) ≤ 5 + 2 * V 4 := by omega
  have b5 : 5 + 2 * V 4 ≤ (n : Int) := by omega
  have b1 : (0 : Int) ≤ (n : Int) - 2 := by omega
  have b2 : (n : Int) - 2 ≤ (n : Int) := by omega
  have b3 : 5 + 2 * k ≤ n := by omega
  have aw : ∀ w : World, (Instr.arrayAt 75 (.slice (some ⟨b, o + (5 + 2 * k), none⟩) 2 (c - (5 + 2 * k)))).run Try.prog w = .ok (.pointer (some ⟨b, o + (5 + 2 * k), none⟩)) w := fun w => run_arrayAt w 75 5 2 _ _ _ Try.underlying75 (by omega)
  clear hnk hk
  go_cut [29] (fun y wx => y = .bool (V (5 + 2 * k) * 256 + V (5 + 2 * k + 1) != ((crcN V (5 + 2 * k) : Nat) : Int)) ∧ ∃ nq, wx = w1.drewN nq)
  case first =>
    go_quiet (first
      | (go_at_call 59; exact Calls.quiet_of_same (CR.out _ HR.out))
      | (go_at_call 75; exact Calls.quiet_of (NU.out _ HR.out)))
    go_wp2
    go_meet
    exact ⟨rfl, nq, rfl⟩
  obtain ⟨rfl, nq, rfl⟩ := hcut
  by_cases hs : ((crcN V (5 + 2 * k) : Nat) : Int) = V (5 + 2 * k) * 256 + V (5 + 2 * k + 1)
  case neg =>
    have hmb : (V (5 + 2 * k) * 256 + V (5 + 2 * k + 1) != ((crcN V (5 + 2 * k) : Nat) : Int)) = true := by simp; exact fun e => hs e.symm
    have HF : Hid (faultV n V = 4) := fault4 h7 h0 h1 (by rw [nv, en]; exact hs)
    go_wp2
    go_ret
    exact ⟨ret_int HF.out.symm, nq, rfl⟩
  have hmb : (V (5 + 2 * k) * 256 + V (5 + 2 * k + 1) != ((crcN V (5 + 2 * k) : Nat) : Int)) = false := by simp [hs]
  have hs2 : (crcN V (n - 2) : Int) = numV V (n - 2) := by rw [nv, en]; exact hs
  go_wp2_with fail
  refine (headTrain_any b o (V 1) (w1.drewN nq) v1.1 v1.2 d1).mono ?_
  rintro e w2 ⟨rfl, rfl⟩
  go_wp2_with fail
  refine (trainOk_any _ _).mono ?_
  rintro e w2 ⟨rfl, rfl⟩
  cases ht : inB 1 4 (V 1)
  · have HF : Hid (faultV n V = 5) := fault5 h7 h0 h1 hs2 (by have := inB_no ht; omega)
    go_wp2
    go_ret
    exact ⟨ret_int HF.out.symm, nq, rfl⟩
  · have HF : Hid (faultV n V = 0) := fault0 h7 h0 h1 hs2 (by have := inB_yes ht; omega)
    go_wp2
    go_ret
    exact ⟨ret_int HF.out.symm, nq, rfl⟩
end Go.Proofs.Ytkocbklkiehdiaa
