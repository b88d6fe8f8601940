/-
What is proved: the sum of bytes, as the program reckons it.
-/
import Derived.Test.YtkocbklkiehdiaaCr
namespace Go.Proofs.Ytkocbklkiehdiaa
set_option maxRecDepth 40000
open Go.RowKit
set_option linter.unusedVariables false
set_option linter.unusedSimpArgs false

set_option maxRecDepth 20000 in
set_option maxHeartbeats 4000000 in
theorem implCrc_any (s : Option Addr) (n c : Nat) (V : Nat → Int) (w : World) (hV : Hid (∀ j, j < n → 0 ≤ V j ∧ V j < 256)) (HR : Hid (RowY w s n V)) :
    Calls Try.prog 59 #[.slice s n c] w fun e w' => e = .returned (.int .i64 (crcV n V)) ∧ w' = w := by
  go_enter Try.func59, Try.ntmps59
  by_cases hn : (1000 : Int) < n
  · have HO : Hid (crcV n V = -1) := show crcV n V = -1 by unfold crcV; rw [if_neg (by omega)]
    go_wp2
    go_ret
    exact ⟨ret_int HO.out.symm, rfl⟩
  have HO : Hid (crcV n V = (crcN V n : Int)) := show crcV n V = _ by unfold crcV; rw [if_pos (by omega)]
  go_wp2_with fail
  go_loop [3, 12] (fun a i => ∃ k : Nat, k ≤ n ∧ i = .int .i64 k ∧ a = .int .u16 (crcN V k : Nat)) (fun _ i => n - (intOf i).toNat)
  case atStart => exact ⟨0, Nat.zero_le _, rfl, rfl⟩
  case round =>
    obtain ⟨k, hk, rfl, rfl⟩ := hrel
    have hV0 : Hid (∀ j, j < k → 0 ≤ V j ∧ V j < 256) := fun j hj => hV.out j (by omega)
    have hc1 := crcN_lt k hV0.out
    by_cases hlt : k < n
    · obtain ⟨g, o, rfl, hg, c0⟩ := HR.out k hlt
      obtain ⟨hv0, hv1⟩ := hV.out k hlt
      have k1 : (k : Int) < (n : Int) := by omega
      go_wp2_with fail
      go_loop [3, 21] (fun a j => ∃ i x : Nat, i ≤ 8 ∧ x < 65536 ∧ j = .int .i64 i ∧ a = .int .u16 (x : Nat) ∧ Hid (x = crcR i (crcB (crcN V k) (V k)))) (fun _ j => 8 - (intOf j).toNat)
      case atStart => exact ⟨0, crcB (crcN V k) (V k), by decide, crcB_lt hc1 hv0 hv1, rfl, by rw [byte16 (crcN_lt k hV0.out) hv0 hv1], rfl⟩
      case round =>
      obtain ⟨i, x, hi, hx, rfl, rfl, hQ⟩ := hrel
      by_cases h8 : i < 8
      · have i1 : (i : Int) < 8 := by omega
        have ht := top16 hx
        by_cases hq : 32768 ≤ x
        · have hb : (bits .and .u16 (x : Int) 32768 != 0) = true := by rw [ht]; have : x / 32768 % 2 = 1 := (by omega); rw [this]; rfl
          have HE : Hid (bits .xor .u16 (IntKind.u16.wrap ((x : Int) * 2)) 4129 = (crcStep x : Int)) := hi16 hq hx
          go_wp2
          go_round
          case rel => exact ⟨i + 1, crcStep x, by omega, crcStep_lt hx, by go_num, by rw [HE.out], show crcStep x = crcStep (crcR i _) by rw [← hQ.out]⟩
          case measure => simp [intOf]; omega
        · have hb : (bits .and .u16 (x : Int) 32768 != 0) = false := by rw [ht]; have : x / 32768 % 2 = 0 := (by omega); rw [this]; rfl
          have HE : Hid (((x : Int) * 2) = (crcStep x : Int)) := lo64 hq
          go_wp2
          go_round
          case rel => exact ⟨i + 1, crcStep x, by omega, crcStep_lt hx, by go_num, by rw [HE.out], show crcStep x = crcStep (crcR i _) by rw [← hQ.out]⟩
          case measure => simp [intOf]; omega
      · obtain rfl : i = 8 := by omega
        go_wp2
        go_round
        case rel => exact ⟨k + 1, by omega, by go_num, by rw [show crcN V (k + 1) = x from hQ.out.symm]⟩
        case measure => simp [intOf]; omega
    · obtain rfl : k = n := by omega
      go_wp2
      go_ret
      exact ⟨ret_int (by rw [HO.out]), rfl⟩
end Go.Proofs.Ytkocbklkiehdiaa
