/-
What is proved: what kinds an op takes and which it gives, as the specification tells it.
-/
import Derived.Test.YtdidgbibbkhnhaaOpen
namespace Go.Proofs.Ytdidgbibbkhnhaa
set_option maxRecDepth 40000
open Go.ChangeShapes Go.WideShapes Go.ChangeAt Go.RowKit
set_option linter.unusedVariables false
set_option linter.unusedSimpArgs false

def takS (op : Int) : ByteArray := if op = 1 then ⟨#[]⟩ else if op = 2 then ⟨#[]⟩ else if op = 3 then ⟨#[]⟩ else if op = 4 then ⟨#[]⟩ else if op = 5 then ⟨#[98, 98]⟩ else if op = 6 then ⟨#[98, 98]⟩ else if op = 7 then ⟨#[98, 98]⟩ else if op = 8 then ⟨#[98]⟩ else if op = 9 then ⟨#[105, 105]⟩ else if op = 10 then ⟨#[105, 105]⟩ else if op = 11 then ⟨#[105, 105]⟩ else if op = 12 then ⟨#[105, 105]⟩ else if op = 13 then ⟨#[105, 105]⟩ else if op = 14 then ⟨#[105, 105]⟩ else if op = 15 then ⟨#[105, 105]⟩ else if op = 16 then ⟨#[98, 105, 105]⟩ else if op = 17 then ⟨#[98, 98]⟩ else if op = 18 then ⟨#[98]⟩ else if op = 19 then ⟨#[98]⟩ else if op = 20 then ⟨#[98]⟩ else if op = 21 then ⟨#[105]⟩ else ⟨#[]⟩
def givS (op : Int) : ByteArray := if op = 1 then ⟨#[98]⟩ else if op = 2 then ⟨#[105]⟩ else if op = 3 then ⟨#[98]⟩ else if op = 4 then ⟨#[105]⟩ else if op = 5 then ⟨#[98]⟩ else if op = 6 then ⟨#[98]⟩ else if op = 7 then ⟨#[98]⟩ else if op = 8 then ⟨#[98]⟩ else if op = 9 then ⟨#[105]⟩ else if op = 10 then ⟨#[105]⟩ else if op = 11 then ⟨#[105]⟩ else if op = 12 then ⟨#[105]⟩ else if op = 13 then ⟨#[98]⟩ else if op = 14 then ⟨#[98]⟩ else if op = 15 then ⟨#[98]⟩ else if op = 16 then ⟨#[105]⟩ else if op = 17 then ⟨#[98]⟩ else if op = 18 then ⟨#[105]⟩ else if op = 19 then ⟨#[98]⟩ else if op = 20 then ⟨#[98]⟩ else if op = 21 then ⟨#[105]⟩ else ⟨#[]⟩
theorem takS_out {op : Int} (h : op < 1 ∨ 21 < op) : takS op = ⟨#[]⟩ ∧ givS op = ⟨#[]⟩ := by
  unfold takS givS
  refine ⟨?_, ?_⟩ <;> (repeat rw [if_neg (by omega)])
set_option maxHeartbeats 1000000 in
theorem takes_1 (w : World) : Calls Try.prog 40 #[.int .i64 1] w fun e w' => e = .returned (.tuple #[.string ⟨#[]⟩, .string ⟨#[98]⟩]) ∧ w' = w := by
  go_enter Try.func40, Try.ntmps40
  go_wp2
  exact bodyPost_ret (v := .tuple #[.string ⟨#[]⟩, .string ⟨#[98]⟩]) (by simp [results, Try.results40, go_sem]) rfl ⟨rfl, rfl⟩
set_option maxHeartbeats 1000000 in
theorem takes_2 (w : World) : Calls Try.prog 40 #[.int .i64 2] w fun e w' => e = .returned (.tuple #[.string ⟨#[]⟩, .string ⟨#[105]⟩]) ∧ w' = w := by
  go_enter Try.func40, Try.ntmps40
  go_wp2
  exact bodyPost_ret (v := .tuple #[.string ⟨#[]⟩, .string ⟨#[105]⟩]) (by simp [results, Try.results40, go_sem]) rfl ⟨rfl, rfl⟩
set_option maxHeartbeats 1000000 in
theorem takes_3 (w : World) : Calls Try.prog 40 #[.int .i64 3] w fun e w' => e = .returned (.tuple #[.string ⟨#[]⟩, .string ⟨#[98]⟩]) ∧ w' = w := by
  go_enter Try.func40, Try.ntmps40
  go_wp2
  exact bodyPost_ret (v := .tuple #[.string ⟨#[]⟩, .string ⟨#[98]⟩]) (by simp [results, Try.results40, go_sem]) rfl ⟨rfl, rfl⟩
set_option maxHeartbeats 1000000 in
theorem takes_4 (w : World) : Calls Try.prog 40 #[.int .i64 4] w fun e w' => e = .returned (.tuple #[.string ⟨#[]⟩, .string ⟨#[105]⟩]) ∧ w' = w := by
  go_enter Try.func40, Try.ntmps40
  go_wp2
  exact bodyPost_ret (v := .tuple #[.string ⟨#[]⟩, .string ⟨#[105]⟩]) (by simp [results, Try.results40, go_sem]) rfl ⟨rfl, rfl⟩
set_option maxHeartbeats 1000000 in
theorem takes_5 (w : World) : Calls Try.prog 40 #[.int .i64 5] w fun e w' => e = .returned (.tuple #[.string ⟨#[98, 98]⟩, .string ⟨#[98]⟩]) ∧ w' = w := by
  go_enter Try.func40, Try.ntmps40
  go_wp2
  exact bodyPost_ret (v := .tuple #[.string ⟨#[98, 98]⟩, .string ⟨#[98]⟩]) (by simp [results, Try.results40, go_sem]) rfl ⟨rfl, rfl⟩
set_option maxHeartbeats 1000000 in
theorem takes_6 (w : World) : Calls Try.prog 40 #[.int .i64 6] w fun e w' => e = .returned (.tuple #[.string ⟨#[98, 98]⟩, .string ⟨#[98]⟩]) ∧ w' = w := by
  go_enter Try.func40, Try.ntmps40
  go_wp2
  exact bodyPost_ret (v := .tuple #[.string ⟨#[98, 98]⟩, .string ⟨#[98]⟩]) (by simp [results, Try.results40, go_sem]) rfl ⟨rfl, rfl⟩
set_option maxHeartbeats 1000000 in
theorem takes_7 (w : World) : Calls Try.prog 40 #[.int .i64 7] w fun e w' => e = .returned (.tuple #[.string ⟨#[98, 98]⟩, .string ⟨#[98]⟩]) ∧ w' = w := by
  go_enter Try.func40, Try.ntmps40
  go_wp2
  exact bodyPost_ret (v := .tuple #[.string ⟨#[98, 98]⟩, .string ⟨#[98]⟩]) (by simp [results, Try.results40, go_sem]) rfl ⟨rfl, rfl⟩
set_option maxHeartbeats 1000000 in
theorem takes_8 (w : World) : Calls Try.prog 40 #[.int .i64 8] w fun e w' => e = .returned (.tuple #[.string ⟨#[98]⟩, .string ⟨#[98]⟩]) ∧ w' = w := by
  go_enter Try.func40, Try.ntmps40
  go_wp2
  exact bodyPost_ret (v := .tuple #[.string ⟨#[98]⟩, .string ⟨#[98]⟩]) (by simp [results, Try.results40, go_sem]) rfl ⟨rfl, rfl⟩
set_option maxHeartbeats 1000000 in
theorem takes_9 (w : World) : Calls Try.prog 40 #[.int .i64 9] w fun e w' => e = .returned (.tuple #[.string ⟨#[105, 105]⟩, .string ⟨#[105]⟩]) ∧ w' = w := by
  go_enter Try.func40, Try.ntmps40
  go_wp2
  exact bodyPost_ret (v := .tuple #[.string ⟨#[105, 105]⟩, .string ⟨#[105]⟩]) (by simp [results, Try.results40, go_sem]) rfl ⟨rfl, rfl⟩
set_option maxHeartbeats 1000000 in
theorem takes_10 (w : World) : Calls Try.prog 40 #[.int .i64 10] w fun e w' => e = .returned (.tuple #[.string ⟨#[105, 105]⟩, .string ⟨#[105]⟩]) ∧ w' = w := by
  go_enter Try.func40, Try.ntmps40
  go_wp2
  exact bodyPost_ret (v := .tuple #[.string ⟨#[105, 105]⟩, .string ⟨#[105]⟩]) (by simp [results, Try.results40, go_sem]) rfl ⟨rfl, rfl⟩
set_option maxHeartbeats 1000000 in
theorem takes_11 (w : World) : Calls Try.prog 40 #[.int .i64 11] w fun e w' => e = .returned (.tuple #[.string ⟨#[105, 105]⟩, .string ⟨#[105]⟩]) ∧ w' = w := by
  go_enter Try.func40, Try.ntmps40
  go_wp2
  exact bodyPost_ret (v := .tuple #[.string ⟨#[105, 105]⟩, .string ⟨#[105]⟩]) (by simp [results, Try.results40, go_sem]) rfl ⟨rfl, rfl⟩
set_option maxHeartbeats 1000000 in
theorem takes_12 (w : World) : Calls Try.prog 40 #[.int .i64 12] w fun e w' => e = .returned (.tuple #[.string ⟨#[105, 105]⟩, .string ⟨#[105]⟩]) ∧ w' = w := by
  go_enter Try.func40, Try.ntmps40
  go_wp2
  exact bodyPost_ret (v := .tuple #[.string ⟨#[105, 105]⟩, .string ⟨#[105]⟩]) (by simp [results, Try.results40, go_sem]) rfl ⟨rfl, rfl⟩
set_option maxHeartbeats 1000000 in
theorem takes_13 (w : World) : Calls Try.prog 40 #[.int .i64 13] w fun e w' => e = .returned (.tuple #[.string ⟨#[105, 105]⟩, .string ⟨#[98]⟩]) ∧ w' = w := by
  go_enter Try.func40, Try.ntmps40
  go_wp2
  exact bodyPost_ret (v := .tuple #[.string ⟨#[105, 105]⟩, .string ⟨#[98]⟩]) (by simp [results, Try.results40, go_sem]) rfl ⟨rfl, rfl⟩
set_option maxHeartbeats 1000000 in
theorem takes_14 (w : World) : Calls Try.prog 40 #[.int .i64 14] w fun e w' => e = .returned (.tuple #[.string ⟨#[105, 105]⟩, .string ⟨#[98]⟩]) ∧ w' = w := by
  go_enter Try.func40, Try.ntmps40
  go_wp2
  exact bodyPost_ret (v := .tuple #[.string ⟨#[105, 105]⟩, .string ⟨#[98]⟩]) (by simp [results, Try.results40, go_sem]) rfl ⟨rfl, rfl⟩
set_option maxHeartbeats 1000000 in
theorem takes_15 (w : World) : Calls Try.prog 40 #[.int .i64 15] w fun e w' => e = .returned (.tuple #[.string ⟨#[105, 105]⟩, .string ⟨#[98]⟩]) ∧ w' = w := by
  go_enter Try.func40, Try.ntmps40
  go_wp2
  exact bodyPost_ret (v := .tuple #[.string ⟨#[105, 105]⟩, .string ⟨#[98]⟩]) (by simp [results, Try.results40, go_sem]) rfl ⟨rfl, rfl⟩
set_option maxHeartbeats 1000000 in
theorem takes_16 (w : World) : Calls Try.prog 40 #[.int .i64 16] w fun e w' => e = .returned (.tuple #[.string ⟨#[98, 105, 105]⟩, .string ⟨#[105]⟩]) ∧ w' = w := by
  go_enter Try.func40, Try.ntmps40
  go_wp2
  exact bodyPost_ret (v := .tuple #[.string ⟨#[98, 105, 105]⟩, .string ⟨#[105]⟩]) (by simp [results, Try.results40, go_sem]) rfl ⟨rfl, rfl⟩
set_option maxHeartbeats 1000000 in
theorem takes_17 (w : World) : Calls Try.prog 40 #[.int .i64 17] w fun e w' => e = .returned (.tuple #[.string ⟨#[98, 98]⟩, .string ⟨#[98]⟩]) ∧ w' = w := by
  go_enter Try.func40, Try.ntmps40
  go_wp2
  exact bodyPost_ret (v := .tuple #[.string ⟨#[98, 98]⟩, .string ⟨#[98]⟩]) (by simp [results, Try.results40, go_sem]) rfl ⟨rfl, rfl⟩
set_option maxHeartbeats 1000000 in
theorem takes_18 (w : World) : Calls Try.prog 40 #[.int .i64 18] w fun e w' => e = .returned (.tuple #[.string ⟨#[98]⟩, .string ⟨#[105]⟩]) ∧ w' = w := by
  go_enter Try.func40, Try.ntmps40
  go_wp2
  exact bodyPost_ret (v := .tuple #[.string ⟨#[98]⟩, .string ⟨#[105]⟩]) (by simp [results, Try.results40, go_sem]) rfl ⟨rfl, rfl⟩
set_option maxHeartbeats 1000000 in
theorem takes_19 (w : World) : Calls Try.prog 40 #[.int .i64 19] w fun e w' => e = .returned (.tuple #[.string ⟨#[98]⟩, .string ⟨#[98]⟩]) ∧ w' = w := by
  go_enter Try.func40, Try.ntmps40
  go_wp2
  exact bodyPost_ret (v := .tuple #[.string ⟨#[98]⟩, .string ⟨#[98]⟩]) (by simp [results, Try.results40, go_sem]) rfl ⟨rfl, rfl⟩
set_option maxHeartbeats 1000000 in
theorem takes_20 (w : World) : Calls Try.prog 40 #[.int .i64 20] w fun e w' => e = .returned (.tuple #[.string ⟨#[98]⟩, .string ⟨#[98]⟩]) ∧ w' = w := by
  go_enter Try.func40, Try.ntmps40
  go_wp2
  exact bodyPost_ret (v := .tuple #[.string ⟨#[98]⟩, .string ⟨#[98]⟩]) (by simp [results, Try.results40, go_sem]) rfl ⟨rfl, rfl⟩
set_option maxHeartbeats 1000000 in
theorem takes_21 (w : World) : Calls Try.prog 40 #[.int .i64 21] w fun e w' => e = .returned (.tuple #[.string ⟨#[105]⟩, .string ⟨#[105]⟩]) ∧ w' = w := by
  go_enter Try.func40, Try.ntmps40
  go_wp2
  exact bodyPost_ret (v := .tuple #[.string ⟨#[105]⟩, .string ⟨#[105]⟩]) (by simp [results, Try.results40, go_sem]) rfl ⟨rfl, rfl⟩
set_option maxHeartbeats 1000000 in
theorem takes_out (op : Int) (w : World) (h : op < 1 ∨ 21 < op) : Calls Try.prog 40 #[.int .i64 op] w fun e w' => e = .returned (.tuple #[.string ⟨#[]⟩, .string ⟨#[]⟩]) ∧ w' = w := by
  have n1 : (op == 1) = false := by simp; omega
  have n2 : (op == 2) = false := by simp; omega
  have n3 : (op == 3) = false := by simp; omega
  have n4 : (op == 4) = false := by simp; omega
  have n5 : (op == 5) = false := by simp; omega
  have n6 : (op == 6) = false := by simp; omega
  have n7 : (op == 7) = false := by simp; omega
  have n8 : (op == 8) = false := by simp; omega
  have n9 : (op == 9) = false := by simp; omega
  have n10 : (op == 10) = false := by simp; omega
  have n11 : (op == 11) = false := by simp; omega
  have n12 : (op == 12) = false := by simp; omega
  have n13 : (op == 13) = false := by simp; omega
  have n14 : (op == 14) = false := by simp; omega
  have n15 : (op == 15) = false := by simp; omega
  have n16 : (op == 16) = false := by simp; omega
  have n17 : (op == 17) = false := by simp; omega
  have n18 : (op == 18) = false := by simp; omega
  have n19 : (op == 19) = false := by simp; omega
  have n20 : (op == 20) = false := by simp; omega
  have n21 : (op == 21) = false := by simp; omega
  go_enter Try.func40, Try.ntmps40
  go_wp2
  exact bodyPost_ret (v := .tuple #[.string ⟨#[]⟩, .string ⟨#[]⟩]) (by simp [results, Try.results40, go_sem]) rfl ⟨rfl, rfl⟩
theorem l18Takes_any (op : Int) (w : World) : Calls Try.prog 40 #[.int .i64 op] w fun e w' => e = .returned (.tuple #[.string (takS op), .string (givS op)]) ∧ w' = w := by
  by_cases h : op < 1 ∨ 21 < op
  · rw [(takS_out h).1, (takS_out h).2]
    exact takes_out op w h
  · have hc : op = 1 ∨ op = 2 ∨ op = 3 ∨ op = 4 ∨ op = 5 ∨ op = 6 ∨ op = 7 ∨ op = 8 ∨ op = 9 ∨ op = 10 ∨ op = 11 ∨ op = 12 ∨ op = 13 ∨ op = 14 ∨ op = 15 ∨ op = 16 ∨ op = 17 ∨ op = 18 ∨ op = 19 ∨ op = 20 ∨ op = 21 := by omega
    rcases hc with rfl | rfl | rfl | rfl | rfl | rfl | rfl | rfl | rfl | rfl | rfl | rfl | rfl | rfl | rfl | rfl | rfl | rfl | rfl | rfl | rfl
    · exact takes_1 w
    · exact takes_2 w
    · exact takes_3 w
    · exact takes_4 w
    · exact takes_5 w
    · exact takes_6 w
    · exact takes_7 w
    · exact takes_8 w
    · exact takes_9 w
    · exact takes_10 w
    · exact takes_11 w
    · exact takes_12 w
    · exact takes_13 w
    · exact takes_14 w
    · exact takes_15 w
    · exact takes_16 w
    · exact takes_17 w
    · exact takes_18 w
    · exact takes_19 w
    · exact takes_20 w
    · exact takes_21 w
end Go.Proofs.Ytdidgbibbkhnhaa
