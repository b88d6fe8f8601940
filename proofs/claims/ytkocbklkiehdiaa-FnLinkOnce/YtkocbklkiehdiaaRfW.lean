/-
What is proved: the numbers of a frame's head and of its words, as the program reads them.
-/
import Derived.Test.YtkocbklkiehdiaaRf
import Derived.BigQuiet
import Derived.Deep.QuietTactic
import Derived.Laws.Cover3
namespace Go.Proofs.Ytkocbklkiehdiaa
set_option maxRecDepth 40000
open Go.RowKit
set_option linter.unusedVariables false
set_option linter.unusedSimpArgs false

set_option maxHeartbeats 1000000 in
theorem headStart_any (b o : Nat) (x : Int) (w : World) (h0 : 0 ≤ x) (h1 : x < 256) (hc : w.cell? ⟨b, o, none⟩ = some (.int .u8 x)) :
    Calls Try.prog 73 #[.pointer (some ⟨b, o, none⟩)] w fun e w' => e = .returned (.int .u8 x) ∧ w' = w := by
  go_enter Try.func73, Try.ntmps73
  go_wp2
  go_ret
  exact ⟨rfl, rfl⟩
set_option maxHeartbeats 1000000 in
theorem headTrain_any (b o : Nat) (x : Int) (w : World) (h0 : 0 ≤ x) (h1 : x < 256) (hc : w.cell? ⟨b, o + 1, none⟩ = some (.int .u8 x)) :
    Calls Try.prog 62 #[.pointer (some ⟨b, o, none⟩)] w fun e w' => e = .returned (.int .i64 x) ∧ w' = w := by
  go_enter Try.func62, Try.ntmps62
  go_wp2
  go_ret
  exact ⟨rfl, rfl⟩
set_option maxHeartbeats 1000000 in
theorem headMany_any (b o : Nat) (x : Int) (w : World) (h0 : 0 ≤ x) (h1 : x < 256) (hc : w.cell? ⟨b, o + 4, none⟩ = some (.int .u8 x)) :
    Calls Try.prog 74 #[.pointer (some ⟨b, o, none⟩)] w fun e w' => e = .returned (.int .i64 x) ∧ w' = w := by
  go_enter Try.func74, Try.ntmps74
  go_wp2
  go_ret
  exact ⟨rfl, rfl⟩
theorem or8 {x y : Int} (h0 : 0 ≤ x) (h1 : x < 256) (h2 : 0 ≤ y) (h3 : y < 256) : bits .or .i64 (x * 256) y = x * 256 + y := by
  obtain ⟨a, rfl⟩ : ∃ a : Nat, x = (a : Int) := ⟨x.toNat, by omega⟩
  obtain ⟨c, rfl⟩ : ∃ c : Nat, y = (c : Int) := ⟨y.toNat, by omega⟩
  have e : ((a : Int) * 256) = ((a * 256 : Nat) : Int) := by omega
  have hj : a * 256 ||| c = a * 256 + c := nat_join 8 (a * 256) c (by omega) (by omega)
  rw [e]
  show IntKind.i64.wrap ((BitVec.ofInt 64 ((a * 256 : Nat) : Int) ||| BitVec.ofInt 64 (c : Int)).toNat : Int) = _
  rw [BitVec.toNat_or, ofInt_u64 _ (by omega), ofInt_u64 _ (by omega), hj, IntKind.wrap_i64]
  all_goals omega
set_option maxHeartbeats 1000000 in
theorem number_any (b o : Nat) (x y : Int) (w : World) (h0 : 0 ≤ x) (h1 : x < 256) (h2 : 0 ≤ y) (h3 : y < 256) (hc : w.cell? ⟨b, o, none⟩ = some (.int .u8 x)) (hd : w.cell? ⟨b, o + 1, none⟩ = some (.int .u8 y)) :
    Calls Try.prog 75 #[.pointer (some ⟨b, o, none⟩)] w fun e w' => e = .returned (.int .i64 (x * 256 + y)) ∧ ∃ n, w' = w.drewN n := by
  have hr := or8 h0 h1 h2 h3
  go_enter Try.func75, Try.ntmps75
  go_wp2_with fail
  go_quiet (fail)
  go_wp2
  go_ret
  exact ⟨by first | rfl | (rw [hr]; done) | simp [hr], nq, rfl⟩
set_option maxHeartbeats 1000000 in
theorem headSeq_any (b o : Nat) (x y : Int) (w : World) (h0 : 0 ≤ x) (h1 : x < 256) (h2 : 0 ≤ y) (h3 : y < 256) (hc : w.cell? ⟨b, o + 2, none⟩ = some (.int .u8 x)) (hd : w.cell? ⟨b, o + 3, none⟩ = some (.int .u8 y)) :
    Calls Try.prog 63 #[.pointer (some ⟨b, o, none⟩)] w fun e w' => e = .returned (.int .i64 (x * 256 + y)) ∧ ∃ n, w' = w.drewN n := by
  have aw : ∀ w : World, (Instr.arrayAt 75 (.slice (some ⟨b, o + 2, none⟩) 2 3)).run Try.prog w = .ok (.pointer (some ⟨b, o + 2, none⟩)) w := fun w => run_arrayAt w 75 5 2 _ _ _ Try.underlying75 (by omega)
  go_enter Try.func63, Try.ntmps63
  go_wp2_with fail
  refine (number_any b (o + 2) x y _ h0 h1 h2 h3 hc hd).mono ?_
  rintro e w1 ⟨rfl, nq, rfl⟩
  go_wp2
  go_ret
  exact ⟨rfl, nq, rfl⟩
end Go.Proofs.Ytkocbklkiehdiaa
