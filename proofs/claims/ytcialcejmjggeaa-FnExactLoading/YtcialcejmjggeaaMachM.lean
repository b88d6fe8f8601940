/-
What is proved: a list of machines that the law owns, marked by its helper.
-/
import Derived.Test.YtcialcejmjggeaaMach
import Derived.Test.YtcialcejmjggeaaI64R
namespace Go.Proofs.Ytcialcejmjggeaa
set_option maxRecDepth 40000
open Go.RowKit
set_option linter.unusedVariables false
set_option linter.unusedSimpArgs false

set_option maxRecDepth 20000 in
set_option maxHeartbeats 2000000 in
theorem markMachineS_at (b n c : Nat) (k : Int) (V : Nat → Int) (w : World) (hn : (n : Int) ≤ 1048576) (k0 : 0 ≤ k) (k1 : k ≤ 100000000) (hb : b < w.heap.size) (HR : Hid (∀ j, j < n * 4 → w.cell? ⟨b, j, none⟩ = some (.int .i64 (V j)) ∧ w.frozen? ⟨b, j, none⟩ = false)) :
    Calls Try.prog 14 #[.slice (some ⟨b, 0, none⟩) n c, .int .i64 k] w fun e w' => e = .returned (.int .i64 (k + (n * 4 : Nat))) ∧ MarkTo b w w' (n * 4) (n * 4) k V := by
  go_enter Try.func14, Try.ntmps14
  go_wp2_with fail
  go_loopw [1, 5] (fun q i wr => ∃ j : Nat, j ≤ n ∧ i = .int .i64 j ∧ q = .int .i64 (k + (j * 4 : Nat)) ∧ MarkTo b w wr (n * 4) (j * 4) k V) (fun _ i _ => n - (intOf i).toNat)
  case atStart => exact ⟨0, Nat.zero_le _, rfl, by simp, (Beside.of (Below.refl _ _)), fun o ho => (HR.out o ho).2, fun i hi => by rw [if_neg (by omega)]; exact (HR.out i hi).1⟩
  case round =>
    obtain ⟨j, hj, rfl, rfl, hR⟩ := hrel
    have HT : Hid (MarkTo b w wr (n * 4) (j * 4) k V) := hR
    obtain ⟨hB, hf, hc⟩ := hR
    by_cases h1 : j < n
    · have e0 := hc (j * 4) (by omega)
      have e1 := hc (j * 4 + 1) (by omega)
      have e2 := hc (j * 4 + 2) (by omega)
      have e3 := hc (j * 4 + 3) (by omega)
      have f0 := hf (j * 4) (by omega)
      have f1 := hf (j * 4 + 1) (by omega)
      have f2 := hf (j * 4 + 2) (by omega)
      have f3 := hf (j * 4 + 3) (by omega)
      have k1 : (j : Int) < (n : Int) := by omega
      have T2 : Hid (MarkTo b w ((((wr.setCell ⟨b, j * 4, none⟩ (.int .i64 (k + (j * 4 : Nat)))).setCell ⟨b, j * 4 + 1, none⟩ (.int .i64 (k + (j * 4 + 1 : Nat)))).setCell ⟨b, j * 4 + 2, none⟩ (.int .i64 (k + (j * 4 + 2 : Nat)))).setCell ⟨b, j * 4 + 3, none⟩ (.int .i64 (k + (j * 4 + 3 : Nat)))) (n * 4) (j * 4 + 1 + 1 + 1 + 1) k V) := (markTo_on hb (markTo_on hb (markTo_on hb (markTo_on hb HT.out))))
      simp only [Int.natCast_mul, Int.natCast_add, Int.cast_ofNat_Int, Int.natCast_one] at T2 ⊢
      clear hc hf hB
      go_wp2
      go_roundw
      case rel => exact ⟨j + 1, by omega, by go_num, by first | go_num | (congr 1; omega), by rw [show (j + 1) * 4 = j * 4 + 1 + 1 + 1 + 1 by omega]; have := T2.out; simp only [← Int.add_assoc] at this; rw [show k + (j : Int) * 4 + 2 = k + (j : Int) * 4 + 1 + 1 by omega, show k + (j : Int) * 4 + 3 = k + (j : Int) * 4 + 1 + 1 + 1 by omega] at this; exact this⟩
      case measure => simp [intOf]; omega
    · obtain rfl : j = n := by omega
      go_wp2
      go_ret
      exact ⟨rfl, HT.out⟩
set_option maxHeartbeats 1000000 in
theorem markMachineS_nil (s : Option Addr) (c : Nat) (k : Int) (w : World) :
    Calls Try.prog 14 #[.slice s 0 c, .int .i64 k] w fun e w' => e = .returned (.int .i64 k) ∧ w' = w := by
  go_enter Try.func14, Try.ntmps14
  go_wp2_with fail
  go_loop [1, 5] (fun q i => i = .int .i64 0 ∧ q = .int .i64 k) (fun _ i => 0)
  case atStart => exact ⟨rfl, rfl⟩
  case round =>
    obtain ⟨rfl, rfl⟩ := hrel
    go_wp2
    go_ret
    exact ⟨rfl, rfl⟩
theorem markMachineS_own (base : Nat) (s : Option Addr) (n c : Nat) (k : Int) (V : Nat → Int) (w : World) (hn : (n : Int) ≤ 1048576) (k0 : 0 ≤ k) (k1 : k ≤ 100000000) (hb : base ≤ w.heap.size) (HR : OwnI base w s (n * 4) V) :
    Calls Try.prog 14 #[.slice s n c, .int .i64 k] w fun e w' => e = .returned (.int .i64 (k + (n * 4 : Nat))) ∧ Below base w w' ∧ ∀ b, s = some ⟨b, 0, none⟩ → Beside b w w' := by
  by_cases h : n = 0
  · subst h
    refine (markMachineS_nil s c k w).mono ?_
    rintro e w' ⟨rfl, rfl⟩
    exact ⟨by simp, Below.refl _ _, fun b _ => Beside.of (Below.refl _ _)⟩
  · obtain ⟨b, rfl, hB, hl, _, _⟩ := HR 0 (by omega)
    have HH : Hid (∀ j, j < n * 4 → w.cell? ⟨b, j, none⟩ = some (.int .i64 (V j)) ∧ w.frozen? ⟨b, j, none⟩ = false) := fun j hj => by
      obtain ⟨b', e', _, _, h1, h2⟩ := HR j hj
      cases e'
      exact ⟨h1, h2⟩
    refine (markMachineS_at b n c k V w hn k0 k1 hl HH).mono ?_
    rintro e w' ⟨rfl, hB', hf, hc⟩
    exact ⟨rfl, hB'.below hB hb, fun b' e => by cases e; exact hB'⟩
end Go.Proofs.Ytcialcejmjggeaa
