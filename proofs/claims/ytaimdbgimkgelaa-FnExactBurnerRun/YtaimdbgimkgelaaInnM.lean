/-
What is proved: a list of what is seen, marked.
-/
import Derived.Test.YtaimdbgimkgelaaBoM
import Derived.Test.YtaimdbgimkgelaaSp
namespace Go.Proofs.Ytaimdbgimkgelaa
set_option maxRecDepth 40000
open Go.RowKit
set_option linter.unusedVariables false
set_option linter.unusedSimpArgs false

set_option maxRecDepth 20000 in
set_option maxHeartbeats 4000000 in
theorem markInS_at (b n c : Nat) (k : Int) (V : Nat → Bool) (w : World) (hn : (n : Int) ≤ 1048576) (k0 : 0 ≤ k) (k1 : k ≤ 100000000) (hb : b < w.heap.size) (HR : Hid (∀ j, j < n * 6 → w.cell? ⟨b, j, none⟩ = some (.bool (V j)) ∧ w.frozen? ⟨b, j, none⟩ = false)) :
    Calls Try.prog 23 #[.slice (some ⟨b, 0, none⟩) n c, .int .i64 k] w fun e w' => e = .returned (.int .i64 (k + (n : Int) * 6)) ∧ BarkTo b w w' (n * 6) (n * 6) k V := by
  go_enter Try.func23, Try.ntmps23
  go_wp2_with fail
  go_loopw [1, 5] (fun q i wr => ∃ j : Nat, j ≤ n ∧ i = .int .i64 j ∧ q = .int .i64 (k + (j : Int) * 6) ∧ BarkTo b w wr (n * 6) (j * 6) k V) (fun _ i _ => n - (intOf i).toNat)
  case atStart => exact ⟨0, Nat.zero_le _, rfl, by simp, (Beside.of (Below.refl _ _)), fun o ho => (HR.out o ho).2, fun i hi => by rw [if_neg (by omega)]; exact (HR.out i hi).1⟩
  case round =>
    obtain ⟨j, hj, rfl, rfl, hR⟩ := hrel
    have HT : Hid (BarkTo b w wr (n * 6) (j * 6) k V) := hR
    obtain ⟨hB, hf, hc⟩ := hR
    by_cases h1 : j < n
    · have e0 := hc (j * 6) (by omega); have e1 := hc (j * 6 + 1) (by omega); have e2 := hc (j * 6 + 2) (by omega); have e3 := hc (j * 6 + 3) (by omega); have e4 := hc (j * 6 + 4) (by omega); have e5 := hc (j * 6 + 5) (by omega)
      have f0 := hf (j * 6) (by omega); have f1 := hf (j * 6 + 1) (by omega); have f2 := hf (j * 6 + 2) (by omega); have f3 := hf (j * 6 + 3) (by omega); have f4 := hf (j * 6 + 4) (by omega); have f5 := hf (j * 6 + 5) (by omega)
      have k1 : (j : Int) < (n : Int) := by omega
      clear hc hf hB
      go_wp2
      go_roundw
      case rel => exact ⟨j + 1, by omega, by go_num, by go_num, (by rw [show (j + 1) * 6 = j * 6 + 6 by omega]; exact bark6 hb HT.out _ _ _ _ _ _ (by unfold markB; first | rfl | (congr 2; omega) | (congr 1; omega) | (rw [Bool.eq_iff_iff]; simp; omega)) (by unfold markB; first | rfl | (congr 2; omega) | (congr 1; omega) | (rw [Bool.eq_iff_iff]; simp; omega)) (by unfold markB; first | rfl | (congr 2; omega) | (congr 1; omega) | (rw [Bool.eq_iff_iff]; simp; omega)) (by unfold markB; first | rfl | (congr 2; omega) | (congr 1; omega) | (rw [Bool.eq_iff_iff]; simp; omega)) (by unfold markB; first | rfl | (congr 2; omega) | (congr 1; omega) | (rw [Bool.eq_iff_iff]; simp; omega)) (by unfold markB; first | rfl | (congr 2; omega) | (congr 1; omega) | (rw [Bool.eq_iff_iff]; simp; omega)))⟩
      case measure => simp [intOf]; omega
    · obtain rfl : j = n := by omega
      go_wp2
      go_ret
      exact ⟨rfl, HT.out⟩
set_option maxHeartbeats 1000000 in
theorem markInS_nil (s : Option Addr) (c : Nat) (k : Int) (w : World) :
    Calls Try.prog 23 #[.slice s 0 c, .int .i64 k] w fun e w' => e = .returned (.int .i64 k) ∧ w' = w := by
  go_enter Try.func23, Try.ntmps23
  go_wp2_with fail
  go_loop [1, 5] (fun q i => i = .int .i64 0 ∧ q = .int .i64 k) (fun _ i => 0)
  case atStart => exact ⟨rfl, rfl⟩
  case round =>
    obtain ⟨rfl, rfl⟩ := hrel
    go_wp2
    go_ret
    exact ⟨rfl, rfl⟩
theorem markInS_own (base : Nat) (s : Option Addr) (n c : Nat) (k : Int) (V : Nat → Bool) (w : World) (hn : (n : Int) ≤ 1048576) (k0 : 0 ≤ k) (k1 : k ≤ 100000000) (hb : base ≤ w.heap.size) (HR : OwnB base w s (n * 6) V) :
    Calls Try.prog 23 #[.slice s n c, .int .i64 k] w fun e w' => e = .returned (.int .i64 (k + (n : Int) * 6)) ∧ OwnB base w' s (n * 6) (markB k) ∧ Below base w w' ∧ Spared s (n * 6) w w' := by
  by_cases h : n = 0
  · subst h
    refine (markInS_nil s c k w).mono ?_
    rintro e w' ⟨rfl, rfl⟩
    exact ⟨by simp, fun j hj => by omega, Below.refl _ _, Spared.refl _ _ _⟩
  · obtain ⟨b, rfl, hB, hl, _, _⟩ := HR 0 (by omega)
    have HH : Hid (∀ j, j < n * 6 → w.cell? ⟨b, j, none⟩ = some (.bool (V j)) ∧ w.frozen? ⟨b, j, none⟩ = false) := fun j hj => by
      obtain ⟨b', e', _, _, h1, h2⟩ := HR j hj
      cases e'
      exact ⟨h1, h2⟩
    refine (markInS_at b n c k V w hn k0 k1 hl HH).mono ?_
    rintro e w' ⟨rfl, hB', hf, hc⟩
    refine ⟨rfl, fun j hj => ⟨b, rfl, hB, Nat.lt_of_lt_of_le hl hB'.2.2.2.1, by rw [hc j hj, if_pos hj], hf j hj⟩, hB'.below hB hb, Spared.of (fun b' e => ?_) (fun e => by omega) (fun _ => ⟨b, rfl⟩)⟩
    cases e
    exact hB'
end Go.Proofs.Ytaimdbgimkgelaa
