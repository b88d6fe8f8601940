/-
What is proved: a list of units copied into memory of its own; marked.
-/
import Derived.Test.YtgekkblfnfclmaaUnitK
import Derived.Test.YtgekkblfnfclmaaI64R
import Derived.Deep.RegionHeld3
import Derived.Deep.DeepCutAuto
namespace Go.Proofs.Ytgekkblfnfclmaa
set_option maxRecDepth 40000
open Go.RowKit
set_option linter.unusedVariables false
set_option linter.unusedSimpArgs false

set_option maxRecDepth 20000 in
set_option maxHeartbeats 2000000 in
theorem toUnitS_own (s : Option Addr) (n c : Nat) (V : Nat → Int) (w : World) (hn : (n : Int) ≤ 1048576) (HR : Hid (RowI w s (n * 2) V)) :
    Calls Try.prog 8 #[.slice s n c] w fun e w' => ∃ b, e = .returned (.slice (some ⟨b, 0, none⟩) n n) ∧ w.heap.size ≤ b ∧ b < w'.heap.size ∧ OwnI b w' (some ⟨b, 0, none⟩) (n * 2) V ∧ Below w.heap.size w w' := by
  have hmk := make_units n (by omega)
  go_enter Try.func8, Try.ntmps8
  go_wp2_with fail
  go_loopw [4] (fun i wr => ∃ k : Nat, k ≤ n ∧ i = .int .i64 k ∧ UnitRow w wr n k V) (fun i _ => n - (intOf i).toNat)
  case atStart => exact ⟨0, Nat.zero_le _, rfl, unitRow_start w n V 39⟩
  case round =>
    obtain ⟨k, hk, rfl, hB, hz, hf, hc⟩ := hrel
    by_cases h1 : k < n
    · obtain ⟨g, o, rfl, hg, c0⟩ := HR.out (k * 2) (by omega)
      obtain ⟨g', o', e', hg', c1⟩ := HR.out (k * 2 + 1) (by omega)
      cases e'
      have d0 : wr.cell? ⟨g, o + k * 2, none⟩ = some (.int .i64 (V (k * 2))) := (hB.cell (p := ⟨g, o + k * 2, none⟩) hg).trans c0
      have d1 : wr.cell? ⟨g, o + k * 2 + 1, none⟩ = some (.int .i64 (V (k * 2 + 1))) := (hB.cell (p := ⟨g, o + (k * 2 + 1), none⟩) hg).trans c1
      have e0 := hc (k * 2) (by omega)
      have e1 := hc (k * 2 + 1) (by omega)
      have k1 : (k : Int) < (n : Int) := by omega
      have zg : g < wr.heap.size := Nat.lt_of_lt_of_le hg hB.size
      have hc' : Hid (∀ j, j < n * 2 → wr.cell? ⟨w.heap.size, j, none⟩ = some (.int .i64 (if j < k * 2 then V j else 0))) := hc
      have HB : Hid (Below w.heap.size w wr) := hB
      clear hc hB c0 c1 hg hg'
      go_wp2_with fail
      refine (toUnit_any _ _ _).mono ?_
      rintro r w3 ⟨rfl, h3⟩
      have f0 : w3.cell? ⟨w.heap.size, k * 2, none⟩ = _ := (h3.cell (p := ⟨w.heap.size, k * 2, none⟩) hz).trans e0
      have f1 : w3.cell? ⟨w.heap.size, k * 2 + 1, none⟩ = _ := (h3.cell (p := ⟨w.heap.size, k * 2 + 1, none⟩) hz).trans e1
      have fz : ∀ o, w3.frozen? ⟨w.heap.size, o, none⟩ = false := fun o => (h3.frozen (p := ⟨w.heap.size, o, none⟩) hz).trans (hf o)
      have z3 : w.heap.size < w3.heap.size := Nat.lt_of_lt_of_le hz h3.size
      have H3 : Hid (Below wr.heap.size wr w3) := h3
      clear e0 e1 hf h3 d0 d1
      go_wp2
      go_round
      case rel => exact ⟨k + 1, by omega, by go_num, unitRow_on HB.out hz hc'.out H3.out fz⟩
      case measure => simp [intOf]; omega
    · obtain rfl : k = n := by omega
      go_wp2
      go_ret
      exact ⟨w.heap.size, rfl, Nat.le_refl _, hz, fun j hj => ⟨_, rfl, Nat.le_refl _, hz, by rw [hc j hj, if_pos hj], hf j⟩, hB⟩

set_option maxRecDepth 20000 in
set_option maxHeartbeats 2000000 in
theorem markUnitS_at (b n c : Nat) (k : Int) (V : Nat → Int) (w : World) (hn : (n : Int) ≤ 1048576) (k0 : 0 ≤ k) (k1 : k ≤ 100000000) (hb : b < w.heap.size) (HR : Hid (∀ j, j < n * 2 → w.cell? ⟨b, j, none⟩ = some (.int .i64 (V j)) ∧ w.frozen? ⟨b, j, none⟩ = false)) :
    Calls Try.prog 14 #[.slice (some ⟨b, 0, none⟩) n c, .int .i64 k] w fun e w' => e = .returned (.int .i64 (k + (n * 2 : Nat))) ∧ MarkTo b w w' (n * 2) (n * 2) k V := by
  go_enter Try.func14, Try.ntmps14
  go_wp2_with fail
  go_loopw [1, 5] (fun q i wr => ∃ j : Nat, j ≤ n ∧ i = .int .i64 j ∧ q = .int .i64 (k + (j * 2 : Nat)) ∧ MarkTo b w wr (n * 2) (j * 2) k V) (fun _ i _ => n - (intOf i).toNat)
  case atStart => exact ⟨0, Nat.zero_le _, rfl, by simp, (Beside.of (Below.refl _ _)), fun o ho => (HR.out o ho).2, fun i hi => by rw [if_neg (by omega)]; exact (HR.out i hi).1⟩
  case round =>
    obtain ⟨j, hj, rfl, rfl, hR⟩ := hrel
    have HT : Hid (MarkTo b w wr (n * 2) (j * 2) k V) := hR
    obtain ⟨hB, hf, hc⟩ := hR
    by_cases h1 : j < n
    · have e0 := hc (j * 2) (by omega)
      have e1 := hc (j * 2 + 1) (by omega)
      have f0 := hf (j * 2) (by omega)
      have f1 := hf (j * 2 + 1) (by omega)
      have k1 : (j : Int) < (n : Int) := by omega
      have T2 : Hid (MarkTo b w ((wr.setCell ⟨b, j * 2, none⟩ (.int .i64 (k + (j * 2 : Nat)))).setCell ⟨b, j * 2 + 1, none⟩ (.int .i64 (k + (j * 2 + 1 : Nat)))) (n * 2) (j * 2 + 1 + 1) k V) := markTo_on hb (markTo_on hb HT.out)
      simp only [Int.natCast_mul, Int.natCast_add, Int.cast_ofNat_Int, Int.natCast_one] at T2 ⊢
      clear hc hf hB
      go_wp2
      go_roundw
      case rel => exact ⟨j + 1, by omega, by go_num, by first | go_num | (congr 1; omega), by rw [show (j + 1) * 2 = j * 2 + 1 + 1 by omega]; have := T2.out; rw [← Int.add_assoc] at this; exact this⟩
      case measure => simp [intOf]; omega
    · obtain rfl : j = n := by omega
      go_wp2
      go_ret
      exact ⟨rfl, HT.out⟩
set_option maxHeartbeats 1000000 in
theorem markUnitS_nil (s : Option Addr) (c : Nat) (k : Int) (w : World) :
    Calls Try.prog 14 #[.slice s 0 c, .int .i64 k] w fun e w' => e = .returned (.int .i64 k) ∧ w' = w := by
  go_enter Try.func14, Try.ntmps14
  go_wp2_with fail
  go_loop [1, 5] (fun q i => i = .int .i64 0 ∧ q = .int .i64 k) (fun _ i => 0)
  case atStart => exact ⟨rfl, rfl⟩
  case round =>
    obtain ⟨rfl, rfl⟩ := hrel
    go_wp2
    go_ret
    exact ⟨rfl, rfl⟩
theorem markUnitS_own (base : Nat) (s : Option Addr) (n c : Nat) (k : Int) (V : Nat → Int) (w : World) (hn : (n : Int) ≤ 1048576) (k0 : 0 ≤ k) (k1 : k ≤ 100000000) (hb : base ≤ w.heap.size) (HR : OwnI base w s (n * 2) V) :
    Calls Try.prog 14 #[.slice s n c, .int .i64 k] w fun e w' => e = .returned (.int .i64 (k + (n * 2 : Nat))) ∧ Below base w w' ∧ ∀ b, s = some ⟨b, 0, none⟩ → Beside b w w' := by
  by_cases h : n = 0
  · subst h
    refine (markUnitS_nil s c k w).mono ?_
    rintro e w' ⟨rfl, rfl⟩
    exact ⟨by simp, Below.refl _ _, fun b _ => Beside.of (Below.refl _ _)⟩
  · obtain ⟨b, rfl, hB, hl, _, _⟩ := HR 0 (by omega)
    have HH : Hid (∀ j, j < n * 2 → w.cell? ⟨b, j, none⟩ = some (.int .i64 (V j)) ∧ w.frozen? ⟨b, j, none⟩ = false) := fun j hj => by
      obtain ⟨b', e', _, _, h1, h2⟩ := HR j hj
      cases e'
      exact ⟨h1, h2⟩
    refine (markUnitS_at b n c k V w hn k0 k1 hl HH).mono ?_
    rintro e w' ⟨rfl, hB', hf, hc⟩
    exact ⟨rfl, hB'.below hB hb, fun b' e => by cases e; exact hB'⟩
end Go.Proofs.Ytgekkblfnfclmaa
