/-
What is proved: a list of locks marked.
-/
import Derived.Test.YtjkdnlnbkopbpaaLokE
import Derived.Test.YtjkdnlnbkopbpaaBeside
import Derived.Deep.RegionHeld3
import Derived.Deep.DeepCutAuto
namespace Go.Proofs.Ytjkdnlnbkopbpaa
set_option maxRecDepth 40000
open Go.RowKit
set_option linter.unusedVariables false
set_option linter.unusedSimpArgs false

theorem OwnI.beside {base r : Nat} {w w' : World} {s : Option Addr} {m : Nat} {V : Nat → Int} (h : OwnI base w s m V) (hb : Beside r w w') (hr : r < base) : OwnI base w' s m V := fun j hj => by
  obtain ⟨b, e, hB, hl, hc, hf⟩ := h j hj
  exact ⟨b, e, hB, Nat.lt_of_lt_of_le hl hb.2.2.2.1, (hb.cell (p := ⟨b, j, none⟩) hl (by simp only; omega)).trans hc, (hb.frozen (p := ⟨b, j, none⟩) hl (by simp only; omega)).trans hf⟩
def MarkTo (b : Nat) (w wr : World) (n j : Nat) (k : Int) (V : Nat → Int) : Prop := Beside b w wr ∧ (∀ o, o < n → wr.frozen? ⟨b, o, none⟩ = false) ∧ ∀ i, i < n → wr.cell? ⟨b, i, none⟩ = some (.int .i64 (if i < j then k + i else V i))
theorem markTo_on {b : Nat} {w wr : World} {n j : Nat} {k : Int} {V : Nat → Int} (hb : b < w.heap.size) (h : MarkTo b w wr n j k V) : MarkTo b w (wr.setCell ⟨b, j, none⟩ (.int .i64 (k + j))) n (j + 1) k V := by
  obtain ⟨hB, hf, hc⟩ := h
  refine ⟨hB.trans (Beside.setCell b wr j _), fun o ho => by simp [go_sem, hf o ho], fun i hi => ?_⟩
  have c3 := hc i hi
  by_cases e : i = j
  · subst e
    rw [if_pos (by omega)]
    simp [go_sem, c3]
  · have e2 : (if i < j + 1 then k + (i : Int) else V i) = (if i < j then k + (i : Int) else V i) := by
      by_cases q : i < j
      · rw [if_pos q, if_pos (by omega)]
      · rw [if_neg q, if_neg (by omega)]
    rw [e2]
    simp [go_sem, c3, e]

set_option maxRecDepth 20000 in
set_option maxHeartbeats 2000000 in
theorem markLockS_at (b n c : Nat) (k : Int) (V : Nat → Int) (w : World) (hn : (n : Int) ≤ 1048576) (k0 : 0 ≤ k) (k1 : k ≤ 100000000) (hb : b < w.heap.size) (HR : Hid (∀ j, j < n * 2 → w.cell? ⟨b, j, none⟩ = some (.int .i64 (V j)) ∧ w.frozen? ⟨b, j, none⟩ = false)) :
    Calls Try.prog 13 #[.slice (some ⟨b, 0, none⟩) n c, .int .i64 k] w fun e w' => e = .returned (.int .i64 (k + (n * 2 : Nat))) ∧ MarkTo b w w' (n * 2) (n * 2) k V := by
  go_enter Try.func13, Try.ntmps13
  go_wp2_with fail
  go_loopw [1, 5] (fun q i wr => ∃ j : Nat, j ≤ n ∧ i = .int .i64 j ∧ q = .int .i64 (k + (j * 2 : Nat)) ∧ MarkTo b w wr (n * 2) (j * 2) k V) (fun _ i _ => n - (intOf i).toNat)
  case atStart => exact ⟨0, Nat.zero_le _, rfl, by simp, (Beside.of (Below.refl _ _)), fun o ho => (HR.out o ho).2, fun i hi => by rw [if_neg (by omega)]; exact (HR.out i hi).1⟩
  case round =>
    obtain ⟨j, hj, rfl, rfl, hR⟩ := hrel
    have HT : Hid (MarkTo b w wr (n * 2) (j * 2) k V) := hR
    obtain ⟨hB, hf, hc⟩ := hR
    by_cases h1 : j < n
    · have e0 := hc (j * 2) (by omega)
      have e1 := hc (j * 2 + 1) (by omega)
      have f0 := hf (j * 2) (by omega)
      have f1 := hf (j * 2 + 1) (by omega)
      have k1 : (j : Int) < (n : Int) := by omega
      have T2 : Hid (MarkTo b w ((wr.setCell ⟨b, j * 2, none⟩ (.int .i64 (k + (j * 2 : Nat)))).setCell ⟨b, j * 2 + 1, none⟩ (.int .i64 (k + (j * 2 + 1 : Nat)))) (n * 2) (j * 2 + 1 + 1) k V) := markTo_on hb (markTo_on hb HT.out)
      simp only [Int.natCast_mul, Int.natCast_add, Int.cast_ofNat_Int, Int.natCast_one] at T2 ⊢
      clear hc hf hB
      go_wp2
      go_roundw
      case rel => exact ⟨j + 1, by omega, by go_num, by first | go_num | (congr 1; omega), by rw [show (j + 1) * 2 = j * 2 + 1 + 1 by omega]; have := T2.out; rw [← Int.add_assoc] at this; exact this⟩
      case measure => simp [intOf]; omega
    · obtain rfl : j = n := by omega
      go_wp2
      go_ret
      exact ⟨rfl, HT.out⟩
set_option maxHeartbeats 1000000 in
theorem markLockS_nil (s : Option Addr) (c : Nat) (k : Int) (w : World) :
    Calls Try.prog 13 #[.slice s 0 c, .int .i64 k] w fun e w' => e = .returned (.int .i64 k) ∧ w' = w := by
  go_enter Try.func13, Try.ntmps13
  go_wp2_with fail
  go_loop [1, 5] (fun q i => i = .int .i64 0 ∧ q = .int .i64 k) (fun _ i => 0)
  case atStart => exact ⟨rfl, rfl⟩
  case round =>
    obtain ⟨rfl, rfl⟩ := hrel
    go_wp2
    go_ret
    exact ⟨rfl, rfl⟩
theorem markLockS_own (base : Nat) (s : Option Addr) (n c : Nat) (k : Int) (V : Nat → Int) (w : World) (hn : (n : Int) ≤ 1048576) (k0 : 0 ≤ k) (k1 : k ≤ 100000000) (hb : base ≤ w.heap.size) (HR : OwnI base w s (n * 2) V) :
    Calls Try.prog 13 #[.slice s n c, .int .i64 k] w fun e w' => e = .returned (.int .i64 (k + (n * 2 : Nat))) ∧ True ∧ Below base w w' ∧ ∀ b, s = some ⟨b, 0, none⟩ → Beside b w w' := by
  by_cases h : n = 0
  · subst h
    refine (markLockS_nil s c k w).mono ?_
    rintro e w' ⟨rfl, rfl⟩
    exact ⟨by simp, trivial, Below.refl _ _, fun b _ => Beside.of (Below.refl _ _)⟩
  · obtain ⟨b, rfl, hB, hl, _, _⟩ := HR 0 (by omega)
    have HH : Hid (∀ j, j < n * 2 → w.cell? ⟨b, j, none⟩ = some (.int .i64 (V j)) ∧ w.frozen? ⟨b, j, none⟩ = false) := fun j hj => by
      obtain ⟨b', e', _, _, h1, h2⟩ := HR j hj
      cases e'
      exact ⟨h1, h2⟩
    refine (markLockS_at b n c k V w hn k0 k1 hl HH).mono ?_
    rintro e w' ⟨rfl, hB', hf, hc⟩
    exact ⟨rfl, trivial, hB'.below hB hb, fun b' e => by cases e; exact hB'⟩
end Go.Proofs.Ytjkdnlnbkopbpaa
