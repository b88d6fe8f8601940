/-
What is proved: a list of clocks that the law owns, marked by its helper: nothing turns but its block.
-/
import Derived.Test.YtmoeoepinlcmdaaDoorClk
namespace Go.Proofs.YtmoeoepinlcmdaaDoor
set_option maxRecDepth 40000
open Go.ChangeShapes Go.WideShapes Go.ChangeAt Go.RowKit
set_option linter.unusedVariables false
set_option linter.unusedSimpArgs false

/-- A list in the block b, on its way: nothing else has turned. -/
def ClockAt (b n : Nat) (w wr : World) : Prop := Beside b w wr ∧ b < wr.heap.size ∧ (∀ o, wr.frozen? ⟨b, o, none⟩ = false) ∧ ∃ U : Nat → Int × Bool, ∀ j, j < n → wr.cell? ⟨b, j * 2, none⟩ = some (.int .i64 ((U j).1)) ∧ wr.cell? ⟨b, j * 2 + 1, none⟩ = some (.bool ((U j).2))
theorem ClockAt.on {b n j : Nat} {w wr : World} (h : ClockAt b n w wr) (hj : j < n) (x0 : Int) (x1 : Bool) : ClockAt b n w ((wr.setCell ⟨b, j * 2, none⟩ (.int .i64 x0)).setCell ⟨b, j * 2 + 1, none⟩ (.bool x1)) := by
  obtain ⟨h1, h2, h3, U, h4⟩ := h
  refine ⟨?_, by simpa using h2, fun o => by simp [go_sem, h3], fun i => if i = j then (x0, x1) else U i, fun i hi => ?_⟩
  · exact ((h1.trans (Beside.setCell b _ _ _)).trans (Beside.setCell b _ _ _))
  · obtain ⟨c0, c1⟩ := h4 i hi
    by_cases e : i = j
    · subst e
      simp only [if_pos (rfl : i = i)]
      refine ⟨?_, ?_⟩
      all_goals simp [go_sem, c0, c1]
    · simp only [if_neg e]
      refine ⟨?_, ?_⟩
      · rw [cell_apartClock (by omega), cell_apartClock (by omega)]; exact c0
      · rw [cell_apartClock (by omega), cell_apartClock (by omega)]; exact c1
set_option maxRecDepth 20000 in
set_option maxHeartbeats 4000000 in
theorem markClockS_at (b n c : Nat) (k : Int) (V : Nat → Int × Bool) (w : World) (hn : (n : Int) ≤ 1048576) (k0 : 0 ≤ k) (k1 : k ≤ 100000000) (hb : ClockAt b n w w) :
    Calls Tryd.prog 20 #[.slice (some ⟨b, 0, none⟩) n c, .int .i64 k] w fun e w' => e = .returned (.int .i64 (k + (n * 2 : Nat))) ∧ ClockAt b n w w' := by
  go_enter Tryd.func20, Tryd.ntmps20
  go_wp2_with fail
  go_loopw [1, 5] (fun q i wr => ∃ j : Nat, j ≤ n ∧ i = .int .i64 j ∧ q = .int .i64 (k + (j * 2 : Nat)) ∧ ClockAt b n w wr) (fun _ i _ => n - (intOf i).toNat)
  case atStart => exact ⟨0, Nat.zero_le _, rfl, by simp, hb⟩
  case round =>
    obtain ⟨j, hj, rfl, rfl, hR⟩ := hrel
    have HT : Hid (ClockAt b n w wr) := hR
    obtain ⟨hB, hz, hf, U, hc⟩ := hR
    by_cases h1 : j < n
    · obtain ⟨e0, e1⟩ := hc j h1
      have kk : (j : Int) < (n : Int) := by omega
      simp only [Int.natCast_mul, Int.cast_ofNat_Int] at ⊢
      clear hc hB
      go_wp2
      go_roundw
      case rel => exact ⟨j + 1, by omega, by go_num, by first | go_num | (congr 1; omega), ClockAt.on HT.out h1 _ _⟩
      case measure => simp [intOf]; omega
    · obtain rfl : j = n := by omega
      go_wp2
      go_ret
      exact ⟨rfl, HT.out⟩
set_option maxHeartbeats 1000000 in
theorem markClockS_nil (s : Option Addr) (c : Nat) (k : Int) (w : World) :
    Calls Tryd.prog 20 #[.slice s 0 c, .int .i64 k] w fun e w' => e = .returned (.int .i64 k) ∧ w' = w := by
  go_enter Tryd.func20, Tryd.ntmps20
  go_wp2_with fail
  go_loop [1, 5] (fun q i => i = .int .i64 0 ∧ q = .int .i64 k) (fun _ i => 0)
  case atStart => exact ⟨rfl, rfl⟩
  case round =>
    obtain ⟨rfl, rfl⟩ := hrel
    go_wp2
    go_ret
    exact ⟨rfl, rfl⟩
theorem markClockS_own (base : Nat) (s : Option Addr) (n c : Nat) (k : Int) (V : Nat → Int × Bool) (w : World) (hn : (n : Int) ≤ 1048576) (k0 : 0 ≤ k) (k1 : k ≤ 100000000) (hb : base ≤ w.heap.size) (HR : OwnClock base w s n V) :
    Calls Tryd.prog 20 #[.slice s n c, .int .i64 k] w fun e w' => e = .returned (.int .i64 (k + (n * 2 : Nat))) ∧ (∃ U, OwnClock base w' s n U) ∧ Below base w w' ∧ ∀ b, s = some ⟨b, 0, none⟩ → Beside b w w' := by
  by_cases h : n = 0
  · subst h
    refine (markClockS_nil s c k w).mono ?_
    rintro e w' ⟨rfl, rfl⟩
    exact ⟨by simp, ⟨V, HR⟩, Below.refl _ _, fun b _ => Beside.of (Below.refl _ _)⟩
  · obtain ⟨b, rfl, hB, hl, hf, _⟩ := HR 0 (by omega)
    have HA : ClockAt b n w w := ⟨Beside.of (Below.refl _ _), hl, hf, V, fun j hj => by
      obtain ⟨b', e', _, _, _, r⟩ := HR j hj
      cases e'
      exact r⟩
    refine (markClockS_at b n c k V w hn k0 k1 HA).mono ?_
    rintro e w' ⟨rfl, h1, h2, h3, U, h4⟩
    exact ⟨rfl, ⟨U, fun j hj => ⟨b, rfl, hB, h2, h3, h4 j hj⟩⟩, h1.below hB hb, fun b' e => by cases e; exact h1⟩
end Go.Proofs.YtmoeoepinlcmdaaDoor
