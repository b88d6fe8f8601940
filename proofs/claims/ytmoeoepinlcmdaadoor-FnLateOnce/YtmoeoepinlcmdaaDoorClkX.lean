/-
What is proved: lists of clocks marked, told exactly, and asked whether they are marked.
-/
import Derived.Test.YtmoeoepinlcmdaaDoorClkR
namespace Go.Proofs.YtmoeoepinlcmdaaDoor
set_option maxRecDepth 40000
open Go.ChangeShapes Go.WideShapes Go.ChangeAt Go.RowKit
set_option linter.unusedVariables false
set_option linter.unusedSimpArgs false

def ClockM (b : Nat) (w : World) (n : Nat) (V : Nat → Int × Bool) : Prop := b < w.heap.size ∧ (∀ o, w.frozen? ⟨b, o, none⟩ = false) ∧ ∀ j, j < n → w.cell? ⟨b, j * 2, none⟩ = some (.int .i64 ((V j).1)) ∧ w.cell? ⟨b, j * 2 + 1, none⟩ = some (.bool ((V j).2))
theorem ClockM.congr {b n : Nat} {w : World} {V : Nat → Int × Bool} {U : Nat → Int × Bool} (h : ClockM b w n V) (e : ∀ j, j < n → V j = U j) : ClockM b w n U := ⟨h.1, h.2.1, fun j hj => by rw [← e j hj]; exact h.2.2 j hj⟩
theorem ClockM.own {b n : Nat} {w : World} {V : Nat → Int × Bool} (h : ClockM b w n V) : OwnClock b w (some ⟨b, 0, none⟩) n V := fun j hj => ⟨b, rfl, Nat.le_refl _, h.1, h.2.1, h.2.2 j hj⟩
def eCl0 (x : Int) : Int × Bool := (x, (x + 1) % 3 == 0)
def eCl (k : Int) (j : Nat) : Int × Bool := eCl0 (k + (j * 2 : Nat))
def eClm (m : Nat) (k : Int) (V : Nat → Int × Bool) (i : Nat) : Int × Bool := if i < m then eCl k i else V i
theorem ClockM.on {b n : Nat} {w : World} {V : Nat → Int × Bool} {j : Nat} {x : Int} {U : Nat → Int × Bool} (h : ClockM b w n V) (hj : j < n) (hu : U j = eCl0 x) (ho : ∀ i, i < n → i ≠ j → U i = V i) : ClockM b ((w.setCell ⟨b, j * 2, none⟩ (.int .i64 (x))).setCell ⟨b, j * 2 + 1, none⟩ (.bool ((x + 1) % 3 == 0))) n U := by
  refine ⟨by simpa using h.1, fun o => by simpa [go_sem] using h.2.1 o, fun i hi => ?_⟩
  by_cases q : i = j
  · subst q
    rw [hu]
    have c := h.2.2 i hi
    obtain ⟨c0, c1⟩ := c
    refine ⟨?_, ?_⟩
    · simp [go_sem, c0, c1, eCl0]
    · simp [go_sem, c0, c1, eCl0]
  · rw [ho i hi q]
    have c := h.2.2 i hi
    obtain ⟨c0, c1⟩ := c
    refine ⟨?_, ?_⟩
    · rw [cell_apartClock (by omega), cell_apartClock (by omega)]; exact c0
    · rw [cell_apartClock (by omega), cell_apartClock (by omega)]; exact c1
theorem ClockM.bes {b j : Nat} {w : World} {x : Int} : Beside b w ((w.setCell ⟨b, j * 2, none⟩ (.int .i64 (x))).setCell ⟨b, j * 2 + 1, none⟩ (.bool ((x + 1) % 3 == 0))) := by
  exact (Beside.setCell b _ _ _).trans (Beside.setCell b _ _ _)
set_option maxRecDepth 20000 in
set_option maxHeartbeats 4000000 in
theorem markClockS_xat (b n c : Nat) (k : Int) (V : Nat → Int × Bool) (w : World) (hn : (n : Int) ≤ 1048576) (k0 : 0 ≤ k) (k1 : k ≤ 40000000) (HM : Hid (ClockM b w n V)) :
    Calls Tryd.prog 20 #[.slice (some ⟨b, 0, none⟩) n c, .int .i64 k] w fun e w' => e = .returned (.int .i64 (k + (n * 2 : Nat))) ∧ ClockM b w' n (eCl k) ∧ Beside b w w' := by
  go_enter Tryd.func20, Tryd.ntmps20
  go_wp2_with fail
  go_loopw [1, 5] (fun q i wr => ∃ j : Nat, j ≤ n ∧ i = .int .i64 j ∧ q = .int .i64 (k + (j * 2 : Nat)) ∧ ClockM b wr n (eClm j k V) ∧ Beside b w wr) (fun _ i _ => n - (intOf i).toNat)
  case atStart => exact ⟨0, Nat.zero_le _, rfl, by simp, HM.out.congr (fun i hi => (if_neg (Nat.not_lt_zero i)).symm), Beside.of (Below.refl _ _)⟩
  case round =>
    obtain ⟨j, hj, rfl, rfl, hA, hB⟩ := hrel
    have HA : Hid (ClockM b wr n (eClm j k V)) := hA
    have HB : Hid (Beside b w wr) := hB
    by_cases h1 : j < n
    · obtain ⟨zb, hf, hc⟩ := hA
      obtain ⟨e0, e1⟩ := hc j h1
      have f0 := hf (j * 2)
      have f1 := hf (j * 2 + 1)
      have kn : (j : Int) < (n : Int) := by omega
      obtain ⟨x, hx⟩ : ∃ x, k + ((j * 2 : Nat) : Int) = x := ⟨_, rfl⟩
      have HX : Hid (k + ((j * 2 : Nat) : Int) = x) := hx
      have x0 : 0 ≤ x := by omega
      have x1 : x ≤ 100000000 := by omega
      rw [hx]
      have HN : Hid (k + (((j + 1) * 2 : Nat) : Int) = x + 1 + 1) := by show _ = _; rw [← HX.out]; omega
      have HS : Hid (ClockM b ((wr.setCell ⟨b, j * 2, none⟩ (.int .i64 (x))).setCell ⟨b, j * 2 + 1, none⟩ (.bool ((x + 1) % 3 == 0))) n (eClm (j + 1) k V)) := HA.out.on h1 (by unfold eClm; rw [if_pos (by omega)]; unfold eCl; rw [HX.out]) (fun i hi q => by
        unfold eClm
        by_cases z : i < j
        · rw [if_pos z, if_pos (by omega)]
        · rw [if_neg z, if_neg (by omega)])
      have HS2 : Hid (Beside b w ((wr.setCell ⟨b, j * 2, none⟩ (.int .i64 (x))).setCell ⟨b, j * 2 + 1, none⟩ (.bool ((x + 1) % 3 == 0)))) := HB.out.trans ClockM.bes
      clear hx hc hf hB
      go_wp2
      go_roundw
      case rel => exact ⟨j + 1, by omega, by go_num, by first | (rw [HN.out]; done) | (rw [HN.out]; simp only [Int.add_assoc]; done), by first | exact HS.out | simpa only [Int.add_assoc] using HS.out, by first | exact HS2.out | simpa only [Int.add_assoc] using HS2.out⟩
      case measure => first | (simp [intOf]; done) | (simp [intOf]; omega)
    · obtain rfl : j = n := by omega
      have HS : Hid (ClockM b wr j (eCl k)) := hA.congr (fun i hi => if_pos hi)
      go_wp2
      go_ret
      exact ⟨rfl, HS.out, hB⟩
theorem markClockS_x (S : Nat → Prop) (s : Option Addr) (n c : Nat) (k : Int) (V : Nat → Int × Bool) (w : World) (hn : (n : Int) ≤ 1048576) (k0 : 0 ≤ k) (k1 : k ≤ 40000000) (HR : ClockR S w s n V) :
    Calls Tryd.prog 20 #[.slice s n c, .int .i64 k] w fun e w' => e = .returned (.int .i64 (k + (n * 2 : Nat))) ∧ ClockR S w' s n (eCl k) ∧ Turn S w w' := by
  by_cases h : n = 0
  · subst h
    refine (markClockS_nil s c k w).mono ?_
    rintro e w' ⟨rfl, rfl⟩
    exact ⟨by simp, ⟨fun j hj => by omega, fun q => by omega⟩, Turn.refl _ _⟩
  · obtain ⟨b, rfl, -, hl, hf, -⟩ := HR.1 0 (by omega)
    have hb := HR.2 (by omega) b rfl
    have HM : ClockM b w n V := ⟨hl, hf, fun j hj => by obtain ⟨b', e', _, _, _, r⟩ := HR.1 j hj; cases e'; exact r⟩
    refine (markClockS_xat b n c k V w hn k0 k1 HM).mono ?_
    rintro e w' ⟨rfl, hA, hB⟩
    exact ⟨rfl, ⟨hA.own.mono (Nat.zero_le _), HR.2⟩, Turn.of hB hb⟩
set_option maxRecDepth 20000 in
set_option maxHeartbeats 4000000 in
theorem heldClockS_any (s : Option Addr) (n c : Nat) (k : Int) (w : World) (hn : (n : Int) ≤ 1048576) (k0 : 0 ≤ k) (k1 : k ≤ 40000000) (HR : Hid (RowClock w s n (eCl k))) :
    Calls Tryd.prog 23 #[.slice s n c, .int .i64 k] w fun e w' => e = .returned (.int .i64 (k + (n * 2 : Nat))) ∧ w' = w := by
  go_enter Tryd.func23, Tryd.ntmps23
  go_wp2_with fail
  go_loop [1, 5] (fun q i => ∃ j : Nat, j ≤ n ∧ i = .int .i64 j ∧ q = .int .i64 (k + (j * 2 : Nat))) (fun _ i => n - (intOf i).toNat)
  case atStart => exact ⟨0, Nat.zero_le _, rfl, by simp⟩
  case round =>
    obtain ⟨j, hj, rfl, rfl⟩ := hrel
    by_cases h1 : j < n
    · obtain ⟨g, o, rfl, hg, c0, c1⟩ := HR.out j h1
      have kn : (j : Int) < (n : Int) := by omega
      obtain ⟨x, hx⟩ : ∃ x, k + ((j * 2 : Nat) : Int) = x := ⟨_, rfl⟩
      have HN : Hid (k + (((j + 1) * 2 : Nat) : Int) = x + 1 + 1) := by show _ = _; rw [← hx]; omega
      have x0 : 0 ≤ x := by omega
      have x1 : x ≤ 100000000 := by omega
      unfold eCl at c0 c1
      rw [hx] at c0 c1 ⊢
      unfold eCl0 at c0 c1
      simp only at c0 c1
      obtain ⟨fb, hfb⟩ : ∃ fb, ((x + 1) % 3 == 0) = fb := ⟨_, rfl⟩
      rw [hfb] at c1
      have hfb2 : ((x + 1) % 3 == 0) = fb := by first | exact hfb | (rw [← hfb, show x + 1 = x + 1 by omega])
      clear hx
      cases fb
      all_goals
        go_wp2
        go_round
        case rel => exact ⟨j + 1, by omega, by go_num, by first | (rw [HN.out]; done) | (rw [HN.out]; simp only [Int.add_assoc]; done)⟩
        case measure => simp [intOf]; omega
    · obtain rfl : j = n := by omega
      go_wp2
      go_ret
      exact ⟨rfl, rfl⟩
end Go.Proofs.YtmoeoepinlcmdaaDoor
