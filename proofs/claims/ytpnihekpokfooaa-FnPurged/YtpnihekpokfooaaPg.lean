/-
What is proved: a burner that begins off does nothing that none may, in numbers.
-/
import Derived.Test.YtpnihekpokfooaaBrN
import Derived.Test.YtpnihekpokfooaaLw
namespace Go.Proofs.Ytpnihekpokfooaa
set_option maxRecDepth 40000
open Go.RowKit
set_option linter.unusedVariables false
set_option linter.unusedSimpArgs false

/-- The sights of a run: what came in, and whether the valve was open behind it. -/
def sgt (V : Nat → Bool) (j : Nat) : Bool := if j % 4 = 3 then valveB (itR (0, 0, 0) V (j / 4 + 1)).1 else V (j / 4 * 6 + j % 4)
theorem sgt0 (V : Nat → Bool) (k : Nat) : sgt V (k * 4) = V (k * 6) := by unfold sgt; rw [if_neg (by omega)]; congr 1; omega
theorem sgt1 (V : Nat → Bool) (k : Nat) : sgt V (k * 4 + 1) = V (k * 6 + 1) := by unfold sgt; rw [if_neg (by omega)]; congr 1; omega
theorem sgt2 (V : Nat → Bool) (k : Nat) : sgt V (k * 4 + 2) = V (k * 6 + 2) := by unfold sgt; rw [if_neg (by omega)]; congr 1; omega
theorem sgt3 (V : Nat → Bool) (k : Nat) : sgt V (k * 4 + 3) = valveB (itR (0, 0, 0) V (k + 1)).1 := by unfold sgt; rw [if_pos (by omega)]; congr 3; omega
/-- What a step can have been, by the state behind it. -/
theorem to_light {s t r : Int} {air gas fl st sp rs : Bool} (h : okB s t r = true) (h2 : (nextV s t r air gas fl st sp rs).1 = 2) : air = true ∧ gas = true ∧ fl = false ∧ ((s = 1 ∧ t = 4 ∧ (nextV s t r air gas fl st sp rs).2.1 = 0) ∨ (s = 2 ∧ (nextV s t r air gas fl st sp rs).2.1 = t + 1)) := by
  rcases ok_yes h with ⟨rfl | rfl, rfl, rfl⟩ | ⟨rfl, h⟩ | ⟨rfl, h⟩ | ⟨rfl, rfl, h⟩
  · exfalso; revert h2; cases sp <;> cases fl <;> cases st <;> simp [nextV]
  · exfalso; revert h2; cases sp <;> cases fl <;> cases air <;> cases gas <;> simp [nextV]
  · by_cases q : t < 4
    · exfalso; revert h2; cases sp <;> cases fl <;> cases air <;> simp [nextV, q]
    · revert h2; cases sp <;> cases fl <;> cases air <;> cases gas <;> simp [nextV, q] <;> omega
  · by_cases q : t + 1 < 3
    · revert h2; cases sp <;> cases fl <;> cases air <;> cases gas <;> simp [nextV, q]
    · by_cases q2 : r + 1 = 3
      · exfalso; revert h2; cases sp <;> cases fl <;> cases air <;> cases gas <;> simp [nextV, q, q2]
      · exfalso; revert h2; cases sp <;> cases fl <;> cases air <;> cases gas <;> simp [nextV, q, q2]
  · exfalso; revert h2; cases rs <;> cases fl <;> simp [nextV]
theorem to_on {s t r : Int} {air gas fl st sp rs : Bool} (h : okB s t r = true) (h2 : (nextV s t r air gas fl st sp rs).1 = 3) : air = true ∧ gas = true ∧ fl = true ∧ (s = 2 ∨ s = 3) := by
  rcases ok_yes h with ⟨rfl | rfl, rfl, rfl⟩ | ⟨rfl, h⟩ | ⟨rfl, h⟩ | ⟨rfl, rfl, h⟩
  · exfalso; revert h2; cases sp <;> cases fl <;> cases st <;> simp [nextV]
  · revert h2; cases sp <;> cases fl <;> cases air <;> cases gas <;> simp [nextV]
  · by_cases q : t < 4
    · exfalso; revert h2; cases sp <;> cases fl <;> cases air <;> simp [nextV, q]
    · exfalso; revert h2; cases sp <;> cases fl <;> cases air <;> cases gas <;> simp [nextV, q]
  · by_cases q : t + 1 < 3
    · revert h2; cases sp <;> cases fl <;> cases air <;> cases gas <;> simp [nextV, q]
    · by_cases q2 : r + 1 = 3
      · revert h2; cases sp <;> cases fl <;> cases air <;> cases gas <;> simp [nextV, q, q2]
      · revert h2; cases sp <;> cases fl <;> cases air <;> cases gas <;> simp [nextV, q, q2]
  · exfalso; revert h2; cases rs <;> cases fl <;> simp [nextV]
theorem to_purge {s t r : Int} {air gas fl st sp rs : Bool} (h : okB s t r = true) (h2 : (nextV s t r air gas fl st sp rs).1 = 1) : (nextV s t r air gas fl st sp rs).2.1 = 0 ∨ (s = 1 ∧ air = true ∧ fl = false ∧ ((nextV s t r air gas fl st sp rs).2.1 = t + 1 ∨ (t = 4 ∧ (nextV s t r air gas fl st sp rs).2.1 = 4))) := by
  rcases ok_yes h with ⟨rfl | rfl, rfl, rfl⟩ | ⟨rfl, h⟩ | ⟨rfl, h⟩ | ⟨rfl, rfl, h⟩
  · revert h2; cases sp <;> cases fl <;> cases st <;> simp [nextV]
  · exfalso; revert h2; cases sp <;> cases fl <;> cases air <;> cases gas <;> simp [nextV]
  · by_cases q : t < 4
    · revert h2; cases sp <;> cases fl <;> cases air <;> simp [nextV, q]
    · revert h2; cases sp <;> cases fl <;> cases air <;> cases gas <;> simp [nextV, q] <;> omega
  · by_cases q : t + 1 < 3
    · exfalso; revert h2; cases sp <;> cases fl <;> cases air <;> cases gas <;> simp [nextV, q]
    · by_cases q2 : r + 1 = 3
      · exfalso; revert h2; cases sp <;> cases fl <;> cases air <;> cases gas <;> simp [nextV, q, q2]
      · revert h2; cases sp <;> cases fl <;> cases air <;> cases gas <;> simp [nextV, q, q2]
  · exfalso; revert h2; cases rs <;> cases fl <;> simp [nextV]
def pR (V : Nat → Bool) (k : Nat) : Int × Int × Int := itR (0, 0, 0) V k
theorem pR_ok (V : Nat → Bool) (k : Nat) : okB (pR V k).1 (pR V k).2.1 (pR V k).2.2 = true := itR_ok (by decide) k
theorem valve_iff (s : Int) : valveB s = true ↔ s = 2 ∨ s = 3 := by unfold valveB; simp
/-- In the purge with the timer at t the last t places were aired, dark and shut. -/
theorem purge_inv (V : Nat → Bool) : ∀ k, (pR V k).1 = 1 → (pR V k).2.1 ≤ k ∧ ∀ j : Nat, (k : Int) - (pR V k).2.1 ≤ j → j < k → atB purgF (sgt V) j = true
  | 0, h => by cases h
  | k + 1, h => by
    have ok := pR_ok V k
    have h' : (nextV (pR V k).1 (pR V k).2.1 (pR V k).2.2 (V (k * 6)) (V (k * 6 + 1)) (V (k * 6 + 2)) (V (k * 6 + 3)) (V (k * 6 + 4)) (V (k * 6 + 5))).1 = 1 := h
    have e : (pR V (k + 1)).2.1 = (nextV (pR V k).1 (pR V k).2.1 (pR V k).2.2 (V (k * 6)) (V (k * 6 + 1)) (V (k * 6 + 2)) (V (k * 6 + 3)) (V (k * 6 + 4)) (V (k * 6 + 5))).2.1 := rfl
    rcases to_purge ok h' with q | ⟨q1, qa, qf, q⟩
    · rw [e, q]
      exact ⟨by omega, fun j h1 h2 => by omega⟩
    · obtain ⟨i1, i2⟩ := purge_inv V k q1
      have rg : 0 ≤ (pR V k).2.1 ∧ (pR V k).2.1 ≤ 4 := by rcases ok_yes ok with h | h | h | h <;> omega
      have here : atB purgF (sgt V) k = true := by
        unfold atB purgF
        rw [sgt0, sgt2, sgt3, qa, qf]
        have : valveB (itR (0, 0, 0) V (k + 1)).1 = false := by
          have h1 : (itR (0, 0, 0) V (k + 1)).1 = 1 := h
          rw [h1]; rfl
        rw [this]; rfl
      rw [e]
      refine ⟨by omega, fun j h1 h2 => ?_⟩
      by_cases ej : j = k
      · subst ej; exact here
      · exact i2 j (by omega) (by omega)
/-- In the light with the timer at t the place t + 1 ahead was shut, or there is none. -/
theorem light_inv (V : Nat → Bool) : ∀ k, (pR V k).1 = 2 → (pR V k).2.1 + 2 ≤ k ∧ ∀ j : Nat, (j : Int) = k - 2 - (pR V k).2.1 → sgt V (j * 4 + 3) = false
  | 0, h => by cases h
  | k + 1, h => by
    have ok := pR_ok V k
    have h' : (nextV (pR V k).1 (pR V k).2.1 (pR V k).2.2 (V (k * 6)) (V (k * 6 + 1)) (V (k * 6 + 2)) (V (k * 6 + 3)) (V (k * 6 + 4)) (V (k * 6 + 5))).1 = 2 := h
    have e : (pR V (k + 1)).2.1 = (nextV (pR V k).1 (pR V k).2.1 (pR V k).2.2 (V (k * 6)) (V (k * 6 + 1)) (V (k * 6 + 2)) (V (k * 6 + 3)) (V (k * 6 + 4)) (V (k * 6 + 5))).2.1 := rfl
    obtain ⟨_, _, _, q⟩ := to_light ok h'
    rcases q with ⟨q1, q2, q3⟩ | ⟨q1, q2⟩
    · obtain ⟨i1, _⟩ := purge_inv V k q1
      rw [e, q3]
      refine ⟨by omega, fun j hj => ?_⟩
      obtain rfl : k = j + 1 := by omega
      rw [sgt3]
      have h1 : (itR (0, 0, 0) V (j + 1)).1 = 1 := q1
      rw [h1]; rfl
    · obtain ⟨i1, i2⟩ := light_inv V k q1
      rw [e, q2]
      exact ⟨by omega, fun j hj => i2 j (by omega)⟩
theorem lawful_run (V : Nat → Bool) (i : Nat) : badB (sgt V) i = false := by
  have ok := pR_ok V i
  unfold badB
  rw [sgt3]
  cases hv : valveB (itR (0, 0, 0) V (i + 1)).1
  · rfl
  rw [Bool.true_and]
  have hs := (valve_iff _).1 hv
  have en : ∀ s, (itR (0, 0, 0) V (i + 1)).1 = s → (nextV (pR V i).1 (pR V i).2.1 (pR V i).2.2 (V (i * 6)) (V (i * 6 + 1)) (V (i * 6 + 2)) (V (i * 6 + 3)) (V (i * 6 + 4)) (V (i * 6 + 5))).1 = s := fun s h => h
  rw [sgt0, sgt1, sgt2]
  have was : eachB openF (sgt V) i 1 = decide ((pR V i).1 = 2 ∨ (pR V i).1 = 3) := by
    cases i with
    | zero => rw [each_short (by omega)]; rfl
    | succ p => rw [open_one, sgt3]; rfl
  rcases hs with hs | hs
  · obtain ⟨ha, hg, hf, q⟩ := to_light ok (en 2 hs)
    unfold barB
    rw [ha, hg, hf, was]
    rcases q with ⟨q1, q2, q3⟩ | ⟨q1, q2⟩
    · have hp : eachB purgF (sgt V) i 4 = true := by
        obtain ⟨i1, i2⟩ := purge_inv V i q1
        exact each_yes (by omega) fun k k1 k2 => i2 k (by omega) k2
      rw [q1, hp]; rfl
    · have ho : eachB openF (sgt V) i 3 = false := by
        obtain ⟨i1, i2⟩ := light_inv V i q1
        have rg : 0 ≤ (pR V i).2.1 ∧ (pR V i).2.1 ≤ 2 := by rcases ok_yes ok with h | h | h | h <;> omega
        have t1 : (pR V i).2.1 ≤ 1 := by
          have o2 := pR_ok V (i + 1)
          have e : (pR V (i + 1)).2.1 = (pR V i).2.1 + 1 := q2
          have e2 : (pR V (i + 1)).1 = 2 := hs
          rcases ok_yes o2 with h | h | h | h <;> omega
        obtain ⟨j, hj⟩ : ∃ j : Nat, (j : Int) = i - 2 - (pR V i).2.1 := ⟨(i - 2 - (pR V i).2.1).toNat, by omega⟩
        exact each_no (k := j) (by omega) (by omega) (i2 j hj)
      rw [q1, ho]
      simp
  · obtain ⟨ha, hg, hf, q⟩ := to_on ok (en 3 hs)
    unfold barB
    rw [ha, hg, hf, was]
    rcases q with q | q <;> (rw [q]; simp)
end Go.Proofs.Ytpnihekpokfooaa
