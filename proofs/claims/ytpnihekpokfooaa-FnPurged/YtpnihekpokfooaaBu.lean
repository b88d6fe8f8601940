/-
What is proved: when a burner is right, and its next state, in numbers.
-/
import Derived.Test.YtpnihekpokfooaaIsW
namespace Go.Proofs.Ytpnihekpokfooaa
set_option maxRecDepth 40000
open Go.RowKit
set_option linter.unusedVariables false
set_option linter.unusedSimpArgs false

def okB (s t r : Int) : Bool := if s = 0 ∨ s = 3 then decide (t = 0) && decide (r = 0) else if s = 1 then inB 0 4 t && inB 0 2 r else if s = 2 then inB 0 2 t && inB 0 2 r else if s = 4 then decide (t = 0) && inB 0 3 r else false
def nextV (s t r : Int) (air gas fl st sp rs : Bool) : Int × Int × Int :=
  if s = 4 then (if (rs && !fl) = true then (0, 0, 0) else (s, t, r))
  else if sp = true then (0, 0, 0)
  else if s = 0 then (if fl = true then (4, 0, r) else if st = true then (1, 0, 0) else (s, t, r))
  else if s = 1 then (if fl = true then (4, 0, r) else if air = false then (1, 0, r) else if t < 4 then (1, t + 1, r) else if gas = true then (2, 0, r) else (1, t, r))
  else if (air && gas) = false then (4, 0, r)
  else if s = 3 then (if fl = true then (3, t, r) else (4, 0, r))
  else if fl = true then (3, 0, 0)
  else if t + 1 < 3 then (s, t + 1, r)
  else if r + 1 = 3 then (4, 0, 3) else (1, 0, r + 1)
def fanB (s : Int) : Bool := decide (s = 1 ∨ s = 2 ∨ s = 3)
def sparkB (s : Int) : Bool := decide (s = 2)
def valveB (s : Int) : Bool := decide (s = 2 ∨ s = 3)
theorem ok_yes {s t r : Int} (h : okB s t r = true) : ((s = 0 ∨ s = 3) ∧ t = 0 ∧ r = 0) ∨ (s = 1 ∧ 0 ≤ t ∧ t ≤ 4 ∧ 0 ≤ r ∧ r ≤ 2) ∨ (s = 2 ∧ 0 ≤ t ∧ t ≤ 2 ∧ 0 ≤ r ∧ r ≤ 2) ∨ (s = 4 ∧ t = 0 ∧ 0 ≤ r ∧ r ≤ 3) := by
  unfold okB inB at h
  split at h
  · simp only [Bool.and_eq_true, decide_eq_true_iff] at h; omega
  split at h
  · simp only [Bool.and_eq_true, decide_eq_true_iff] at h; omega
  split at h
  · simp only [Bool.and_eq_true, decide_eq_true_iff] at h; omega
  split at h
  · simp only [Bool.and_eq_true, decide_eq_true_iff] at h; omega
  · cases h
theorem ok_of {s t r : Int} (h : ((s = 0 ∨ s = 3) ∧ t = 0 ∧ r = 0) ∨ (s = 1 ∧ 0 ≤ t ∧ t ≤ 4 ∧ 0 ≤ r ∧ r ≤ 2) ∨ (s = 2 ∧ 0 ≤ t ∧ t ≤ 2 ∧ 0 ≤ r ∧ r ≤ 2) ∨ (s = 4 ∧ t = 0 ∧ 0 ≤ r ∧ r ≤ 3)) : okB s t r = true := by
  rcases h with ⟨rfl | rfl, rfl, rfl⟩ | ⟨rfl, h⟩ | ⟨rfl, h⟩ | ⟨rfl, rfl, h⟩
  · decide
  · decide
  · have : okB 1 t r = (inB 0 4 t && inB 0 2 r) := rfl
    rw [this]; unfold inB; simp only [Bool.and_eq_true, decide_eq_true_iff]; omega
  · have : okB 2 t r = (inB 0 2 t && inB 0 2 r) := rfl
    rw [this]; unfold inB; simp only [Bool.and_eq_true, decide_eq_true_iff]; omega
  · have : okB 4 0 r = inB 0 3 r := rfl
    rw [this]; unfold inB; simp only [decide_eq_true_iff]; omega
theorem next_ok {s t r : Int} (h : okB s t r = true) (air gas fl st sp rs : Bool) : okB (nextV s t r air gas fl st sp rs).1 (nextV s t r air gas fl st sp rs).2.1 (nextV s t r air gas fl st sp rs).2.2 = true := by
  apply ok_of
  rcases ok_yes h with ⟨rfl | rfl, rfl, rfl⟩ | ⟨rfl, h⟩ | ⟨rfl, h⟩ | ⟨rfl, rfl, h⟩
  · cases sp <;> cases fl <;> cases st <;> simp [nextV]
  · cases sp <;> cases fl <;> cases air <;> cases gas <;> simp [nextV]
  · by_cases q : t < 4
    · cases sp <;> cases fl <;> cases air <;> simp [nextV, q] <;> omega
    · cases sp <;> cases fl <;> cases air <;> cases gas <;> simp [nextV, q] <;> omega
  · by_cases q : t + 1 < 3
    · cases sp <;> cases fl <;> cases air <;> cases gas <;> simp [nextV, q] <;> omega
    · by_cases q2 : r + 1 = 3
      · cases sp <;> cases fl <;> cases air <;> cases gas <;> simp [nextV, q, q2] <;> omega
      · cases sp <;> cases fl <;> cases air <;> cases gas <;> simp [nextV, q, q2] <;> omega
  · cases rs <;> cases fl <;> simp [nextV] <;> omega
end Go.Proofs.Ytpnihekpokfooaa
