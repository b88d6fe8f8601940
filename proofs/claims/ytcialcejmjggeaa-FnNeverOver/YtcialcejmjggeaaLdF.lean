/-
What is proved: what passing over those that do not fit keeps and finds, in numbers.
-/
import Derived.Test.YtcialcejmjggeaaLdP
import Derived.Test.YtcialcejmjggeaaHpP

namespace Go.Proofs.Ytcialcejmjggeaa
set_option maxRecDepth 40000
open Go.ChangeShapes Go.WideShapes Go.ChangeAt Go.RowKit
set_option linter.unusedVariables false
set_option linter.unusedSimpArgs false

def fitQ (V : Nat → Int) (room : Int) (a : Nat) : Prop := V (a * 4) + V (a * 4 + 1) ≤ room
def FwL (V : Nat → Int) (S : Nat → Prop) (room : Int) (n m : Nat) (P U : Nat → Nat) : Prop :=
  Hold n P (fun a => S a ∧ ∀ i, i < m → U i ≠ a) ∧ (∀ i, i < m → S (U i) ∧ ¬ fitQ V room (U i)) ∧ ∀ i j, i < m → j < m → U i = U j → i = j
theorem fw_start {V : Nat → Int} {S : Nat → Prop} {room : Int} {n : Nat} {P U : Nat → Nat} (h : Hold n P S) : FwL V S room n 0 P U := ⟨hold_congr h fun a => ⟨fun q => ⟨q, fun i hi => by omega⟩, fun q => q.1⟩, fun i hi => by omega, fun i j hi => by omega⟩
theorem fw_pass {V : Nat → Int} {S : Nat → Prop} {room : Int} {n m a : Nat} {P P' U : Nat → Nat} (h : FwL V S room (n + 1) m P U) (ha : P 0 = a) (hf : ¬ fitQ V room a) (hH : Hold n P' (fun b => (S b ∧ ∀ i, i < m → U i ≠ b) ∧ b ≠ P 0)) : FwL V S room n (m + 1) P' (pushP U m a) := by
  have h0 := h.1.1 0 (by omega)
  rw [ha] at h0 hH
  have e1 : ∀ i, i < m → pushP U m a i = U i := fun i hi => by unfold pushP; rw [if_neg (by omega)]
  have e2 : pushP U m a m = a := by unfold pushP; simp
  refine ⟨hold_congr hH fun b => ⟨fun q => ⟨q.1.1, fun i hi => ?_⟩, fun q => ⟨⟨q.1, fun i hi => by have := q.2 i (by omega); rwa [e1 i hi] at this⟩, fun e => by have := q.2 m (by omega); rw [e2] at this; exact this e.symm⟩⟩, fun i hi => ?_, fun i j hi hj e => ?_⟩
  · by_cases x : i = m
    · subst x; rw [e2]; exact fun e => q.2 e.symm
    · rw [e1 i (by omega)]; exact q.1.2 i (by omega)
  · by_cases x : i = m
    · subst x; rw [e2]; exact ⟨h0.1, hf⟩
    · rw [e1 i (by omega)]; exact h.2.1 i (by omega)
  · by_cases x : i = m <;> by_cases y : j = m
    · omega
    · subst x; rw [e2, e1 j (by omega)] at e; exact absurd e.symm (h0.2 j (by omega))
    · subst y; rw [e2, e1 i (by omega)] at e; exact absurd e (h0.2 i (by omega))
    · rw [e1 i (by omega), e1 j (by omega)] at e; exact h.2.2 i j (by omega) (by omega) e
theorem fw_found {V : Nat → Int} {S : Nat → Prop} {room : Int} {n m : Nat} {P U : Nat → Nat} (h : FwL V S room (n + 1) m P U) (hG : HeapG (kO false V) 0 (n + 1) P) : S (P 0) ∧ (∀ i, i < m → U i ≠ P 0) ∧ ∀ b, S b → fitQ V room b → kStart V (P 0) ≤ kStart V b := by
  have h0 := h.1.1 0 (by omega)
  refine ⟨h0.1, h0.2, fun b hb hf => ?_⟩
  have hU : ∀ i, i < m → U i ≠ b := fun i hi e => by
    have := (h.2.1 i hi).2
    rw [e] at this
    exact this hf
  obtain ⟨i, hi, rfl⟩ := h.1.2.1 b ⟨hb, hU⟩
  have := top_min hG i hi
  simpa [kO] using this
theorem fw_none {V : Nat → Int} {S : Nat → Prop} {room : Int} {m : Nat} {P U : Nat → Nat} (h : FwL V S room 0 m P U) : ∀ b, S b → ¬ fitQ V room b := fun b hb hf => by
  by_cases q : ∃ i, i < m ∧ U i = b
  · obtain ⟨i, hi, rfl⟩ := q
    exact (h.2.1 i hi).2 hf
  · obtain ⟨i, hi, _⟩ := h.1.2.1 b ⟨hb, fun i hi e => q ⟨i, hi, e⟩⟩
    omega
theorem fw_one {S0 : Nat → Prop} {U : Nat → Nat} {k a b : Nat} (h : U k = a) : ((S0 b ∨ ∃ i, i < k ∧ U i = b) ∨ b = a) ↔ (S0 b ∨ ∃ i, i < k + 1 ∧ U i = b) := by
  constructor
  · rintro ((h1 | ⟨i, hi, e⟩) | e)
    · exact .inl h1
    · exact .inr ⟨i, by omega, e⟩
    · exact .inr ⟨k, by omega, h.trans e.symm⟩
  · rintro (h1 | ⟨i, hi, e⟩)
    · exact .inl (.inl h1)
    · by_cases q : i = k
      · subst q; exact .inr (e.symm.trans h)
      · exact .inl (.inr ⟨i, by omega, e⟩)
theorem vals_pushP (V : Nat → Int) (U : Nat → Nat) (m a : Nat) : vals (qF V (pushP U m a)) ((m + 1) * 5) = vals (qF V U) (m * 5) ++ [.int .i64 (V (a * 4)), .int .i64 (V (a * 4 + 1)), .int .i64 (V (a * 4 + 2)), .int .i64 (V (a * 4 + 3)), .int .i64 (a : Int)] := by
  rw [vals_pl]
  have e1 : pushP U m a m = a := by unfold pushP; simp
  have e2 : vals (qF V (pushP U m a)) (m * 5) = vals (qF V U) (m * 5) := vals_congr fun j hj => by
    have : j / 5 ≠ m := by omega
    unfold qF pushP
    simp [this]
  rw [e1, e2]
/-- What firstWithin finds. -/
def FwPost (X : Nat → Prop) (q n : Nat) (V : Nat → Int) (S : Nat → Prop) (room : Int) (pl : Int) (f : Bool) (w w' : World) : Prop :=
  Turn X w w' ∧ ((f = true ∧ ∃ (a n' : Nat) (P' : Nat → Nat), pl = a ∧ n = n' + 1 ∧ S a ∧ fitQ V room a ∧ (∀ b, S b → fitQ V room b → kStart V a ≤ kStart V b) ∧ QAt X q w' false n' V P' ∧ HeapG (kO false V) 0 n' P' ∧ Hold n' P' (fun b => S b ∧ b ≠ a)) ∨
    (f = false ∧ ∃ P' : Nat → Nat, (∀ b, S b → ¬ fitQ V room b) ∧ QAt X q w' false n V P' ∧ HeapG (kO false V) 0 n P' ∧ Hold n P' S))
theorem Turn.step {X S : Nat → Prop} {w a b : World} (h : Turn X w a) (k : Turn S a b) (hs : ∀ r, S r → X r ∨ w.heap.size ≤ r) : Turn X w b :=
  ⟨k.1.trans h.1, k.2.1.trans h.2.1, k.2.2.1.trans h.2.2.1, Nat.le_trans h.2.2.2.1 k.2.2.2.1, fun r hr n => (k.2.2.2.2 r (Nat.lt_of_lt_of_le hr h.2.2.2.1) (fun q => (hs r q).elim n (fun e => by omega))).trans (h.2.2.2.2 r hr n)⟩
end Go.Proofs.Ytcialcejmjggeaa
