/-
What is proved: when relays are a feeder, and which relay clears a fault, in numbers.
-/
import Derived.Test.YtmhibahefbldaaaRl
namespace Go.Proofs.Ytmhibahefbldaaa
set_option maxRecDepth 40000
open Go.RowKit
set_option linter.unusedVariables false
set_option linter.unusedSimpArgs false

def dl (V : Nat → Int) (a : Int) (j : Nat) : Int := delV (V (j * 2)) (V (j * 2 + 1)) a
def relJ (V : Nat → Int) (j : Nat) : Bool := relB (V (j * 2)) (V (j * 2 + 1))
def feedB (n : Nat) (V : Nat → Int) : Bool := decide (1 ≤ n ∧ n ≤ 20 ∧ ∀ j, j < n → relJ V j = true)
theorem feed_no {n k : Nat} {V : Nat → Int} (hk : k < n) (h : relJ V k = false) : feedB n V = false := decide_eq_false fun q => by have := q.2.2 k hk; rw [h] at this; cases this
theorem feed_far {n : Nat} {V : Nat → Int} (h : ¬ (1 ≤ n ∧ n ≤ 20)) : feedB n V = false := decide_eq_false fun q => h ⟨q.1, q.2.1⟩
theorem feed_all {n : Nat} {V : Nat → Int} (hn : 1 ≤ n) (hn' : n ≤ 20) (h : ∀ j, j < n → relJ V j = true) : feedB n V = true := decide_eq_true ⟨hn, hn', h⟩
theorem feed_yes {n : Nat} {V : Nat → Int} (h : feedB n V = true) : 1 ≤ n ∧ n ≤ 20 ∧ ∀ j, j < n → relJ V j = true := of_decide_eq_true h
/-- Of the places lo .. hi - 1 the one with the least delay, the greatest of equal ones; -1 when there is none. -/
def Best (V : Nat → Int) (a : Int) (lo hi : Nat) (x : Int) : Prop := (x = -1 ∧ ∀ j, lo ≤ j → j < hi → dl V a j < 0) ∨ ∃ m : Nat, x = m ∧ lo ≤ m ∧ m < hi ∧ 0 ≤ dl V a m ∧ ∀ j, lo ≤ j → j < hi → 0 ≤ dl V a j → dl V a m < dl V a j ∨ (dl V a m = dl V a j ∧ j ≤ m)
theorem Best.one {V : Nat → Int} {a : Int} {lo hi : Nat} {x y : Int} (h : Best V a lo hi x) (h' : Best V a lo hi y) : x = y := by
  rcases h with ⟨rfl, h⟩ | ⟨m, rfl, h1, h2, h3, h4⟩ <;> rcases h' with ⟨rfl, k⟩ | ⟨m', rfl, k1, k2, k3, k4⟩
  · rfl
  · have := h m' k1 k2; omega
  · have := k m h1 h2; omega
  · have a := h4 m' k1 k2 k3
    have b := k4 m h1 h2 h3
    have : m = m' := by omega
    rw [this]
theorem Best.none {V : Nat → Int} {a : Int} {lo : Nat} : Best V a lo lo (-1) := .inl ⟨rfl, fun j h1 h2 => by omega⟩
theorem Best.rng {V : Nat → Int} {a : Int} {lo hi : Nat} {x : Int} (h : Best V a lo hi x) : x = -1 ∨ ∃ m : Nat, x = m ∧ m < hi ∧ 0 ≤ dl V a m := by
  rcases h with ⟨rfl, h⟩ | ⟨m, rfl, h1, h2, h3, h4⟩
  · exact .inl rfl
  · exact .inr ⟨m, rfl, h2, h3⟩
/-- One more at the end: it is not there, or it is beaten. -/
theorem Best.up_skip {V : Nat → Int} {a : Int} {lo hi : Nat} {x : Int} (h : Best V a lo hi x) (hd : dl V a hi < 0 ∨ ∃ m : Nat, x = m ∧ dl V a m < dl V a hi) : Best V a lo (hi + 1) x := by
  rcases h with ⟨rfl, h⟩ | ⟨m, rfl, h1, h2, h3, h4⟩
  · refine .inl ⟨rfl, fun j j1 j2 => ?_⟩
    by_cases e : j = hi
    · subst e
      rcases hd with hd | ⟨m, hm, _⟩
      · exact hd
      · omega
    · exact h j j1 (by omega)
  · refine .inr ⟨m, rfl, h1, by omega, h3, fun j j1 j2 j3 => ?_⟩
    by_cases e : j = hi
    · subst e
      rcases hd with hd | ⟨m', hm, hd⟩
      · omega
      · have : m = m' := by omega
        subst this
        exact .inl hd
    · exact h4 j j1 (by omega) j3
theorem Best.up_take {V : Nat → Int} {a : Int} {lo hi : Nat} {x : Int} (h : Best V a lo hi x) (hl : lo ≤ hi) (h0 : 0 ≤ dl V a hi) (hd : x = -1 ∨ ∃ m : Nat, x = m ∧ dl V a hi ≤ dl V a m) : Best V a lo (hi + 1) hi := by
  refine .inr ⟨hi, rfl, hl, by omega, h0, fun j j1 j2 j3 => ?_⟩
  by_cases e : j = hi
  · subst e; exact .inr ⟨rfl, Nat.le_refl _⟩
  · rcases h with ⟨rfl, h⟩ | ⟨m, rfl, h1, h2, h3, h4⟩
    · have := h j j1 (by omega); omega
    · rcases hd with hd | ⟨m', hm, hd⟩
      · omega
      · have : m = m' := by omega
        subst this
        have := h4 j j1 (by omega) j3
        omega
theorem Best.down_skip {V : Nat → Int} {a : Int} {lo hi : Nat} {x : Int} (h : Best V a (lo + 1) hi x) (hd : dl V a lo < 0 ∨ ∃ m : Nat, x = m ∧ dl V a m ≤ dl V a lo) : Best V a lo hi x := by
  rcases h with ⟨rfl, h⟩ | ⟨m, rfl, h1, h2, h3, h4⟩
  · refine .inl ⟨rfl, fun j j1 j2 => ?_⟩
    by_cases e : j = lo
    · subst e
      rcases hd with hd | ⟨m, hm, _⟩
      · exact hd
      · omega
    · exact h j (by omega) j2
  · refine .inr ⟨m, rfl, by omega, h2, h3, fun j j1 j2 j3 => ?_⟩
    by_cases e : j = lo
    · subst e
      rcases hd with hd | ⟨m', hm, hd⟩
      · omega
      · have : m = m' := by omega
        subst this
        omega
    · exact h4 j (by omega) j2 j3
theorem Best.down_take {V : Nat → Int} {a : Int} {lo hi : Nat} {x : Int} (h : Best V a (lo + 1) hi x) (hl : lo < hi) (h0 : 0 ≤ dl V a lo) (hd : x = -1 ∨ ∃ m : Nat, x = m ∧ dl V a lo < dl V a m) : Best V a lo hi lo := by
  refine .inr ⟨lo, rfl, Nat.le_refl _, hl, h0, fun j j1 j2 j3 => ?_⟩
  by_cases e : j = lo
  · subst e; exact .inr ⟨rfl, Nat.le_refl _⟩
  · rcases h with ⟨rfl, h⟩ | ⟨m, rfl, h1, h2, h3, h4⟩
    · have := h j (by omega) j2; omega
    · rcases hd with hd | ⟨m', hm, hd⟩
      · omega
      · have : m = m' := by omega
        subst this
        have := h4 j (by omega) j2 j3
        omega
def goC (n : Nat) (V : Nat → Int) (k a : Int) : Bool := feedB n V && (inB 0 ((n : Int) - 1) k && inB 0 1000000 a)
/-- What Cleared answers. -/
def ClV (n : Nat) (V : Nat → Int) (k a x : Int) : Prop := (goC n V k a = false ∧ x = -1) ∨ (goC n V k a = true ∧ Best V a 0 (k.toNat + 1) x)
theorem ClV.one {n : Nat} {V : Nat → Int} {k a x y : Int} (h : ClV n V k a x) (h' : ClV n V k a y) : x = y := by
  rcases h with ⟨h1, rfl⟩ | ⟨h1, h2⟩ <;> rcases h' with ⟨k1, rfl⟩ | ⟨k1, k2⟩
  · rfl
  · rw [h1] at k1; cases k1
  · rw [h1] at k1; cases k1
  · exact h2.one k2
theorem best_some (V : Nat → Int) (a : Int) : ∀ hi : Nat, ∃ x, Best V a 0 hi x
  | 0 => ⟨-1, Best.none⟩
  | hi + 1 => by
    obtain ⟨x, h⟩ := best_some V a hi
    by_cases h0 : 0 ≤ dl V a hi
    · rcases h.rng with rfl | ⟨m, rfl, hm, hp⟩
      · exact ⟨_, h.up_take (by omega) h0 (.inl rfl)⟩
      · by_cases q : dl V a hi ≤ dl V a m
        · exact ⟨_, h.up_take (by omega) h0 (.inr ⟨m, rfl, q⟩)⟩
        · exact ⟨_, h.up_skip (.inr ⟨m, rfl, by omega⟩)⟩
    · exact ⟨_, h.up_skip (.inl (by omega))⟩
theorem cl_some (n : Nat) (V : Nat → Int) (k a : Int) : ∃ x, ClV n V k a x := by
  cases h : goC n V k a
  · exact ⟨-1, .inl ⟨h, rfl⟩⟩
  · obtain ⟨x, hx⟩ := best_some V a (k.toNat + 1)
    exact ⟨x, .inr ⟨h, hx⟩⟩
end Go.Proofs.Ytmhibahefbldaaa
