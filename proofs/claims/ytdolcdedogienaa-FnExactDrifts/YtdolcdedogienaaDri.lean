/-
What is proved: the places of a list of floats at which they drift, in numbers.
-/
import Derived.Test.YtdolcdedogienaaStl
import Derived.Test.YtdolcdedogienaaDist
import Derived.Test.YtdolcdedogienaaOwnV
import Derived.Test.YtdolcdedogienaaOwnL
namespace Go.Proofs.Ytdolcdedogienaa
set_option maxRecDepth 40000
open Go.RowKit
set_option linter.unusedVariables false
set_option linter.unusedSimpArgs false

theorem madeL_drew {base b0 H : Nat} {w wr : World} {v : Value} {l : List Int} (h : MadeL base b0 H w wr v l) (q : Nat) : MadeL base b0 H w (wr.drewN q) v l := ⟨h.1, bDrewN h.2.1 q, h.2.2⟩
theorem own_belowD {w w' : World} {base : Nat} {e : TypeId} {size : Nat} {v : Value} {n : Nat} {xs : List Value} (h : w.ownsRow base e size v n xs) (hs : Below w.heap.size w w') : w'.ownsRow base e size v n xs :=
  own_same h fun g hg => hs.block g (h.lt g hg).2
theorem MadeL.belowD {base b0 H : Nat} {w wr w' : World} {v : Value} {l : List Int} (h : MadeL base b0 H w wr v l) (hs : Below wr.heap.size wr w') (hz : base ≤ wr.heap.size) : MadeL base b0 H w w' v l := ⟨own_belowD h.1 hs, h.2.1.trans (hs.mono hz), h.2.2⟩
def lastO (V : Nat → Option Nat) : Nat → Option Nat
  | 0 => none
  | k + 1 => if knP (V k) = true then V k else lastO V k
def driftAt (V : Nat → Option Nat) (a : Option Nat) (k : Nat) : Bool := knP (V k) && farO (V k) (lastO V k) a
def drL (V : Nat → Option Nat) (a : Option Nat) : Nat → List Int
  | 0 => []
  | k + 1 => if driftAt V a k = true then drL V a k ++ [(k : Int)] else drL V a k
theorem drL_le (V : Nat → Option Nat) (a : Option Nat) : ∀ k, (drL V a k).length ≤ k
  | 0 => Nat.le_refl _
  | k + 1 => by
    have := drL_le V a k
    unfold drL
    split
    · simp; omega
    · omega
theorem last_no {V : Nat → Option Nat} {k : Nat} (h : knP (V k) = false) : lastO V (k + 1) = lastO V k := by show (if knP (V k) = true then V k else lastO V k) = _; rw [h]; rfl
theorem last_yes {V : Nat → Option Nat} {k : Nat} (h : knP (V k) = true) : lastO V (k + 1) = V k := by show (if knP (V k) = true then V k else lastO V k) = _; rw [h]; rfl
theorem dr_no {V : Nat → Option Nat} {a : Option Nat} {k : Nat} (h : driftAt V a k = false) : drL V a (k + 1) = drL V a k := by show (if driftAt V a k = true then _ else _) = _; rw [h]; rfl
theorem dr_yes {V : Nat → Option Nat} {a : Option Nat} {k : Nat} (h : driftAt V a k = true) : drL V a (k + 1) = drL V a k ++ [(k : Int)] := by show (if driftAt V a k = true then _ else _) = _; rw [h]; rfl
theorem kn_some {o : Option Nat} (h : knP o = true) : o ≠ none := by rintro rfl; cases h
def goD (n : Nat) (a : Option Nat) : Prop := n ≤ 1000 ∧ a ≠ none
def DrV (n : Nat) (V : Nat → Option Nat) (a : Option Nat) (l : List Int) : Prop := (goD n a ∧ l = drL V a n) ∨ (¬ goD n a ∧ l = [])
theorem DrV.one {n : Nat} {V : Nat → Option Nat} {a : Option Nat} {l m : List Int} (h : DrV n V a l) (k : DrV n V a m) : l = m := by
  rcases h with ⟨h1, rfl⟩ | ⟨h1, rfl⟩ <;> rcases k with ⟨k1, rfl⟩ | ⟨k1, rfl⟩
  · rfl
  · exact absurd h1 k1
  · exact absurd k1 h1
  · rfl
theorem drV_some (n : Nat) (V : Nat → Option Nat) (a : Option Nat) : ∃ l, DrV n V a l ∧ l.length ≤ n := by
  by_cases h : goD n a
  · exact ⟨_, .inl ⟨h, rfl⟩, drL_le V a n⟩
  · exact ⟨_, .inr ⟨h, rfl⟩, Nat.zero_le _⟩
theorem self_eq {x : Nat} {o : Option Nat} (h : Fl x o) : (FloatKind.f64.format.order x x == some .eq) = (o != none) := by
  rcases h.2 with ⟨p, rfl⟩ | ⟨p, rfl⟩
  · rw [order_self p]; rfl
  · rw [order_nan_l p]; rfl
end Go.Proofs.Ytdolcdedogienaa
