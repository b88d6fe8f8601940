/-
What is proved: what orders decide, in numbers.
-/
import Derived.Test.YtafifjodpgmiiaaIsW
import Derived.Test.YtafifjodpgmiiaaRowI
namespace Go.Proofs.Ytafifjodpgmiiaa
set_option maxRecDepth 40000
open Go.ChangeShapes Go.WideShapes Go.ChangeAt Go.RowKit
set_option linter.unusedVariables false
set_option linter.unusedSimpArgs false

/-- What a level wants behind one more order. -/
def wtS (r lv wn l : Int) : Int := if lv = l then (if wn = -1 then -1 else if wn = 1 ∧ r = 0 then 1 else r) else r
def wtL (V : Nat → Int) (l : Int) : Nat → Int
  | 0 => 0
  | k + 1 => wtS (wtL V l k) (V (k * 2)) (V (k * 2 + 1)) l
def decG (V : Nat → Int) (n : Nat) : Nat → Int
  | 0 => 0
  | f + 1 => if wtL V (9 - (f : Int)) n ≠ 0 then wtL V (9 - (f : Int)) n else decG V n f
def decV (V : Nat → Int) (n : Nat) : Int := if n ≤ 50 then decG V n 9 else 0
theorem wtL_rng (V : Nat → Int) (l : Int) : ∀ k, wtL V l k = 0 ∨ wtL V l k = 1 ∨ wtL V l k = -1
  | 0 => Or.inl rfl
  | k + 1 => by
    have := wtL_rng V l k
    unfold wtL wtS
    split
    · split
      · exact Or.inr (Or.inr rfl)
      · split
        · exact Or.inr (Or.inl rfl)
        · exact this
    · exact this
/-- The least level that wants something decides. -/
theorem decG_at (V : Nat → Int) (n : Nat) : ∀ (f : Nat) (l : Int), 9 - (f : Int) < l → l ≤ 9 → wtL V l n ≠ 0 → (∀ l', 9 - (f : Int) < l' → l' < l → wtL V l' n = 0) → decG V n f = wtL V l n
  | 0, l, h1, h2, h3, h4 => by omega
  | f + 1, l, h1, h2, h3, h4 => by
    unfold decG
    by_cases e : 9 - (f : Int) = l
    · rw [e, if_pos h3]
    · rw [if_neg (by simpa using h4 (9 - (f : Int)) (by omega) (by omega))]
      exact decG_at V n f l (by omega) h2 h3 fun l' a b => h4 l' (by omega) b
theorem decG_none (V : Nat → Int) (n : Nat) : ∀ (f : Nat), (∀ l', 9 - (f : Int) < l' → l' ≤ 9 → wtL V l' n = 0) → decG V n f = 0
  | 0, _ => rfl
  | f + 1, h => by
    unfold decG
    rw [if_neg (by simpa using h (9 - (f : Int)) (by omega) (by omega))]
    exact decG_none V n f fun l' a b => h l' (by omega) b
end Go.Proofs.Ytafifjodpgmiiaa
