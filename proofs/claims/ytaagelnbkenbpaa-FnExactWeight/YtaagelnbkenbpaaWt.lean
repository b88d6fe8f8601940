/-
What is proved: weights in numbers; a list that is owned with one number set anew.
-/
import Derived.Test.YtaagelnbkenbpaaCh
import Derived.Test.YtaagelnbkenbpaaLkC
namespace Go.Proofs.Ytaagelnbkenbpaa
set_option maxRecDepth 40000
open Go.ChangeShapes Go.WideShapes Go.ChangeAt Go.RowKit
set_option linter.unusedVariables false
set_option linter.unusedSimpArgs false

def setE (E : Nat → Int) (q : Nat) (v : Int) (i : Nat) : Int := if i = q then v else E i
theorem set_in {E : Nat → Int} {x q : Nat} {v : Int} (hE : ∀ i, i < x → 0 ≤ E i ∧ E i ≤ 8) (v0 : 0 ≤ v) (v8 : v ≤ 8) : ∀ i, i < x → 0 ≤ setE E q v i ∧ setE E q v i ≤ 8 := fun i hi => by
  unfold setE
  split
  · exact ⟨v0, v8⟩
  · exact hE i hi
theorem set_twice (E : Nat → Int) (q : Nat) (u v : Int) : setE (setE E q u) q v = setE E q v := by
  funext i
  unfold setE
  by_cases e : i = q
  · rw [if_pos e, if_pos e]
  · rw [if_neg e, if_neg e, if_neg e]
theorem own_set {base : Nat} {w : World} {g m : Nat} {E : Nat → Int} {q : Nat} {v : Int} (h : OwnI base w (some ⟨g, 0, none⟩) m E) (hq : q < m) : OwnI base (w.setCell ⟨g, q, none⟩ (.int .i64 v)) (some ⟨g, 0, none⟩) m (setE E q v) := fun j hj => by
  obtain ⟨b, e, hb, hl, hc, hf⟩ := h j hj
  cases e
  refine ⟨g, rfl, hb, by simpa using hl, ?_, by simpa [go_sem] using hf⟩
  unfold setE
  by_cases e : j = q
  · subst e
    rw [if_pos rfl]
    exact World.cell?_setCell_same' _ _ _ (by rw [hc]; rfl)
  · rw [if_neg e, World.cell?_setCell_other _ _ _ _ (by intro z; cases z; exact e rfl)]
    exact hc
theorem set_belowW {w w' : World} {B g o : Nat} {v : Value} (h : Below B w w') (hg : B ≤ g) (hB : B ≤ w'.heap.size) : Below B w (w'.setCell ⟨g, o, none⟩ v) := h.trans ((Beside.setCell g w' o v).below hg hB)
def wtB (x : Int) (n : Nat) (X : Nat → Int) (K : Nat → Nat) (V : Nat → Nat → Int) (m : Nat) (E : Nat → Int) (q : Int) : Bool := eigB x n X K V m E && inB 0 (x - 1) q
def weightV (x : Int) (n : Nat) (X : Nat → Int) (K : Nat → Nat) (V : Nat → Nat → Int) (m : Nat) (E : Nat → Int) (q : Int) : Int := if wtB x n X K V m E q = true then chaV x.toNat n X K V (setE E q.toNat 8) (2 ^ x.toNat) - chaV x.toNat n X K V (setE E q.toNat 0) (2 ^ x.toNat) else -1
theorem chance_set {x n : Nat} {X : Nat → Int} {K : Nat → Nat} {V : Nat → Nat → Int} {E : Nat → Int} (h : eigB (x : Int) n X K V x E = true) (q : Nat) (v : Int) (v0 : 0 ≤ v) (v8 : v ≤ 8) : chanceV (x : Int) n X K V x (setE E q v) = chaV x n X K V (setE E q v) (2 ^ x) := by
  obtain ⟨h1, _, h3⟩ := eig_yes h
  have h4 : eigB (x : Int) n X K V x (setE E q v) = true := by
    unfold eigB
    have : allInB 0 8 (setE E q v) x = true := decide_eq_true (set_in h3 v0 v8)
    rw [h1, this]; simp
  unfold chanceV
  rw [h4, Int.toNat_natCast]
  rfl
theorem cha_top {x n : Nat} {X : Nat → Int} {K : Nat → Nat} {V : Nat → Nat → Int} {E : Nat → Int} (hE : ∀ i, i < x → 0 ≤ E i ∧ E i ≤ 8) (hx : x ≤ 10) : 0 ≤ chaV x n X K V E (2 ^ x) ∧ chaV x n X K V E (2 ^ x) ≤ 1099511627776 := by
  have h := cha_bound (n := n) (X := X) (K := K) (V := V) hE hx (2 ^ x)
  have hp : 2 ^ x ≤ 2 ^ 10 := Nat.pow_le_pow_right (by decide) hx
  have hq : ((2 ^ x : Nat) : Int) ≤ 1024 := by have : ((2 ^ x : Nat) : Int) ≤ ((2 ^ 10 : Nat) : Int) := Int.ofNat_le.2 hp; simpa using this
  exact ⟨h.1, by omega⟩
end Go.Proofs.Ytaagelnbkenbpaa
