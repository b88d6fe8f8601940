/-
What is proved: the modes that the steps of a plan lead to, worked back from the last: lists alone.
-/
import Derived.Test.YtlkegoofpmgcjaaJnd
import Derived.Test.YtlkegoofpmgcjaaBnM
namespace Go.Proofs.Ytlkegoofpmgcjaa
set_option maxRecDepth 40000
open Go.ChangeShapes Go.WideShapes Go.ChangeAt Go.RowKit
set_option linter.unusedVariables false
set_option linter.unusedSimpArgs false

def gL (T : Nat → List Int) (x : Int) : List Int := if modB x then [x] else T x.toNat
def endS (V : Nat → Int) (T : Nat → List Int) (p : Nat) : List Int := jn (gL T (V (p * 5 + 3))) (gL T (V (p * 5 + 4)))
def updL (T : Nat → List Int) (p : Nat) (L : List Int) (i : Nat) : List Int := if i = p then L else T i
def etR (V : Nat → Int) : List Nat → Nat → List Int
  | [] => fun _ => []
  | p :: l => updL (etR V l) p (endS V (etR V l) p)
def GoodL (L : List Int) : Prop := L.Pairwise (· < ·) ∧ ∀ x, x ∈ L → -3 ≤ x ∧ x ≤ -1
theorem GoodL.len {L : List Int} (h : GoodL L) : L.length ≤ 3 := rise_len h.1 h.2
theorem modB_in {x : Int} (h : modB x = true) : -3 ≤ x ∧ x ≤ -1 := by unfold modB inB at h; simpa using h
theorem gL_good {T : Nat → List Int} (h : ∀ i, GoodL (T i)) (x : Int) : GoodL (gL T x) := by
  unfold gL
  split
  · rename_i hx
    exact ⟨by simp, fun y hy => by rw [List.mem_singleton] at hy; subst hy; exact modB_in hx⟩
  · exact h _
theorem jn_good {L1 L2 : List Int} (h1 : GoodL L1) (h2 : GoodL L2) : GoodL (jn L1 L2) := ⟨jn_rise L1 L2, fun x hx => by
  rcases (jn_mem L1 L2 x).1 hx with q | q
  · exact h1.2 x q
  · exact h2.2 x q⟩
theorem et_good (V : Nat → Int) : ∀ (l : List Nat) (i : Nat), GoodL (etR V l i)
  | [], i => ⟨by simp [etR], fun x hx => by simp [etR] at hx⟩
  | p :: l, i => by
    unfold etR updL
    split
    · exact jn_good (gL_good (et_good V l) _) (gL_good (et_good V l) _)
    · exact et_good V l i
/-- The specification's tables, one for each mode. -/
def hitB (T : Nat → Bool) (x X : Int) : Bool := X == x || (decide (0 ≤ X) && T X.toNat)
def updBo (T : Nat → Bool) (p : Nat) (b : Bool) (i : Nat) : Bool := if i = p then b else T i
def rcR (V : Nat → Int) (x : Int) : List Nat → Nat → Bool
  | [] => fun _ => false
  | p :: l => updBo (rcR V x l) p (hitB (rcR V x l) x (V (p * 5 + 3)) || hitB (rcR V x l) x (V (p * 5 + 4)))
theorem gL_hit {T : Nat → List Int} {R : Nat → Bool} {x X : Int} {n p : Nat} (h : ∀ i, x ∈ T i ↔ R i = true) (hx : -3 ≤ x ∧ x ≤ -1) (hX : (modB X = true ∧ -3 ≤ X ∧ X ≤ -1) ∨ (modB X = false ∧ (p : Int) + 1 ≤ X ∧ X ≤ (n : Int) - 1)) : x ∈ gL T X ↔ hitB R x X = true := by
  unfold gL hitB
  rcases hX with ⟨m, q⟩ | ⟨m, q⟩
  · rw [if_pos m, List.mem_singleton, decide_eq_false (show ¬ 0 ≤ X by omega)]
    simp
    omega
  · rw [if_neg (by rw [m]; simp), h, decide_eq_true (show 0 ≤ X by omega)]
    have : (X == x) = false := by simp; omega
    rw [this]
    simp
theorem et_rc {n : Nat} {V : Nat → Int} {x : Int} (hp : planB n V = true) (hx : -3 ≤ x ∧ x ≤ -1) : ∀ (l : List Nat), (∀ p, p ∈ l → p < n) → ∀ i, x ∈ etR V l i ↔ rcR V x l i = true
  | [], _, i => by simp [etR, rcR]
  | p :: l, hl, i => by
    have ih := et_rc hp hx l (fun q hq => hl q (List.mem_cons_of_mem _ hq))
    unfold etR rcR updL updBo
    by_cases e : i = p
    · rw [if_pos e, if_pos e]
      unfold endS
      have pn := hl p (List.mem_cons_self ..)
      rw [jn_mem, gL_hit ih hx (pln_to hp pn 3 (.inl rfl)), gL_hit ih hx (pln_to hp pn 4 (.inr rfl)), Bool.or_eq_true]
    · rw [if_neg e, if_neg e]
      exact ih i
/-- What Ends answers. -/
def endV (n : Nat) (V : Nat → Int) (f : Int) : List Int := if h : planB n V = true ∧ 0 ≤ f ∧ f ≤ (n : Int) - 1 then etR V (pls (dA n (Nat.lt_of_lt_of_le Nat.zero_lt_one (plan_yes h.1).1) n)) f.toNat else []
theorem endV_yes {n : Nat} {V : Nat → Int} {f : Int} (h : planB n V = true) (h1 : 0 ≤ f) (h2 : f ≤ (n : Int) - 1) (hn : 0 < n) : endV n V f = etR V (pls (dA n hn n)) f.toNat := by unfold endV; rw [dif_pos ⟨h, h1, h2⟩]
theorem endV_no {n : Nat} {V : Nat → Int} {f : Int} (h : ¬ (planB n V = true ∧ 0 ≤ f ∧ f ≤ (n : Int) - 1)) : endV n V f = [] := by unfold endV; rw [dif_neg h]
def mdL (b : Int → Bool) : Nat → List Int
  | 0 => []
  | k + 1 => mdL b k ++ (if b (-3 + (k : Int)) = true then [-3 + (k : Int)] else [])
theorem mdL_mem (b : Int → Bool) : ∀ (k : Nat) (x : Int), x ∈ mdL b k ↔ b x = true ∧ -3 ≤ x ∧ x < -3 + (k : Int)
  | 0, x => by
    simp only [mdL]
    constructor
    · intro q; cases q
    · rintro ⟨_, q1, q2⟩; omega
  | k + 1, x => by
    unfold mdL
    rw [List.mem_append, mdL_mem b k x]
    by_cases h : b (-3 + (k : Int)) = true
    · rw [if_pos h, List.mem_singleton]
      constructor
      · rintro (q | q)
        · exact ⟨q.1, q.2.1, by have := q.2.2; omega⟩
        · subst q; exact ⟨h, by omega, by omega⟩
      · rintro ⟨q1, q2, q3⟩
        by_cases e : x = -3 + (k : Int)
        · exact .inr e
        · exact .inl ⟨q1, q2, by omega⟩
    · rw [if_neg h]
      constructor
      · rintro (q | q)
        · exact ⟨q.1, q.2.1, by have := q.2.2; omega⟩
        · cases q
      · rintro ⟨q1, q2, q3⟩
        by_cases e : x = -3 + (k : Int)
        · subst e; exact (h q1).elim
        · exact .inl ⟨q1, q2, by omega⟩
theorem mdL_rise (b : Int → Bool) : ∀ (k : Nat), (mdL b k).Pairwise (· < ·)
  | 0 => by simp [mdL]
  | k + 1 => by
    unfold mdL
    rw [List.pairwise_append]
    refine ⟨mdL_rise b k, by split <;> simp, fun a ha c hc => ?_⟩
    have := (mdL_mem b k a).1 ha
    split at hc
    · rw [List.mem_singleton] at hc; subst hc; omega
    · cases hc
theorem end_mdL {n : Nat} {V : Nat → Int} (hp : planB n V = true) (l : List Nat) (hl : ∀ p, p ∈ l → p < n) (i : Nat) : etR V l i = mdL (fun x => rcR V x l i) 3 := by
  have hg := et_good V l i
  refine rise_eq _ _ hg.1 (mdL_rise _ 3) (fun x => ?_)
  rw [mdL_mem]
  constructor
  · intro q
    have := hg.2 x q
    exact ⟨(et_rc hp this l hl i).1 q, this.1, by omega⟩
  · rintro ⟨q1, q2, q3⟩
    exact (et_rc hp ⟨q2, by omega⟩ l hl i).2 q1
end Go.Proofs.Ytlkegoofpmgcjaa
