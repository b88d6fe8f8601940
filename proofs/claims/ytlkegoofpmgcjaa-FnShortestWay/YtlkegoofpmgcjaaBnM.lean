/-
What is proved: the longest times of the steps of a plan, worked back from the last: numbers alone; the places of a plan from the last to the first.
-/
import Derived.Test.YtlkegoofpmgcjaaPl
namespace Go.Proofs.Ytlkegoofpmgcjaa
set_option maxRecDepth 40000
open Go.ChangeShapes Go.WideShapes Go.ChangeAt Go.RowKit
set_option linter.unusedVariables false
set_option linter.unusedSimpArgs false

def gAt (T : Nat → Int) (x : Int) : Int := if modB x then 0 else T x.toNat
def bndS (V T : Nat → Int) (p : Nat) : Int := V (p * 5 + 2) + max (gAt T (V (p * 5 + 3))) (gAt T (V (p * 5 + 4)))
def updI (T : Nat → Int) (p : Nat) (x : Int) (i : Nat) : Int := if i = p then x else T i
def tabR (V : Nat → Int) : List Nat → Nat → Int
  | [] => fun _ => 0
  | p :: l => updI (tabR V l) p (bndS V (tabR V l) p)
theorem pln_lim {n : Nat} {V : Nat → Int} (h : planB n V = true) {p : Nat} (hp : p < n) : 1 ≤ V (p * 5 + 2) ∧ V (p * 5 + 2) ≤ 1000 := (pln_step ((plan_yes h).2.2 p hp)).2.2.1
theorem gAt_in {T : Nat → Int} {B : Int} (h : ∀ i, 0 ≤ T i ∧ T i ≤ B) (x : Int) : 0 ≤ gAt T x ∧ gAt T x ≤ B := by
  unfold gAt
  split
  · have := h 0; omega
  · exact h _
theorem tab_in {n : Nat} {V : Nat → Int} (h : planB n V = true) : ∀ (l : List Nat), (∀ p, p ∈ l → p < n) → ∀ i, 0 ≤ tabR V l i ∧ tabR V l i ≤ 1000 * l.length
  | [], _, i => by simp [tabR]
  | p :: l, hl, i => by
    have ih := tab_in h l (fun q hq => hl q (List.mem_cons_of_mem _ hq))
    have h1 := gAt_in ih (V (p * 5 + 3))
    have h2 := gAt_in ih (V (p * 5 + 4))
    have h3 := pln_lim h (hl p (List.mem_cons_self ..))
    have h4 := ih i
    unfold tabR updI
    simp only [List.length_cons]
    split
    · unfold bndS; omega
    · omega
/-- Where a step may lead: a mode, or a later place. -/
theorem pln_to {n : Nat} {V : Nat → Int} (h : planB n V = true) {p : Nat} (hp : p < n) (k : Nat) (hk : k = 3 ∨ k = 4) : (modB (V (p * 5 + k)) = true ∧ -3 ≤ V (p * 5 + k) ∧ V (p * 5 + k) ≤ -1) ∨ (modB (V (p * 5 + k)) = false ∧ (p : Int) + 1 ≤ V (p * 5 + k) ∧ V (p * 5 + k) ≤ (n : Int) - 1) := by
  have q := pln_step ((plan_yes h).2.2 p hp)
  have key : ∀ x : Int, ((-3 ≤ x ∧ x ≤ -1) ∨ ((p : Int) + 1 ≤ x ∧ x ≤ (n : Int) - 1)) → (modB x = true ∧ -3 ≤ x ∧ x ≤ -1) ∨ (modB x = false ∧ (p : Int) + 1 ≤ x ∧ x ≤ (n : Int) - 1) := fun x hx => by
    rcases hx with hx | hx
    · exact .inl ⟨by unfold modB inB; simp; omega, hx⟩
    · exact .inr ⟨by unfold modB inB; simp; omega, hx⟩
  rcases hk with rfl | rfl
  · exact key _ q.2.2.2.1
  · exact key _ q.2.2.2.2
abbrev Pce (n : Nat) := { p : Nat // p < n }
def dA (n : Nat) (hn : 0 < n) (k : Nat) : List (Pce n) := (List.range k).map (fun j => ⟨n - 1 - j, by omega⟩)
theorem dA_len {n : Nat} {hn : 0 < n} (k : Nat) : (dA n hn k).length = k := by simp [dA]
theorem dA_succ {n : Nat} {hn : 0 < n} (k : Nat) : dA n hn (k + 1) = dA n hn k ++ [⟨n - 1 - k, by omega⟩] := by simp [dA, List.range_succ]
def pls {n : Nat} (pre : List (Pce n)) : List Nat := (pre.map (fun x => x.1)).reverse
theorem pls_snoc {n : Nat} (pre : List (Pce n)) (x : Pce n) : pls (pre ++ [x]) = x.1 :: pls pre := by simp [pls]
theorem pls_len {n : Nat} (pre : List (Pce n)) : (pls pre).length = pre.length := by simp [pls]
theorem pls_in {n : Nat} (pre : List (Pce n)) : ∀ p, p ∈ pls pre → p < n := fun p hp => by
  simp only [pls, List.mem_reverse, List.mem_map] at hp
  obtain ⟨x, _, rfl⟩ := hp
  exact x.2
end Go.Proofs.Ytlkegoofpmgcjaa
