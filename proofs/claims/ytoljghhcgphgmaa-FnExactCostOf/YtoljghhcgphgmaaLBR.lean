/-
What is proved: lists of lists of bools for the laws' walks: copied, compared.
-/
import Derived.Test.YtoljghhcgphgmaaLBE
namespace Go.Proofs.Ytoljghhcgphgmaa
set_option maxRecDepth 40000
open Go.ChangeShapes Go.WideShapes Go.ChangeAt Go.RowKit
set_option linter.unusedVariables false
set_option linter.unusedSimpArgs false

def LBR (S : Nat → Prop) (w : World) (s : Option Addr) (n : Nat) (K : Nat → Nat) (V : Nat → Nat → Bool) : Prop := OwnLB S w s n K V
theorem LBR.row {S : Nat → Prop} {w : World} {s : Option Addr} {n : Nat} {K : Nat → Nat} {V : Nat → Nat → Bool} (h : LBR S w s n K V) : RowLB w s n K V := OwnLB.row h
theorem LBR.keep {S : Nat → Prop} {w : World} {s : Option Addr} {n : Nat} {K : Nat → Nat} {V : Nat → Nat → Bool} {w' : World} (h : LBR S w s n K V) (hs : w.heap.size ≤ w'.heap.size) (hb : ∀ k, S k → k < w.heap.size → w'.heap[k]? = w.heap[k]?) : LBR S w' s n K V := OwnLB.keep h hs hb
theorem LBR.below {S : Nat → Prop} {w : World} {s : Option Addr} {n : Nat} {K : Nat → Nat} {V : Nat → Nat → Bool} {w' : World} (h : LBR S w s n K V) (hb : Below w.heap.size w w') : LBR S w' s n K V := OwnLB.below h hb
theorem lb_each {n : Nat} {K : Nat → Nat} (h : (n : Int) + (suK K n : Int) ≤ 1048576) : ∀ i, i < n → (K i : Int) ≤ 1048576 := fun i hi => by have := suK_in (K := K) hi; omega
theorem toBoolSS_r (s : Option Addr) (n c : Nat) (K : Nat → Nat) (V : Nat → Nat → Bool) (w : World) (hn : (n : Int) + (suK K n : Int) ≤ 1048576) (HR : Hid (RowLB w s n K V)) :
    Calls Try.prog 23 #[.slice s n c] w fun e w' => ∃ (s' : Option Addr) (S : Nat → Prop), e = .returned (.slice s' n n) ∧ (∀ k, S k → w.heap.size ≤ k ∧ k < w'.heap.size) ∧ LBR S w' s' n K V ∧ Below w.heap.size w w' :=
  (toBoolSS_any s n c K V w (by omega) (lb_each hn) HR).mono fun e w' ⟨h1, h2, h3, h4⟩ => ⟨_, _, h1, fun k hk => hk, h3, h4⟩
theorem eqBoolSS_r (s t : Option Addr) (n c d : Nat) (K : Nat → Nat) (V : Nat → Nat → Bool) (w : World) (hn : (n : Int) + (suK K n : Int) ≤ 1048576) (HR : Hid (RowLB w s n K V)) (HT : Hid (RowLB w t n K V)) :
    Calls Try.prog 25 #[.slice s n c, .slice t n d] w fun e w' => e = .returned (.bool true) ∧ Below w.heap.size w w' := eqBoolSS_any s t n c d K V w (by omega) (lb_each hn) HR HT
end Go.Proofs.Ytoljghhcgphgmaa
