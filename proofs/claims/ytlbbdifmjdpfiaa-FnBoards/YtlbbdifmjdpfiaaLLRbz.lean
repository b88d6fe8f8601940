/-
What is proved: lists of lists of int64s for the laws' walks: copied, compared, marked, held.
-/
import Derived.Test.YtlbbdifmjdpfiaaLLMbz
namespace Go.Proofs.Ytlbbdifmjdpfiaa
set_option maxRecDepth 40000
open Go.ChangeShapes Go.WideShapes Go.ChangeAt Go.RowKit
set_option linter.unusedVariables false
set_option linter.unusedSimpArgs false

def LLR (S : Nat → Prop) (w : World) (s : Option Addr) (n : Nat) (K : Nat → Nat) (V : Nat → Nat → Int) : Prop := OwnLL S w s n K V
theorem LLR.row {S : Nat → Prop} {w : World} {s : Option Addr} {n : Nat} {K : Nat → Nat} {V : Nat → Nat → Int} (h : LLR S w s n K V) : RowLL w s n K V := OwnLL.row h
theorem LLR.keep {S : Nat → Prop} {w : World} {s : Option Addr} {n : Nat} {K : Nat → Nat} {V : Nat → Nat → Int} {w' : World} (h : LLR S w s n K V) (hs : w.heap.size ≤ w'.heap.size) (hb : ∀ k, S k → k < w.heap.size → w'.heap[k]? = w.heap[k]?) : LLR S w' s n K V := OwnLL.keep h hs hb
theorem LLR.below {S : Nat → Prop} {w : World} {s : Option Addr} {n : Nat} {K : Nat → Nat} {V : Nat → Nat → Int} {w' : World} (h : LLR S w s n K V) (hb : Below w.heap.size w w') : LLR S w' s n K V := OwnLL.below h hb
theorem ll_each {n : Nat} {K : Nat → Nat} (h : (n : Int) + (suK K n : Int) ≤ 1048576) : ∀ i, i < n → (K i : Int) ≤ 1048576 := fun i hi => by have := suK_in (K := K) hi; omega
theorem eqInt64SS_r (s t : Option Addr) (n c d : Nat) (K : Nat → Nat) (V : Nat → Nat → Int) (w : World) (hn : (n : Int) + (suK K n : Int) ≤ 1048576) (HR : Hid (RowLL w s n K V)) (HT : Hid (RowLL w t n K V)) :
    Calls Try.prog 21 #[.slice s n c, .slice t n d] w fun e w' => e = .returned (.bool true) ∧ Below w.heap.size w w' := eqInt64SS_any s t n c d K V w (by omega) (ll_each hn) HR HT
theorem markInt64SS_r (S : Nat → Prop) (s : Option Addr) (n c : Nat) (k : Int) (K : Nat → Nat) (V : Nat → Nat → Int) (w : World) (hn : (n : Int) + (suK K n : Int) ≤ 1048576) (k0 : 0 ≤ k) (k1 : k ≤ 10000000) (HR : LLR S w s n K V) :
    Calls Try.prog 26 #[.slice s n c, .int .i64 k] w fun e w' => e = .returned (.int .i64 (k + (suK K n : Int))) ∧ LLR S w' s n K (mkV k K) ∧ Turn S w w' := markInt64SS_own S s n c k K V w (by omega) (by omega) k0 k1 HR
theorem heldInt64SS_r (s : Option Addr) (n c : Nat) (k : Int) (K : Nat → Nat) (w : World) (hn : (n : Int) + (suK K n : Int) ≤ 1048576) (k0 : 0 ≤ k) (k1 : k ≤ 10000000) (HR : Hid (RowLL w s n K (mkV k K))) :
    Calls Try.prog 27 #[.slice s n c, .int .i64 k] w fun e w' => e = .returned (.int .i64 (k + (suK K n : Int))) ∧ w' = w := heldInt64SS_any s n c k K w (by omega) (by omega) k0 k1 HR
end Go.Proofs.Ytlbbdifmjdpfiaa
