/-
What is proved: a net: what the law's own helpers do with one: a copy, its size, whether two are the same, marks.
-/
import Derived.Test.YtikcfpjfcpbfcaaZcA
import Derived.Test.YtikcfpjfcpbfcaaI64R2z
import Derived.Test.YtikcfpjfcpbfcaaSzIz
namespace Go.Proofs.Ytikcfpjfcpbfcaa
set_option maxRecDepth 40000
open Go.ChangeShapes Go.WideShapes Go.ChangeAt Go.RowKit
set_option linter.unusedVariables false
set_option linter.unusedSimpArgs false

def RowNet (w : World) (s1 : Option Addr) (n1 : Nat) (V1 : Nat → Int × Int) (s2 : Option Addr) (n2 : Nat) (V2 : Nat → Int) : Prop := RowDuct w s1 n1 V1 ∧ RowI w s2 n2 V2
theorem RowNet.below {w w' : World} {s1 : Option Addr} {n1 : Nat} {V1 : Nat → Int × Int} {s2 : Option Addr} {n2 : Nat} {V2 : Nat → Int} (h : RowNet w s1 n1 V1 s2 n2 V2) (hb : Below w.heap.size w w') : RowNet w' s1 n1 V1 s2 n2 V2 := ⟨h.1.below hb, h.2.below hb⟩
def NetR (S : Nat → Prop) (w : World) (s1 : Option Addr) (n1 : Nat) (V1 : Nat → Int × Int) (s2 : Option Addr) (n2 : Nat) (V2 : Nat → Int) : Prop := ∃ S1 S2 : Nat → Prop, (∀ k, S1 k → S k) ∧ (∀ k, S2 k → S k) ∧ (∀ k, S1 k → ¬ S2 k) ∧ DuctR S1 w s1 n1 V1 ∧ I64R S2 w s2 n2 V2
theorem NetR.row {S : Nat → Prop} {w : World} {s1 : Option Addr} {n1 : Nat} {V1 : Nat → Int × Int} {s2 : Option Addr} {n2 : Nat} {V2 : Nat → Int} (h : NetR S w s1 n1 V1 s2 n2 V2) : RowNet w s1 n1 V1 s2 n2 V2 := by
  obtain ⟨S1, S2, u1, u2, d0, O1, O2⟩ := h
  exact ⟨O1.row, O2.row⟩
theorem NetR.keep {S : Nat → Prop} {w w' : World} {s1 : Option Addr} {n1 : Nat} {V1 : Nat → Int × Int} {s2 : Option Addr} {n2 : Nat} {V2 : Nat → Int} (h : NetR S w s1 n1 V1 s2 n2 V2) (hs : w.heap.size ≤ w'.heap.size) (hb : ∀ k, S k → k < w.heap.size → w'.heap[k]? = w.heap[k]?) : NetR S w' s1 n1 V1 s2 n2 V2 := by
  obtain ⟨S1, S2, u1, u2, d0, O1, O2⟩ := h
  exact ⟨S1, S2, u1, u2, d0, O1.keep hs (fun k hk => hb k (u1 k hk)), O2.keep hs (fun k hk => hb k (u2 k hk))⟩
theorem NetR.below {S : Nat → Prop} {w w' : World} {s1 : Option Addr} {n1 : Nat} {V1 : Nat → Int × Int} {s2 : Option Addr} {n2 : Nat} {V2 : Nat → Int} (h : NetR S w s1 n1 V1 s2 n2 V2) (hb : Below w.heap.size w w') : NetR S w' s1 n1 V1 s2 n2 V2 := h.keep hb.size fun k _ hk => hb.block k hk
end Go.Proofs.Ytikcfpjfcpbfcaa
