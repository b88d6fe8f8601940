/-
What is proved: rows of bools on their way of being marked.
-/
import Derived.Test.YtpnihekpokfooaaBoR
import Derived.Deep.OwnRows
import Derived.Deep.AppendLies
import Derived.Laws.OwnMore
namespace Go.Proofs.Ytpnihekpokfooaa
set_option maxRecDepth 40000
open Go.RowKit
set_option linter.unusedVariables false
set_option linter.unusedSimpArgs false

/-- A row on its way of being marked: the first j are k, k + 1, .. -/
def BarkTo (b : Nat) (w wr : World) (n j : Nat) (k : Int) (V : Nat → Bool) : Prop := Beside b w wr ∧ (∀ o, o < n → wr.frozen? ⟨b, o, none⟩ = false) ∧ ∀ i, i < n → wr.cell? ⟨b, i, none⟩ = some (.bool (if i < j then markB k i else V i))
theorem barkTo_on {b : Nat} {w wr : World} {n j : Nat} {k : Int} {V : Nat → Bool} (hb : b < w.heap.size) (h : BarkTo b w wr n j k V) : BarkTo b w (wr.setCell ⟨b, j, none⟩ (.bool (markB k j))) n (j + 1) k V := by
  obtain ⟨hB, hf, hc⟩ := h
  refine ⟨hB.trans (Beside.setCell b wr j _), fun o ho => by simp [go_sem, hf o ho], fun i hi => ?_⟩
  have c3 := hc i hi
  by_cases e : i = j
  · subst e
    rw [if_pos (by omega)]
    simp [go_sem, c3]
  · have e2 : (if i < j + 1 then markB k i else V i) = (if i < j then markB k i else V i) := by
      by_cases q : i < j
      · rw [if_pos q, if_pos (by omega)]
      · rw [if_neg q, if_neg (by omega)]
    rw [e2]
    simp [go_sem, c3, e]

/-- A row of bools that the call makes: its first k are V. -/
def valB (V : Nat → Bool) (k : Nat) : List Value := (List.range k).map fun j => .bool (V j)
theorem valB_succ (V : Nat → Bool) (k : Nat) : valB V (k + 1) = valB V k ++ [.bool (V k)] := by simp [valB, List.range_succ]
theorem ownB_same {w w' : World} {base : Nat} {e : TypeId} {size : Nat} {v : Value} {n : Nat} {xs : List Value} (h : w.ownsRow base e size v n xs) (hs : Below w.heap.size w w') : w'.ownsRow base e size v n xs := by
  refine ⟨h.1, ?_⟩
  rcases h.2 with q | ⟨g, cap, cur, e1, hb, hg, r⟩
  · exact .inl q
  · exact .inr ⟨g, cap, cur, e1, hb, (hs.block g (Array.getElem?_eq_some_iff.1 hg).1).trans hg, r⟩
theorem bark3 {b : Nat} {w wr : World} {n m : Nat} {k : Int} {V : Nat → Bool} (hb : b < w.heap.size) (h : BarkTo b w wr n m k V) (x0 x1 x2 : Bool) (e0 : x0 = markB k (m)) (e1 : x1 = markB k (m + 1)) (e2 : x2 = markB k (m + 2)) : BarkTo b w (((wr.setCell ⟨b, m, none⟩ (.bool x0)).setCell ⟨b, m + 1, none⟩ (.bool x1)).setCell ⟨b, m + 2, none⟩ (.bool x2)) n (m + 3) k V := by
  subst e0 e1 e2
  exact barkTo_on hb (barkTo_on hb (barkTo_on hb (h)))
theorem bark6 {b : Nat} {w wr : World} {n m : Nat} {k : Int} {V : Nat → Bool} (hb : b < w.heap.size) (h : BarkTo b w wr n m k V) (x0 x1 x2 x3 x4 x5 : Bool) (e0 : x0 = markB k (m)) (e1 : x1 = markB k (m + 1)) (e2 : x2 = markB k (m + 2)) (e3 : x3 = markB k (m + 3)) (e4 : x4 = markB k (m + 4)) (e5 : x5 = markB k (m + 5)) : BarkTo b w ((((((wr.setCell ⟨b, m, none⟩ (.bool x0)).setCell ⟨b, m + 1, none⟩ (.bool x1)).setCell ⟨b, m + 2, none⟩ (.bool x2)).setCell ⟨b, m + 3, none⟩ (.bool x3)).setCell ⟨b, m + 4, none⟩ (.bool x4)).setCell ⟨b, m + 5, none⟩ (.bool x5)) n (m + 6) k V := by
  subst e0 e1 e2 e3 e4 e5
  exact barkTo_on hb (barkTo_on hb (barkTo_on hb (barkTo_on hb (barkTo_on hb (barkTo_on hb (h))))))
end Go.Proofs.Ytpnihekpokfooaa
