/-
What is proved: a list of rows of int64s on its way of being put together, kept from world to world.
-/
import Derived.Test.YtkocbklkiehdiaaBlk
import Derived.Test.YtkocbklkiehdiaaOwn
namespace Go.Proofs.Ytkocbklkiehdiaa
set_option maxRecDepth 40000
open Go.ChangeShapes Go.WideShapes Go.ChangeAt Go.RowKit
set_option linter.unusedVariables false
set_option linter.unusedSimpArgs false

/-- A list of k rows of M int64s, in memory of its own. -/
def Lst (base : Nat) (T : TypeId) (M : Nat) (w : World) (v : Value) (k : Nat) (U : Nat → Int) : Prop := w.ownsRow base T M v k (vals U (k * M))
theorem Lst.same {w w' : World} {base : Nat} {T : TypeId} {M : Nat} {v : Value} {k : Nat} {U : Nat → Int} (h : Lst base T M w v k U) (hs : ∀ g, v.ownBlock = some g → w'.heap[g]? = w.heap[g]?) : Lst base T M w' v k U := by
  refine ⟨h.1, ?_⟩
  rcases h.2 with q | ⟨g, cap, cur, e1, hb, hg, r⟩
  · exact .inl q
  · exact .inr ⟨g, cap, cur, e1, hb, (hs g (by rw [e1]; rfl)).trans hg, r⟩
theorem Lst.beside {w w' : World} {base r : Nat} {T : TypeId} {M : Nat} {v : Value} {k : Nat} {U : Nat → Int} (h : Lst base T M w v k U) (hb : Beside r w w') (hr : r < base) : Lst base T M w' v k U := h.same fun g hg => hb.2.2.2.2 g (h.lt g hg).2 (by have := (h.lt g hg).1; omega)
theorem Lst.below {w w' : World} {base : Nat} {T : TypeId} {M : Nat} {v : Value} {k : Nat} {U : Nat → Int} (h : Lst base T M w v k U) (hb : Below w.heap.size w w') : Lst base T M w' v k U := h.same fun g hg => hb.block g (h.lt g hg).2
theorem Lst.grownL {w w' : World} {base B : Nat} {T : TypeId} {M : Nat} {v : Value} {k : Nat} {U : Nat → Int} (h : Lst base T M w v k U) (hb : Below B w w') (hl : ∀ g, v.ownBlock = some g → g < B) : Lst base T M w' v k U := h.same fun g hg => hb.block g (hl g hg)
theorem Lst.lit (w : World) (base : Nat) (T t : TypeId) (M : Nat) (U : Nat → Int) (hb : base ≤ w.heap.size) : Lst base T M (w.alloc (.cells #[] T)) (.slice (some ⟨w.heap.size, 0, none⟩) 0 0) 0 U := by
  show World.ownsRow _ _ _ _ _ _ _
  simpa [vals] using World.ownsRow_lit (base := base) (size := M) (e := T) w #[] 0 hb (by simp [maxLen]) (by simp)
theorem Lst.own {w : World} {base : Nat} {T : TypeId} {M : Nat} {v : Value} {k : Nat} {U : Nat → Int} (h : Lst base T M w v k U) : ∃ t cap, v = .slice t k cap ∧ OwnI base w t (k * M) U := own_OwnI (size := M) (U := U) h
theorem Lst.form {w : World} {base : Nat} {T : TypeId} {M : Nat} {v : Value} {k : Nat} {U : Nat → Int} (h : Lst base T M w v k U) : ∃ t cap, v = .slice t k cap := by
  obtain ⟨t, cap, e, -⟩ := h.own
  exact ⟨t, cap, e⟩
theorem Lst.cap {w : World} {base : Nat} {T : TypeId} {M : Nat} {t : Option Addr} {k cap : Nat} {U : Nat → Int} (h : Lst base T M w (.slice t k cap) k U) : k ≤ cap := by
  rcases h.2 with ⟨e1, e2⟩ | ⟨g, cap', cur, e1, _, _, hc, _⟩
  · cases e1; omega
  · cases e1; exact hc
/-- The numbers with one row more. -/
def putL (U : Nat → Int) (M k : Nat) (xs : List Int) (j : Nat) : Int := if k * M ≤ j then (xs[j - k * M]?).getD 0 else U j
theorem vals_putL (U : Nat → Int) (M k : Nat) (xs : List Int) (hM : xs.length = M) : vals (putL U M k xs) ((k + 1) * M) = vals U (k * M) ++ xs.map (Value.int .i64) := by
  have key : ∀ m, m ≤ xs.length → vals (putL U M k xs) (k * M + m) = vals U (k * M) ++ (xs.take m).map (Value.int .i64) := by
    intro m
    induction m with
    | zero =>
      intro _
      simp only [List.take_zero, List.map_nil, List.append_nil, Nat.add_zero]
      unfold vals
      refine List.map_congr_left fun j hj => ?_
      have : j < k * M := by simpa using hj
      unfold putL
      rw [if_neg (by omega)]
    | succ m ih =>
      intro hm
      rw [← Nat.add_assoc, vals_succ, ih (by omega), List.append_assoc]
      congr 1
      have e : putL U M k xs (k * M + m) = xs[m] := by
        unfold putL
        rw [if_pos (by omega), show k * M + m - k * M = m by omega, List.getElem?_eq_getElem (by omega)]
        rfl
      rw [e, List.take_add_one, List.getElem?_eq_getElem (by omega), List.map_append]
      rfl
  have := key M (by omega)
  rw [Nat.succ_mul, this, ← hM, List.take_length]
theorem Lst.on {w w' : World} {base : Nat} {T : TypeId} {M : Nat} {v v' : Value} {k : Nat} {U : Nat → Int} {xs : List Int} (h : Lst base T M w v k U) (hM : xs.length = M) (hown : w'.ownsRow base T M v' (k + 1) (vals U (k * M) ++ xs.map (Value.int .i64))) : Lst base T M w' v' (k + 1) (putL U M k xs) := by
  show World.ownsRow _ _ _ _ _ _ _
  rw [vals_putL U M k xs hM]
  exact hown
def lenL : Value → Nat
  | .slice _ n _ => n
  | _ => 0
end Go.Proofs.Ytkocbklkiehdiaa
