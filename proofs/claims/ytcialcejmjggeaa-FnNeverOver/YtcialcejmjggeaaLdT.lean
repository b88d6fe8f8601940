/-
What is proved: the times at which machines begin, in memory.
-/
import Derived.Test.YtcialcejmjggeaaLdP
import Derived.Test.YtcialcejmjggeaaShdM
namespace Go.Proofs.Ytcialcejmjggeaa
set_option maxRecDepth 40000
open Go.ChangeShapes Go.WideShapes Go.ChangeAt Go.RowKit
set_option linter.unusedVariables false
set_option linter.unusedSimpArgs false

theorem vals_TT (V : Nat → Int) (n : Nat) (most : Int) (t b : Nat) (h : nxL V n most (TT V n most t) t = b) : (vals (TT V n most t) n).set b (.int .i64 (t : Int)) = vals (TT V n most (t + 1)) n := by
  refine List.ext_getElem? fun l => ?_
  rw [List.getElem?_set]
  by_cases hl : l < n
  · rw [vals_at _ hl, vals_at _ hl, TT_set h l]
    by_cases e : b = l
    · subst e; simp [vals_length, hl]
    · have e' : ¬ l = b := fun q => e q.symm
      simp [e, e']
  · have h1 : (vals (TT V n most t) n)[l]? = none := by simp [vals]; omega
    have h2 : (vals (TT V n most (t + 1)) n)[l]? = none := by simp [vals]; omega
    rw [h1, h2]
    by_cases e : b = l
    · subst e; simp [vals_length, hl]
    · simp [e]
/-- The times in memory. -/
def TmAt (base : Nat) (w : World) (s : Option Addr) (n cap : Nat) (U : Nat → Int) : Prop := w.ownsRow base 2 1 (.slice s n cap) n (vals U n)
theorem TmAt.own {base : Nat} {w : World} {s : Option Addr} {n cap : Nat} {U : Nat → Int} (h : TmAt base w s n cap U) : OwnI base w s n U := by
  obtain ⟨s', c, e, hO⟩ := own_OwnI (size := 1) (n := n) (U := U) (by rw [Nat.mul_one]; exact h)
  cases e
  rwa [Nat.mul_one] at hO
theorem TmAt.below {base : Nat} {w w' : World} {s : Option Addr} {n cap : Nat} {U : Nat → Int} (h : TmAt base w s n cap U) (hb : Below w.heap.size w w') : TmAt base w' s n cap U := row_turn h (Turn.grown (S := fun _ => False) hb) (fun _ _ f => f)
theorem TmAt.at_ {base : Nat} {w : World} {s : Option Addr} {n cap : Nat} {U : Nat → Int} (h : TmAt base w s n cap U) (hn : 0 < n) : ∃ g, s = some ⟨g, 0, none⟩ ∧ base ≤ g ∧ g < w.heap.size ∧ (∀ j, j < n → w.cell? ⟨g, j, none⟩ = some (.int .i64 (U j))) ∧ ∀ j, w.frozen? ⟨g, j, none⟩ = false := by
  have h' : w.ownsRow base 2 1 (.slice s n cap) n (vals U n) := h
  rcases h'.2 with ⟨e, e2⟩ | ⟨g, cap', cur, e, hb, hg, _⟩
  · omega
  · cases e
    exact ⟨g, rfl, hb, (Array.getElem?_eq_some_iff.1 hg).1, fun j hj => by rw [h'.cellAt j (by omega), vals_at _ hj], h'.frozenAt⟩
theorem TmAt.set {base : Nat} {w : World} {g n cap : Nat} {V : Nat → Int} {most : Int} {t b : Nat} (h : TmAt base w (some ⟨g, 0, none⟩) n cap (TT V n most t)) (e : nxL V n most (TT V n most t) t = b) : TmAt base (w.setCell ⟨g, b, none⟩ (.int .i64 (t : Int))) (some ⟨g, 0, none⟩) n cap (TT V n most (t + 1)) := by
  have h' : w.ownsRow base 2 1 (.slice (some ⟨g, 0, none⟩) n cap) n (vals (TT V n most t) n) := h
  have := (h'.stored b (.int .i64 (t : Int))).1
  rw [vals_TT V n most t b e] at this
  exact this
def GoP (V : Nat → Int) (n : Nat) (most : Int) (t : Nat) : Prop := ∀ q, q < t → nxL V n most (TT V n most q) q ≠ -1 ∨ StartP V n (TT V n most q) q
theorem GoP.on {V : Nat → Int} {n : Nat} {most : Int} {t : Nat} (h : GoP V n most t) (ht : nxL V n most (TT V n most t) t ≠ -1 ∨ StartP V n (TT V n most t) t) : GoP V n most (t + 1) := fun q hq => by
  by_cases e : q = t
  · subst e; exact ht
  · exact h q (by omega)
end Go.Proofs.Ytcialcejmjggeaa
