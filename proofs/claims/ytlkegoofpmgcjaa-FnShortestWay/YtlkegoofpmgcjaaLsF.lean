/-
What is proved: lists that a call has made, nil where they are empty.
-/
import Derived.Test.YtlkegoofpmgcjaaCc2
import Derived.Test.YtlkegoofpmgcjaaOwn
import Derived.Laws.OwnMore
namespace Go.Proofs.Ytlkegoofpmgcjaa
set_option maxRecDepth 40000
open Go.ChangeShapes Go.WideShapes Go.ChangeAt Go.RowKit
set_option linter.unusedVariables false
set_option linter.unusedSimpArgs false

/-- A list that the call has made, nil where it is empty. -/
def LstF (base : Nat) (W : World) (t : Option Addr) (c : Nat) (L : List Int) : Prop := (L = [] ∧ t = none ∧ c = 0) ∨ (L ≠ [] ∧ ∃ g, t = some ⟨g, 0, none⟩ ∧ base ≤ g ∧ g < W.heap.size ∧ (∀ i, i < L.length → W.cell? ⟨g, i, none⟩ = some (.int .i64 (L.getD i 0))) ∧ ∀ i, W.frozen? ⟨g, i, none⟩ = false)
theorem OwnN.toF {base : Nat} {W : World} {v : Value} {L : List Int} (h : OwnN base W v L) : ∃ t c, v = .slice t L.length c ∧ LstF base W t c L := by
  rcases h with ⟨e, rfl⟩ | ⟨hz, hO⟩
  · subst e; exact ⟨none, 0, rfl, .inl ⟨rfl, rfl, rfl⟩⟩
  · rcases hO.2 with ⟨e, q⟩ | ⟨g, cap, cur, e, hb, hg, r⟩
    · exact (hz (List.eq_nil_of_length_eq_zero q)).elim
    · subst e
      refine ⟨_, cap, rfl, .inr ⟨hz, g, rfl, hb, (Array.getElem?_eq_some_iff.1 hg).1, fun i hi => ?_, fun i => by simp [World.frozen?, hg]⟩⟩
      rw [hO.cellAt i (by omega)]
      simp [encL, List.getD_eq_getElem?_getD, List.getElem?_eq_getElem hi]
theorem LstF.below {base : Nat} {W W' : World} {t : Option Addr} {c : Nat} {L : List Int} (h : LstF base W t c L) (hb : Below W.heap.size W W') : LstF base W' t c L := by
  rcases h with h | ⟨h0, g, e, hg0, hg, hc, hf⟩
  · exact .inl h
  · exact .inr ⟨h0, g, e, hg0, Nat.lt_of_lt_of_le hg hb.size, fun i hi => (hb.cell (p := ⟨g, i, none⟩) hg).trans (hc i hi), fun i => (hb.frozen (p := ⟨g, i, none⟩) hg).trans (hf i)⟩
theorem LstF.low {base b : Nat} {W : World} {t : Option Addr} {c : Nat} {L : List Int} (h : LstF base W t c L) (hb : b ≤ base) : LstF b W t c L := by
  rcases h with h | ⟨h0, g, e, hg0, r⟩
  · exact .inl h
  · exact .inr ⟨h0, g, e, by omega, r⟩
theorem LstF.plain {base : Nat} {W : World} {t : Option Addr} {c : Nat} {L : List Int} (h : LstF base W t c L) : LstV W t c L := by
  rcases h with h | ⟨h0, g, e, hg0, r1, r2, _⟩
  · exact .inl h
  · exact .inr ⟨h0, g, e, r1, r2⟩
theorem LstF.set {base bf p : Nat} {W : World} {v : Value} {t : Option Addr} {c : Nat} {L : List Int} (h : LstF base W t c L) (hf : bf < base) : LstF base (W.setCell ⟨bf, p, none⟩ v) t c L := by
  rcases h with h | ⟨h0, g, e, hg0, hg, hc, hfz⟩
  · exact .inl h
  · have bs : Beside bf W (W.setCell ⟨bf, p, none⟩ v) := Beside.setCell bf _ _ _
    exact .inr ⟨h0, g, e, hg0, Nat.lt_of_lt_of_le hg bs.2.2.2.1, fun i hi => (bs.cell (p := ⟨g, i, none⟩) hg (by simp only; omega)).trans (hc i hi), fun i => by rw [World.frozen?_setCell]; exact hfz i⟩
theorem LstF.owned {base : Nat} {W : World} {t : Option Addr} {c : Nat} {L : List Int} (h : LstF base W t c L) : OwnI base W t L.length (fun j => L.getD j 0) := fun j hj => by
  rcases h with ⟨e, _, _⟩ | ⟨h0, g, e, hg0, hg, hc, hf⟩
  · rw [e] at hj; simp at hj
  · exact ⟨g, e, hg0, hg, hc j hj, hf j⟩
end Go.Proofs.Ytlkegoofpmgcjaa
