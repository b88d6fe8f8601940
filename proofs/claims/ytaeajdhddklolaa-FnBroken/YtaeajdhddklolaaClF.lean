/-
What is proved: a list of float64s appended whole to an empty one; one of its own written.
-/
import Derived.Test.YtaeajdhddklolaaOwnF
import Derived.Test.YtaeajdhddklolaaF64T
import Derived.Deep.AppendLies
namespace Go.Proofs.Ytaeajdhddklolaa
set_option maxRecDepth 40000
open Go.ChangeShapes Go.WideShapes Go.ChangeAt Go.RowKit
set_option linter.unusedVariables false
set_option linter.unusedSimpArgs false

theorem bits_row {w : World} {ad : Addr} {n : Nat} {V : Nat → Option Nat} (R : RowF w (some ad) n V) : ∃ xs : List Value, FlRow xs n V ∧ ∀ j u, xs[j]? = some u → w.cell? (ad.add j) = some u := by
  have : ∀ i, ∃ x : Nat, i < n → w.cell? (ad.add i) = some (.float .f64 x) ∧ Fl x (V i) := fun i => by
    by_cases hi : i < n
    · obtain ⟨b, o, x, e, _, hc, hx⟩ := R i hi
      cases e
      refine ⟨x, fun _ => ⟨?_, hx⟩⟩
      have : (⟨b, o, none⟩ : Addr).add i = ⟨b, o + i, none⟩ := by
        unfold Addr.add
        split
        · rename_i h; subst h; rfl
        · rfl
      rw [this]
      exact hc
    · exact ⟨0, fun q => (hi q).elim⟩
  obtain ⟨f, hf⟩ : ∃ f : Nat → Nat, ∀ i, i < n → w.cell? (ad.add i) = some (.float .f64 (f i)) ∧ Fl (f i) (V i) := ⟨fun i => Classical.choose (this i), fun i hi => Classical.choose_spec (this i) hi⟩
  refine ⟨(List.range n).map (fun i => .float .f64 (f i)), ⟨by simp, fun j hj => ⟨f j, by simp [hj], (hf j hj).2⟩⟩, fun j u hu => ?_⟩
  have hj : j < n := by
    rcases Nat.lt_or_ge j n with h | h
    · exact h
    · rw [List.getElem?_eq_none (by simpa using h)] at hu; cases hu
  rw [List.getElem?_map, List.getElem?_range hj] at hu
  cases hu
  exact (hf j hj).1
theorem list_cloneF {ops : Array Oper} {rest : List Oper} {o : Oper} {a : Act} {Q : Exit → Act → World → Prop} {W : World} (H : Nat) (ad : Addr) (n c : Nat) (V : Nat → Option Nat) (s z : Operand) (hgd : o.guard = none)
    (ho : o.op = .call { callee := .builtin .append, args := #[s, z], argTypes := #[24, 24] }) (hs : a.eval s = .slice (some ⟨H, 0, none⟩) 0 0) (hx : a.eval z = .slice (some ad) n c) (hH : W.heap.size = H) (hn : n ≤ 100000) (R : RowF W (some ad) n V)
    (h : ∀ s' cap w', OwnF W.heap.size w' s' n V → Below W.heap.size W w' → wpList Try.prog ops Q rest (a.put o.dst (.slice s' n cap)) w') :
    wpList Try.prog ops Q (o :: rest) a (W.alloc (.cells #[] 25)) := by
  subst hH
  obtain ⟨i0, hi, hz0, hz1, hz2⟩ := info_parts info_f64
  have hm : (W.alloc (.cells #[] 25)).ownsRow W.heap.size 25 1 (.slice (some ⟨W.heap.size, 0, none⟩) 0 0) 0 [] := by
    simpa using World.ownsRow_lit (base := W.heap.size) (size := 1) (e := 25) W #[] 0 (Nat.le_refl _) (by simp [maxLen]) (by simp)
  have hb : Below W.heap.size W (W.alloc (.cells #[] 25)) := (by repeat (first | with_reducible exact Below.refl _ _ | with_reducible refine Below.setCell ?_ (by first | omega | (simp; done) | (simp; omega)) _ | with_reducible refine bDrewN ?_ _ | with_reducible refine Below.drew ?_ | with_reducible refine Below.alloc ?_ (by first | omega | (simp; done) | (simp; omega)) _))
  obtain ⟨xs, hf, hc⟩ := bits_row (R.below hb)
  refine wpList_append_own _ hgd s z 24 ho W.heap.size 25 i0 (.float .f64 0) 1 8 Try.underlying24 hi hz0 hz1 hz2 rfl (by decide) _ 0 [] hs hm ad n c xs hx (by rw [hf.1, Nat.mul_one]) hc ?_ (by unfold maxLen; omega) (by omega) (by simp) ?_
  · intro u hu
    obtain ⟨j, hj, e⟩ := List.mem_iff_getElem.1 hu
    obtain ⟨x, hx, _⟩ := hf.2 j (by rw [← hf.1]; exact hj)
    rw [List.getElem?_eq_getElem hj] at hx
    injection hx with q
    rw [← e, q]
    rfl
  · intro v' w' h2 h3 _
    rw [Nat.zero_add, List.nil_append] at h2
    obtain ⟨s', cap, rfl, O⟩ := madeF_own (w := W) (V := V) ⟨h2, hf, hb.trans (grown_below h3 (by simp) (own_block hm))⟩
    exact h s' cap w' O (hb.trans (grown_below h3 (by simp) (own_block hm)))
theorem own_putF {base g m : Nat} {w : World} {V : Nat → Option Nat} (h : OwnF base w (some ⟨g, 0, none⟩) m V) (i x : Nat) (o : Option Nat) (hx : Fl x o) : RowF (w.setCell ⟨g, i, none⟩ (.float .f64 x)) (some ⟨g, 0, none⟩) m (fun j => if j = i then o else V j) := fun j hj => by
  obtain ⟨b, y, e, hB, hl, hc, hy, hf⟩ := h j hj
  cases e
  by_cases q : j = i
  · subst q
    refine ⟨g, 0, x, rfl, by simpa using hl, by simp [go_sem, hc], ?_⟩
    simpa using hx
  · refine ⟨g, 0, y, rfl, by simpa using hl, by simp [go_sem, hc, q], ?_⟩
    simpa [q] using hy
end Go.Proofs.Ytaeajdhddklolaa
