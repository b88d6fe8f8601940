/-
What is proved: sets that are drawn, lists of them, and what DrawCommon draws.
-/
import Derived.Test.YtpaiajeigdifcaaSeD
import Derived.Test.YtpaiajeigdifcaaLL
namespace Go.Proofs.Ytpaiajeigdifcaa
set_option maxRecDepth 40000
open Go.ChangeShapes Go.WideShapes Go.ChangeAt Go.RowKit
set_option linter.unusedVariables false
set_option linter.unusedSimpArgs false

def GrF (base : Nat) (W : World) (v : Value) (n : Nat) (f : Nat → Value) : Prop := W.ownsRow base 30 1 v n (valsV f n) ∧ ∀ j, j < n → ∃ t k c U, f j = .slice t k c ∧ k ≤ 13 ∧ Lst base 2 1 W (.slice t k c) k U
def GrL (base : Nat) (W : World) (v : Value) (n : Nat) : Prop := ∃ f, GrF base W v n f
theorem GrF.same {base n : Nat} {W W' : World} {v : Value} {f : Nat → Value} (h : GrF base W v n f) (hs : ∀ g, base ≤ g → g < W.heap.size → W'.heap[g]? = W.heap[g]?) : GrF base W' v n f := by
  refine ⟨⟨h.1.1, ?_⟩, fun j hj => ?_⟩
  · rcases h.1.2 with q | ⟨g, cap, cur, e1, hb, hg, r⟩
    · exact .inl q
    · exact .inr ⟨g, cap, cur, e1, hb, (hs g hb (Array.getElem?_eq_some_iff.1 hg).1).trans hg, r⟩
  · obtain ⟨t, k, c, U, h1, h2, h3⟩ := h.2 j hj
    exact ⟨t, k, c, U, h1, h2, h3.same (fun g hg => hs g (World.ownsRow.lt h3 g hg).1 (World.ownsRow.lt h3 g hg).2)⟩
theorem GrL.below {base n : Nat} {W W' : World} {v : Value} (h : GrL base W v n) (hb : Below W.heap.size W W') : GrL base W' v n := by
  obtain ⟨f, h⟩ := h
  exact ⟨f, h.same fun g _ q => hb.block g q⟩
theorem GrL.beside {base n r : Nat} {W W' : World} {v : Value} (h : GrL base W v n) (hb : Beside r W W') (hr : r < base) : GrL base W' v n := by
  obtain ⟨f, h⟩ := h
  exact ⟨f, h.same fun g q1 q => hb.2.2.2.2 g q (by omega)⟩
theorem GrL.val {base n : Nat} {W : World} {v : Value} (h : GrL base W v n) : ∃ t cap, v = .slice t n cap := by
  obtain ⟨f, h1, _⟩ := h
  rcases h1.2 with ⟨e, q⟩ | ⟨g, cap, cur, e, _⟩
  · exact ⟨none, 0, by rw [e, q]⟩
  · exact ⟨_, cap, e⟩
theorem GrL.lit (W : World) (base : Nat) (hb : base ≤ W.heap.size) : GrL base (W.alloc (.cells #[] 30)) (.slice (some ⟨W.heap.size, 0, none⟩) 0 0) 0 :=
  ⟨fun _ => .int .i64 0, by simpa [valsV] using World.ownsRow_lit (base := base) (size := 1) (e := 30) W #[] 0 hb (by simp [maxLen]) (by simp), fun j hj => by omega⟩
theorem GrL.made (W : World) (base n : Nat) (hb : base ≤ W.heap.size) (hn : n ≤ 1000) : GrL base (W.alloc (.cells (madeCells #[.slice none 0 0] n) 30)) (.slice (some ⟨W.heap.size, 0, none⟩) n n) n := by
  refine ⟨fun _ => .slice none 0 0, ?_, fun j hj => ⟨none, 0, 0, fun _ => 0, rfl, by omega, Lst.nilL _ _ _ _ _⟩⟩
  have := World.ownsRow_lit (base := base) (size := 1) (e := 30) W (madeCells #[.slice none 0 0] n) n hb (by unfold maxLen; omega) (by simp [madeCells])
  have e : (madeCells #[Value.slice none 0 0] n).toList = valsV (fun _ => .slice none 0 0) n := by
    rw [toList_madeCells_one]
    apply List.ext_getElem?
    intro i
    simp only [valsV, List.getElem?_replicate, List.getElem?_map]
    by_cases q : i < n
    · simp [q]
    · simp [q]
  rw [e] at this
  exact this
theorem valsV_one (f : Nat → Value) (n : Nat) (a : Value) : valsV f n ++ [a] = valsV (fun j => if j = n then a else f j) (n + 1) := by
  unfold valsV
  rw [List.range_succ, List.map_append]
  congr 1
  · refine List.map_congr_left fun j hj => ?_
    have := List.mem_range.1 hj
    rw [if_neg (by omega)]
  · simp
theorem info_slG : (Try.prog.info? 30).map (fun i => (i.zero, i.size, i.bytes)) = some (some (.slice none 0 0), 1, 24) := by kernel_rfl
theorem list_Group {ops : Array Oper} {rest : List Oper} {o : Oper} {a : Act} {Q : Exit → Act → World → Prop} {W : World} {tt : TypeId} {t : Option Addr} {k c : Nat} (base : Nat) (v : Value) (n : Nat) (U : Nat → Int) (s z : Operand) (hgd : o.guard = none)
    (ho : o.op = .call { callee := .builtin .append, args := #[s, z], argTypes := #[27, 27] }) (hs : a.eval s = v) (hx : a.eval z = .slice (some ⟨W.heap.size, 0, none⟩) 1 1) (hown : GrL base W v n) (hL : Lst base 2 1 W (.slice t k c) k U) (h2 : k ≤ 13) (hk : n ≤ 100000) (hb : base ≤ W.heap.size)
    (h : ∀ g cap w', GrL base w' (.slice (some ⟨g, 0, none⟩) (n + 1) cap) (n + 1) → Below base W w' → wpList Try.prog ops Q rest (a.put o.dst (.slice (some ⟨g, 0, none⟩) (n + 1) cap)) w') :
    wpList Try.prog ops Q (o :: rest) a (W.alloc (.cells #[.slice t k c] tt)) := by
  obtain ⟨i0, hi, hz0, hz1, hz2⟩ := info_parts info_slG
  obtain ⟨f, hF⟩ := hown
  refine wpList_append_lies _ hgd s z 27 ho base 30 i0 (.slice none 0 0) 1 24 Try.underlying27 hi hz0 hz1 hz2 rfl (by decide) v n _ hs (hF.1.alloc _) ⟨W.heap.size, 0, none⟩ 1 1 [.slice t k c] hx rfl (newsOne _ _ _) ?_ (by decide) (by unfold maxLen; omega) (by omega) (by simp; omega) _ rfl ?_
  · intro u hu
    simp at hu
    subst hu; rfl
  · intro g cap w' q1 q2 _ q3
    have gr := grown_new q2
    have keep : ∀ g t k c U, Lst base 2 1 W (.slice t k c) k U → (Value.slice t k c).ownBlock = some g → w'.heap[g]? = W.heap[g]? := fun g t k c U hl hg => gr.block g (World.ownsRow.lt hl g hg).2 (fun e => by
      rcases hl.2 with ⟨e1, _⟩ | ⟨g1, c1, u1, e1, _, hg1, _⟩
      · rw [e1] at hg; cases hg
      · rw [e1] at hg; cases hg
        rcases hF.1.2 with ⟨e2, _⟩ | ⟨g2, c2, u2, e2, _, hg2, _⟩
        · rw [e2] at e; cases e
        · rw [e2] at e; cases e
          rw [hg1] at hg2; cases hg2)
    refine h g cap w' ⟨fun j => if j = n then .slice t k c else f j, ?_, fun j hj => ?_⟩ (grown_below gr hb (own_block hF.1))
    · rw [← valsV_one]; exact q1
    · by_cases e : j = n
      · subst e
        exact ⟨t, k, c, U, if_pos rfl, h2, hL.same (fun g hg => keep g t k c U hL hg)⟩
      · obtain ⟨t', k', c', U', h1, h2, h3⟩ := hF.2 j (by omega)
        exact ⟨t', k', c', U', by show (if j = n then _ else f j) = _; rw [if_neg e]; exact h1, h2, h3.same (fun g hg => keep g t' k' c' U' h3 hg)⟩
theorem GrL.rows {base n : Nat} {W : World} {t : Option Addr} {cap : Nat} (h : GrL base W (.slice t n cap) n) : ∃ K V, RowLL W t n K V ∧ ∀ j, j < n → K j ≤ 13 := by
  obtain ⟨f, h1, h2⟩ := h
  have key : ∀ j, ∃ (k : Nat) (V : Nat → Int), j < n → (∃ b o a c, t = some ⟨b, o, none⟩ ∧ b < W.heap.size ∧ W.cell? ⟨b, o + j, none⟩ = some (.slice a k c) ∧ RowI W a k V) ∧ k ≤ 13 := fun j => by
    by_cases hj : j < n
    · obtain ⟨a, k, c, U, e1, e2, hL⟩ := h2 j hj
      refine ⟨k, U, fun _ => ⟨?_, e2⟩⟩
      obtain ⟨t', cap', e', hO⟩ := hL.own
      cases e'
      rw [Nat.mul_one] at hO
      rcases h1.2 with ⟨_, q⟩ | ⟨g, cap', cur, e, hb, hg, _⟩
      · omega
      · cases e
        exact ⟨g, 0, _, c, rfl, (Array.getElem?_eq_some_iff.1 hg).1, by rw [Nat.zero_add, h1.cellAt j (by omega), valsV_at f (by omega), e1], hO.row⟩
    · exact ⟨0, fun _ => 0, fun q => (hj q).elim⟩
  exact ⟨fun j => Classical.choose (key j), fun j => Classical.choose (Classical.choose_spec (key j)), fun j hj => (Classical.choose_spec (Classical.choose_spec (key j)) hj).1, fun j hj => (Classical.choose_spec (Classical.choose_spec (key j)) hj).2⟩
end Go.Proofs.Ytpaiajeigdifcaa
