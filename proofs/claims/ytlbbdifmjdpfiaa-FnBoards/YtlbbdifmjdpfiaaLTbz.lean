/-
What is proved: a list of lists of int64s on its way: made first and filled row by row, or appended to row by row.
-/
import Derived.Test.YtlbbdifmjdpfiaaLLRbz
import Derived.Test.YtlbbdifmjdpfiaaOwnLz
namespace Go.Proofs.Ytlbbdifmjdpfiaa
set_option maxRecDepth 40000
open Go.ChangeShapes Go.WideShapes Go.ChangeAt Go.RowKit
set_option linter.unusedVariables false
set_option linter.unusedSimpArgs false

theorem OwnLL.bound {S : Nat → Prop} {w : World} {s : Option Addr} {n : Nat} {K : Nat → Nat} {V : Nat → Nat → Int} (h : OwnLL S w s n K V) : OwnLL (fun q => S q ∧ q < w.heap.size) w s n K V := by
  obtain ⟨A, h, hi⟩ := h
  refine ⟨A, fun i q => ?_, hi⟩
  obtain ⟨b, a, c, e, g1, hl, hf, hc, hr⟩ := h i q
  refine ⟨b, a, c, e, ⟨g1, hl⟩, hl, hf, hc, fun z => ?_⟩
  obtain ⟨ea, n1, n2, n3, hv⟩ := hr z
  exact ⟨ea, n1, ⟨n2, n3⟩, n3, hv⟩
/-- A list of n lists in the block p, of which k are there. -/
def LT (S : Nat → Prop) (p : Nat) (wr : World) (n k : Nat) (K : Nat → Nat) (V : Nat → Nat → Int) : Prop := S p ∧ p < wr.heap.size ∧ (∀ o, wr.frozen? ⟨p, o, none⟩ = false) ∧ (∀ i, k ≤ i → i < n → wr.cell? ⟨p, i, none⟩ = some (.slice none 0 0)) ∧ OwnLL S wr (some ⟨p, 0, none⟩) k K V
theorem LT.below {S : Nat → Prop} {p : Nat} {wr : World} {n k : Nat} {K : Nat → Nat} {V : Nat → Nat → Int} {w2 : World} (h : LT S p wr n k K V) (hb : Below wr.heap.size wr w2) : LT S p w2 n k K V :=
  ⟨h.1, Nat.lt_of_lt_of_le h.2.1 hb.size, fun o => (hb.frozen (p := ⟨p, o, none⟩) h.2.1).trans (h.2.2.1 o), fun i h1 h2 => (hb.cell (p := ⟨p, i, none⟩) h.2.1).trans (h.2.2.2.1 i h1 h2), h.2.2.2.2.below hb⟩
theorem LT.start {S : Nat → Prop} {w wr : World} {p n : Nat} {K : Nat → Nat} {V : Nat → Nat → Int} (hS : S p) (hp : p < wr.heap.size) (hf : ∀ o, wr.frozen? ⟨p, o, none⟩ = false) (hc : ∀ i, i < n → wr.cell? ⟨p, i, none⟩ = some (.slice none 0 0)) : LT S p wr n 0 K V :=
  ⟨hS, hp, hf, fun i _ h => hc i h, fun _ => 0, fun i hi => absurd hi (Nat.not_lt_zero i), fun i i' hi => absurd hi (Nat.not_lt_zero i)⟩
theorem LT.on {S : Nat → Prop} {p : Nat} {wr : World} {n k : Nat} {K : Nat → Nat} {V : Nat → Nat → Int} {w3 : World} {s : Option Addr} {c : Nat} (h : LT S p wr n k K V) (hk : k < n) (ho : OwnI wr.heap.size w3 s (K k) (V k)) (h3 : Below wr.heap.size wr w3) (hS : ∀ q, wr.heap.size ≤ q → S q) : LT S p (w3.setCell ⟨p, k, none⟩ (.slice s (K k) c)) n (k + 1) K V := by
  have h2 := h.below h3
  obtain ⟨h1, hz, hf, hc, A, hA, hi⟩ := h2
  have hz0 := h.2.1
  have hA0 : ∀ i, i < k → 0 < K i → A i < wr.heap.size ∨ True := fun _ _ _ => .inr trivial
  have bs := Beside.setCell p w3 k (.slice s (K k) c)
  obtain ⟨-, -, -, -, A', hA', hi'⟩ := h
  refine ⟨h1, by simpa using hz, fun o => by simp [go_sem, hf], fun i h1 h2 => ?_, ?_⟩
  · rw [World.cell?_setCell_other _ _ _ _ (by intro q; cases q; omega)]
    exact hc i (by omega) h2
  · by_cases z : 0 < K k
    · obtain ⟨b, rfl, hb1, hb2, -, -⟩ := ho 0 z
      refine ⟨fun i => if i = k then b else A' i, fun i q => ?_, fun i i' q1 q2 z1 z2 e => ?_⟩
      · by_cases e : i = k
        · subst e
          refine ⟨p, some ⟨b, 0, none⟩, c, rfl, h1, by simpa using hz, fun o => by simp [go_sem, hf], World.cell?_setCell_same' _ _ _ (by rw [hc i (Nat.le_refl _) hk]; rfl), fun _ => ⟨by simp, by simp; omega, by simp only [if_true]; exact hS _ hb1, by simpa using hb2, fun j hj => ?_⟩⟩
          simp only [if_true]
          obtain ⟨b', eb, -, hb', hcj, hfj⟩ := ho j hj
          cases eb
          have ne : b ≠ p := by omega
          exact ⟨(bs.cell (p := ⟨b, j, none⟩) hb2 ne).trans hcj, (bs.frozen (p := ⟨b, j, none⟩) hb2 ne).trans hfj⟩
        · obtain ⟨b2, a2, c2, e2, g1, hl, hf2, hc2, hr⟩ := hA' i (by omega)
          cases e2
          have hc3 := (h3.cell (p := ⟨p, i, none⟩) hz0).trans hc2
          refine ⟨p, a2, c2, rfl, h1, by simpa using hz, fun o => by simp [go_sem, hf], by rw [World.cell?_setCell_other _ _ _ _ (by intro q; cases q; exact e rfl)]; exact hc3, fun z' => ?_⟩
          obtain ⟨ea, n1, n2, n3, hv⟩ := hr z'
          simp only [if_neg e]
          have z3 := Nat.lt_of_lt_of_le n3 h3.size
          exact ⟨ea, n1, n2, by simpa using z3, fun j hj => ⟨(bs.cell (p := ⟨A' i, j, none⟩) z3 n1).trans ((h3.cell (p := ⟨A' i, j, none⟩) n3).trans (hv j hj).1), (bs.frozen (p := ⟨A' i, j, none⟩) z3 n1).trans ((h3.frozen (p := ⟨A' i, j, none⟩) n3).trans (hv j hj).2)⟩⟩
      · have lt : ∀ i, i < k → 0 < K i → A' i < wr.heap.size := fun i q z' => by
          obtain ⟨b2, a2, c2, e2, g1, hl, hf2, hc2, hr⟩ := hA' i q
          exact (hr z').2.2.2.1
        by_cases e1 : i = k
        · by_cases e2 : i' = k
          · omega
          · simp only [if_pos e1, if_neg e2] at e
            have := lt i' (by omega) z2
            omega
        · by_cases e2 : i' = k
          · simp only [if_neg e1, if_pos e2] at e
            have := lt i (by omega) z1
            omega
          · simp only [if_neg e1, if_neg e2] at e
            exact hi' i i' (by omega) (by omega) z1 z2 e
    · refine ⟨A', fun i q => ?_, fun i i' q1 q2 z1 z2 e => ?_⟩
      · by_cases e : i = k
        · subst e
          exact ⟨p, s, c, rfl, h1, by simpa using hz, fun o => by simp [go_sem, hf], World.cell?_setCell_same' _ _ _ (by rw [hc i (Nat.le_refl _) hk]; rfl), fun z' => absurd z' z⟩
        · obtain ⟨b2, a2, c2, e2, g1, hl, hf2, hc2, hr⟩ := hA' i (by omega)
          cases e2
          have hc3 := (h3.cell (p := ⟨p, i, none⟩) hz0).trans hc2
          refine ⟨p, a2, c2, rfl, h1, by simpa using hz, fun o => by simp [go_sem, hf], by rw [World.cell?_setCell_other _ _ _ _ (by intro q; cases q; exact e rfl)]; exact hc3, fun z' => ?_⟩
          obtain ⟨ea, n1, n2, n3, hv⟩ := hr z'
          have z3 := Nat.lt_of_lt_of_le n3 h3.size
          exact ⟨ea, n1, n2, by simpa using z3, fun j hj => ⟨(bs.cell (p := ⟨A' i, j, none⟩) z3 n1).trans ((h3.cell (p := ⟨A' i, j, none⟩) n3).trans (hv j hj).1), (bs.frozen (p := ⟨A' i, j, none⟩) z3 n1).trans ((h3.frozen (p := ⟨A' i, j, none⟩) n3).trans (hv j hj).2)⟩⟩
      · have ne1 : i ≠ k := fun q => z (q ▸ z1)
        have ne2 : i' ≠ k := fun q => z (q ▸ z2)
        exact hi' i i' (by omega) (by omega) z1 z2 e
theorem LT.done {S : Nat → Prop} {p : Nat} {wr : World} {n : Nat} {K : Nat → Nat} {V : Nat → Nat → Int} (h : LT S p wr n n K V) : OwnLL S wr (some ⟨p, 0, none⟩) n K V := h.2.2.2.2
theorem info_sl : (Try.prog.info? 33).map (fun i => (i.zero, i.size, i.bytes)) = some (some (.slice none 0 0), 1, 24) := by kernel_rfl
/-- One list appended to a list of lists. -/
theorem list_slh {ops : Array Oper} {rest : List Oper} {o : Oper} {a : Act} {Q : Exit → Act → World → Prop} {W : World} {t : TypeId} {x : Value} (hx1 : x.oneCell' = true) (base : Nat) (v : Value) (k : Nat) (xs : List Value) (s z : Operand) (hgd : o.guard = none)
    (ho : o.op = .call { callee := .builtin .append, args := #[s, z], argTypes := #[30, 30] }) (hs : a.eval s = v) (hx : a.eval z = .slice (some ⟨W.heap.size, 0, none⟩) 1 1) (hown : W.ownsRow base 33 1 v k xs) (hk : k ≤ 10000000) (hb : base ≤ W.heap.size)
    (h : ∀ g cap w', w'.ownsRow base 33 1 (.slice (some ⟨g, 0, none⟩) (k + 1) cap) (k + 1) (xs ++ [x]) → W.grownBy w' v.ownBlock → g < w'.heap.size → (v.ownBlock = some g ∨ W.heap.size < g) → wpList Try.prog ops Q rest (a.put o.dst (.slice (some ⟨g, 0, none⟩) (k + 1) cap)) w') :
    wpList Try.prog ops Q (o :: rest) a (W.alloc (.cells #[x] t)) := by
  obtain ⟨i0, hi, hz0, hz1, hz2⟩ := info_parts info_sl
  refine wpList_append_lies _ hgd s z 30 ho base 33 i0 (.slice none 0 0) 1 24 Try.underlying30 hi hz0 hz1 hz2 rfl (by decide) v k xs hs (hown.alloc _) ⟨W.heap.size, 0, none⟩ 1 1 [x] hx rfl (newsOne _ _ _) ?_ (by decide) (by unfold maxLen; omega) (by omega) (by simp; omega) _ rfl ?_
  · intro u hu
    simp at hu
    subst hu; exact hx1
  · intro g cap w' h1 h2 h4 h3
    refine h g cap w' h1 (grown_new h2) h3 ?_
    rcases h4 with h4 | h4
    · exact .inl h4
    · right; rw [h4]; simp
/-- A list of lists that is appended to, k of them there. -/
def MT (base : Nat) (w wr : World) (v : Value) (k : Nat) (xs : List Value) (K : Nat → Nat) (V : Nat → Nat → Int) : Prop := Below base w wr ∧ wr.ownsRow base 33 1 v k xs ∧ ∃ A : Nat → Nat, (∀ i, i < k → ∃ a c, xs[i]? = some (.slice a (K i) c) ∧ (0 < K i → a = some ⟨A i, 0, none⟩ ∧ base ≤ A i ∧ A i < wr.heap.size ∧ v.ownBlock ≠ some (A i) ∧ ∀ j, j < K i → wr.cell? ⟨A i, j, none⟩ = some (.int .i64 (V i j)) ∧ wr.frozen? ⟨A i, j, none⟩ = false)) ∧ ∀ i i', i < k → i' < k → 0 < K i → 0 < K i' → A i = A i' → i = i'
theorem own_lt {w : World} {base : Nat} {e : TypeId} {size : Nat} {v : Value} {n : Nat} {xs : List Value} (h : w.ownsRow base e size v n xs) : ∀ r, v.ownBlock = some r → r < w.heap.size := fun r hr => by
  rcases h.2 with ⟨q, _⟩ | ⟨g', cap, cur, e1, _, hg', _⟩
  · rw [q] at hr; simp [Value.ownBlock] at hr
  · rw [e1] at hr
    have : g' = r := by simpa [Value.ownBlock] using hr
    subst this
    rcases Nat.lt_or_ge g' w.heap.size with z | z
    · exact z
    · rw [Array.getElem?_eq_none z] at hg'; cases hg'
theorem MT.below {base : Nat} {w wr w2 : World} {v : Value} {k : Nat} {xs : List Value} {K : Nat → Nat} {V : Nat → Nat → Int} (h : MT base w wr v k xs K V) (hb : Below wr.heap.size wr w2) (hz : base ≤ wr.heap.size) : MT base w w2 v k xs K V := by
  obtain ⟨h0, h1, A, h2, h3⟩ := h
  refine ⟨h0.trans (hb.mono hz), own_same h1 (fun g hg => hb.block g (own_lt h1 g hg)), A, fun i hi => ?_, h3⟩
  obtain ⟨a, c, e, hr⟩ := h2 i hi
  refine ⟨a, c, e, fun z => ?_⟩
  obtain ⟨ea, n1, n2, n3, hv⟩ := hr z
  exact ⟨ea, n1, Nat.lt_of_lt_of_le n2 hb.size, n3, fun j hj => ⟨(hb.cell (p := ⟨A i, j, none⟩) n2).trans (hv j hj).1, (hb.frozen (p := ⟨A i, j, none⟩) n2).trans (hv j hj).2⟩⟩
theorem MT.lit (w : World) {base : Nat} {K : Nat → Nat} {V : Nat → Nat → Int} (hb : base ≤ w.heap.size) : MT base w (w.alloc (.cells #[] 33)) (.slice (some ⟨w.heap.size, 0, none⟩) 0 0) 0 [] K V :=
  ⟨(Below.refl _ _).alloc hb _, by simpa using World.ownsRow_lit (base := base) (size := 1) (e := 33) w #[] 0 hb (by simp [maxLen]) (by simp), fun _ => 0, fun i hi => absurd hi (Nat.not_lt_zero i), fun i i' hi => absurd hi (Nat.not_lt_zero i)⟩
/-- A row is appended: w1 is the world with the row in it. -/
theorem MT.on {base : Nat} {w wr w1 w2 : World} {v : Value} {k : Nat} {xs : List Value} {K : Nat → Nat} {V : Nat → Nat → Int} {s : Option Addr} {c g cap : Nat} (h : MT base w wr v k xs K V) (hb : Below wr.heap.size wr w1) (hz : base ≤ wr.heap.size) (ho : OwnI wr.heap.size w1 s (K k) (V k))
    (hown : w2.ownsRow base 33 1 (.slice (some ⟨g, 0, none⟩) (k + 1) cap) (k + 1) (xs ++ [.slice s (K k) c])) (hg : w1.grownBy w2 v.ownBlock) (hat : v.ownBlock = some g ∨ w1.heap.size < g) : MT base w w2 (.slice (some ⟨g, 0, none⟩) (k + 1) cap) (k + 1) (xs ++ [.slice s (K k) c]) K V := by
  obtain ⟨h0, h1, A, h2, h3⟩ := h
  have z1 := hb.size
  have z2 := hg.size
  have hlx : xs.length = k := by have := h1.1; simpa using this
  have gA : ∀ x, x < w1.heap.size → v.ownBlock ≠ some x → g ≠ x := fun x hx hn e => by
    rcases hat with q | q
    · exact hn (by rw [q, e])
    · omega
  have lt : ∀ i, i < k → 0 < K i → A i < wr.heap.size := fun i q z' => by
    obtain ⟨a, c, e, hr⟩ := h2 i q
    exact (hr z').2.2.1
  have vlt : ∀ x, wr.heap.size ≤ x → v.ownBlock ≠ some x := fun x hx e => by have := own_lt h1 x e; omega
  have old : ∀ i, i < k → ∃ a c', (xs ++ [Value.slice s (K k) c])[i]? = some (.slice a (K i) c') ∧ (0 < K i → a = some ⟨A i, 0, none⟩ ∧ base ≤ A i ∧ A i < w2.heap.size ∧ g ≠ A i ∧ ∀ j, j < K i → w2.cell? ⟨A i, j, none⟩ = some (.int .i64 (V i j)) ∧ w2.frozen? ⟨A i, j, none⟩ = false) := fun i hi => by
    obtain ⟨a, c', e, hr⟩ := h2 i hi
    refine ⟨a, c', by rw [List.getElem?_append_left (by omega)]; exact e, fun z => ?_⟩
    obtain ⟨ea, n1, n2, n3, hv⟩ := hr z
    have n2' : A i < w1.heap.size := by omega
    exact ⟨ea, n1, by omega, gA _ n2' n3, fun j hj => ⟨(hg.cell_far ⟨A i, j, none⟩ n2' (fun q => n3 q.symm)).trans ((hb.cell (p := ⟨A i, j, none⟩) n2).trans (hv j hj).1), (hg.frozen_far ⟨A i, j, none⟩ n2' (fun q => n3 q.symm)).trans ((hb.frozen (p := ⟨A i, j, none⟩) n2).trans (hv j hj).2)⟩⟩
  have hnew : (xs ++ [Value.slice s (K k) c])[k]? = some (.slice s (K k) c) := by rw [List.getElem?_append_right (by omega), hlx]; simp
  refine ⟨(h0.trans (hb.mono hz)).trans (grown_below hg (by omega) (own_block h1)), hown, ?_⟩
  by_cases z : 0 < K k
  · obtain ⟨b, rfl, hb1, hb2, -, -⟩ := ho 0 z
    refine ⟨fun i => if i = k then b else A i, fun i q => ?_, fun i i' q1 q2 y1 y2 e => ?_⟩
    · by_cases e : i = k
      · subst e
        refine ⟨_, _, hnew, fun _ => ⟨by simp, by simp; omega, by simp; omega, ?_, fun j hj => ?_⟩⟩
        · simp only [if_true]
          show some g ≠ some b
          intro q
          have q' : g = b := by simpa using q
          exact gA b hb2 (vlt b hb1) q'
        · simp only [if_true]
          obtain ⟨b', eb, -, hb', hcj, hfj⟩ := ho j hj
          cases eb
          exact ⟨(hg.cell_far ⟨b, j, none⟩ hb2 (fun q => vlt b hb1 q.symm)).trans hcj, (hg.frozen_far ⟨b, j, none⟩ hb2 (fun q => vlt b hb1 q.symm)).trans hfj⟩
      · obtain ⟨a, c', e1, hr⟩ := old i (by omega)
        refine ⟨a, c', e1, fun z' => ?_⟩
        obtain ⟨ea, n1, n2, n3, hv⟩ := hr z'
        simp only [if_neg e]
        exact ⟨ea, n1, n2, fun q => by have q' : some g = some (A i) := q; cases q'; exact n3 rfl, hv⟩
    · by_cases e1 : i = k
      · by_cases e2 : i' = k
        · omega
        · simp only [if_pos e1, if_neg e2] at e
          have := lt i' (by omega) y2
          omega
      · by_cases e2 : i' = k
        · simp only [if_neg e1, if_pos e2] at e
          have := lt i (by omega) y1
          omega
        · simp only [if_neg e1, if_neg e2] at e
          exact h3 i i' (by omega) (by omega) y1 y2 e
  · refine ⟨A, fun i q => ?_, fun i i' q1 q2 y1 y2 e => ?_⟩
    · by_cases e : i = k
      · subst e
        exact ⟨_, _, hnew, fun z' => absurd z' z⟩
      · obtain ⟨a, c', e1, hr⟩ := old i (by omega)
        refine ⟨a, c', e1, fun z' => ?_⟩
        obtain ⟨ea, n1, n2, n3, hv⟩ := hr z'
        exact ⟨ea, n1, n2, fun q => by have q' : some g = some (A i) := q; cases q'; exact n3 rfl, hv⟩
    · have ne1 : i ≠ k := fun q => z (q ▸ y1)
      have ne2 : i' ≠ k := fun q => z (q ▸ y2)
      exact h3 i i' (by omega) (by omega) y1 y2 e
theorem MT.done {base : Nat} {w wr : World} {v : Value} {k : Nat} {xs : List Value} {K : Nat → Nat} {V : Nat → Nat → Int} (h : MT base w wr v k xs K V) : ∃ s c, v = .slice s k c ∧ OwnLL (fun q => base ≤ q ∧ q < wr.heap.size) wr s k K V := by
  obtain ⟨h0, h1, A, h2, h3⟩ := h
  rcases Nat.eq_zero_or_pos k with z | z
  · subst z
    rcases h1.2 with ⟨q, _⟩ | ⟨g', cap, cur, e1, _⟩
    · exact ⟨none, 0, q, A, fun i hi => absurd hi (Nat.not_lt_zero i), fun i i' hi => absurd hi (Nat.not_lt_zero i)⟩
    · exact ⟨_, _, e1, A, fun i hi => absurd hi (Nat.not_lt_zero i), fun i i' hi => absurd hi (Nat.not_lt_zero i)⟩
  · obtain ⟨g, cap, e, hb, hl⟩ := h1.form z
    subst e
    refine ⟨_, _, rfl, A, fun i hi => ?_, h3⟩
    obtain ⟨a, c, e, hr⟩ := h2 i hi
    have hc := h1.cellAt i (by omega)
    refine ⟨g, a, c, rfl, ⟨hb, hl⟩, hl, fun o => h1.frozenAt o, by rw [hc, e], fun z' => ?_⟩
    obtain ⟨ea, n1, n2, n3, hv⟩ := hr z'
    exact ⟨ea, fun q => n3 (by rw [q]; rfl), ⟨n1, n2⟩, n2, hv⟩
end Go.Proofs.Ytlbbdifmjdpfiaa
