/-
What is proved: what a queue of machines is in memory, told by which place stands where; how it is kept, swapped in, cut and appended to.
-/
import Derived.Test.YtcialcejmjggeaaShdN
import Derived.Test.YtcialcejmjggeaaTn
import Derived.Test.YtcialcejmjggeaaOwnV
import Derived.Test.YtcialcejmjggeaaPw
import Derived.Deep.AppendLies

namespace Go.Proofs.Ytcialcejmjggeaa
set_option maxRecDepth 40000
open Go.ChangeShapes Go.WideShapes Go.ChangeAt Go.RowKit
set_option linter.unusedVariables false
set_option linter.unusedSimpArgs false

def byV (sh : Bool) : Value := if sh = true then .iface 53 (.agg #[]) else .iface 61 (.agg #[])
def kO (sh : Bool) (V : Nat → Int) : Nat → Int := if sh = true then kShed V else kStart V
def plV (V : Nat → Int) (a : Nat) : Value := .agg #[.int .i64 (V (a * 4)), .int .i64 (V (a * 4 + 1)), .int .i64 (V (a * 4 + 2)), .int .i64 (V (a * 4 + 3)), .int .i64 (a : Int)]
def qI (q : Nat) : Value := .iface 50 (.pointer (some ⟨q, 0, none⟩))
def qF (V : Nat → Int) (P : Nat → Nat) (k : Nat) : Int := if k % 5 = 4 then (P (k / 5) : Int) else V (P (k / 5) * 4 + k % 5)
theorem qF_at (V : Nat → Int) (P : Nat → Nat) (i : Nat) : qF V P (i * 5) = V (P i * 4) ∧ qF V P (i * 5 + 1) = V (P i * 4 + 1) ∧ qF V P (i * 5 + 2) = V (P i * 4 + 2) ∧ qF V P (i * 5 + 3) = V (P i * 4 + 3) ∧ qF V P (i * 5 + 4) = P i := by
  have m0 : i * 5 % 5 = 0 := by omega
  have m1 : (i * 5 + 1) % 5 = 1 := by omega
  have m2 : (i * 5 + 2) % 5 = 2 := by omega
  have m3 : (i * 5 + 3) % 5 = 3 := by omega
  have m4 : (i * 5 + 4) % 5 = 4 := by omega
  have d0 : i * 5 / 5 = i := by omega
  have d1 : (i * 5 + 1) / 5 = i := by omega
  have d2 : (i * 5 + 2) / 5 = i := by omega
  have d3 : (i * 5 + 3) / 5 = i := by omega
  have d4 : (i * 5 + 4) / 5 = i := by omega
  unfold qF
  rw [m0, m1, m2, m3, m4, d0, d1, d2, d3, d4]
  exact ⟨rfl, rfl, rfl, rfl, rfl⟩
/-- A queue. -/
def QAt (X : Nat → Prop) (q : Nat) (w : World) (sh : Bool) (n : Nat) (V : Nat → Int) (P : Nat → Nat) : Prop :=
  X q ∧ ∃ s cap, w.heap[q]? = some (.cells #[byV sh, .slice s n cap] 75 (0, 0)) ∧ w.ownsRow 0 55 5 (.slice s n cap) n (vals (qF V P) (n * 5)) ∧ ∀ g, (Value.slice s n cap).ownBlock = some g → X g ∧ g ≠ q
def PlAt (w : World) (g i : Nat) (V : Nat → Int) (a : Nat) : Prop := w.cell? ⟨g, i * 5, none⟩ = some (.int .i64 (V (a * 4))) ∧ w.cell? ⟨g, i * 5 + 1, none⟩ = some (.int .i64 (V (a * 4 + 1))) ∧ w.cell? ⟨g, i * 5 + 2, none⟩ = some (.int .i64 (V (a * 4 + 2))) ∧ w.cell? ⟨g, i * 5 + 3, none⟩ = some (.int .i64 (V (a * 4 + 3))) ∧ w.cell? ⟨g, i * 5 + 4, none⟩ = some (.int .i64 (a : Int))
theorem row_turn {S : Nat → Prop} {w w' : World} {base : Nat} {e : TypeId} {size : Nat} {v : Value} {n : Nat} {xs : List Value} (h : w.ownsRow base e size v n xs) (hs : Turn S w w') (hd : ∀ g, v.ownBlock = some g → ¬ S g) : w'.ownsRow base e size v n xs := by
  refine ⟨h.1, ?_⟩
  rcases h.2 with q | ⟨g, cap, cur, e1, hb, hg, r⟩
  · exact .inl q
  · exact .inr ⟨g, cap, cur, e1, hb, (hs.2.2.2.2 g (Array.getElem?_eq_some_iff.1 hg).1 (hd g (by rw [e1]; rfl))).trans hg, r⟩
section
variable {X : Nat → Prop} {q : Nat} {w w' : World} {sh : Bool} {n : Nat} {V : Nat → Int} {P : Nat → Nat}
theorem QAt.lt (h : QAt X q w sh n V P) : q < w.heap.size := by
  obtain ⟨_, s, cap, h1, _⟩ := h
  exact (Array.getElem?_eq_some_iff.1 h1).1
theorem QAt.turn {S : Nat → Prop} (h : QAt X q w sh n V P) (hs : Turn S w w') (hd : ∀ b, b < w.heap.size → X b → ¬ S b) : QAt X q w' sh n V P := by
  have hl := h.lt
  obtain ⟨hX, s, cap, h1, h2, h3⟩ := h
  exact ⟨hX, s, cap, (hs.2.2.2.2 q hl (hd q hl hX)).trans h1, row_turn h2 hs (fun g hg => hd g (h2.lt g hg).2 (h3 g hg).1), h3⟩
theorem QAt.below (h : QAt X q w sh n V P) (hs : Below w.heap.size w w') : QAt X q w' sh n V P := h.turn (Turn.grown (S := fun _ => False) hs) (fun _ _ _ f => f)
theorem QAt.mono {Y : Nat → Prop} (h : QAt X q w sh n V P) (hY : ∀ b, b < w.heap.size → X b → Y b) : QAt Y q w sh n V P := by
  have hl := h.lt
  obtain ⟨hX, s, cap, h1, h2, h3⟩ := h
  exact ⟨hY q hl hX, s, cap, h1, h2, fun g hg => ⟨hY g (h2.lt g hg).2 (h3 g hg).1, (h3 g hg).2⟩⟩
theorem QAt.congr {Q : Nat → Nat} (h : QAt X q w sh n V P) (e : ∀ i, i < n → P i = Q i) : QAt X q w sh n V Q := by
  obtain ⟨hX, s, cap, h1, h2, h3⟩ := h
  refine ⟨hX, s, cap, h1, ?_, h3⟩
  have : vals (qF V P) (n * 5) = vals (qF V Q) (n * 5) := vals_congr fun j hj => by unfold qF; rw [e (j / 5) (by omega)]
  rw [← this]; exact h2
theorem QAt.len (h : QAt X q w sh n V P) : ∃ s cap, w.cell? ⟨q, 1, none⟩ = some (.slice s n cap) := by
  obtain ⟨hX, s, cap, h1, h2, h3⟩ := h
  exact ⟨s, cap, cell_of_row w q 1 _ _ _ h1⟩
theorem QAt.open_ (h : QAt X q w sh n V P) (hn : 0 < n) : ∃ g cap, w.cell? ⟨q, 0, none⟩ = some (byV sh) ∧ w.cell? ⟨q, 1, none⟩ = some (.slice (some ⟨g, 0, none⟩) n cap) ∧ (∀ o, w.frozen? ⟨q, o, none⟩ = false) ∧ (∀ o, w.frozen? ⟨g, o, none⟩ = false) ∧ q < w.heap.size ∧ g < w.heap.size ∧ g ≠ q ∧ X q ∧ X g ∧ n ≤ cap ∧ ∀ i, i < n → PlAt w g i V (P i) := by
  have hl := h.lt
  obtain ⟨hX, s, cap, h1, h2, h3⟩ := h
  have h2' := h2
  rcases h2.2 with ⟨e, e2⟩ | ⟨g, cap', cur, e, hb, hg, hc, _⟩
  · omega
  · cases e
    refine ⟨g, cap, cell_of_row w q 0 _ _ _ h1, cell_of_row w q 1 _ _ _ h1, fun o => frozen_of_row w q o _ _ h1, h2'.frozenAt, hl, (Array.getElem?_eq_some_iff.1 hg).1, (h3 g rfl).2, hX, (h3 g rfl).1, hc, fun i hi => ?_⟩
    obtain ⟨e0, e1, e2, e3, e4⟩ := qF_at V P i
    refine ⟨?_, ?_, ?_, ?_, ?_⟩
    · rw [h2'.cellAt (i * 5) (by omega), vals_at _ (by omega), e0]
    · rw [h2'.cellAt (i * 5 + 1) (by omega), vals_at _ (by omega), e1]
    · rw [h2'.cellAt (i * 5 + 2) (by omega), vals_at _ (by omega), e2]
    · rw [h2'.cellAt (i * 5 + 3) (by omega), vals_at _ (by omega), e3]
    · rw [h2'.cellAt (i * 5 + 4) (by omega), vals_at _ (by omega), e4]
end
theorem vals_put (U : Nat → Int) (m k : Nat) (x : Int) : (vals U m).set k (.int .i64 x) = vals (fun l => if l = k then x else U l) m := by
  refine List.ext_getElem? fun l => ?_
  rw [List.getElem?_set]
  by_cases hl : l < m
  · rw [vals_at _ hl, vals_at _ hl]
    by_cases e : k = l
    · subst e; simp [vals_length, hl]
    · have e' : ¬ l = k := fun q => e q.symm
      simp [e, e']
  · have h1 : (vals U m)[l]? = none := by simp [vals]; omega
    have h2 : (vals (fun l => if l = k then x else U l) m)[l]? = none := by simp [vals]; omega
    rw [h1, h2]
    by_cases e : k = l
    · subst e; simp [vals_length, hl]
    · simp [e]
def put5 (W : World) (g i : Nat) (V : Nat → Int) (a : Nat) : World := ((((W.setCell ⟨g, i * 5, none⟩ (.int .i64 (V (a * 4)))).setCell ⟨g, i * 5 + 1, none⟩ (.int .i64 (V (a * 4 + 1)))).setCell ⟨g, i * 5 + 2, none⟩ (.int .i64 (V (a * 4 + 2)))).setCell ⟨g, i * 5 + 3, none⟩ (.int .i64 (V (a * 4 + 3)))).setCell ⟨g, i * 5 + 4, none⟩ (.int .i64 (a : Int))
theorem own_put {w : World} {base g n cap : Nat} {V : Nat → Int} {P : Nat → Nat} {e : TypeId} (h : w.ownsRow base e 5 (.slice (some ⟨g, 0, none⟩) n cap) n (vals (qF V P) (n * 5))) (i a : Nat) : (put5 w g i V a).ownsRow base e 5 (.slice (some ⟨g, 0, none⟩) n cap) n (vals (qF V (fun k => if k = i then a else P k)) (n * 5)) := by
  have := (((((h.stored (i * 5) (.int .i64 (V (a * 4)))).1.stored (i * 5 + 1) (.int .i64 (V (a * 4 + 1)))).1.stored (i * 5 + 2) (.int .i64 (V (a * 4 + 2)))).1.stored (i * 5 + 3) (.int .i64 (V (a * 4 + 3)))).1.stored (i * 5 + 4) (.int .i64 (a : Int))).1
  simp only [vals_put] at this
  have e : vals (qF V (fun k => if k = i then a else P k)) (n * 5) = _ := vals_congr (U := qF V (fun k => if k = i then a else P k)) (V := fun l => if l = i * 5 + 4 then (a : Int) else if l = i * 5 + 3 then V (a * 4 + 3) else if l = i * 5 + 2 then V (a * 4 + 2) else if l = i * 5 + 1 then V (a * 4 + 1) else if l = i * 5 then V (a * 4) else qF V P l) (fun l hl => by
    by_cases q : l / 5 = i
    · obtain ⟨e0, e1, e2, e3, e4⟩ := qF_at V (fun k => if k = i then a else P k) i
      simp only [if_true] at e0 e1 e2 e3 e4
      rcases (by omega : l = i * 5 ∨ l = i * 5 + 1 ∨ l = i * 5 + 2 ∨ l = i * 5 + 3 ∨ l = i * 5 + 4) with rfl | rfl | rfl | rfl | rfl
      · rw [e0]; simp
      · rw [e1]; simp
      · rw [e2]; simp
      · rw [e3]; simp
      · rw [e4]; simp
    · rw [if_neg (by omega), if_neg (by omega), if_neg (by omega), if_neg (by omega), if_neg (by omega)]
      unfold qF
      simp only [q, if_false])
  rw [e]
  exact this
theorem put_block {W : World} {g i : Nat} {V : Nat → Int} {a k : Nat} (h : k ≠ g) : (put5 W g i V a).heap[k]? = W.heap[k]? := by
  unfold put5
  rw [heap_setCell_other _ _ _ _ h, heap_setCell_other _ _ _ _ h, heap_setCell_other _ _ _ _ h, heap_setCell_other _ _ _ _ h, heap_setCell_other _ _ _ _ h]
theorem put_turn {X : Nat → Prop} {W : World} {g i : Nat} {V : Nat → Int} {a : Nat} (h : X g) : Turn X W (put5 W g i V a) :=
  ((((Turn.of (Beside.setCell g _ _ _) h).trans (Turn.of (Beside.setCell g _ _ _) h)).trans (Turn.of (Beside.setCell g _ _ _) h)).trans (Turn.of (Beside.setCell g _ _ _) h)).trans (Turn.of (Beside.setCell g _ _ _) h)
theorem QAt.swap {X : Nat → Prop} {q g : Nat} {w : World} {sh : Bool} {n cap : Nat} {V : Nat → Int} {P : Nat → Nat} (h : QAt X q w sh n V P) (hg : w.cell? ⟨q, 1, none⟩ = some (.slice (some ⟨g, 0, none⟩) n cap)) (i j : Nat) : QAt X q (put5 (put5 w g i V (P j)) g j V (P i)) sh n V (swp P i j) ∧ Turn X w (put5 (put5 w g i V (P j)) g j V (P i)) := by
  obtain ⟨hX, s, cap', h1, h2, h3⟩ := h
  have e := (cell_of_row w q 1 _ _ _ h1).symm.trans hg
  simp at e
  obtain ⟨rfl, rfl⟩ := e
  obtain ⟨Xg, ne⟩ := h3 g rfl
  refine ⟨⟨hX, _, _, ?_, ?_, h3⟩, (put_turn Xg).trans (put_turn Xg)⟩
  · rw [put_block (Ne.symm ne), put_block (Ne.symm ne)]; exact h1
  · have := own_put (own_put h2 i (P j)) j (P i)
    have e : vals (qF V (swp P i j)) (n * 5) = vals (qF V (fun k => if k = j then P i else if k = i then P j else P k)) (n * 5) := vals_congr fun l _ => by
      unfold qF swp
      by_cases a : l / 5 = i <;> by_cases b : l / 5 = j
      · have : i = j := a.symm.trans b
        simp [a, this]
      · have : ¬ i = j := fun q => b (a.trans q)
        simp [a, this]
      · have : ¬ j = i := fun q => a (b.trans q)
        simp [b, this]
      · simp [a, b]
    rw [e]; exact this
/-- The last one is taken off. -/
theorem QAt.cut {X : Nat → Prop} {q : Nat} {w : World} {sh : Bool} {n cap : Nat} {V : Nat → Int} {P : Nat → Nat} {s : Option Addr} (h : QAt X q w sh (n + 1) V P) (hg : w.cell? ⟨q, 1, none⟩ = some (.slice s (n + 1) cap)) : QAt X q (w.setCell ⟨q, 1, none⟩ (.slice s n cap)) sh n V P ∧ Turn X w (w.setCell ⟨q, 1, none⟩ (.slice s n cap)) := by
  obtain ⟨hX, s', cap', h1, h2, h3⟩ := h
  have e := (cell_of_row w q 1 _ _ _ h1).symm.trans hg
  simp at e
  obtain ⟨rfl, rfl⟩ := e
  refine ⟨⟨hX, s', cap', ?_, ?_, ?_⟩, Turn.of (Beside.setCell q _ _ _) hX⟩
  · have := heap_setCell_same w q 1 _ _ (.slice s' n cap') h1
    simpa using this
  · rcases h2.2 with ⟨e, e2⟩ | ⟨g, cap2, cur, e, hb, hgg, hc, hm, hz, ht⟩
    · omega
    · cases e
      refine ⟨by simp [vals_length], .inr ⟨g, cap', cur, rfl, hb, ?_, by omega, hm, hz, ?_⟩⟩
      · rw [heap_setCell_other _ _ _ _ (h3 g rfl).2]; exact hgg
      · have : vals (qF V P) (n * 5) = (vals (qF V P) ((n + 1) * 5)).take (n * 5) := by
          refine List.ext_getElem? fun l => ?_
          rw [List.getElem?_take]
          by_cases hl : l < n * 5
          · rw [if_pos hl, vals_at _ hl, vals_at _ (by omega)]
          · rw [if_neg hl]; simp [vals]; omega
        rw [this, ← ht, List.take_take, Nat.min_eq_left (by omega)]
  · intro g hg2
    rcases h2.2 with ⟨e, e2⟩ | ⟨g', cap2, cur, e, _⟩
    · omega
    · cases e
      exact h3 g hg2
theorem info_placed : (Try.prog.info? 55).map (fun i => (i.zero, i.size, i.bytes)) = some (some (.agg #[.int .i64 0, .int .i64 0, .int .i64 0, .int .i64 0, .int .i64 0]), 5, 40) := by kernel_rfl
theorem newsFive (W : World) (a b c d e : Value) (t : TypeId) : ∀ j u, [a, b, c, d, e][j]? = some u → (W.alloc (.cells #[a, b, c, d, e] t)).cell? ((⟨W.heap.size, 0, none⟩ : Addr).add j) = some u := World.news_of_block (cs := #[a, b, c, d, e]) (heap_alloc_new W _)
theorem vals_pl (V : Nat → Int) (P : Nat → Nat) (k : Nat) : vals (qF V P) ((k + 1) * 5) = vals (qF V P) (k * 5) ++ [.int .i64 (V (P k * 4)), .int .i64 (V (P k * 4 + 1)), .int .i64 (V (P k * 4 + 2)), .int .i64 (V (P k * 4 + 3)), .int .i64 (P k : Int)] := by
  obtain ⟨e0, e1, e2, e3, e4⟩ := qF_at V P k
  rw [show (k + 1) * 5 = k * 5 + 1 + 1 + 1 + 1 + 1 by omega, vals_succ, vals_succ, vals_succ, vals_succ, vals_succ]
  rw [show k * 5 + 1 + 1 = k * 5 + 2 by omega, show k * 5 + 2 + 1 = k * 5 + 3 by omega, show k * 5 + 3 + 1 = k * 5 + 4 by omega, e0, e1, e2, e3, e4]
  simp
theorem list_placed {ops : Array Oper} {rest : List Oper} {o : Oper} {a : Act} {Q : Exit → Act → World → Prop} {W : World} {t : TypeId} {x0 x1 x2 x3 x4 : Int} (base : Nat) (v : Value) (k : Nat) (xs : List Value) (s z : Operand) (hgd : o.guard = none)
    (ho : o.op = .call { callee := .builtin .append, args := #[s, z], argTypes := #[73, 73] }) (hs : a.eval s = v) (hx : a.eval z = .slice (some ⟨W.heap.size, 0, none⟩) 1 1) (hown : W.ownsRow base 55 5 v k xs) (hk : k ≤ 100000) (hb : base ≤ W.heap.size)
    (h : ∀ g cap w', w'.ownsRow base 55 5 (.slice (some ⟨g, 0, none⟩) (k + 1) cap) (k + 1) (xs ++ [.int .i64 x0, .int .i64 x1, .int .i64 x2, .int .i64 x3, .int .i64 x4]) → W.grownBy w' v.ownBlock → g < w'.heap.size → wpList Try.prog ops Q rest (a.put o.dst (.slice (some ⟨g, 0, none⟩) (k + 1) cap)) w') :
    wpList Try.prog ops Q (o :: rest) a (W.alloc (.cells #[.int .i64 x0, .int .i64 x1, .int .i64 x2, .int .i64 x3, .int .i64 x4] t)) := by
  obtain ⟨i0, hi, hz0, hz1, hz2⟩ := info_parts info_placed
  refine wpList_append_lies _ hgd s z 73 ho base 55 i0 (.agg #[.int .i64 0, .int .i64 0, .int .i64 0, .int .i64 0, .int .i64 0]) 5 40 Try.underlying73 hi hz0 hz1 hz2 rfl (by decide) v k xs hs (hown.alloc _) ⟨W.heap.size, 0, none⟩ 1 1 [.int .i64 x0, .int .i64 x1, .int .i64 x2, .int .i64 x3, .int .i64 x4] hx rfl (newsFive _ _ _ _ _ _ _) ?_ (by decide) (by unfold maxLen; omega) (by omega) (by simp; omega) _ rfl ?_
  · intro u hu
    simp at hu
    rcases hu with rfl | rfl | rfl | rfl | rfl <;> rfl
  · intro g cap w' h1 h2 _ h3
    exact h g cap w' h1 (grown_new h2) h3
end Go.Proofs.Ytcialcejmjggeaa
