/-
What is proved: lists of swings that grow; a stack of numbers with any room and any offset.
-/
import Derived.Test.YthengechoaodcaaRn
import Derived.Test.YthengechoaodcaaBeside
import Derived.ArgAppend
import Derived.Laws.OwnMore
namespace Go.Proofs.Ythengechoaodcaa
set_option maxRecDepth 40000
open Go.ChangeShapes Go.WideShapes Go.ChangeAt Go.RowKit
set_option linter.unusedVariables false
set_option linter.unusedSimpArgs false

theorem info_Swing : (Try.prog.info? 36).map (fun i => (i.zero, i.size, i.bytes)) = some (some (.agg #[.int .i64 0, .int .i64 0]), 2, 16) := by kernel_rfl
def swC : List (Int × Int) → List Value
  | [] => []
  | p :: r => .int .i64 p.1 :: .int .i64 p.2 :: swC r
theorem swC_app (a b : List (Int × Int)) : swC (a ++ b) = swC a ++ swC b := by
  induction a with
  | nil => rfl
  | cons p r ih => show _ :: _ :: swC (r ++ b) = _ :: _ :: (swC r ++ swC b); rw [ih]
theorem swC_at : ∀ (l : List (Int × Int)) (j : Nat), j < l.length → (swC l)[j * 2]? = some (.int .i64 (l.getD j (0, 0)).1) ∧ (swC l)[j * 2 + 1]? = some (.int .i64 (l.getD j (0, 0)).2)
  | [], j, h => by simp at h
  | p :: r, 0, _ => ⟨rfl, rfl⟩
  | p :: r, j + 1, h => by
    have := swC_at r j (by simpa using h)
    rw [show (j + 1) * 2 = j * 2 + 1 + 1 by omega]
    exact this
theorem swC_len : ∀ (l : List (Int × Int)), (swC l).length = l.length * 2
  | [] => rfl
  | p :: r => by show (swC r).length + 1 + 1 = (r.length + 1) * 2; rw [swC_len r]; omega
theorem swC_one : ∀ (l : List (Int × Int)), ∀ u ∈ swC l, u.oneCell' = true
  | [], u, h => by simp [swC] at h
  | p :: r, u, h => by
    simp only [swC, List.mem_cons] at h
    rcases h with rfl | rfl | h
    · rfl
    · rfl
    · exact swC_one r u h
theorem list_Swing {ops : Array Oper} {rest : List Oper} {o : Oper} {a : Act} {Q : Exit → Act → World → Prop} {W : World} {t : TypeId} {x0 : Int} {x1 : Int} (base : Nat) (v : Value) (k : Nat) (xs : List Value) (s q : Operand) (hgd : o.guard = none)
    (ho : o.op = .call { callee := .builtin .append, args := #[s, q], argTypes := #[23, 23] }) (hs : a.eval s = v) (hx : a.eval q = .slice (some ⟨W.heap.size, 0, none⟩) 1 1) (hown : W.ownsRow base 36 2 v k xs) (hk : k ≤ 1000000) (hb : base ≤ W.heap.size)
    (h : ∀ g cap w', w'.ownsRow base 36 2 (.slice (some ⟨g, 0, none⟩) (k + 1) cap) (k + 1) (xs ++ [.int .i64 x0, .int .i64 x1]) → W.grownBy w' v.ownBlock → g < w'.heap.size → (v.ownBlock = some g ∨ W.heap.size < g) → wpList Try.prog ops Q rest (a.put o.dst (.slice (some ⟨g, 0, none⟩) (k + 1) cap)) w') :
    wpList Try.prog ops Q (o :: rest) a (W.alloc (.cells #[.int .i64 x0, .int .i64 x1] t)) := by
  obtain ⟨i0, hi, hz0, hz1, hz2⟩ := info_parts info_Swing
  refine wpList_append_lies _ hgd s q 23 ho base 36 i0 (.agg #[.int .i64 0, .int .i64 0]) 2 16 Try.underlying23 hi hz0 hz1 hz2 rfl (by decide) v k xs hs (hown.alloc _) ⟨W.heap.size, 0, none⟩ 1 1 [.int .i64 x0, .int .i64 x1] hx rfl (newsTwo _ _ _ _) ?_ (by decide) (by unfold maxLen; omega) (by omega) (by simp; omega) _ rfl ?_
  · intro u hu
    simp at hu
    rcases hu with rfl | rfl <;> rfl
  · intro g cap w' h1 h2 h4 h3
    refine h g cap w' h1 (grown_new h2) h3 ?_
    rcases h4 with h4 | h4
    · exact .inl h4
    · right; rw [h4]; simp
theorem own_otherR {w w' : World} {b1 b2 : Nat} {t1 t2 : TypeId} {s1 s2 : Nat} {v1 v2 : Value} {n1 n2 : Nat} {xs1 xs2 : List Value} (hA : w.ownsRow b1 t1 s1 v1 n1 xs1) (hB : w.ownsRow b2 t2 s2 v2 n2 xs2) (ne : t1 ≠ t2) (hg : w.grownBy w' v1.ownBlock) : w'.ownsRow b2 t2 s2 v2 n2 xs2 := by
  refine ⟨hB.1, ?_⟩
  rcases hB.2 with q | ⟨g, cap, cur, e1, hb, hg2, r⟩
  · exact .inl q
  · refine .inr ⟨g, cap, cur, e1, hb, (hg.block g (Array.getElem?_eq_some_iff.1 hg2).1 (fun e => ?_)).trans hg2, r⟩
    rcases hA.2 with ⟨e', _⟩ | ⟨g', cap', cur', e', _, hg', _⟩
    · rw [e'] at e; cases e
    · rw [e'] at e
      cases e
      rw [hg'] at hg2
      cases hg2
      exact ne rfl
theorem own_below {w w' : World} {base : Nat} {t : TypeId} {s : Nat} {v : Value} {n : Nat} {xs : List Value} (h : w.ownsRow base t s v n xs) (hs : Below w.heap.size w w') : w'.ownsRow base t s v n xs := own_same h fun g hg => hs.block g (h.lt g hg).2
/-- The stack and the swings on their way, in the specification. -/
def RnW (w : World) (H : Nat) (st : Option Addr) (T : List Int) (wr : World) (vs vo : Value) (s : List Int) (o : List (Int × Int)) : Prop :=
  Below w.heap.size w wr ∧ w.heap.size < H ∧ H ≤ wr.heap.size ∧ RowI wr st T.length (nthI T) ∧ (0 < T.length → ∀ b o, st = some ⟨b, o, none⟩ → w.heap.size < b ∧ b < H) ∧ wr.ownsRow H 2 1 vs s.length (cellsOf s) ∧ wr.ownsRow w.heap.size 36 2 vo o.length (swC o) ∧ ∀ r, vo.ownBlock = some r → r = w.heap.size ∨ H ≤ r
theorem RnW.below {w wr w' : World} {H : Nat} {st : Option Addr} {T s : List Int} {vs vo : Value} {o : List (Int × Int)} (h : RnW w H st T wr vs vo s o) (hb : Below wr.heap.size wr w') : RnW w H st T w' vs vo s o := by
  obtain ⟨h1, h2, h3, h4, h5, h6, h7, h8⟩ := h
  exact ⟨h1.trans (hb.mono h1.size), h2, Nat.le_trans h3 hb.size, h4.below hb, h5, own_below h6 hb, own_below h7 hb, h8⟩
theorem RnW.fresh {w wr w' : World} {H : Nat} {st : Option Addr} {T s s' : List Int} {vs vs' vo : Value} {o : List (Int × Int)} (h : RnW w H st T wr vs vo s o) (hb : Below wr.heap.size wr w') (ho : w'.ownsRow H 2 1 vs' s'.length (cellsOf s')) : RnW w H st T w' vs' vo s' o := by
  obtain ⟨h1, h2, h3, h4, h5, h6, h7, h8⟩ := h
  exact ⟨h1.trans (hb.mono h1.size), h2, Nat.le_trans h3 hb.size, h4.below hb, h5, ho, own_below h7 hb, h8⟩
theorem row_keepR {W w2 : World} {s : Option Addr} {m : Nat} {V : Nat → Int} (h : RowI W s m V) (hb : 0 < m → ∀ b o, s = some ⟨b, o, none⟩ → w2.heap[b]? = W.heap[b]?) (hz : W.heap.size ≤ w2.heap.size) : RowI w2 s m V := fun j hj => by
  obtain ⟨b, o, e, hl, hc⟩ := h j hj
  exact ⟨b, o, e, by omega, (World.cell?_of_block (w := W) (a := ⟨b, o + j, none⟩) (hb (by omega) b o e)).trans hc⟩
theorem RnW.push {w wr w' : World} {H : Nat} {st : Option Addr} {T s : List Int} {vs vo : Value} {o : List (Int × Int)} {g cap : Nat} {x : Int} (h : RnW w H st T wr vs vo s o) (ho : w'.ownsRow H 2 1 (.slice (some ⟨g, 0, none⟩) (s.length + 1) cap) (s.length + 1) (cellsOf s ++ [.int .i64 x])) (hg : wr.grownBy w' vs.ownBlock) : RnW w H st T w' (.slice (some ⟨g, 0, none⟩) (s.length + 1) cap) vo (s ++ [x]) o := by
  obtain ⟨h1, h2, h3, h4, h5, h6, h7, h8⟩ := h
  refine ⟨h1.trans (grown_below hg h1.size (fun r hr => by have := own_block h6 r hr; omega)), h2, Nat.le_trans h3 hg.size, row_keepR h4 (fun hm b o e => ?_) hg.size, h5, by rw [cellsOf_snoc]; simpa using ho, own_otherR h6 h7 (by decide) hg, h8⟩
  have q := h5 hm b o e
  refine hg.block b (by omega) (fun e2 => ?_)
  have := own_block h6 b e2.symm
  omega
theorem RnW.out {w wr w' : World} {H : Nat} {st : Option Addr} {T s : List Int} {vs vo : Value} {o : List (Int × Int)} {g cap : Nat} {x y : Int} (h : RnW w H st T wr vs vo s o) (ho : w'.ownsRow w.heap.size 36 2 (.slice (some ⟨g, 0, none⟩) (o.length + 1) cap) (o.length + 1) (swC o ++ [.int .i64 x, .int .i64 y])) (hg : wr.grownBy w' vo.ownBlock) (hat : vo.ownBlock = some g ∨ wr.heap.size ≤ g) : RnW w H st T w' vs (.slice (some ⟨g, 0, none⟩) (o.length + 1) cap) s (o ++ [(x, y)]) := by
  obtain ⟨h1, h2, h3, h4, h5, h6, h7, h8⟩ := h
  refine ⟨h1.trans (grown_below hg h1.size (own_block h7)), h2, Nat.le_trans h3 hg.size, row_keepR h4 (fun hm b o e => ?_) hg.size, h5, own_otherR h7 h6 (by decide) hg, by rw [swC_app]; simpa [swC] using ho, fun r hr => ?_⟩
  · have q := h5 hm b o e
    refine hg.block b (by omega) (fun e2 => ?_)
    have := h8 b e2.symm
    omega
  · have hr' : g = r := by simpa [Value.ownBlock] using hr
    subst hr'
    rcases hat with q | q
    · exact h8 g q
    · right; omega
/-- A stack in memory: its numbers at an offset, its room as told. -/
def StkO (B : Nat) (W : World) (v : Value) (l : List Int) : Prop := (v = .slice none 0 0 ∧ l = []) ∨ ∃ g o cap cur, v = .slice (some ⟨g, o, none⟩) l.length cap ∧ B ≤ g ∧ W.heap[g]? = some (.cells cur 2 (0, 0)) ∧ l.length ≤ cap ∧ o + cap ≤ cur.size ∧ ∀ j, j < l.length → cur[o + j]? = some (.int .i64 (nthI l j))
theorem StkO.same {B : Nat} {W W' : World} {v : Value} {l : List Int} (h : StkO B W v l) (hs : ∀ g, v.ownBlock = some g → W'.heap[g]? = W.heap[g]?) : StkO B W' v l := by
  rcases h with h | ⟨g, o, cap, cur, rfl, h1, h2, r⟩
  · exact .inl h
  · exact .inr ⟨g, o, cap, cur, rfl, h1, (hs g rfl).trans h2, r⟩
theorem StkO.lt {B : Nat} {W : World} {v : Value} {l : List Int} (h : StkO B W v l) : ∀ g, v.ownBlock = some g → B ≤ g ∧ g < W.heap.size := by
  intro g hg
  rcases h with ⟨rfl, _⟩ | ⟨g', o, cap, cur, rfl, h1, h2, _⟩
  · cases hg
  · cases hg; exact ⟨h1, (Array.getElem?_eq_some_iff.1 h2).1⟩
theorem StkO.below {B : Nat} {W W' : World} {v : Value} {l : List Int} (h : StkO B W v l) (hb : Below W.heap.size W W') : StkO B W' v l := h.same fun g hg => hb.block g (h.lt g hg).2
theorem StkO.beside {B r : Nat} {W W' : World} {v : Value} {l : List Int} (h : StkO B W v l) (hb : Beside r W W') (hr : r < B) : StkO B W' v l := h.same fun g hg => hb.2.2.2.2 g (h.lt g hg).2 (by have := (h.lt g hg).1; omega)
theorem StkO.row {B : Nat} {W : World} {v : Value} {l : List Int} (h : StkO B W v l) : ∃ s cap, v = .slice s l.length cap ∧ l.length ≤ cap ∧ RowI W s l.length (nthI l) := by
  rcases h with ⟨rfl, rfl⟩ | ⟨g, o, cap, cur, rfl, h1, h2, h3, h4, h5⟩
  · exact ⟨none, 0, rfl, Nat.le_refl _, fun j hj => by simp at hj⟩
  · exact ⟨_, cap, rfl, h3, fun j hj => ⟨g, o, rfl, (Array.getElem?_eq_some_iff.1 h2).1, by simp [World.cell?, h2, h5 j hj]⟩⟩
theorem nthI_snoc (l : List Int) (x : Int) (j : Nat) (hj : j < l.length + 1) : nthI (l ++ [x]) j = if j = l.length then x else nthI l j := by
  unfold nthI
  rw [List.getD_eq_getElem?_getD, List.getD_eq_getElem?_getD]
  by_cases q : j = l.length
  · subst q; rw [if_pos rfl, List.getElem?_append_right (Nat.le_refl _)]; simp
  · rw [if_neg q, List.getElem?_append_left (by omega)]
theorem stkO_own {B B' : Nat} {W : World} {v : Value} {l : List Int} (hB : B ≤ B') (ho : W.ownsRow B' 2 1 v l.length (cellsOf l)) : StkO B W v l := by
  rcases ho with ⟨hl, ⟨rfl, h0⟩ | ⟨g, cap, cur, rfl, h1, h2, h3, h4, h5, h6⟩⟩
  · exact .inl ⟨rfl, List.eq_nil_of_length_eq_zero h0⟩
  · refine .inr ⟨g, 0, cap, cur, rfl, by omega, h2, h3, by omega, fun j hj => ?_⟩
    have : (cur.toList.take (l.length * 1))[j]? = some (.int .i64 (nthI l j)) := by
      rw [h6, ← vals_nth, vals_at _ hj]
    rw [List.getElem?_take_of_lt (by omega)] at this
    simpa using this
theorem nthI_take (l : List Int) (m j : Nat) (hj : j < m) : nthI (l.take m) j = nthI l j := by
  unfold nthI
  rw [List.getD_eq_getElem?_getD, List.getD_eq_getElem?_getD, List.getElem?_take_of_lt hj]
theorem nthI_drop (l : List Int) (m j : Nat) : nthI (l.drop m) j = nthI l (m + j) := by
  unfold nthI
  rw [List.getD_eq_getElem?_getD, List.getD_eq_getElem?_getD, List.getElem?_drop]
/-- Cut at its top, or at its foot. -/
theorem StkO.take {B : Nat} {W : World} {s : Option Addr} {cap : Nat} {l : List Int} {n : Nat} (h : StkO B W (.slice s n cap) l) (m : Nat) (hm : m ≤ l.length) (h0 : 0 < l.length) : StkO B W (.slice s m cap) (l.take m) := by
  rcases h with ⟨e, e2⟩ | ⟨g, o, cap', cur, e, h1, h2, h3, h4, h5⟩
  · rw [e2] at h0; simp at h0
  · cases e
    have hl : (l.take m).length = m := by rw [List.length_take]; omega
    exact .inr ⟨g, o, cap, cur, by rw [hl], h1, h2, by omega, h4, fun j hj => by rw [hl] at hj; rw [nthI_take l m j hj]; exact h5 j (by omega)⟩
theorem StkO.drop {B : Nat} {W : World} {g o cap : Nat} {l : List Int} {n : Nat} (h : StkO B W (.slice (some ⟨g, o, none⟩) n cap) l) (m : Nat) (hm : m ≤ l.length) : StkO B W (.slice (some ⟨g, o + m, none⟩) (l.length - m) (cap - m)) (l.drop m) := by
  rcases h with ⟨e, e2⟩ | ⟨g', o', cap', cur, e, h1, h2, h3, h4, h5⟩
  · cases e
  · cases e
    have hl : (l.drop m).length = l.length - m := by rw [List.length_drop]
    exact .inr ⟨g, o + m, cap - m, cur, by rw [hl], h1, h2, by omega, by omega, fun j hj => by rw [hl] at hj; rw [nthI_drop, show o + m + j = o + (m + j) by omega]; exact h5 (m + j) (by omega)⟩
theorem list_pushO {ops : Array Oper} {rest : List Oper} {oo : Oper} {a : Act} {Q : Exit → Act → World → Prop} {W : World} {t : TypeId} {x : Int} (B : Nat) (v : Value) (l : List Int) (s z : Operand) (hgd : oo.guard = none)
    (ho : oo.op = .call { callee := .builtin .append, args := #[s, z], argTypes := #[22, 22] }) (hs : a.eval s = v) (hx : a.eval z = .slice (some ⟨W.heap.size, 0, none⟩) 1 1) (S : StkO B W v l) (hB : B ≤ W.heap.size) (hh : l.length ≤ 10000)
    (k : ∀ s' cap' w', StkO B w' (.slice s' (l.length + 1) cap') (l ++ [x]) → W.grownBy w' v.ownBlock → wpList Try.prog ops Q rest (a.put oo.dst (.slice s' (l.length + 1) cap')) w') :
    wpList Try.prog ops Q (oo :: rest) a (W.alloc (.cells #[.int .i64 x] t)) := by
  obtain ⟨i0, hi, hz0, hz1, hz2⟩ := info_parts info_i64
  rcases S with ⟨rfl, rfl⟩ | ⟨g, o, cap, cur, rfl, h1, h2, h3, h4, h5⟩
  · refine list_i64h (x := x) B _ 0 [] s z hgd ho hs hx (World.ownsRow_nil W B 2 1) (by omega) hB ?_
    intro g cap w' ho' hg _ _
    exact k _ _ w' (stkO_own (l := [x]) (Nat.le_refl _) ho') hg
  · have zg := (Array.getElem?_eq_some_iff.1 h2).1
    have bA : Below W.heap.size W (W.alloc (.cells #[.int .i64 x] t)) := below0 _ _
    have hA : (W.alloc (.cells #[.int .i64 x] t)).heap[g]? = some (.cells cur 2 (0, 0)) := (bA.block g zg).trans h2
    have cA : ∀ j, (W.alloc (.cells #[.int .i64 x] t)).cell? ⟨g, j, none⟩ = cur[j]? := fun j => by simp [World.cell?, hA]
    refine wpList_append_arg _ hgd s z 22 ho 2 i0 (.int .i64 0) 1 8 Try.underlying22 hi hz0 hz1 hz2 rfl (by decide) g o l.length cap (cellsOf l) hs (by simp [cellsOf]) ?_ ⟨W.heap.size, 0, none⟩ 1 1 [.int .i64 x] hx rfl (newsOne _ _ _) ?_ ?_ (by unfold maxLen; omega) (by omega) ?_ ?_
    · intro j u hj
      have hl : j < l.length := by
        have := (List.getElem?_eq_some_iff.1 hj).1
        simpa [cellsOf] using this
      rw [← vals_nth, vals_at _ hl] at hj
      rw [cA, h5 j hl]; exact hj
    · intro u hu
      simp at hu
      subst hu; rfl
    · intro hc j hj
      simp at hj
      subst hj
      refine ⟨by rw [cA]; simp; omega, by simp [World.frozen?, hA]⟩
    · intro hc
      have e : (W.alloc (.cells #[.int .i64 x] t)).setCells g (o + l.length * 1) [.int .i64 x] = (W.alloc (.cells #[.int .i64 x] t)).setCell ⟨g, o + l.length, none⟩ (.int .i64 x) := by simp [World.setCells]
      rw [e]
      refine k _ _ _ (.inr ⟨g, o, cap, cur.setIfInBounds (o + l.length) (.int .i64 x), by simp, h1, heap_setCell_same _ g (o + l.length) cur 2 (.int .i64 x) hA, by simp; omega, by simpa using h4, fun j hj => ?_⟩) ⟨rfl, rfl, rfl, by simp, fun q hq hne => ?_⟩
      · have hj' : j < l.length + 1 := by simpa using hj
        rw [nthI_snoc l x j hj']
        by_cases q : j = l.length
        · subst q
          rw [if_pos rfl, Array.getElem?_setIfInBounds_self_of_lt (by omega)]
        · rw [if_neg q, Array.getElem?_setIfInBounds_ne (by omega)]
          exact h5 j (by omega)
      · have : q ≠ g := fun e3 => hne (by rw [e3]; rfl)
        rw [Below.heap_setCell _ _ _ _ this]
        exact bA.block q hq
    · intro hc v' w' ho' hg
      have e1 : cellsOf l ++ [.int .i64 x] = cellsOf (l ++ [x]) := (cellsOf_snoc l x).symm
      rw [e1] at ho'
      have st : StkO B w' v' (l ++ [x]) := stkO_own (B' := (W.alloc (.cells #[.int .i64 x] t)).heap.size) (by simp; omega) (by simpa using ho')
      have gg : W.grownBy w' (Value.slice (some ⟨g, o, none⟩) l.length cap).ownBlock := by
        have g1 := grown_new hg
        exact ⟨g1.os, g1.tape, g1.output, g1.size, fun k hk _ => g1.block k hk (by simp)⟩
      have st2 := st
      rcases st with ⟨_, q⟩ | ⟨g', o', cap', cur', e2, r⟩
      · simp at q
      · subst e2
        have e3 : (l ++ [x]).length = l.length + 1 := by simp
        rw [e3] at st2 ⊢
        exact k _ _ w' st2 gg
/-- A list that is left alone while the stack grows, and the other way round. -/
theorem StkO.other {B b2 s2 n2 : Nat} {W w' : World} {v v2 : Value} {l : List Int} {t2 : TypeId} {xs2 : List Value} (h : StkO B W v l) (h2 : W.ownsRow b2 t2 s2 v2 n2 xs2) (ne : 2 ≠ t2) (hg : W.grownBy w' v2.ownBlock) : StkO B w' v l := by
  rcases h with h | ⟨g, o, cap, cur, rfl, h1, hh, r⟩
  · exact .inl h
  · refine .inr ⟨g, o, cap, cur, rfl, h1, (hg.block g (Array.getElem?_eq_some_iff.1 hh).1 (fun e => ?_)).trans hh, r⟩
    rcases h2.2 with ⟨e', _⟩ | ⟨g', cap', cur', e', _, hg', _⟩
    · rw [e'] at e; cases e
    · rw [e'] at e
      cases e
      rw [hg'] at hh
      cases hh
      exact ne rfl
theorem StkO.left {B b2 s2 n2 : Nat} {W w' : World} {v v2 : Value} {l : List Int} {t2 : TypeId} {xs2 : List Value} (h : StkO B W v l) (h2 : W.ownsRow b2 t2 s2 v2 n2 xs2) (ne : 2 ≠ t2) (hg : W.grownBy w' v.ownBlock) : w'.ownsRow b2 t2 s2 v2 n2 xs2 := by
  refine ⟨h2.1, ?_⟩
  rcases h2.2 with q | ⟨g, cap, cur, e1, hb, hg2, r⟩
  · exact .inl q
  · refine .inr ⟨g, cap, cur, e1, hb, (hg.block g (Array.getElem?_eq_some_iff.1 hg2).1 (fun e => ?_)).trans hg2, r⟩
    rcases h with ⟨e', _⟩ | ⟨g', o', cap', cur', e', _, hg', _⟩
    · rw [e'] at e; cases e
    · rw [e'] at e
      cases e
      rw [hg'] at hg2
      cases hg2
      exact ne rfl
end Go.Proofs.Ythengechoaodcaa
