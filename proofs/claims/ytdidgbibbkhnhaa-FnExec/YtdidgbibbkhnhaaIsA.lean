/-
What is proved: a list of instructions and a list of int64s that are put together beside a reader.
-/
import Derived.Test.YtdidgbibbkhnhaaRdO
import Derived.Test.YtdidgbibbkhnhaaOwn
import Derived.Test.YtdidgbibbkhnhaaOwnV
import Derived.Test.YtdidgbibbkhnhaaBlk
import Derived.Deep.AppendLies
import Derived.Laws.OwnMore
namespace Go.Proofs.Ytdidgbibbkhnhaa
set_option maxRecDepth 40000
open Go.ChangeShapes Go.WideShapes Go.ChangeAt Go.RowKit
set_option linter.unusedVariables false
set_option linter.unusedSimpArgs false

/-- A list of k instructions and one of m int64s, beside a reader at p. -/
def InS (w0 : World) (r : Nat) (s : Option Addr) (n c b p k m : Nat) (v u : Value) (W : World) : Prop := Rd W r s n c p ∧ Beside r w0 W ∧ (∃ U, W.ownsRow b 31 2 v k (vals U (k * 2))) ∧ (∃ U, W.ownsRow b 2 1 u m (vals U m)) ∧ w0.heap.size ≤ b ∧ r < b ∧ b ≤ W.heap.size
theorem own_keptI {base : Nat} {w w' : World} {T : TypeId} {M : Nat} {v : Value} {n : Nat} {xs : List Value} (h : w.ownsRow base T M v n xs) (hk : ∀ g, base ≤ g → g < w.heap.size → w'.heap[g]? = w.heap[g]?) : w'.ownsRow base T M v n xs := by
  refine ⟨h.1, ?_⟩
  rcases h.2 with q | ⟨g, cap, cur, e, hb, hg, r⟩
  · exact .inl q
  · exact .inr ⟨g, cap, cur, e, hb, (hk g hb (Array.getElem?_eq_some_iff.1 hg).1).trans hg, r⟩
theorem own_othI {w w' : World} {b1 b2 : Nat} {t1 t2 : TypeId} {s1 s2 : Nat} {v1 v2 : Value} {n1 n2 : Nat} {xs1 xs2 : List Value} (hA : w.ownsRow b1 t1 s1 v1 n1 xs1) (hB : w.ownsRow b2 t2 s2 v2 n2 xs2) (ne : t1 ≠ t2) (hg : w.grownBy w' v1.ownBlock) : w'.ownsRow b2 t2 s2 v2 n2 xs2 := by
  refine ⟨hB.1, ?_⟩
  rcases hB.2 with q | ⟨g, cap, cur, e1, hb, hg2, r⟩
  · exact .inl q
  · refine .inr ⟨g, cap, cur, e1, hb, (hg.block g (Array.getElem?_eq_some_iff.1 hg2).1 (fun e => ?_)).trans hg2, r⟩
    rcases hA.2 with ⟨e', _⟩ | ⟨g', cap', cur', e', _, hg', _⟩
    · rw [e'] at e; cases e
    · rw [e'] at e
      cases e
      rw [hg'] at hg2
      cases hg2
      exact ne rfl
theorem InS.read {w0 : World} {r : Nat} {s : Option Addr} {n c b p p' k m : Nat} {v u : Value} {W W' : World} (h : InS w0 r s n c b p k m v u W) (hR : Rd W' r s n c p') (hb : Beside r W W') : InS w0 r s n c b p' k m v u W' := by
  obtain ⟨h1, h2, ⟨U, h3⟩, ⟨Y, h4⟩, h5, h6, h7⟩ := h
  exact ⟨hR, h2.trans hb, ⟨U, own_keptI h3 (fun g hg hz => hb.2.2.2.2 g hz (by omega))⟩, ⟨Y, own_keptI h4 (fun g hg hz => hb.2.2.2.2 g hz (by omega))⟩, h5, h6, Nat.le_trans h7 hb.2.2.2.1⟩
theorem InS.below {w0 : World} {r : Nat} {s : Option Addr} {n c b p k m : Nat} {v u : Value} {W W' : World} (h : InS w0 r s n c b p k m v u W) (hb : Below W.heap.size W W') : InS w0 r s n c b p k m v u W' := h.read (h.1.below hb) (Beside.of hb)
theorem info_In : (Try.prog.info? 31).map (fun i => (i.zero, i.size, i.bytes)) = some (some (.agg #[.int .i64 0, .int .i64 0]), 2, 16) := by kernel_rfl
theorem vals2 (U : Nat → Int) (k : Nat) (x y : Int) : vals (fun j => if j = k * 2 then x else if j = k * 2 + 1 then y else U j) ((k + 1) * 2) = vals U (k * 2) ++ [.int .i64 x, .int .i64 y] := by
  rw [show (k + 1) * 2 = k * 2 + 1 + 1 by omega, vals_succ, vals_succ, List.append_assoc]
  congr 1
  · unfold vals
    refine List.map_congr_left fun j hj => ?_
    have : j < k * 2 := by simpa using hj
    show Value.int .i64 (if j = k * 2 then x else if j = k * 2 + 1 then y else U j) = _
    rw [if_neg (by omega), if_neg (by omega)]
  · simp
theorem vals1 (U : Nat → Int) (k : Nat) (x : Int) : vals (fun j => if j = k then x else U j) (k + 1) = vals U k ++ [.int .i64 x] := by
  rw [vals_succ]
  congr 1
  · unfold vals
    refine List.map_congr_left fun j hj => ?_
    have : j < k := by simpa using hj
    show Value.int .i64 (if j = k then x else U j) = _
    rw [if_neg (by omega)]
  · simp
theorem InS.grown {w0 : World} {r : Nat} {s : Option Addr} {n c b p k m : Nat} {v u : Value} {W W' : World} (h : InS w0 r s n c b p k m v u W) {z : Value} (hz : W.grownBy W' z.ownBlock) (ho : ∀ g, z.ownBlock = some g → b ≤ g) : Rd W' r s n c p ∧ Beside r w0 W' ∧ b ≤ W'.heap.size := by
  obtain ⟨h1, h2, h3, h4, h5, h6, h7⟩ := h
  have bb : Below b W W' := grown_below hz h7 ho
  exact ⟨h1.below' (bb.mono h6), h2.onB (bb.mono h5), Nat.le_trans h7 bb.size⟩
/-- One instruction more. -/
theorem in_one {ops : Array Oper} {rest : List Oper} {o : Oper} {a : Act} {Q : Exit → Act → World → Prop} {W : World} {tt : TypeId} {x y : Int} {w0 : World} {r : Nat} {sr : Option Addr} {n c b p k m : Nat} {v u : Value} (s z : Operand) (hgd : o.guard = none)
    (ho : o.op = .call { callee := .builtin .append, args := #[s, z], argTypes := #[24, 24] }) (hs : a.eval s = v) (hx : a.eval z = .slice (some ⟨W.heap.size, 0, none⟩) 1 1) (hown : InS w0 r sr n c b p k m v u W) (hk : k ≤ 10000000)
    (h : ∀ g cap w', InS w0 r sr n c b p (k + 1) m (.slice (some ⟨g, 0, none⟩) (k + 1) cap) u w' → wpList Try.prog ops Q rest (a.put o.dst (.slice (some ⟨g, 0, none⟩) (k + 1) cap)) w') :
    wpList Try.prog ops Q (o :: rest) a (W.alloc (.cells #[.int .i64 x, .int .i64 y] tt)) := by
  obtain ⟨i0, hi, hz0, hz1, hz2⟩ := info_parts info_In
  have hW := hown
  obtain ⟨h1, h2, ⟨U, h3⟩, ⟨Y, h4⟩, h5, h6, h7⟩ := hown
  refine wpList_append_lies _ hgd s z 24 ho b 31 i0 (.agg #[.int .i64 0, .int .i64 0]) 2 16 Try.underlying24 hi hz0 hz1 hz2 rfl (by decide) v k _ hs (h3.alloc _) ⟨W.heap.size, 0, none⟩ 1 1 [.int .i64 x, .int .i64 y] hx rfl (newsTwo _ _ _ _) ?_ (by decide) (by unfold maxLen; omega) (by omega) (by simp; omega) _ rfl ?_
  · intro q hq
    simp at hq
    rcases hq with rfl | rfl <;> rfl
  · intro g cap w' q1 q2 _ q3
    have gr := grown_new q2
    obtain ⟨e1, e2, e3⟩ := hW.grown gr (own_block h3)
    exact h g cap w' ⟨e1, e2, ⟨_, by rw [vals2 U k x y]; exact q1⟩, ⟨Y, own_othI h3 h4 (by decide) gr⟩, h5, h6, e3⟩
/-- One int64 more. -/
theorem in_num {ops : Array Oper} {rest : List Oper} {o : Oper} {a : Act} {Q : Exit → Act → World → Prop} {W : World} {tt : TypeId} {x : Int} {w0 : World} {r : Nat} {sr : Option Addr} {n c b p k m : Nat} {v u : Value} (s z : Operand) (hgd : o.guard = none)
    (ho : o.op = .call { callee := .builtin .append, args := #[s, z], argTypes := #[25, 25] }) (hs : a.eval s = u) (hx : a.eval z = .slice (some ⟨W.heap.size, 0, none⟩) 1 1) (hown : InS w0 r sr n c b p k m v u W) (hk : m ≤ 10000000)
    (h : ∀ g cap w', InS w0 r sr n c b p k (m + 1) v (.slice (some ⟨g, 0, none⟩) (m + 1) cap) w' → wpList Try.prog ops Q rest (a.put o.dst (.slice (some ⟨g, 0, none⟩) (m + 1) cap)) w') :
    wpList Try.prog ops Q (o :: rest) a (W.alloc (.cells #[.int .i64 x] tt)) := by
  obtain ⟨i0, hi, hz0, hz1, hz2⟩ := info_parts info_i64
  have hW := hown
  obtain ⟨h1, h2, ⟨U, h3⟩, ⟨Y, h4⟩, h5, h6, h7⟩ := hown
  refine wpList_append_lies _ hgd s z 25 ho b 2 i0 (.int .i64 0) 1 8 Try.underlying25 hi hz0 hz1 hz2 rfl (by decide) u m _ hs (h4.alloc _) ⟨W.heap.size, 0, none⟩ 1 1 [.int .i64 x] hx rfl (newsOne _ _ _) ?_ (by decide) (by unfold maxLen; omega) (by omega) (by simp; omega) _ rfl ?_
  · intro q hq
    simp at hq
    subst hq; rfl
  · intro g cap w' q1 q2 _ q3
    have gr := grown_new q2
    obtain ⟨e1, e2, e3⟩ := hW.grown gr (own_block h4)
    exact h g cap w' ⟨e1, e2, ⟨U, own_othI h4 h3 (by decide) gr⟩, ⟨_, by rw [vals1 Y m x]; exact q1⟩, h5, h6, e3⟩
theorem InS.num {w0 : World} {r : Nat} {s : Option Addr} {n c b p k m : Nat} {v u : Value} {W : World} (h : InS w0 r s n c b p k m v u W) {i : Nat} (hi : i < m) : ∃ g cap x, u = .slice (some ⟨g, 0, none⟩) m cap ∧ W.cell? ⟨g, i, none⟩ = some (.int .i64 x) := by
  obtain ⟨h1, h2, h3, ⟨Y, h4⟩, h5, h6, h7⟩ := h
  obtain ⟨t, cap, e, ho⟩ := own_OwnI (size := 1) (U := Y) (by rw [Nat.mul_one]; exact h4)
  rw [Nat.mul_one] at ho
  obtain ⟨g, rfl, hB, hl, hc, hf⟩ := ho i hi
  exact ⟨g, cap, _, e, hc⟩
theorem InS.form {w0 : World} {r : Nat} {s : Option Addr} {n c b p k m : Nat} {v u : Value} {W : World} (h : InS w0 r s n c b p k m v u W) : (∃ t cap, v = .slice t k cap) ∧ ∃ t cap, u = .slice t m cap := by
  obtain ⟨h1, h2, ⟨U, h3⟩, ⟨Y, h4⟩, h5, h6, h7⟩ := h
  exact ⟨by obtain ⟨t, cap, e, -⟩ := own_OwnI (size := 2) (U := U) h3; exact ⟨t, cap, e⟩, by obtain ⟨t, cap, e, -⟩ := own_OwnI (size := 1) (U := Y) (by rw [Nat.mul_one]; exact h4); exact ⟨t, cap, e⟩⟩
theorem InS.row {w0 : World} {r : Nat} {s : Option Addr} {n c b p k m : Nat} {v u : Value} {W : World} (h : InS w0 r s n c b p k m v u W) : ∃ t cap U, v = .slice t k cap ∧ OwnI b W t (k * 2) U := by
  obtain ⟨h1, h2, ⟨U, h3⟩, h4, h5, h6, h7⟩ := h
  obtain ⟨t, cap, e, ho⟩ := own_OwnI (size := 2) (U := U) h3
  exact ⟨t, cap, U, e, ho⟩
end Go.Proofs.Ytdidgbibbkhnhaa
