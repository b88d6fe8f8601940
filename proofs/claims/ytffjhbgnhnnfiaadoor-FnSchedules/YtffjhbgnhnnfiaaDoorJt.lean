/-
What is proved: lists of jobs in memory, each with a list of its own or none: kept, appended to, changed.
-/
import Derived.Test.YtffjhbgnhnnfiaaDoorLst
import Derived.Test.YtffjhbgnhnnfiaaDoorLsInt
import Derived.Test.YtffjhbgnhnnfiaaDoorBlk
import Derived.Test.YtffjhbgnhnnfiaaDoorJbT
import Derived.Laws.OwnMore
import Derived.Deep.AppendLies
namespace Go.Proofs.YtffjhbgnhnnfiaaDoor
set_option maxRecDepth 40000
open Go.ChangeShapes Go.WideShapes Go.ChangeAt Go.RowKit
set_option linter.unusedVariables false
set_option linter.unusedSimpArgs false

def valsJ (f : Nat → Value) (m : Nat) : List Value := (List.range m).map f
theorem valsJ_len (f : Nat → Value) (m : Nat) : (valsJ f m).length = m := by simp [valsJ]
theorem valsJ_at (f : Nat → Value) {m j : Nat} (h : j < m) : (valsJ f m)[j]? = some (f j) := by simp [valsJ, h]
theorem valsJ_set (f : Nat → Value) (m i : Nat) (u : Value) : (valsJ f m).set i u = valsJ (fun j => if j = i then u else f j) m := by
  refine List.ext_getElem? fun j => ?_
  rw [List.getElem?_set]
  by_cases hj : j < m
  · by_cases z : i = j
    · subst z
      rw [if_pos rfl, if_pos (by rw [valsJ_len]; exact hj), valsJ_at _ hj]
      simp
    · rw [if_neg z, valsJ_at _ hj, valsJ_at _ hj, if_neg (fun e => z e.symm)]
  · rw [List.getElem?_eq_none (l := valsJ (fun j => if j = i then u else f j) m) (by rw [valsJ_len]; omega)]
    by_cases z : i = j
    · rw [if_pos z, if_neg (by rw [valsJ_len]; omega)]
    · rw [if_neg z, List.getElem?_eq_none (by rw [valsJ_len]; omega)]
theorem valsJ_two (f : Nat → Value) (n : Nat) (a b : Value) : valsJ f (n * 2) ++ [a, b] = valsJ (fun j => if j = n * 2 then a else if j = n * 2 + 1 then b else f j) ((n + 1) * 2) := by
  rw [show (n + 1) * 2 = n * 2 + 1 + 1 by omega]
  unfold valsJ
  rw [List.range_succ, List.range_succ, List.map_append, List.map_append, List.append_assoc]
  congr 1
  · refine List.map_congr_left fun j hj => ?_
    have : j < n * 2 := by simpa using hj
    rw [if_neg (by omega), if_neg (by omega)]
  · simp

def JtG (base : Nat) (W : World) (a b : Value) : Prop := ∃ (x : Int) (t : Option Addr) (k c : Nat) (U : Nat → Int), a = .int .i64 x ∧ b = .slice t k c ∧ k ≤ 60 ∧ Lst base 2 1 W (.slice t k c) k U
def JtF (base : Nat) (W : World) (v : Value) (n : Nat) (f : Nat → Value) : Prop := W.ownsRow base 33 2 v n (valsJ f (n * 2)) ∧ ∀ j, j < n → JtG base W (f (j * 2)) (f (j * 2 + 1))
def JtL (base : Nat) (W : World) (v : Value) (n : Nat) : Prop := ∃ f, JtF base W v n f
def TyI (W : World) (g : Nat) : Prop := ∃ cur, W.heap[g]? = some (.cells cur 2 (0, 0))
theorem Lst.tyJ {base k g : Nat} {W : World} {v : Value} {U : Nat → Int} (h : Lst base 2 1 W v k U) (hg : v.ownBlock = some g) : TyI W g := by
  rcases h.2 with ⟨q, _⟩ | ⟨g', cap, cur, e, _, hg', _⟩
  · rw [q] at hg; cases hg
  · rw [e] at hg; cases hg; exact ⟨cur, hg'⟩
theorem Lst.nilJ (base : Nat) (T : TypeId) (M : Nat) (W : World) (U : Nat → Int) : Lst base T M W (.slice none 0 0) 0 U := by
  have := World.ownsRow_nil W base T M
  simpa [Lst, vals] using this
theorem Lst.lowJ {base b : Nat} {T : TypeId} {M : Nat} {w : World} {v : Value} {k : Nat} {U : Nat → Int} (h : Lst base T M w v k U) (hb : b ≤ base) : Lst b T M w v k U := by
  refine ⟨h.1, ?_⟩
  rcases h.2 with q | ⟨g, cap, cur, e1, q, r⟩
  · exact .inl q
  · exact .inr ⟨g, cap, cur, e1, by omega, r⟩
theorem JtF.ty {base n : Nat} {W : World} {v : Value} {f : Nat → Value} (h : JtF base W v n f) {g : Nat} (hg : v.ownBlock = some g) : ∃ cur, W.heap[g]? = some (.cells cur 33 (0, 0)) := by
  rcases h.1.2 with ⟨q, _⟩ | ⟨g', cap, cur, e, _, hg', _⟩
  · rw [q] at hg; cases hg
  · rw [e] at hg; cases hg; exact ⟨cur, hg'⟩
theorem apartJ {W : World} {g g' : Nat} (h : TyI W g) (h' : ∃ cur, W.heap[g']? = some (.cells cur 33 (0, 0))) : g ≠ g' := fun e => by
  obtain ⟨c1, h1⟩ := h
  obtain ⟨c2, h2⟩ := h'
  rw [e, h2] at h1
  cases h1
theorem JtG.same {base : Nat} {W W' : World} {a b : Value} (h : JtG base W a b) (hs : ∀ g, base ≤ g → g < W.heap.size → TyI W g → W'.heap[g]? = W.heap[g]?) : JtG base W' a b := by
  obtain ⟨x, t, k, c, U, h1, h2, h3, h4⟩ := h
  exact ⟨x, t, k, c, U, h1, h2, h3, h4.same (fun g e => hs g (World.ownsRow.lt h4 g e).1 (World.ownsRow.lt h4 g e).2 (h4.tyJ e))⟩
theorem JtF.own {base n : Nat} {W W' : World} {v : Value} {f : Nat → Value} (h : JtF base W v n f) (hs : ∀ g, v.ownBlock = some g → W'.heap[g]? = W.heap[g]?) : W'.ownsRow base 33 2 v n (valsJ f (n * 2)) := by
  refine ⟨h.1.1, ?_⟩
  rcases h.1.2 with q | ⟨g, cap, cur, e1, hb, hg, r⟩
  · exact .inl q
  · exact .inr ⟨g, cap, cur, e1, hb, (hs g (by rw [e1]; rfl)).trans hg, r⟩
theorem JtL.same {base n : Nat} {W W' : World} {v : Value} (h : JtL base W v n) (hs : ∀ g, base ≤ g → g < W.heap.size → W'.heap[g]? = W.heap[g]?) : JtL base W' v n := by
  obtain ⟨f, h⟩ := h
  exact ⟨f, h.own fun g hg => hs g (World.ownsRow.lt h.1 g hg).1 (World.ownsRow.lt h.1 g hg).2, fun j hj => (h.2 j hj).same fun g a b _ => hs g a b⟩
theorem JtL.below {base n : Nat} {W W' : World} {v : Value} (h : JtL base W v n) (hb : Below W.heap.size W W') : JtL base W' v n := h.same fun g _ q => hb.block g q
theorem JtL.beside {base n r : Nat} {W W' : World} {v : Value} (h : JtL base W v n) (hb : Beside r W W') (hr : r < base) : JtL base W' v n := h.same fun g q1 q => hb.2.2.2.2 g q (by omega)
/-- All lies below B: what is turned from B on does not matter. -/
def JtU (base B : Nat) (W : World) (v : Value) (n : Nat) : Prop := JtL base W v n ∧ W.heap.size ≤ B
theorem JtL.low {base b n : Nat} {W : World} {v : Value} (h : JtL base W v n) (hb : b ≤ base) : JtL b W v n := by
  obtain ⟨f, h1, h2⟩ := h
  refine ⟨f, ⟨h1.1, ?_⟩, fun j hj => ?_⟩
  · rcases h1.2 with q | ⟨g, cap, cur, e1, q, r⟩
    · exact .inl q
    · exact .inr ⟨g, cap, cur, e1, by omega, r⟩
  · obtain ⟨x, t, k, c, U, q1, q2, q3, q4⟩ := h2 j hj
    exact ⟨x, t, k, c, U, q1, q2, q3, q4.lowJ hb⟩
theorem JtL.val {base n : Nat} {W : World} {v : Value} (h : JtL base W v n) : ∃ t cap, v = .slice t n cap := by
  obtain ⟨f, h1, _⟩ := h
  rcases h1.2 with ⟨e, q⟩ | ⟨g, cap, cur, e, _⟩
  · exact ⟨none, 0, by rw [e, q]⟩
  · exact ⟨_, cap, e⟩
theorem JtL.blk {base n : Nat} {W : World} {v : Value} (h : JtL base W v n) (hn : 0 < n) : ∃ g cap f, v = .slice (some ⟨g, 0, none⟩) n cap ∧ base ≤ g ∧ g < W.heap.size ∧ JtF base W v n f ∧ n ≤ cap ∧ W.cell? ⟨g, 0, none⟩ = some (f 0) ∧ W.cell? ⟨g, 1, none⟩ = some (f 1) ∧ ∀ o, W.frozen? ⟨g, o, none⟩ = false := by
  obtain ⟨f, h1, h2⟩ := h
  rcases h1.2 with ⟨e, q⟩ | ⟨g, cap, cur, e, hb, hg, hc, _⟩
  · omega
  · subst e
    exact ⟨g, cap, f, rfl, hb, (Array.getElem?_eq_some_iff.1 hg).1, ⟨h1, h2⟩, hc, by rw [h1.cellAt 0 (by omega), valsJ_at f (by omega)], by rw [h1.cellAt 1 (by omega), valsJ_at f (by omega)], fun o => h1.frozenAt o⟩
theorem jt_lit (W : World) (base : Nat) (hb : base ≤ W.heap.size) : JtL base (W.alloc (.cells #[] 33)) (.slice (some ⟨W.heap.size, 0, none⟩) 0 0) 0 := ⟨fun _ => .int .i64 0, by simpa [valsJ] using World.ownsRow_lit (base := base) (size := 2) (e := 33) W #[] 0 hb (by simp [maxLen]) (by simp), fun j hj => absurd hj (Nat.not_lt_zero _)⟩
def putJ (f : Nat → Value) (n : Nat) (a b : Value) (j : Nat) : Value := if j = n * 2 then a else if j = n * 2 + 1 then b else f j
theorem JtF.grow {base n k c : Nat} {W w' : World} {v v' : Value} {f : Nat → Value} {x : Int} {t : Option Addr} {U : Nat → Int} (h : JtF base W v n f) (hL : Lst base 2 1 W (.slice t k c) k U) (h2 : k ≤ 60) (hown : w'.ownsRow base 33 2 v' (n + 1) (valsJ f (n * 2) ++ [.int .i64 x, .slice t k c])) (gr : W.grownBy w' v.ownBlock) : JtF base w' v' (n + 1) (putJ f n (.int .i64 x) (.slice t k c)) := by
  have keep : ∀ g, base ≤ g → g < W.heap.size → TyI W g → w'.heap[g]? = W.heap[g]? := fun g _ hg hc => gr.block g hg (fun e => apartJ hc (h.ty e.symm) rfl)
  refine ⟨?_, fun j hj => ?_⟩
  · have := valsJ_two f n (.int .i64 x) (.slice t k c)
    rw [this] at hown
    exact hown
  · show JtG base w' (if j * 2 = n * 2 then _ else if j * 2 = n * 2 + 1 then _ else f (j * 2)) (if j * 2 + 1 = n * 2 then _ else if j * 2 + 1 = n * 2 + 1 then _ else f (j * 2 + 1))
    by_cases e : j = n
    · subst e
      rw [if_pos rfl, if_neg (show ¬ j * 2 + 1 = j * 2 by omega), if_pos rfl]
      exact JtG.same (W := W) ⟨x, t, k, c, U, rfl, rfl, h2, hL⟩ keep
    · rw [if_neg (show ¬ j * 2 = n * 2 by omega), if_neg (show ¬ j * 2 = n * 2 + 1 by omega), if_neg (show ¬ j * 2 + 1 = n * 2 by omega), if_neg (show ¬ j * 2 + 1 = n * 2 + 1 by omega)]
      exact (h.2 j (by omega)).same keep
theorem info_JobJ : (Tryd.prog.info? 33).map (fun i => (i.zero, i.size, i.bytes)) = some (some (.agg #[.int .i64 0, .slice none 0 0]), 2, 32) := by kernel_rfl
theorem newsTwoJ (W : World) (a b : Value) (t : TypeId) : ∀ j u, [a, b][j]? = some u → (W.alloc (.cells #[a, b] t)).cell? ((⟨W.heap.size, 0, none⟩ : Addr).add j) = some u := World.news_of_block (cs := #[a, b]) (heap_alloc_new W _)
theorem list_Job {ops : Array Oper} {rest : List Oper} {o : Oper} {a : Act} {Q : Exit → Act → World → Prop} {W : World} {tt : TypeId} {x : Int} {t : Option Addr} {k c : Nat} (base : Nat) (v : Value) (n : Nat) (U : Nat → Int) (s z : Operand) (hgd : o.guard = none)
    (ho : o.op = .call { callee := .builtin .append, args := #[s, z], argTypes := #[24, 24] }) (hs : a.eval s = v) (hx : a.eval z = .slice (some ⟨W.heap.size, 0, none⟩) 1 1) (hown : JtL base W v n) (hL : Lst base 2 1 W (.slice t k c) k U) (h26 : k ≤ 60) (hk : n ≤ 100000) (hb : base ≤ W.heap.size)
    (h : ∀ g cap w', JtL base w' (.slice (some ⟨g, 0, none⟩) (n + 1) cap) (n + 1) → Below base W w' → wpList Tryd.prog ops Q rest (a.put o.dst (.slice (some ⟨g, 0, none⟩) (n + 1) cap)) w') :
    wpList Tryd.prog ops Q (o :: rest) a (W.alloc (.cells #[.int .i64 x, .slice t k c] tt)) := by
  obtain ⟨i0, hi, hz0, hz1, hz2⟩ := info_parts info_JobJ
  obtain ⟨f, hF⟩ := hown
  refine wpList_append_lies _ hgd s z 24 ho base 33 i0 (.agg #[.int .i64 0, .slice none 0 0]) 2 32 Tryd.underlying24 hi hz0 hz1 hz2 rfl (by decide) v n _ hs (hF.1.alloc _) ⟨W.heap.size, 0, none⟩ 1 1 [.int .i64 x, .slice t k c] hx rfl (newsTwoJ _ _ _ _) ?_ (by decide) (by unfold maxLen; omega) (by omega) (by simp; omega) _ rfl ?_
  · intro u hu
    simp at hu
    rcases hu with rfl | rfl <;> rfl
  · intro g cap w' q1 q2 _ q3
    have gr := grown_new q2
    exact h g cap w' ⟨_, hF.grow hL h26 q1 gr⟩ (grown_below gr hb (own_block hF.1))
theorem JtF.put0 {base n g cap : Nat} {W : World} {f : Nat → Value} (h : JtF base W (.slice (some ⟨g, 0, none⟩) n cap) n f) (x : Int) : JtL base (W.setCell ⟨g, 0, none⟩ (.int .i64 x)) (.slice (some ⟨g, 0, none⟩) n cap) n := by
  have q := h.1.stored 0 (.int .i64 x)
  rw [valsJ_set] at q
  refine ⟨fun j => if j = 0 then .int .i64 x else f j, q.1, fun j hj => ?_⟩
  have hs := (h.2 j hj).same (W' := W.setCell ⟨g, 0, none⟩ (.int .i64 x)) (fun g' _ hg' hc => q.2.block _ hg' (fun e => by cases e; exact apartJ hc (h.ty rfl) rfl))
  show JtG base _ (if j * 2 = 0 then _ else f (j * 2)) (if j * 2 + 1 = 0 then _ else f (j * 2 + 1))
  rw [if_neg (show ¬ j * 2 + 1 = 0 by omega)]
  by_cases e : j * 2 = 0
  · rw [if_pos e]
    obtain ⟨y, t, k, c, U, h1, h2, r⟩ := hs
    exact ⟨x, t, k, c, U, rfl, h2, r⟩
  · rw [if_neg e]; exact hs
theorem JtF.put1 {base n g cap : Nat} {W : World} {f : Nat → Value} {t : Option Addr} {k c : Nat} {U : Nat → Int} (h : JtF base W (.slice (some ⟨g, 0, none⟩) n cap) n f) (hL : Lst base 2 1 W (.slice t k c) k U) (hk : k ≤ 60) : JtL base (W.setCell ⟨g, 1, none⟩ (.slice t k c)) (.slice (some ⟨g, 0, none⟩) n cap) n := by
  have q := h.1.stored 1 (.slice t k c)
  rw [valsJ_set] at q
  have keep : ∀ g', base ≤ g' → g' < W.heap.size → TyI W g' → (W.setCell ⟨g, 1, none⟩ (.slice t k c)).heap[g']? = W.heap[g']? := fun g' _ hg' hc => q.2.block _ hg' (fun e => by cases e; exact apartJ hc (h.ty rfl) rfl)
  refine ⟨fun j => if j = 1 then .slice t k c else f j, q.1, fun j hj => ?_⟩
  have hs := (h.2 j hj).same keep
  show JtG base _ (if j * 2 = 1 then _ else f (j * 2)) (if j * 2 + 1 = 1 then _ else f (j * 2 + 1))
  rw [if_neg (show ¬ j * 2 = 1 by omega)]
  by_cases e : j * 2 + 1 = 1
  · rw [if_pos e]
    obtain ⟨y, t', k', c', U', h1, h2, r⟩ := hs
    have hL2 := JtG.same (W := W) (a := .int .i64 y) (b := .slice t k c) ⟨y, t, k, c, U, rfl, rfl, hk, hL⟩ keep
    rw [h1]
    exact hL2
  · rw [if_neg e]; exact hs
theorem JtL.cut {base n g cap : Nat} {W : World} (h : JtL base W (.slice (some ⟨g, 0, none⟩) n cap) n) : JtL base W (.slice (some ⟨g, 0, none⟩) 0 cap) 0 := by
  obtain ⟨f, h1, _⟩ := h
  refine ⟨f, ?_, fun j hj => absurd hj (Nat.not_lt_zero _)⟩
  rcases h1.2 with ⟨q, _⟩ | ⟨g', cap', cur, e1, q1, q2, q3, q4, q5, q6⟩
  · cases q
  · cases e1
    exact ⟨rfl, .inr ⟨g, cap, cur, rfl, q1, q2, Nat.zero_le _, q4, q5, by simp [valsJ]⟩⟩
theorem JtL.row {base n : Nat} {W : World} {t : Option Addr} {cap : Nat} (h : JtL base W (.slice t n cap) n) : ∃ X K V, RowJbs W t n X K V ∧ ∀ j, j < n → K j ≤ 60 := by
  obtain ⟨f, h1, h2⟩ := h
  have key : ∀ j, ∃ (x : Int) (k : Nat) (V : Nat → Int), j < n → (∃ b o a c, t = some ⟨b, o, none⟩ ∧ b < W.heap.size ∧ W.cell? ⟨b, o + j * 2, none⟩ = some (.int .i64 x) ∧ W.cell? ⟨b, o + j * 2 + 1, none⟩ = some (.slice a k c) ∧ RowI W a k V) ∧ k ≤ 60 := fun j => by
    by_cases hj : j < n
    · obtain ⟨x, t2, k, c, U, e1, e2, k2, hL⟩ := h2 j hj
      refine ⟨x, k, U, fun _ => ⟨?_, k2⟩⟩
      obtain ⟨t', cap', e', hO⟩ := hL.own
      cases e'
      rw [Nat.mul_one] at hO
      rcases h1.2 with ⟨_, q⟩ | ⟨g, cap', cur, e, hb, hg, _⟩
      · omega
      · cases e
        exact ⟨g, 0, _, c, rfl, (Array.getElem?_eq_some_iff.1 hg).1, by rw [Nat.zero_add, h1.cellAt (j * 2) (by omega), valsJ_at f (by omega), e1], by rw [Nat.zero_add, h1.cellAt (j * 2 + 1) (by omega), valsJ_at f (by omega), e2], hO.row⟩
    · exact ⟨0, 0, fun _ => 0, fun q => (hj q).elim⟩
  refine ⟨fun j => Classical.choose (key j), fun j => Classical.choose (Classical.choose_spec (key j)), fun j => Classical.choose (Classical.choose_spec (Classical.choose_spec (key j))), fun j hj => ?_, fun j hj => ?_⟩
  · exact (Classical.choose_spec (Classical.choose_spec (Classical.choose_spec (key j))) hj).1
  · exact (Classical.choose_spec (Classical.choose_spec (Classical.choose_spec (key j))) hj).2
end Go.Proofs.YtffjhbgnhnnfiaaDoor
