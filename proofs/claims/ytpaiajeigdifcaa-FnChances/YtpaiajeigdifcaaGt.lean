/-
What is proved: lists of gates in memory, each with a list of its own: kept, appended to, changed.
-/
import Derived.Test.YtpaiajeigdifcaaLst
import Derived.Test.YtpaiajeigdifcaaLsInt
import Derived.Test.YtpaiajeigdifcaaBlk
import Derived.Test.YtpaiajeigdifcaaGaT
import Derived.Laws.OwnMore
import Derived.Deep.AppendLies
namespace Go.Proofs.Ytpaiajeigdifcaa
set_option maxRecDepth 40000
open Go.ChangeShapes Go.WideShapes Go.ChangeAt Go.RowKit
set_option linter.unusedVariables false
set_option linter.unusedSimpArgs false

def valsV (f : Nat → Value) (m : Nat) : List Value := (List.range m).map f
theorem valsV_len (f : Nat → Value) (m : Nat) : (valsV f m).length = m := by simp [valsV]
theorem valsV_at (f : Nat → Value) {m j : Nat} (h : j < m) : (valsV f m)[j]? = some (f j) := by simp [valsV, h]
theorem valsV_set (f : Nat → Value) (m i : Nat) (u : Value) : (valsV f m).set i u = valsV (fun j => if j = i then u else f j) m := by
  refine List.ext_getElem? fun j => ?_
  rw [List.getElem?_set]
  by_cases hj : j < m
  · by_cases z : i = j
    · subst z
      rw [if_pos rfl, if_pos (by rw [valsV_len]; exact hj), valsV_at _ hj]
      simp
    · rw [if_neg z, valsV_at _ hj, valsV_at _ hj, if_neg (fun e => z e.symm)]
  · rw [List.getElem?_eq_none (l := valsV (fun j => if j = i then u else f j) m) (by rw [valsV_len]; omega)]
    by_cases z : i = j
    · rw [if_pos z, if_neg (by rw [valsV_len]; omega)]
    · rw [if_neg z, List.getElem?_eq_none (by rw [valsV_len]; omega)]
theorem valsV_two (f : Nat → Value) (n : Nat) (a b : Value) : valsV f (n * 2) ++ [a, b] = valsV (fun j => if j = n * 2 then a else if j = n * 2 + 1 then b else f j) ((n + 1) * 2) := by
  rw [show (n + 1) * 2 = n * 2 + 1 + 1 by omega]
  unfold valsV
  rw [List.range_succ, List.range_succ, List.map_append, List.map_append, List.append_assoc]
  congr 1
  · refine List.map_congr_left fun j hj => ?_
    have : j < n * 2 := by simpa using hj
    rw [if_neg (by omega), if_neg (by omega)]
  · simp

def GtG (base : Nat) (W : World) (a b : Value) (g : Nat) : Prop := ∃ (x : Int) (k c : Nat) (U : Nat → Int), a = .int .i64 x ∧ b = .slice (some ⟨g, 0, none⟩) k c ∧ Lst base 2 1 W (.slice (some ⟨g, 0, none⟩) k c) k U ∧ 1 ≤ k ∧ k ≤ 12
def GtF (base : Nat) (W : World) (v : Value) (n : Nat) (f : Nat → Value) (A : Nat → Nat) : Prop := W.ownsRow base 87 2 v n (valsV f (n * 2)) ∧ ∀ j, j < n → GtG base W (f (j * 2)) (f (j * 2 + 1)) (A j)
def GtL (base : Nat) (W : World) (v : Value) (n : Nat) : Prop := ∃ f A, GtF base W v n f A
/-- The lists within lie apart, all in blocks below H. -/
def GtD (base H : Nat) (W : World) (v : Value) (n : Nat) : Prop := ∃ f A, GtF base W v n f A ∧ (∀ i j, i < n → j < n → A i = A j → i = j) ∧ (∀ j, j < n → A j < H) ∧ (∀ g, v.ownBlock = some g → g < H) ∧ ∀ j, j < n → ∀ t k c, f (j * 2 + 1) = .slice t k c → k ≤ 6
theorem GtG.same {base g : Nat} {W W' : World} {a b : Value} (h : GtG base W a b g) (hs : W'.heap[g]? = W.heap[g]?) : GtG base W' a b g := by
  obtain ⟨x, k, c, U, h1, h2, h3, r⟩ := h
  exact ⟨x, k, c, U, h1, h2, h3.same (fun g' e => by cases e; exact hs), r⟩
theorem GtG.lt {base g : Nat} {W : World} {a b : Value} (h : GtG base W a b g) : base ≤ g ∧ g < W.heap.size := by
  obtain ⟨x, k, c, U, h1, h2, h3, r⟩ := h
  exact World.ownsRow.lt h3 g rfl
theorem Lst.ty {base g k c : Nat} {W : World} {U : Nat → Int} (h : Lst base 2 1 W (.slice (some ⟨g, 0, none⟩) k c) k U) : ∃ cur, W.heap[g]? = some (.cells cur 2 (0, 0)) := by
  rcases h.2 with ⟨q, _⟩ | ⟨g', cap, cur, e, _, hg, _⟩
  · cases q
  · cases e; exact ⟨cur, hg⟩
theorem GtG.ty {base g : Nat} {W : World} {a b : Value} (h : GtG base W a b g) : ∃ cur, W.heap[g]? = some (.cells cur 2 (0, 0)) := by
  obtain ⟨x, k, c, U, h1, h2, h3, r⟩ := h
  exact h3.ty
theorem GtF.ty {base n : Nat} {W : World} {v : Value} {f : Nat → Value} {A : Nat → Nat} (h : GtF base W v n f A) {g : Nat} (hg : v.ownBlock = some g) : ∃ cur, W.heap[g]? = some (.cells cur 87 (0, 0)) := by
  rcases h.1.2 with ⟨q, _⟩ | ⟨g', cap, cur, e, _, hg', _⟩
  · rw [q] at hg; cases hg
  · rw [e] at hg; cases hg; exact ⟨cur, hg'⟩
theorem apart {W : World} {g g' : Nat} (h : ∃ cur, W.heap[g]? = some (.cells cur 2 (0, 0))) (h' : ∃ cur, W.heap[g']? = some (.cells cur 87 (0, 0))) : g ≠ g' := fun e => by
  obtain ⟨c1, h1⟩ := h
  obtain ⟨c2, h2⟩ := h'
  rw [e, h2] at h1
  cases h1
theorem GtF.own {base n : Nat} {W W' : World} {v : Value} {f : Nat → Value} {A : Nat → Nat} (h : GtF base W v n f A) (hs : ∀ g, v.ownBlock = some g → W'.heap[g]? = W.heap[g]?) : W'.ownsRow base 87 2 v n (valsV f (n * 2)) := by
  refine ⟨h.1.1, ?_⟩
  rcases h.1.2 with q | ⟨g, cap, cur, e1, hb, hg, r⟩
  · exact .inl q
  · exact .inr ⟨g, cap, cur, e1, hb, (hs g (by rw [e1]; rfl)).trans hg, r⟩
theorem GtF.same {base n : Nat} {W W' : World} {v : Value} {f : Nat → Value} {A : Nat → Nat} (h : GtF base W v n f A) (hs : ∀ g, base ≤ g → g < W.heap.size → W'.heap[g]? = W.heap[g]?) : GtF base W' v n f A :=
  ⟨h.own fun g hg => hs g (World.ownsRow.lt h.1 g hg).1 (World.ownsRow.lt h.1 g hg).2, fun j hj => (h.2 j hj).same (hs _ (h.2 j hj).lt.1 (h.2 j hj).lt.2)⟩
theorem GtD.below {base H n : Nat} {W W' : World} {v : Value} (h : GtD base H W v n) (hb : Below W.heap.size W W') : GtD base H W' v n := by
  obtain ⟨f, A, h, r⟩ := h
  exact ⟨f, A, h.same fun g _ q => hb.block g q, r⟩
theorem GtD.beside {base H n r : Nat} {W W' : World} {v : Value} (h : GtD base H W v n) (hb : Beside r W W') (hr : r < base) : GtD base H W' v n := by
  obtain ⟨f, A, h, q⟩ := h
  exact ⟨f, A, h.same fun g q1 q => hb.2.2.2.2 g q (by omega), q⟩
theorem GtL.below {base n : Nat} {W W' : World} {v : Value} (h : GtL base W v n) (hb : Below W.heap.size W W') : GtL base W' v n := by
  obtain ⟨f, A, h⟩ := h
  exact ⟨f, A, h.same fun g _ q => hb.block g q⟩
theorem GtL.beside {base n r : Nat} {W W' : World} {v : Value} (h : GtL base W v n) (hb : Beside r W W') (hr : r < base) : GtL base W' v n := by
  obtain ⟨f, A, h⟩ := h
  exact ⟨f, A, h.same fun g q1 q => hb.2.2.2.2 g q (by omega)⟩
theorem GtD.list {base H n : Nat} {W : World} {v : Value} (h : GtD base H W v n) : GtL base W v n := by
  obtain ⟨f, A, h, _⟩ := h
  exact ⟨f, A, h⟩
theorem GtD.up {base H n : Nat} {W : World} {v : Value} (h : GtD base H W v n) : GtD base W.heap.size W v n := by
  obtain ⟨f, A, h, q, _, _, q6⟩ := h
  exact ⟨f, A, h, q, fun j hj => (h.2 j hj).lt.2, fun g hg => (World.ownsRow.lt h.1 g hg).2, q6⟩
theorem GtD.besideH {base H n q : Nat} {W W' : World} {v : Value} (h : GtD base H W v n) (hb : Beside q W W') (hq : H ≤ q) : GtD base H W' v n := by
  obtain ⟨f, A, h, q1, q2, q3, q6⟩ := h
  refine ⟨f, A, ⟨h.own fun g hg => hb.2.2.2.2 g (World.ownsRow.lt h.1 g hg).2 (by have := q3 g hg; omega), fun j hj => (h.2 j hj).same (hb.2.2.2.2 _ (h.2 j hj).lt.2 (by have := q2 j hj; omega))⟩, q1, q2, q3, q6⟩
theorem GtD.belowH {base H B n : Nat} {W W' : World} {v : Value} (h : GtD base H W v n) (hb : Below B W W') (hq : H ≤ B) : GtD base H W' v n := by
  obtain ⟨f, A, h, q1, q2, q3, q6⟩ := h
  refine ⟨f, A, ⟨h.own fun g hg => hb.block g (by have := q3 g hg; omega), fun j hj => (h.2 j hj).same (hb.block _ (by have := q2 j hj; omega))⟩, q1, q2, q3, q6⟩
theorem Lst.nilL (base : Nat) (T : TypeId) (M : Nat) (W : World) (U : Nat → Int) : Lst base T M W (.slice none 0 0) 0 U := by
  have := World.ownsRow_nil W base T M
  simpa [Lst, vals] using this
theorem Lst.lowL {base b : Nat} {T : TypeId} {M : Nat} {w : World} {v : Value} {k : Nat} {U : Nat → Int} (h : Lst base T M w v k U) (hb : b ≤ base) : Lst b T M w v k U := by
  refine ⟨h.1, ?_⟩
  rcases h.2 with q | ⟨g, cap, cur, e1, q, r⟩
  · exact .inl q
  · exact .inr ⟨g, cap, cur, e1, by omega, r⟩
theorem GtL.low {base b n : Nat} {W : World} {v : Value} (h : GtL base W v n) (hb : b ≤ base) : GtL b W v n := by
  obtain ⟨f, A, h1, h2⟩ := h
  refine ⟨f, A, ⟨h1.1, ?_⟩, fun j hj => ?_⟩
  · rcases h1.2 with q | ⟨g, cap, cur, e1, q, r⟩
    · exact .inl q
    · exact .inr ⟨g, cap, cur, e1, by omega, r⟩
  · obtain ⟨x, k, c, U, q1, q2, q3, r⟩ := h2 j hj
    exact ⟨x, k, c, U, q1, q2, q3.lowL hb, r⟩
theorem GtL.val {base n : Nat} {W : World} {v : Value} (h : GtL base W v n) : ∃ t cap, v = .slice t n cap := by
  obtain ⟨f, A, h1, _⟩ := h
  rcases h1.2 with ⟨e, q⟩ | ⟨g, cap, cur, e, _⟩
  · exact ⟨none, 0, by rw [e, q]⟩
  · exact ⟨_, cap, e⟩
theorem GtL.blk {base n : Nat} {W : World} {v : Value} (h : GtL base W v n) (hn : 0 < n) : ∃ g cap, v = .slice (some ⟨g, 0, none⟩) n cap ∧ base ≤ g ∧ g < W.heap.size := by
  obtain ⟨f, A, h1, _⟩ := h
  rcases h1.2 with ⟨e, q⟩ | ⟨g, cap, cur, e, hb, hg, _⟩
  · omega
  · exact ⟨g, cap, e, hb, (Array.getElem?_eq_some_iff.1 hg).1⟩
theorem gt_nil (base H : Nat) (W : World) : GtD base H W (.slice none 0 0) 0 := ⟨fun _ => .int .i64 0, fun _ => 0, ⟨by simpa [valsV] using World.ownsRow_nil W base 87 2, fun j hj => by omega⟩, fun i j hi => by omega, fun j hj => by omega, fun g hg => (by cases hg), fun j hj => by omega⟩
def putF (f : Nat → Value) (n : Nat) (a b : Value) (j : Nat) : Value := if j = n * 2 then a else if j = n * 2 + 1 then b else f j
def putA (A : Nat → Nat) (n g : Nat) (j : Nat) : Nat := if j = n then g else A j
theorem GtF.grow {base n g0 k c : Nat} {W w' : World} {v v' : Value} {f : Nat → Value} {A : Nat → Nat} {x : Int} {U : Nat → Int} (h : GtF base W v n f A) (hL : Lst base 2 1 W (.slice (some ⟨g0, 0, none⟩) k c) k U) (h1 : 1 ≤ k) (h2 : k ≤ 12) (hown : w'.ownsRow base 87 2 v' (n + 1) (valsV f (n * 2) ++ [.int .i64 x, .slice (some ⟨g0, 0, none⟩) k c])) (gr : W.grownBy w' v.ownBlock) : GtF base w' v' (n + 1) (putF f n (.int .i64 x) (.slice (some ⟨g0, 0, none⟩) k c)) (putA A n g0) := by
  have keep : ∀ g, g < W.heap.size → (∃ cur, W.heap[g]? = some (.cells cur 2 (0, 0))) → w'.heap[g]? = W.heap[g]? := fun g hg hc => gr.block g hg (fun e => apart hc (h.ty e.symm) rfl)
  refine ⟨?_, fun j hj => ?_⟩
  · have := valsV_two f n (.int .i64 x) (.slice (some ⟨g0, 0, none⟩) k c)
    rw [this] at hown
    exact hown
  · show GtG base w' (if j * 2 = n * 2 then _ else if j * 2 = n * 2 + 1 then _ else f (j * 2)) (if j * 2 + 1 = n * 2 then _ else if j * 2 + 1 = n * 2 + 1 then _ else f (j * 2 + 1)) (if j = n then g0 else A j)
    by_cases e : j = n
    · subst e
      rw [if_pos rfl, if_neg (show ¬ j * 2 + 1 = j * 2 by omega), if_pos rfl, if_pos rfl]
      exact GtG.same (W := W) ⟨x, k, c, U, rfl, rfl, hL, h1, h2⟩ (keep g0 (World.ownsRow.lt hL g0 rfl).2 hL.ty)
    · rw [if_neg (show ¬ j * 2 = n * 2 by omega), if_neg (show ¬ j * 2 = n * 2 + 1 by omega), if_neg (show ¬ j * 2 + 1 = n * 2 by omega), if_neg (show ¬ j * 2 + 1 = n * 2 + 1 by omega), if_neg e]
      exact (h.2 j (by omega)).same (keep _ (h.2 j (by omega)).lt.2 (h.2 j (by omega)).ty)
theorem info_Gate : (Try.prog.info? 87).map (fun i => (i.zero, i.size, i.bytes)) = some (some (.agg #[.int .i64 0, .slice none 0 0]), 2, 32) := by kernel_rfl
theorem newsTwoG (W : World) (a b : Value) (t : TypeId) : ∀ j u, [a, b][j]? = some u → (W.alloc (.cells #[a, b] t)).cell? ((⟨W.heap.size, 0, none⟩ : Addr).add j) = some u := World.news_of_block (cs := #[a, b]) (heap_alloc_new W _)
theorem list_Gate {ops : Array Oper} {rest : List Oper} {o : Oper} {a : Act} {Q : Exit → Act → World → Prop} {W : World} {tt : TypeId} {x : Int} {g0 k c : Nat} (base H : Nat) (v : Value) (n : Nat) (U : Nat → Int) (s z : Operand) (hgd : o.guard = none)
    (ho : o.op = .call { callee := .builtin .append, args := #[s, z], argTypes := #[24, 24] }) (hs : a.eval s = v) (hx : a.eval z = .slice (some ⟨W.heap.size, 0, none⟩) 1 1) (hown : GtD base H W v n) (hH : H ≤ g0) (hL : Lst base 2 1 W (.slice (some ⟨g0, 0, none⟩) k c) k U) (h1 : 1 ≤ k) (h26 : k ≤ 6) (hk : n ≤ 100000) (hb : base ≤ W.heap.size)
    (h : ∀ g cap w', GtD base w'.heap.size w' (.slice (some ⟨g, 0, none⟩) (n + 1) cap) (n + 1) → Below base W w' → wpList Try.prog ops Q rest (a.put o.dst (.slice (some ⟨g, 0, none⟩) (n + 1) cap)) w') :
    wpList Try.prog ops Q (o :: rest) a (W.alloc (.cells #[.int .i64 x, .slice (some ⟨g0, 0, none⟩) k c] tt)) := by
  obtain ⟨i0, hi, hz0, hz1, hz2⟩ := info_parts info_Gate
  obtain ⟨f, A, hF, q, r, _, q6⟩ := hown
  refine wpList_append_lies _ hgd s z 24 ho base 87 i0 (.agg #[.int .i64 0, .slice none 0 0]) 2 32 Try.underlying24 hi hz0 hz1 hz2 rfl (by decide) v n _ hs (hF.1.alloc _) ⟨W.heap.size, 0, none⟩ 1 1 [.int .i64 x, .slice (some ⟨g0, 0, none⟩) k c] hx rfl (newsTwoG _ _ _ _) ?_ (by decide) (by unfold maxLen; omega) (by omega) (by simp; omega) _ rfl ?_
  · intro u hu
    simp at hu
    rcases hu with rfl | rfl <;> rfl
  · intro g cap w' q1 q2 _ q3
    have gr := grown_new q2
    have h' := hF.grow hL h1 (show k ≤ 12 by omega) q1 gr
    refine h g cap w' ⟨_, _, h', fun i j hi hj e => ?_, fun j hj => (h'.2 j hj).lt.2, fun g hg => (World.ownsRow.lt h'.1 g hg).2, fun j hj t k' c' e => ?_⟩ (grown_below gr hb (own_block hF.1))
    rotate_left
    · have e : (if j * 2 + 1 = n * 2 then Value.int .i64 x else if j * 2 + 1 = n * 2 + 1 then .slice (some ⟨g0, 0, none⟩) k c else f (j * 2 + 1)) = .slice t k' c' := e
      rw [if_neg (by omega)] at e
      by_cases z : j * 2 + 1 = n * 2 + 1
      · rw [if_pos z] at e; cases e; exact h26
      · rw [if_neg z] at e; exact q6 j (by omega) t k' c' e
    have e : (if i = n then g0 else A i) = (if j = n then g0 else A j) := e
    by_cases ei : i = n
    · by_cases ej : j = n
      · omega
      · rw [if_pos ei, if_neg ej] at e
        have := r j (by omega)
        omega
    · by_cases ej : j = n
      · rw [if_neg ei, if_pos ej] at e
        have := r i (by omega)
        omega
      · rw [if_neg ei, if_neg ej] at e
        exact q i j (by omega) (by omega) e
theorem GtF.cell {base n g cap : Nat} {W : World} {f : Nat → Value} {A : Nat → Nat} (h : GtF base W (.slice (some ⟨g, 0, none⟩) n cap) n f A) {i : Nat} (hi : i < n * 2) : W.cell? ⟨g, i, none⟩ = some (f i) := by
  rw [h.1.cellAt i hi, valsV_at f hi]
theorem GtF.put0 {base n g cap i0 : Nat} {W : World} {f : Nat → Value} {A : Nat → Nat} (h : GtF base W (.slice (some ⟨g, 0, none⟩) n cap) n f A) (x : Int) : GtF base (W.setCell ⟨g, i0 * 2, none⟩ (.int .i64 x)) (.slice (some ⟨g, 0, none⟩) n cap) n (fun j => if j = i0 * 2 then .int .i64 x else f j) A := by
  have q := h.1.stored (i0 * 2) (.int .i64 x)
  rw [valsV_set] at q
  refine ⟨q.1, fun j hj => ?_⟩
  have hs := (h.2 j hj).same (q.2.block _ (h.2 j hj).lt.2 (fun e => by cases e; exact apart (h.2 j hj).ty (h.ty rfl) rfl))
  show GtG base _ (if j * 2 = i0 * 2 then _ else f (j * 2)) (if j * 2 + 1 = i0 * 2 then _ else f (j * 2 + 1)) (A j)
  rw [if_neg (show ¬ j * 2 + 1 = i0 * 2 by omega)]
  by_cases e : j * 2 = i0 * 2
  · rw [if_pos e]
    obtain ⟨y, k, c, U, h1, h2, r⟩ := hs
    exact ⟨x, k, c, U, rfl, h2, r⟩
  · rw [if_neg e]; exact hs
theorem GtF.put1 {base n g cap i0 g9 k c : Nat} {W W1 : World} {f : Nat → Value} {A : Nat → Nat} {U : Nat → Int} (h : GtF base W (.slice (some ⟨g, 0, none⟩) n cap) n f A) (hi : ∀ i j, i < n → j < n → A i = A j → i = j) (h0 : i0 < n) (gr : W.grownBy W1 (some (A i0))) (hL : Lst base 2 1 W1 (.slice (some ⟨g9, 0, none⟩) k c) k U) (h1 : 1 ≤ k) (h2 : k ≤ 12) : W1.heap[g]? = W.heap[g]? ∧ GtL base (W1.setCell ⟨g, i0 * 2 + 1, none⟩ (.slice (some ⟨g9, 0, none⟩) k c)) (.slice (some ⟨g, 0, none⟩) n cap) n := by
  have zg := (World.ownsRow.lt h.1 g rfl).2
  have e0 : W1.heap[g]? = W.heap[g]? := gr.block g zg (fun e => by cases e; exact apart (h.2 i0 h0).ty (h.ty rfl) rfl)
  have own1 : W1.ownsRow base 87 2 (.slice (some ⟨g, 0, none⟩) n cap) n (valsV f (n * 2)) := h.own (fun g' e => by cases e; exact e0)
  have ty1 : ∃ cur, W1.heap[g]? = some (.cells cur 87 (0, 0)) := by rw [e0]; exact h.ty rfl
  have q := own1.stored (i0 * 2 + 1) (.slice (some ⟨g9, 0, none⟩) k c)
  rw [valsV_set] at q
  refine ⟨e0, fun j => if j = i0 * 2 + 1 then .slice (some ⟨g9, 0, none⟩) k c else f j, fun j => if j = i0 then g9 else A j, q.1, fun j hj => ?_⟩
  show GtG base _ (if j * 2 = i0 * 2 + 1 then _ else f (j * 2)) (if j * 2 + 1 = i0 * 2 + 1 then _ else f (j * 2 + 1)) (if j = i0 then g9 else A j)
  rw [if_neg (show ¬ j * 2 = i0 * 2 + 1 by omega)]
  by_cases e : j = i0
  · subst e
    rw [if_pos rfl, if_pos rfl]
    obtain ⟨y, k', c', U', a1, a2, r⟩ := h.2 j h0
    exact GtG.same (W := W1) ⟨y, k, c, U, a1, rfl, hL, h1, h2⟩ (q.2.block _ (World.ownsRow.lt hL g9 rfl).2 (fun e => by cases e; exact apart hL.ty ty1 rfl))
  · rw [if_neg (show ¬ j * 2 + 1 = i0 * 2 + 1 by omega), if_neg e]
    have s1 := (h.2 j hj).same (gr.block _ (h.2 j hj).lt.2 (fun q' => e (hi _ _ hj h0 (by simpa using q'))))
    exact s1.same (q.2.block _ s1.lt.2 (fun q' => by cases q'; exact apart s1.ty ty1 rfl))
theorem vals_ten : vals (fun j => (j : Int)) (10 * 1) = [.int .i64 0, .int .i64 1, .int .i64 2, .int .i64 3, .int .i64 4, .int .i64 5, .int .i64 6, .int .i64 7, .int .i64 8, .int .i64 9] := by rfl
theorem gt_lit (W : World) (base : Nat) (hb : base ≤ W.heap.size) : GtL base ((W.alloc (.cells #[.int .i64 0, .int .i64 1, .int .i64 2, .int .i64 3, .int .i64 4, .int .i64 5, .int .i64 6, .int .i64 7, .int .i64 8, .int .i64 9] 2)).alloc (.cells #[.int .i64 5, .slice (some ⟨W.heap.size, 0, none⟩) 10 10] 87)) (.slice (some ⟨W.heap.size + 1, 0, none⟩) 1 1) 1 := by
  obtain ⟨W1, hW1⟩ : ∃ z, z = W.alloc (.cells #[.int .i64 0, .int .i64 1, .int .i64 2, .int .i64 3, .int .i64 4, .int .i64 5, .int .i64 6, .int .i64 7, .int .i64 8, .int .i64 9] 2) := ⟨_, rfl⟩
  have hL : Lst base 2 1 W1 (.slice (some ⟨W.heap.size, 0, none⟩) 10 10) 10 (fun j => (j : Int)) := by
    show W1.ownsRow _ _ _ _ _ _
    rw [vals_ten, hW1]
    exact World.ownsRow_lit (base := base) (size := 1) (e := 2) W #[.int .i64 0, .int .i64 1, .int .i64 2, .int .i64 3, .int .i64 4, .int .i64 5, .int .i64 6, .int .i64 7, .int .i64 8, .int .i64 9] 10 hb (by simp [maxLen]) (by simp)
  have hz : W1.heap.size = W.heap.size + 1 := by rw [hW1]; simp
  rw [← hW1, ← hz]
  refine ⟨fun j => if j = 0 then .int .i64 5 else .slice (some ⟨W.heap.size, 0, none⟩) 10 10, fun _ => W.heap.size, ?_, fun j hj => ?_⟩
  · have := World.ownsRow_lit (base := base) (size := 2) (e := 87) W1 #[.int .i64 5, .slice (some ⟨W.heap.size, 0, none⟩) 10 10] 1 (by omega) (by simp [maxLen]) (by simp)
    simpa [valsV, List.range_succ] using this
  · obtain rfl : j = 0 := by omega
    exact ⟨5, 10, 10, _, rfl, rfl, World.ownsRow.alloc hL _, by omega, by omega⟩
def lenAt (w : World) (b : Nat) : Nat := match w.cell? ⟨b, 1, none⟩ with
  | some (.slice _ n _) => n
  | _ => 0
theorem lenAt_is {w : World} {b n c : Nat} {t : Option Addr} (h : w.cell? ⟨b, 1, none⟩ = some (.slice t n c)) : lenAt w b = n := by unfold lenAt; rw [h]
theorem GtF.beside {base n r : Nat} {W W' : World} {v : Value} {f : Nat → Value} {A : Nat → Nat} (h : GtF base W v n f A) (hb : Beside r W W') (hr : r < base) : GtF base W' v n f A := h.same fun g q1 q => hb.2.2.2.2 g q (by omega)
theorem GtF.below {base n : Nat} {W W' : World} {v : Value} {f : Nat → Value} {A : Nat → Nat} (h : GtF base W v n f A) (hb : Below W.heap.size W W') : GtF base W' v n f A := h.same fun g _ q => hb.block g q
theorem GtL.row {base n : Nat} {W : World} {t : Option Addr} {cap : Nat} (h : GtL base W (.slice t n cap) n) : ∃ X K V, RowGat W t n X K V ∧ ∀ j, j < n → 1 ≤ K j ∧ K j ≤ 12 := by
  obtain ⟨f, A, h1, h2⟩ := h
  have key : ∀ j, ∃ (x : Int) (k : Nat) (V : Nat → Int), j < n → (∃ b o a c, t = some ⟨b, o, none⟩ ∧ b < W.heap.size ∧ W.cell? ⟨b, o + j * 2, none⟩ = some (.int .i64 x) ∧ W.cell? ⟨b, o + j * 2 + 1, none⟩ = some (.slice a k c) ∧ RowI W a k V) ∧ 1 ≤ k ∧ k ≤ 12 := fun j => by
    by_cases hj : j < n
    · obtain ⟨x, k, c, U, e1, e2, hL, k1, k2⟩ := h2 j hj
      refine ⟨x, k, U, fun _ => ⟨?_, k1, k2⟩⟩
      obtain ⟨t', cap', e', hO⟩ := hL.own
      cases e'
      rw [Nat.mul_one] at hO
      rcases h1.2 with ⟨_, q⟩ | ⟨g, cap', cur, e, hb, hg, _⟩
      · omega
      · cases e
        exact ⟨g, 0, _, c, rfl, (Array.getElem?_eq_some_iff.1 hg).1, by rw [Nat.zero_add, h1.cellAt (j * 2) (by omega), valsV_at f (by omega), e1], by rw [Nat.zero_add, h1.cellAt (j * 2 + 1) (by omega), valsV_at f (by omega), e2], hO.row⟩
    · exact ⟨0, 0, fun _ => 0, fun q => (hj q).elim⟩
  refine ⟨fun j => Classical.choose (key j), fun j => Classical.choose (Classical.choose_spec (key j)), fun j => Classical.choose (Classical.choose_spec (Classical.choose_spec (key j))), fun j hj => ?_, fun j hj => ?_⟩
  · exact (Classical.choose_spec (Classical.choose_spec (Classical.choose_spec (key j))) hj).1
  · exact (Classical.choose_spec (Classical.choose_spec (Classical.choose_spec (key j))) hj).2
end Go.Proofs.Ytpaiajeigdifcaa
