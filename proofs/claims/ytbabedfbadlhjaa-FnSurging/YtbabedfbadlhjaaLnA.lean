/-
What is proved: lists of speed lines on their way of being put together, each with its points in memory of their own.
-/
import Derived.Test.YtbabedfbadlhjaaLst
import Derived.Test.YtbabedfbadlhjaaMapR
import Derived.Deep.AppendLies
import Derived.Laws.OwnMore
namespace Go.Proofs.Ytbabedfbadlhjaa
set_option maxRecDepth 40000
open Go.ChangeShapes Go.WideShapes Go.ChangeAt Go.RowKit
set_option linter.unusedVariables false
set_option linter.unusedSimpArgs false

def valsV (f : Nat → Value) (m : Nat) : List Value := (List.range m).map f
theorem valsV_len (f : Nat → Value) (m : Nat) : (valsV f m).length = m := by simp [valsV]
theorem valsV_at (f : Nat → Value) {m j : Nat} (h : j < m) : (valsV f m)[j]? = some (f j) := by simp [valsV, h]
theorem valsV_set (f : Nat → Value) (m i : Nat) (u : Value) : (valsV f m).set i u = valsV (fun j => if j = i then u else f j) m := by
  refine List.ext_getElem? fun j => ?_
  rw [List.getElem?_set]
  by_cases hj : j < m
  · by_cases z : i = j
    · subst z
      rw [if_pos rfl, if_pos (by rw [valsV_len]; exact hj), valsV_at _ hj]
      simp
    · rw [if_neg z, valsV_at _ hj, valsV_at _ hj, if_neg (fun e => z e.symm)]
  · rw [List.getElem?_eq_none (l := valsV (fun j => if j = i then u else f j) m) (by rw [valsV_len]; omega)]
    by_cases z : i = j
    · rw [if_pos z, if_neg (by rw [valsV_len]; omega)]
    · rw [if_neg z, List.getElem?_eq_none (by rw [valsV_len]; omega)]
theorem valsV_two (f : Nat → Value) (n : Nat) (a b : Value) : valsV f (n * 2) ++ [a, b] = valsV (fun j => if j = n * 2 then a else if j = n * 2 + 1 then b else f j) ((n + 1) * 2) := by
  rw [show (n + 1) * 2 = n * 2 + 1 + 1 by omega]
  unfold valsV
  rw [List.range_succ, List.range_succ, List.map_append, List.map_append, List.append_assoc]
  congr 1
  · refine List.map_congr_left fun j hj => ?_
    have : j < n * 2 := by simpa using hj
    rw [if_neg (by omega), if_neg (by omega)]
  · simp
/-- The points of a line: k of them, any, in a block of their own. -/
def KnB (base : Nat) (W : World) (t : Option Addr) (k : Nat) : Prop := ∃ g cur, t = some ⟨g, 0, none⟩ ∧ base ≤ g ∧ W.heap[g]? = some (.cells cur 33 (0, 0)) ∧ k * 2 ≤ cur.size ∧ ∀ i, i < k * 2 → ∃ y, cur[i]? = some (.int .i64 y)
theorem KnB.same {base k : Nat} {W W' : World} {t : Option Addr} (h : KnB base W t k) (hs : ∀ g, t = some ⟨g, 0, none⟩ → base ≤ g → g < W.heap.size → (∃ cur, W.heap[g]? = some (.cells cur 33 (0, 0))) → W'.heap[g]? = W.heap[g]?) : KnB base W' t k := by
  obtain ⟨g, cur, e, h1, h2, h3, h4⟩ := h
  exact ⟨g, cur, e, h1, (hs g e h1 (Array.getElem?_eq_some_iff.1 h2).1 ⟨cur, h2⟩).trans h2, h3, h4⟩
theorem KnB.row {base k : Nat} {W : World} {t : Option Addr} (h : KnB base W t k) : ∃ V, RowI W t (k * 2) V := by
  obtain ⟨g, cur, rfl, h1, h2, h3, h4⟩ := h
  have : ∀ i, ∃ y, i < k * 2 → cur[i]? = some (.int .i64 y) := fun i => by
    by_cases hi : i < k * 2
    · obtain ⟨y, hy⟩ := h4 i hi; exact ⟨y, fun _ => hy⟩
    · exact ⟨0, fun q => (hi q).elim⟩
  refine ⟨fun i => Classical.choose (this i), fun j hj => ⟨g, 0, rfl, (Array.getElem?_eq_some_iff.1 h2).1, ?_⟩⟩
  rw [Nat.zero_add]
  simp only [World.cell?, h2]
  exact Classical.choose_spec (this j) hj
theorem KnB.of {base k cap : Nat} {W : World} {t : Option Addr} {U : Nat → Int} (h : Lst base 33 2 W (.slice t k cap) k U) (hk : 1 ≤ k) : KnB base W t k ∧ k ≤ cap := by
  rcases h.2 with ⟨_, q⟩ | ⟨g, cap', cur, e, h1, h2, h3, h4, h5, h6⟩
  · omega
  · cases e
    refine ⟨⟨g, cur, rfl, h1, h2, by omega, fun i hi => ⟨U i, ?_⟩⟩, h3⟩
    have : (cur.toList.take (k * 2))[i]? = some (.int .i64 (U i)) := by rw [h6]; exact vals_at U hi
    rw [List.getElem?_take_of_lt hi] at this
    simpa using this
theorem KnB.low {base b k : Nat} {W : World} {t : Option Addr} (h : KnB base W t k) (hb : b ≤ base) : KnB b W t k := by
  obtain ⟨g, cur, e, h1, r⟩ := h
  exact ⟨g, cur, e, by omega, r⟩
theorem KnB.less {base k m : Nat} {W : World} {t : Option Addr} (h : KnB base W t k) (hm : m ≤ k) : KnB base W t m := by
  obtain ⟨g, cur, e, h1, h2, h3, h4⟩ := h
  exact ⟨g, cur, e, h1, h2, by omega, fun i hi => h4 i (by omega)⟩
def LnG (base : Nat) (W : World) (a b : Value) : Prop := ∃ s t k c, a = .int .i64 s ∧ b = .slice t k c ∧ KnB base W t k ∧ 1 ≤ k ∧ k ≤ c ∧ k ≤ 61
/-- A list of n lines. -/
def MpF (base : Nat) (W : World) (v : Value) (n : Nat) (f : Nat → Value) : Prop := W.ownsRow base 29 2 v n (valsV f (n * 2)) ∧ ∀ j, j < n → LnG base W (f (j * 2)) (f (j * 2 + 1))
def MpL (base : Nat) (W : World) (v : Value) (n : Nat) : Prop := ∃ f, MpF base W v n f
theorem LnG.same {base : Nat} {W W' : World} {a b : Value} (h : LnG base W a b) (hs : ∀ g, base ≤ g → g < W.heap.size → (∃ cur, W.heap[g]? = some (.cells cur 33 (0, 0))) → W'.heap[g]? = W.heap[g]?) : LnG base W' a b := by
  obtain ⟨s, t, k, c, h1, h2, h3, r⟩ := h
  exact ⟨s, t, k, c, h1, h2, h3.same (fun g _ q1 q2 q3 => hs g q1 q2 q3), r⟩
theorem MpF.same {base n : Nat} {W W' : World} {v : Value} {f : Nat → Value} (h : MpF base W v n f) (hs : ∀ g, base ≤ g → g < W.heap.size → W'.heap[g]? = W.heap[g]?) : MpF base W' v n f := by
  obtain ⟨h1, h2⟩ := h
  refine ⟨⟨h1.1, ?_⟩, fun j hj => (h2 j hj).same (fun g q1 q2 _ => hs g q1 q2)⟩
  rcases h1.2 with q | ⟨g, cap, cur, e1, hb, hg, r⟩
  · exact .inl q
  · exact .inr ⟨g, cap, cur, e1, hb, (hs g hb (Array.getElem?_eq_some_iff.1 hg).1).trans hg, r⟩
theorem MpL.below {base n : Nat} {W W' : World} {v : Value} (h : MpL base W v n) (hb : Below W.heap.size W W') : MpL base W' v n := by
  obtain ⟨f, h⟩ := h
  exact ⟨f, h.same fun g _ q => hb.block g q⟩
theorem MpL.beside {base n r : Nat} {W W' : World} {v : Value} (h : MpL base W v n) (hb : Beside r W W') (hr : r < base) : MpL base W' v n := by
  obtain ⟨f, h⟩ := h
  exact ⟨f, h.same fun g q1 q => hb.2.2.2.2 g q (by omega)⟩
theorem MpL.lit (W : World) (base : Nat) (hb : base ≤ W.heap.size) : MpL base (W.alloc (.cells #[] 29)) (.slice (some ⟨W.heap.size, 0, none⟩) 0 0) 0 :=
  ⟨fun _ => .int .i64 0, by simpa [valsV] using World.ownsRow_lit (base := base) (size := 2) (e := 29) W #[] 0 hb (by simp [maxLen]) (by simp), fun j hj => by omega⟩
theorem MpL.low {base b n : Nat} {W : World} {v : Value} (h : MpL base W v n) (hb : b ≤ base) : MpL b W v n := by
  obtain ⟨f, h1, h2⟩ := h
  refine ⟨f, ⟨h1.1, ?_⟩, fun j hj => ?_⟩
  · rcases h1.2 with q | ⟨g, cap, cur, e1, q, r⟩
    · exact .inl q
    · exact .inr ⟨g, cap, cur, e1, by omega, r⟩
  · obtain ⟨s, t, k, c, q1, q2, q3, r⟩ := h2 j hj
    exact ⟨s, t, k, c, q1, q2, q3.low hb, r⟩
theorem MpL.val {base n : Nat} {W : World} {v : Value} (h : MpL base W v n) : ∃ t cap, v = .slice t n cap := by
  obtain ⟨f, h1, _⟩ := h
  rcases h1.2 with ⟨e, q⟩ | ⟨g, cap, cur, e, _⟩
  · exact ⟨none, 0, by rw [e, q]⟩
  · exact ⟨_, cap, e⟩
theorem info_Line : (Try.prog.info? 29).map (fun i => (i.zero, i.size, i.bytes)) = some (some (.agg #[.int .i64 0, .slice none 0 0]), 2, 32) := by kernel_rfl
theorem newsTwoL (W : World) (a b : Value) (t : TypeId) : ∀ j u, [a, b][j]? = some u → (W.alloc (.cells #[a, b] t)).cell? ((⟨W.heap.size, 0, none⟩ : Addr).add j) = some u := World.news_of_block (cs := #[a, b]) (heap_alloc_new W _)
theorem list_Line {ops : Array Oper} {rest : List Oper} {o : Oper} {a : Act} {Q : Exit → Act → World → Prop} {W : World} {tt : TypeId} {x : Int} {t : Option Addr} {k c : Nat} (base : Nat) (v : Value) (n : Nat) (s z : Operand) (hgd : o.guard = none)
    (ho : o.op = .call { callee := .builtin .append, args := #[s, z], argTypes := #[24, 24] }) (hs : a.eval s = v) (hx : a.eval z = .slice (some ⟨W.heap.size, 0, none⟩) 1 1) (hown : MpL base W v n) (hK : KnB base W t k) (h1 : 1 ≤ k) (h2 : k ≤ c) (h3 : k ≤ 61) (hk : n ≤ 100000) (hb : base ≤ W.heap.size)
    (h : ∀ g cap w', MpL base w' (.slice (some ⟨g, 0, none⟩) (n + 1) cap) (n + 1) → Below base W w' → wpList Try.prog ops Q rest (a.put o.dst (.slice (some ⟨g, 0, none⟩) (n + 1) cap)) w') :
    wpList Try.prog ops Q (o :: rest) a (W.alloc (.cells #[.int .i64 x, .slice t k c] tt)) := by
  obtain ⟨i0, hi, hz0, hz1, hz2⟩ := info_parts info_Line
  obtain ⟨f, ho1, ho2⟩ := hown
  refine wpList_append_lies _ hgd s z 24 ho base 29 i0 (.agg #[.int .i64 0, .slice none 0 0]) 2 32 Try.underlying24 hi hz0 hz1 hz2 rfl (by decide) v n _ hs (ho1.alloc _) ⟨W.heap.size, 0, none⟩ 1 1 [.int .i64 x, .slice t k c] hx rfl (newsTwoL _ _ _ _) ?_ (by decide) (by unfold maxLen; omega) (by omega) (by simp; omega) _ rfl ?_
  · intro u hu
    simp at hu
    rcases hu with rfl | rfl <;> rfl
  · intro g cap w' q1 q2 _ q3
    have gr := grown_new q2
    have keep : ∀ g, base ≤ g → g < W.heap.size → (∃ cur, W.heap[g]? = some (.cells cur 33 (0, 0))) → w'.heap[g]? = W.heap[g]? := fun g _ hg ⟨cur, hc⟩ => gr.block g hg (fun e => by
      rcases ho1.2 with ⟨e', _⟩ | ⟨g', cap', cur', e', _, hg', _⟩
      · rw [e'] at e; cases e
      · rw [e'] at e
        cases e
        rw [hg'] at hc
        cases hc)
    refine h g cap w' ⟨fun j => if j = n * 2 then .int .i64 x else if j = n * 2 + 1 then .slice t k c else f j, ?_, fun j hj => ?_⟩ (grown_below gr hb (own_block ho1))
    · rw [← valsV_two]; exact q1
    · show LnG base w' (if j * 2 = n * 2 then _ else if j * 2 = n * 2 + 1 then _ else f (j * 2)) (if j * 2 + 1 = n * 2 then _ else if j * 2 + 1 = n * 2 + 1 then _ else f (j * 2 + 1))
      by_cases e : j = n
      · subst e
        rw [if_pos rfl, if_neg (show ¬ j * 2 + 1 = j * 2 by omega), if_pos rfl]
        exact ⟨x, t, k, c, rfl, rfl, hK.same (fun g _ z1 z2 z3 => keep g z1 z2 z3), h1, h2, h3⟩
      · rw [if_neg (show ¬ j * 2 = n * 2 by omega), if_neg (show ¬ j * 2 = n * 2 + 1 by omega), if_neg (show ¬ j * 2 + 1 = n * 2 by omega), if_neg (show ¬ j * 2 + 1 = n * 2 + 1 by omega)]
        exact (ho2 j (by omega)).same keep
theorem MpF.cell {base n g cap : Nat} {W : World} {f : Nat → Value} (h : MpF base W (.slice (some ⟨g, 0, none⟩) n cap) n f) {i : Nat} (hi : i < n * 2) : W.cell? ⟨g, i, none⟩ = some (f i) := by
  rw [h.1.cellAt i hi, valsV_at f hi]
theorem MpF.put {base n g cap : Nat} {W : World} {f : Nat → Value} (h : MpF base W (.slice (some ⟨g, 0, none⟩) n cap) n f) (i : Nat) (u : Value) (hu : ∀ j, j < n → LnG base W (if j * 2 = i then u else f (j * 2)) (if j * 2 + 1 = i then u else f (j * 2 + 1))) : MpF base (W.setCell ⟨g, i, none⟩ u) (.slice (some ⟨g, 0, none⟩) n cap) n (fun j => if j = i then u else f j) := by
  have q := h.1.stored i u
  rw [valsV_set] at q
  refine ⟨q.1, fun j hj => (hu j hj).same fun g' h1 h2 ⟨cur, hc⟩ => q.2.block g' h2 (fun e => ?_)⟩
  cases e
  rcases h.1.2 with ⟨e', _⟩ | ⟨g2, cap', cur', e', _, hg', _⟩
  · cases e'
  · cases e'
    rw [hg'] at hc
    cases hc
theorem lng_speed {base n g cap : Nat} {W : World} {f : Nat → Value} (h : MpF base W (.slice (some ⟨g, 0, none⟩) n cap) n f) (i j0 : Nat) (hi : i = j0 * 2) (x : Int) : ∀ j, j < n → LnG base W (if j * 2 = i then .int .i64 x else f (j * 2)) (if j * 2 + 1 = i then .int .i64 x else f (j * 2 + 1)) := fun j hj => by
  obtain ⟨s, t, k, c, h1, h2, r⟩ := h.2 j hj
  rw [if_neg (show ¬ j * 2 + 1 = i by omega)]
  by_cases e : j * 2 = i
  · rw [if_pos e]; exact ⟨x, t, k, c, rfl, h2, r⟩
  · rw [if_neg e]; exact ⟨s, t, k, c, h1, h2, r⟩
theorem lng_pts {base n g cap : Nat} {W : World} {f : Nat → Value} (h : MpF base W (.slice (some ⟨g, 0, none⟩) n cap) n f) (i j0 : Nat) (hi : i = j0 * 2 + 1) {t : Option Addr} {k c : Nat} (hK : KnB base W t k ∧ 1 ≤ k ∧ k ≤ c ∧ k ≤ 61) : ∀ j, j < n → LnG base W (if j * 2 = i then .slice t k c else f (j * 2)) (if j * 2 + 1 = i then .slice t k c else f (j * 2 + 1)) := fun j hj => by
  obtain ⟨s, t', k', c', h1, h2, r⟩ := h.2 j hj
  rw [if_neg (show ¬ j * 2 = i by omega)]
  by_cases e : j * 2 + 1 = i
  · rw [if_pos e]; exact ⟨s, t, k, c, h1, rfl, hK⟩
  · rw [if_neg e]; exact ⟨s, t', k', c', h1, h2, r⟩
theorem MpL.map {base n : Nat} {W : World} {t : Option Addr} {cap : Nat} (h : MpL base W (.slice t n cap) n) : ∃ S K V, MapR W t n S K V ∧ ∀ j, j < n → 1 ≤ K j ∧ K j ≤ 61 := by
  obtain ⟨f, h1, h2⟩ := h
  have key : ∀ j, ∃ (s : Int) (k : Nat) (V : Nat → Int), j < n → (∃ b o t' c, t = some ⟨b, o, none⟩ ∧ b < W.heap.size ∧ W.cell? ⟨b, o + j * 2, none⟩ = some (.int .i64 s) ∧ W.cell? ⟨b, o + j * 2 + 1, none⟩ = some (.slice t' k c) ∧ RowI W t' (k * 2) V) ∧ 1 ≤ k ∧ k ≤ 61 := fun j => by
    by_cases hj : j < n
    · obtain ⟨s, t', k, c, e1, e2, hK, k1, k2, k3⟩ := h2 j hj
      obtain ⟨V, hV⟩ := hK.row
      refine ⟨s, k, V, fun _ => ⟨?_, k1, k3⟩⟩
      rcases h1.2 with ⟨_, q⟩ | ⟨g, cap', cur, e, hb, hg, _⟩
      · omega
      · cases e
        exact ⟨g, 0, t', c, rfl, (Array.getElem?_eq_some_iff.1 hg).1, by rw [Nat.zero_add, h1.cellAt (j * 2) (by omega), valsV_at f (by omega), e1], by rw [Nat.zero_add, h1.cellAt (j * 2 + 1) (by omega), valsV_at f (by omega), e2], hV⟩
    · exact ⟨0, 0, fun _ => 0, fun q => (hj q).elim⟩
  refine ⟨fun j => Classical.choose (key j), fun j => Classical.choose (Classical.choose_spec (key j)), fun j => Classical.choose (Classical.choose_spec (Classical.choose_spec (key j))), fun j hj => ?_, fun j hj => ?_⟩
  · exact (Classical.choose_spec (Classical.choose_spec (Classical.choose_spec (key j))) hj).1
  · exact (Classical.choose_spec (Classical.choose_spec (Classical.choose_spec (key j))) hj).2
end Go.Proofs.Ytbabedfbadlhjaa
