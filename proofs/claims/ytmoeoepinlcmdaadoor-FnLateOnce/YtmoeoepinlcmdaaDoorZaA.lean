/-
What is proved: in numbers: a limit is told entered, then late at most once, then left, again and again; it is late just when it ran for what is allowed.
-/
import Derived.Test.YtmoeoepinlcmdaaDoorCkP
import Derived.Test.YtmoeoepinlcmdaaDoorBoN
import Derived.Deep.AppendLies
import Derived.Laws.OwnMore
import Derived.Test.YtmoeoepinlcmdaaDoorLimR
import Derived.Test.YtmoeoepinlcmdaaDoorClkR
import Derived.Test.YtmoeoepinlcmdaaDoorNte
namespace Go.Proofs.YtmoeoepinlcmdaaDoor
set_option maxRecDepth 40000
open Go.ChangeShapes Go.WideShapes Go.ChangeAt Go.RowKit
set_option linter.unusedVariables false
set_option linter.unusedSimpArgs false

/-- How a clock of a limit with a allowed stands, of which la was told last, and which ran for ra ticks. -/
def StL (a r : Int) (l : Bool) (la ra : Int) : Prop := 0 ≤ ra ∧ r = (if ra = 0 then -1 else if ra - 1 < a then ra - 1 else a) ∧ l = decide (r = a) ∧ (ra = 0 → la = 0 ∨ la = 2) ∧ (0 < ra → ra ≤ a → la = 1) ∧ (a < ra → la = 3)
def goodN (wh la : Int) : Prop := (wh = 1 ∧ (la = 0 ∨ la = 2)) ∨ (wh = 3 ∧ la = 1) ∨ (wh = 2 ∧ (la = 1 ∨ la = 3))
theorem st_start {a : Int} (ha : 1 ≤ a) : StL a (-1) false 0 0 := ⟨Int.le_refl _, rfl, (decide_eq_false (by omega)).symm, fun _ => Or.inl rfl, fun h => by omega, fun h => by omega⟩
theorem st_in {a r la ra : Int} {l : Bool} (ha : 1 ≤ a) (h : StL a r l la ra) : -1 ≤ r ∧ r ≤ a ∧ (r < 0 ↔ ra = 0) ∧ (0 < ra → (ra ≤ a → r = ra - 1) ∧ (a < ra → r = a)) := by
  obtain ⟨h1, h2, -⟩ := h
  rw [h2]
  by_cases e : ra = 0
  · rw [if_pos e]; omega
  · rw [if_neg e]
    by_cases q : ra - 1 < a
    · rw [if_pos q]; omega
    · rw [if_neg q]; omega
theorem st_step {a r la ra : Int} {l : Bool} (ha : 1 ≤ a) (h : StL a r l la ra) (c : Bool) : (whtC a r c ≠ 0 → goodN (whtC a r c) la) ∧ StL a (nxtC a r c).1 (nxtC a r c).2 (if whtC a r c = 0 then la else whtC a r c) (if c = true then ra + 1 else 0) := by
  obtain ⟨b1, b2, b3, b4⟩ := st_in ha h
  obtain ⟨h1, h2, h3, h4, h5, h6⟩ := h
  cases c
  · have e1 : whtC a r false = if 0 ≤ r then 2 else 0 := rfl
    have e2 : nxtC a r false = (-1, false) := rfl
    rw [e1, e2, if_neg (by decide : ¬ (false = true))]
    by_cases q : 0 ≤ r
    · rw [if_pos q]
      refine ⟨fun _ => Or.inr (Or.inr ⟨rfl, ?_⟩), Int.le_refl _, rfl, (decide_eq_false (show ¬ ((-1 : Int), false).1 = a by show ¬ (-1 : Int) = a; omega)).symm, fun _ => Or.inr (by rw [if_neg (by decide)]), fun z => by omega, fun z => by omega⟩
      by_cases z : ra ≤ a
      · exact Or.inl (h5 (by omega) z)
      · exact Or.inr (h6 (by omega))
    · rw [if_neg q]
      exact ⟨fun z => absurd rfl z, Int.le_refl _, rfl, (decide_eq_false (show ¬ ((-1 : Int), false).1 = a by show ¬ (-1 : Int) = a; omega)).symm, fun _ => by rw [if_pos rfl]; exact h4 (by omega), fun z => by omega, fun z => by omega⟩
  · have e1 : whtC a r true = if r < 0 then 1 else if r + 1 = a then 3 else 0 := rfl
    have e2 : nxtC a r true = (lesR a r, decide (lesR a r = a)) := rfl
    have e3 : lesR a r = if r + 1 < a then r + 1 else a := rfl
    rw [e1, e2, if_pos (rfl : true = true)]
    by_cases q : r < 0
    · have hr : ra = 0 := b3.1 q
      have hr1 : r = -1 := by omega
      rw [if_pos q]
      refine ⟨fun _ => Or.inl ⟨rfl, h4 hr⟩, by omega, ?_, rfl, fun z => by omega, fun _ _ => by rw [if_neg (by decide)], fun z => by omega⟩
      show lesR a r = _
      rw [e3, hr, hr1, if_neg (show ¬ (0 : Int) + 1 = 0 by omega)]
      split <;> split <;> omega
    · rw [if_neg q]
      have hr : 0 < ra := by omega
      by_cases z : r + 1 = a
      · have hra : ra = a := by
          by_cases y : ra ≤ a
          · have := (b4 hr).1 y; omega
          · have := (b4 hr).2 (by omega); omega
        rw [if_pos z]
        refine ⟨fun _ => Or.inr (Or.inl ⟨rfl, h5 hr (by omega)⟩), by omega, ?_, rfl, fun y => by omega, fun _ y => by omega, fun _ => by rw [if_neg (by decide)]⟩
        show lesR a r = _
        rw [e3, if_neg (by omega), if_neg (by omega), if_neg (by omega)]
      · rw [if_neg z]
        refine ⟨fun y => absurd rfl y, by omega, ?_, rfl, fun y => by omega, fun _ y => ?_, fun y => ?_⟩
        · show lesR a r = _
          rw [e3]
          by_cases y : ra ≤ a
          · have := (b4 hr).1 y
            rw [if_pos (by omega), if_neg (by omega), if_pos (by omega)]; omega
          · have := (b4 hr).2 (by omega)
            rw [if_neg (by omega), if_neg (by omega), if_neg (by omega)]
        · rw [if_pos rfl]
          exact h5 hr (by omega)
        · rw [if_pos rfl]
          by_cases x : ra ≤ a
          · have := (b4 hr).1 x; omega
          · exact h6 (by omega)
theorem st_late {a r la ra : Int} {l : Bool} (ha : 1 ≤ a) (h : StL a r l la ra) : l = decide (a < ra) ∧ l = decide (la = 3) := by
  obtain ⟨b1, b2, b3, b4⟩ := st_in ha h
  obtain ⟨h1, h2, h3, h4, h5, h6⟩ := h
  rw [h3]
  by_cases e : ra = 0
  · have := h4 e
    have hr : r < 0 := b3.2 e
    rw [decide_eq_false (by omega), decide_eq_false (by omega), decide_eq_false (by omega)]
    exact ⟨rfl, rfl⟩
  · by_cases q : ra ≤ a
    · have := (b4 (by omega)).1 q
      have := h5 (by omega) q
      rw [decide_eq_false (by omega), decide_eq_false (by omega), decide_eq_false (by omega)]
      exact ⟨rfl, rfl⟩
    · have := (b4 (by omega)).2 (by omega)
      have := h6 (by omega)
      rw [decide_eq_true (by omega), decide_eq_true (by omega), decide_eq_true (by omega)]
      exact ⟨rfl, rfl⟩
theorem nt_len (W : Nat → Int) : ∀ n, (ntP W n).length ≤ n := by
  intro n
  induction n with
  | zero => exact Nat.le_refl _
  | succ n ih =>
    unfold ntP
    split
    · omega
    · rw [List.length_append]; simp; omega
/-- What is told i-th: a place with what there is to tell; the places rise. -/
theorem nt_at (W : Nat → Int) : ∀ n i, i < (ntP W n).length → ∃ j : Nat, j < n ∧ (ntP W n).getD i (0, 0) = ((j : Int), W j) ∧ W j ≠ 0 ∧ ∀ i', i' < i → ∀ j' : Nat, (ntP W n).getD i' (0, 0) = ((j' : Int), W j') → j' < j := by
  intro n
  induction n with
  | zero => intro i h; simp [ntP] at h
  | succ n ih =>
    intro i hi
    unfold ntP at hi ⊢
    split at hi
    · rename_i q
      rw [if_pos q]
      obtain ⟨j, j1, j2, j3, j4⟩ := ih i hi
      exact ⟨j, by omega, j2, j3, j4⟩
    · rename_i q
      rw [if_neg q]
      rw [List.length_append] at hi
      simp at hi
      have low : ∀ i', i' < (ntP W n).length → (ntP W n ++ [((n : Int), W n)]).getD i' (0, 0) = (ntP W n).getD i' (0, 0) := fun i' h' => by
        rw [List.getD_eq_getElem?_getD, List.getD_eq_getElem?_getD, List.getElem?_append_left h']
      by_cases e : i < (ntP W n).length
      · obtain ⟨j, j1, j2, j3, j4⟩ := ih i e
        refine ⟨j, by omega, by rw [low i e]; exact j2, j3, fun i' h' j' hj' => ?_⟩
        rw [low i' (by omega)] at hj'
        exact j4 i' h' j' hj'
      · have e' : i = (ntP W n).length := by omega
        refine ⟨n, by omega, ?_, q, fun i' h' j' hj' => ?_⟩
        · rw [List.getD_eq_getElem?_getD, e', List.getElem?_append_right (Nat.le_refl _)]; simp
        · rw [low i' (by omega)] at hj'
          obtain ⟨j, j1, j2, j3, _⟩ := ih i' (by omega)
          rw [j2] at hj'
          have : (j : Int) = (j' : Int) := congrArg Prod.fst hj'
          omega
theorem nt_hit (W : Nat → Int) : ∀ n j, j < n → W j ≠ 0 → ∃ i, i < (ntP W n).length ∧ (ntP W n).getD i (0, 0) = ((j : Int), W j) := by
  intro n
  induction n with
  | zero => intro j h; omega
  | succ n ih =>
    intro j hj hw
    unfold ntP
    by_cases e : j = n
    · subst e
      rw [if_neg hw]
      exact ⟨(ntP W j).length, by simp, by rw [List.getD_eq_getElem?_getD, List.getElem?_append_right (Nat.le_refl _)]; simp⟩
    · obtain ⟨i, i1, i2⟩ := ih j (by omega) hw
      split
      · exact ⟨i, i1, i2⟩
      · exact ⟨i, by rw [List.length_append]; omega, by rw [List.getD_eq_getElem?_getD, List.getElem?_append_left i1, ← List.getD_eq_getElem?_getD]; exact i2⟩
/-- What was told last of each place, behind the first p notes. -/
def lasP (T : List (Int × Int)) (la : Nat → Int) : Nat → Nat → Int
  | 0 => la
  | p + 1 => fun j => if j = (T.getD p (0, 0)).1.toNat then (T.getD p (0, 0)).2 else lasP T la p j
theorem las_old (W : Nat → Int) (n : Nat) (la : Nat → Int) : ∀ (p : Nat) (j : Nat), p ≤ (ntP W n).length → (∀ i, i < p → (ntP W n).getD i (0, 0) ≠ ((j : Int), W j)) → lasP (ntP W n) la p j = la j := by
  intro p
  induction p with
  | zero => intro j _ _; rfl
  | succ p ih =>
    intro j hp h
    show (if j = _ then _ else _) = _
    obtain ⟨j0, a1, a2, a3, -⟩ := nt_at W n p (by omega)
    rw [if_neg (fun e => ?_)]
    · exact ih j (by omega) (fun i hi => h i (by omega))
    · rw [a2] at e
      have e2 : j = j0 := by simpa using e
      exact h p (by omega) (by rw [a2, e2])
theorem las_new (W : Nat → Int) (n : Nat) (la : Nat → Int) : ∀ (p : Nat) (j : Nat), p ≤ (ntP W n).length → (∃ i, i < p ∧ (ntP W n).getD i (0, 0) = ((j : Int), W j)) → lasP (ntP W n) la p j = W j := by
  intro p
  induction p with
  | zero => intro j _ h; obtain ⟨i, hi, _⟩ := h; omega
  | succ p ih =>
    intro j hp h
    show (if j = _ then _ else _) = _
    obtain ⟨j0, a1, a2, a3, -⟩ := nt_at W n p (by omega)
    rw [a2]
    by_cases e : j = j0
    · rw [if_pos (by simpa using e), e]
    · rw [if_neg (by simpa using e)]
      obtain ⟨i, hi, h2⟩ := h
      by_cases z : i = p
      · subst z
        rw [a2] at h2
        have : (j0 : Int) = (j : Int) := congrArg Prod.fst h2
        omega
      · exact ih j (by omega) ⟨i, by omega, h2⟩
theorem las_all (W : Nat → Int) (n : Nat) (la : Nat → Int) (j : Nat) (hj : j < n) : lasP (ntP W n) la (ntP W n).length j = if W j = 0 then la j else W j := by
  by_cases e : W j = 0
  · rw [if_pos e]
    refine las_old W n la _ j (Nat.le_refl _) fun i hi h => ?_
    obtain ⟨j0, a1, a2, a3, -⟩ := nt_at W n i hi
    rw [a2] at h
    have h1 : (j0 : Int) = (j : Int) := congrArg Prod.fst h
    have h2 : j0 = j := by omega
    rw [h2] at a3
    exact a3 e
  · rw [if_neg e]
    exact las_new W n la _ j (Nat.le_refl _) (nt_hit W n j hj e)
/-- At its note a place was not told of yet in this step. -/
theorem las_at (W : Nat → Int) (n : Nat) (la : Nat → Int) {p : Nat} (hp : p < (ntP W n).length) : ∃ j : Nat, j < n ∧ (ntP W n).getD p (0, 0) = ((j : Int), W j) ∧ W j ≠ 0 ∧ lasP (ntP W n) la p j = la j := by
  obtain ⟨j, a1, a2, a3, a4⟩ := nt_at W n p hp
  refine ⟨j, a1, a2, a3, las_old W n la p j (by omega) fun i hi h => ?_⟩
  have := a4 i hi j h
  omega
theorem bit_mod : ((List.range 256).all fun x => bitM (x : Int) 0 == decide ((x : Int) % 2 = 1)) = true := by kernel_rfl
theorem bit_odd {x : Int} (h0 : 0 ≤ x) (h1 : x ≤ 255) : bitM x 0 = decide (x % 2 = 1) := by
  have h := List.all_eq_true.1 bit_mod x.toNat (List.mem_range.2 (by omega))
  rw [show ((x.toNat : Nat) : Int) = x by omega] at h
  simpa using h

open Go.ChangeShapes Go.WideShapes Go.ChangeAt Go.RowKit
set_option linter.unusedVariables false
set_option linter.unusedSimpArgs false

theorem info_bool : (Tryd.prog.info? 4).map (fun i => (i.zero, i.size, i.bytes)) = some (some (.bool false), 1, 1) := by kernel_rfl
theorem list_bool {ops : Array Oper} {rest : List Oper} {o : Oper} {a : Act} {Q : Exit → Act → World → Prop} {W : World} {t : TypeId} {x : Bool} (base : Nat) (v : Value) (k : Nat) (xs : List Value) (s z : Operand) (hgd : o.guard = none)
    (ho : o.op = .call { callee := .builtin .append, args := #[s, z], argTypes := #[33, 33] }) (hs : a.eval s = v) (hx : a.eval z = .slice (some ⟨W.heap.size, 0, none⟩) 1 1) (hown : W.ownsRow base 4 1 v k xs) (hk : k ≤ 10000000) (hb : base ≤ W.heap.size)
    (h : ∀ g cap w', w'.ownsRow base 4 1 (.slice (some ⟨g, 0, none⟩) (k + 1) cap) (k + 1) (xs ++ [.bool x]) → W.grownBy w' v.ownBlock → g < w'.heap.size → wpList Tryd.prog ops Q rest (a.put o.dst (.slice (some ⟨g, 0, none⟩) (k + 1) cap)) w') :
    wpList Tryd.prog ops Q (o :: rest) a (W.alloc (.cells #[.bool x] t)) := by
  obtain ⟨i0, hi, hz0, hz1, hz2⟩ := info_parts info_bool
  refine wpList_append_lies _ hgd s z 33 ho base 4 i0 (.bool false) 1 1 Tryd.underlying33 hi hz0 hz1 hz2 rfl (by decide) v k xs hs (hown.alloc _) ⟨W.heap.size, 0, none⟩ 1 1 [.bool x] hx rfl (newsOne _ _ _) ?_ (by decide) (by unfold maxLen; omega) (by omega) (by simp; omega) _ rfl ?_
  · intro u hu
    simp at hu
    subst hu; rfl
  · intro g cap w' h1 h2 _ h3
    exact h g cap w' h1 (grown_new h2) h3
/-- A row of bools that the call makes: its first k are V. -/
def valB (V : Nat → Bool) (k : Nat) : List Value := (List.range k).map fun j => .bool (V j)
theorem valB_succ (V : Nat → Bool) (k : Nat) : valB V (k + 1) = valB V k ++ [.bool (V k)] := by simp [valB, List.range_succ]
def MadeB (base : Nat) (w wr : World) (v : Value) (k : Nat) (V : Nat → Bool) : Prop := wr.ownsRow base 4 1 v k (valB V k) ∧ Below base w wr
theorem madeB_lit (w : World) (V : Nat → Bool) {base : Nat} (hb : base ≤ w.heap.size) : MadeB base w (w.alloc (.cells #[] 4)) (.slice (some ⟨w.heap.size, 0, none⟩) 0 0) 0 V :=
  ⟨by simpa [valB] using World.ownsRow_lit (base := base) (size := 1) (e := 4) w #[] 0 hb (by simp [maxLen]) (by simp), (Below.refl _ _).alloc hb _⟩
theorem ownB_same {w w' : World} {base : Nat} {e : TypeId} {size : Nat} {v : Value} {n : Nat} {xs : List Value} (h : w.ownsRow base e size v n xs) (hs : Below w.heap.size w w') : w'.ownsRow base e size v n xs := by
  refine ⟨h.1, ?_⟩
  rcases h.2 with q | ⟨g, cap, cur, e1, hb, hg, r⟩
  · exact .inl q
  · exact .inr ⟨g, cap, cur, e1, hb, (hs.block g (Array.getElem?_eq_some_iff.1 hg).1).trans hg, r⟩
theorem MadeB.below {base : Nat} {w wr w' : World} {v : Value} {k : Nat} {V : Nat → Bool} (h : MadeB base w wr v k V) (hb : Below wr.heap.size wr w') (hz : base ≤ wr.heap.size) : MadeB base w w' v k V := ⟨ownB_same h.1 hb, h.2.trans (hb.mono hz)⟩
theorem madeB_on {base : Nat} {w wr w1 w2 : World} {v v' : Value} {k : Nat} {V : Nat → Bool} (h : MadeB base w wr v k V) (hb : Below wr.heap.size wr w1) (hz : base ≤ wr.heap.size) (hown : w2.ownsRow base 4 1 v' (k + 1) (valB V k ++ [.bool (V k)])) (hg : w1.grownBy w2 v.ownBlock) : MadeB base w w2 v' (k + 1) V := by
  obtain ⟨h1, h3⟩ := h
  have z1 := hb.size
  exact ⟨by rw [valB_succ]; exact hown, (h3.trans (hb.mono hz)).trans (grown_below hg (by omega) (own_block h1))⟩
theorem madeB_own {base : Nat} {w wr : World} {v : Value} {k : Nat} {V : Nat → Bool} (h : MadeB base w wr v k V) : ∃ s cap, v = .slice s k cap ∧ OwnB base wr s k V := by
  obtain ⟨h1, _⟩ := h
  rcases h1.2 with ⟨rfl, rfl⟩ | ⟨g, cap, cur, rfl, hb, hg, _, _, _, _⟩
  · exact ⟨none, 0, rfl, fun j hj => by omega⟩
  · refine ⟨some ⟨g, 0, none⟩, cap, rfl, fun j hj => ?_⟩
    exact ⟨g, rfl, hb, (Array.getElem?_eq_some_iff.1 hg).1, by rw [h1.cellAt j (by omega)]; simp [valB, hj], h1.frozenAt j⟩


open Go.ChangeShapes Go.WideShapes Go.ChangeAt Go.RowKit
set_option linter.unusedVariables false
set_option linter.unusedSimpArgs false

theorem RowLimit.bes {w w' : World} {r : Nat} {s : Option Addr} {n : Nat} {V : Nat → Int × Int} (h : RowLimit w s n V) (hb : Beside r w w') (hn : ∀ g o, s = some ⟨g, o, none⟩ → g ≠ r) : RowLimit w' s n V := fun j hj => by
  obtain ⟨b, o, e, hl, c0, c1⟩ := h j hj
  have hne := hn b o e
  exact ⟨b, o, e, Nat.lt_of_lt_of_le hl hb.2.2.2.1, (hb.cell (p := ⟨b, o + j * 2, none⟩) hl hne).trans c0, (hb.cell (p := ⟨b, o + j * 2 + 1, none⟩) hl hne).trans c1⟩
theorem RowClock.bes {w w' : World} {r : Nat} {s : Option Addr} {n : Nat} {V : Nat → Int × Bool} (h : RowClock w s n V) (hb : Beside r w w') (hn : ∀ g o, s = some ⟨g, o, none⟩ → g ≠ r) : RowClock w' s n V := fun j hj => by
  obtain ⟨b, o, e, hl, c0, c1⟩ := h j hj
  have hne := hn b o e
  exact ⟨b, o, e, Nat.lt_of_lt_of_le hl hb.2.2.2.1, (hb.cell (p := ⟨b, o + j * 2, none⟩) hl hne).trans c0, (hb.cell (p := ⟨b, o + j * 2 + 1, none⟩) hl hne).trans c1⟩
theorem RowNote.bes {w w' : World} {r : Nat} {s : Option Addr} {n : Nat} {V : Nat → Int × Int} (h : RowNote w s n V) (hb : Beside r w w') (hn : ∀ g o, s = some ⟨g, o, none⟩ → g ≠ r) : RowNote w' s n V := fun j hj => by
  obtain ⟨b, o, e, hl, c0, c1⟩ := h j hj
  have hne := hn b o e
  exact ⟨b, o, e, Nat.lt_of_lt_of_le hl hb.2.2.2.1, (hb.cell (p := ⟨b, o + j * 2, none⟩) hl hne).trans c0, (hb.cell (p := ⟨b, o + j * 2 + 1, none⟩) hl hne).trans c1⟩
theorem RowB.bes {w w' : World} {r : Nat} {s : Option Addr} {n : Nat} {V : Nat → Bool} (h : RowB w s n V) (hb : Beside r w w') (hn : ∀ g o, s = some ⟨g, o, none⟩ → g ≠ r) : RowB w' s n V := fun j hj => by
  obtain ⟨b, o, e, hl, c0⟩ := h j hj
  have hne := hn b o e
  exact ⟨b, o, e, Nat.lt_of_lt_of_le hl hb.2.2.2.1, (hb.cell (p := ⟨b, o + j, none⟩) hl hne).trans c0⟩
theorem OwnI.besN {base r : Nat} {w w' : World} {s : Option Addr} {m : Nat} {V : Nat → Int} (h : OwnI base w s m V) (hb : Beside r w w') (hn : ∀ g o, s = some ⟨g, o, none⟩ → g ≠ r) : OwnI base w' s m V := fun j hj => by
  obtain ⟨b, e, hB, hl, hc, hf⟩ := h j hj
  have hne := hn b 0 e
  exact ⟨b, e, hB, Nat.lt_of_lt_of_le hl hb.2.2.2.1, (hb.cell (p := ⟨b, j, none⟩) hl hne).trans hc, (hb.frozen (p := ⟨b, j, none⟩) hl hne).trans hf⟩
theorem OwnI.putN {base g m : Nat} {w : World} {V : Nat → Int} (h : OwnI base w (some ⟨g, 0, none⟩) m V) (i : Nat) (x : Int) : OwnI base (w.setCell ⟨g, i, none⟩ (.int .i64 x)) (some ⟨g, 0, none⟩) m (fun j => if j = i then x else V j) := fun j hj => by
  obtain ⟨b, e, hB, hl, hc, hf⟩ := h j hj
  cases e
  refine ⟨g, rfl, hB, by simpa using hl, ?_, by simp [go_sem, hf]⟩
  by_cases q : j = i
  · subst q; simp [go_sem, hc]
  · simp [go_sem, hc, q]
theorem made_O (base : Nat) (w : World) (n : Nat) (t : TypeId) (hb : base ≤ w.heap.size) : OwnI base (w.alloc (.cells (madeCells #[.int .i64 0] n) t)) (some ⟨w.heap.size, 0, none⟩) n (fun _ => 0) := fun j hj => by
  have m0 : (madeCells #[.int .i64 0] n)[j]? = some (.int .i64 0) := by
    simp only [madeCells, Array.getElem?_map, Array.getElem?_range, hj, if_true, Option.map_some]
    show some ((#[Value.int .i64 0] : Array Value)[j % 1]!) = _
    rw [Nat.mod_one]; rfl
  exact ⟨_, rfl, hb, by simp, by simp [go_sem, m0], by simp [go_sem]⟩
/-- The limits are within their bounds. -/
def LimOk (k : Nat) (V : Nat → Int × Int) : Prop := k ≤ 60 ∧ ∀ j, j < k → limB (V j) = true
theorem lim_ok {k m : Nat} {V : Nat → Int × Int} {U : Nat → Int × Bool} {mo : Int} {nb : Nat} {O : Nat → Bool} (h : ckB k V m U mo nb O = true) : LimOk k V := by
  unfold ckB clsB at h
  simp only [Bool.and_eq_true, decide_eq_true_eq] at h
  exact ⟨h.1.1, fun j hj => (h.1.2.2 j hj).1⟩
/-- How all clocks stand. -/
def StA (k : Nat) (V : Nat → Int × Int) (U : Nat → Int × Bool) (la ra : Nat → Int) : Prop := ∀ j, j < k → StL (V j).2 (U j).1 (U j).2 (la j) (ra j)
theorem ck_on {k : Nat} {V : Nat → Int × Int} {U : Nat → Int × Bool} {la ra : Nat → Int} {O : Nat → Bool} (h : LimOk k V) (hs : StA k V U la ra) : ckB k V k U 0 k O = true := by
  unfold ckB clsB
  simp only [Bool.and_eq_true, decide_eq_true_eq]
  refine ⟨⟨h.1, trivial, fun j hj => ⟨h.2 j hj, ?_⟩⟩, by decide, trivial⟩
  have hl := (lim_yes (h.2 j hj)).2
  have hb := st_in hl.1 (hs j hj)
  have hd := (hs j hj).2.2.1
  unfold clkB inB
  simp only [Bool.and_eq_true, decide_eq_true_eq, beq_iff_eq]
  exact ⟨⟨hb.1, hb.2.1⟩, hd⟩
theorem sta_start {k : Nat} {V : Nat → Int × Int} {U : Nat → Int × Bool} (h : LimOk k V) (hU : ∀ j, U j = (-1, false)) : StA k V U (fun _ => 0) (fun _ => 0) := fun j hj => by
  rw [hU j]
  exact st_start (lim_yes (h.2 j hj)).2.1
/-- What each ran behind a step. -/
def ranN (V : Nat → Int × Int) (O : Nat → Bool) (ra : Nat → Int) (j : Nat) : Int := if (O j && decide ((V j).1 % 2 = 1)) = true then ra j + 1 else 0
theorem cnt_is {k : Nat} {V : Nat → Int × Int} {O : Nat → Bool} {j : Nat} (h : LimOk k V) (hj : j < k) : cntC V O 0 j = (O j && decide ((V j).1 % 2 = 1)) := by
  have hl := (lim_yes (h.2 j hj)).1
  unfold cntC
  rw [bit_odd hl.1 hl.2]
theorem sta_step {k : Nat} {V : Nat → Int × Int} {U : Nat → Int × Bool} {la ra : Nat → Int} {O : Nat → Bool} (h : LimOk k V) (hs : StA k V U la ra) : StA k V (nxC V U O 0) (lasP (ntP (whC V U O 0) k) la (ntP (whC V U O 0) k).length) (ranN V O ra) := fun j hj => by
  rw [las_all _ _ _ _ hj]
  have hl := (lim_yes (h.2 j hj)).2
  have q := (st_step hl.1 (hs j hj) (cntC V O 0 j)).2
  unfold ranN
  rw [← cnt_is h hj]
  exact q
/-- What is told p-th: of a limit, for the first time in this step, and in its order. -/
theorem note_at {k : Nat} {V : Nat → Int × Int} {U : Nat → Int × Bool} {la ra : Nat → Int} {O : Nat → Bool} (h : LimOk k V) (hs : StA k V U la ra) {p : Nat} (hp : p < (ntP (whC V U O 0) k).length) : ∃ (j : Nat) (x y : Int), j < k ∧ (ntP (whC V U O 0) k).getD p (0, 0) = ((j : Int), x) ∧ lasP (ntP (whC V U O 0) k) la p j = y ∧ ((x = 1 ∧ y = 0) ∨ (x = 1 ∧ y = 2) ∨ (x = 3 ∧ y = 1) ∨ (x = 2 ∧ y = 1) ∨ (x = 2 ∧ y = 3)) := by
  obtain ⟨j, a1, a2, a3, a4⟩ := las_at (whC V U O 0) k la hp
  have g := (st_step (lim_yes (h.2 j a1)).2.1 (hs j a1) (cntC V O 0 j)).1 a3
  refine ⟨j, _, _, a1, a2, a4, ?_⟩
  have g' : goodN (whC V U O 0 j) (la j) := g
  unfold goodN at g'
  omega
theorem las_on (T : List (Int × Int)) (la : Nat → Int) (p : Nat) {j : Nat} {x : Int} (h : T.getD p (0, 0) = ((j : Int), x)) : (fun i => if i = j then x else lasP T la p i) = lasP T la (p + 1) := by
  funext i
  show _ = if i = (T.getD p (0, 0)).1.toNat then (T.getD p (0, 0)).2 else lasP T la p i
  rw [h]
  simp
/-- What each ran, of the first i limits behind the step. -/
def ranP (V : Nat → Int × Int) (O : Nat → Bool) (ra : Nat → Int) (i j : Nat) : Int := if j < i then ranN V O ra j else ra j
theorem ran_on (V : Nat → Int × Int) (O : Nat → Bool) (ra : Nat → Int) (i : Nat) : (fun j => if j = i then ranN V O ra i else ranP V O ra i j) = ranP V O ra (i + 1) := by
  funext j
  unfold ranP
  by_cases e : j = i
  · subst e; rw [if_pos rfl, if_pos (Nat.lt_succ_self _)]
  · rw [if_neg e]
    by_cases q : j < i
    · rw [if_pos q, if_pos (by omega)]
    · rw [if_neg q, if_neg (by omega)]
theorem ran_at (V : Nat → Int × Int) (O : Nat → Bool) (ra : Nat → Int) (i : Nat) : ranP V O ra i i = ra i := if_neg (Nat.lt_irrefl _)
theorem own_one {base g m : Nat} {w : World} {V : Nat → Int} (h : OwnI base w (some ⟨g, 0, none⟩) m V) {j : Nat} (hj : j < m) : w.cell? ⟨g, j, none⟩ = some (.int .i64 (V j)) ∧ w.frozen? ⟨g, j, none⟩ = false ∧ g < w.heap.size := by
  obtain ⟨b, e, hB, hl, hc, hf⟩ := h j hj
  cases e
  exact ⟨hc, hf, hl⟩
theorem ran_bd {V : Nat → Int × Int} {O : Nat → Bool} {ra : Nat → Int} {j : Nat} {i : Nat} (h : 0 ≤ ra j ∧ ra j ≤ (i : Int)) : 0 ≤ ranN V O ra j ∧ ranN V O ra j ≤ ((i + 1 : Nat) : Int) := by
  unfold ranN
  split <;> omega
theorem meas_lt {p n : Nat} (h : p < n) : n - (intOf (.int .i64 ((p : Int) + 1))).toNat < n - (intOf (.int .i64 (p : Int))).toNat := by
  show n - ((p : Int) + 1).toNat < n - (p : Int).toNat
  omega
theorem own_ran0 {base : Nat} {w : World} {s : Option Addr} {n : Nat} {V : Nat → Int × Int} {O : Nat → Bool} {ra : Nat → Int} (h : OwnI base w s n ra) : OwnI base w s n (ranP V O ra 0) := fun j hj => by
  have q := h j hj
  unfold ranP
  rw [if_neg (Nat.not_lt_zero j)]
  exact q
theorem own_ranN {base : Nat} {w : World} {s : Option Addr} {n : Nat} {V : Nat → Int × Int} {O : Nat → Bool} {ra : Nat → Int} (h : OwnI base w s n (ranP V O ra n)) : OwnI base w s n (ranN V O ra) := fun j hj => by
  have q := h j hj
  unfold ranP at q
  rw [if_pos hj] at q
  exact q

end Go.Proofs.YtmoeoepinlcmdaaDoor
