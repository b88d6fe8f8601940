/-
What is proved: in numbers: a limit is told entered, then late at most once, then left, again and again; it is late just when it ran for what is allowed.
-/
import Derived.Test.YtmoeoepinlcmdaaDoorCkP
namespace Go.Proofs.YtmoeoepinlcmdaaDoor
set_option maxRecDepth 40000
open Go.ChangeShapes Go.WideShapes Go.ChangeAt Go.RowKit
set_option linter.unusedVariables false
set_option linter.unusedSimpArgs false

/-- How a clock of a limit with a allowed stands, of which la was told last, and which ran for ra ticks. -/
def StL (a r : Int) (l : Bool) (la ra : Int) : Prop := 0 ≤ ra ∧ r = (if ra = 0 then -1 else if ra - 1 < a then ra - 1 else a) ∧ l = decide (r = a) ∧ (ra = 0 → la = 0 ∨ la = 2) ∧ (0 < ra → ra ≤ a → la = 1) ∧ (a < ra → la = 3)
def goodN (wh la : Int) : Prop := (wh = 1 ∧ (la = 0 ∨ la = 2)) ∨ (wh = 3 ∧ la = 1) ∨ (wh = 2 ∧ (la = 1 ∨ la = 3))
theorem st_start {a : Int} (ha : 1 ≤ a) : StL a (-1) false 0 0 := ⟨Int.le_refl _, rfl, (decide_eq_false (by omega)).symm, fun _ => Or.inl rfl, fun h => by omega, fun h => by omega⟩
theorem st_in {a r la ra : Int} {l : Bool} (ha : 1 ≤ a) (h : StL a r l la ra) : -1 ≤ r ∧ r ≤ a ∧ (r < 0 ↔ ra = 0) ∧ (0 < ra → (ra ≤ a → r = ra - 1) ∧ (a < ra → r = a)) := by
  obtain ⟨h1, h2, -⟩ := h
  rw [h2]
  by_cases e : ra = 0
  · rw [if_pos e]; omega
  · rw [if_neg e]
    by_cases q : ra - 1 < a
    · rw [if_pos q]; omega
    · rw [if_neg q]; omega
theorem st_step {a r la ra : Int} {l : Bool} (ha : 1 ≤ a) (h : StL a r l la ra) (c : Bool) : (whtC a r c ≠ 0 → goodN (whtC a r c) la) ∧ StL a (nxtC a r c).1 (nxtC a r c).2 (if whtC a r c = 0 then la else whtC a r c) (if c = true then ra + 1 else 0) := by
  obtain ⟨b1, b2, b3, b4⟩ := st_in ha h
  obtain ⟨h1, h2, h3, h4, h5, h6⟩ := h
  cases c
  · have e1 : whtC a r false = if 0 ≤ r then 2 else 0 := rfl
    have e2 : nxtC a r false = (-1, false) := rfl
    rw [e1, e2, if_neg (by decide : ¬ (false = true))]
    by_cases q : 0 ≤ r
    · rw [if_pos q]
      refine ⟨fun _ => Or.inr (Or.inr ⟨rfl, ?_⟩), Int.le_refl _, rfl, (decide_eq_false (show ¬ ((-1 : Int), false).1 = a by show ¬ (-1 : Int) = a; omega)).symm, fun _ => Or.inr (by rw [if_neg (by decide)]), fun z => by omega, fun z => by omega⟩
      by_cases z : ra ≤ a
      · exact Or.inl (h5 (by omega) z)
      · exact Or.inr (h6 (by omega))
    · rw [if_neg q]
      exact ⟨fun z => absurd rfl z, Int.le_refl _, rfl, (decide_eq_false (show ¬ ((-1 : Int), false).1 = a by show ¬ (-1 : Int) = a; omega)).symm, fun _ => by rw [if_pos rfl]; exact h4 (by omega), fun z => by omega, fun z => by omega⟩
  · have e1 : whtC a r true = if r < 0 then 1 else if r + 1 = a then 3 else 0 := rfl
    have e2 : nxtC a r true = (lesR a r, decide (lesR a r = a)) := rfl
    have e3 : lesR a r = if r + 1 < a then r + 1 else a := rfl
    rw [e1, e2, if_pos (rfl : true = true)]
    by_cases q : r < 0
    · have hr : ra = 0 := b3.1 q
      have hr1 : r = -1 := by omega
      rw [if_pos q]
      refine ⟨fun _ => Or.inl ⟨rfl, h4 hr⟩, by omega, ?_, rfl, fun z => by omega, fun _ _ => by rw [if_neg (by decide)], fun z => by omega⟩
      show lesR a r = _
      rw [e3, hr, hr1, if_neg (show ¬ (0 : Int) + 1 = 0 by omega)]
      split <;> split <;> omega
    · rw [if_neg q]
      have hr : 0 < ra := by omega
      by_cases z : r + 1 = a
      · have hra : ra = a := by
          by_cases y : ra ≤ a
          · have := (b4 hr).1 y; omega
          · have := (b4 hr).2 (by omega); omega
        rw [if_pos z]
        refine ⟨fun _ => Or.inr (Or.inl ⟨rfl, h5 hr (by omega)⟩), by omega, ?_, rfl, fun y => by omega, fun _ y => by omega, fun _ => by rw [if_neg (by decide)]⟩
        show lesR a r = _
        rw [e3, if_neg (by omega), if_neg (by omega), if_neg (by omega)]
      · rw [if_neg z]
        refine ⟨fun y => absurd rfl y, by omega, ?_, rfl, fun y => by omega, fun _ y => ?_, fun y => ?_⟩
        · show lesR a r = _
          rw [e3]
          by_cases y : ra ≤ a
          · have := (b4 hr).1 y
            rw [if_pos (by omega), if_neg (by omega), if_pos (by omega)]; omega
          · have := (b4 hr).2 (by omega)
            rw [if_neg (by omega), if_neg (by omega), if_neg (by omega)]
        · rw [if_pos rfl]
          exact h5 hr (by omega)
        · rw [if_pos rfl]
          by_cases x : ra ≤ a
          · have := (b4 hr).1 x; omega
          · exact h6 (by omega)
theorem st_late {a r la ra : Int} {l : Bool} (ha : 1 ≤ a) (h : StL a r l la ra) : l = decide (a < ra) ∧ l = decide (la = 3) := by
  obtain ⟨b1, b2, b3, b4⟩ := st_in ha h
  obtain ⟨h1, h2, h3, h4, h5, h6⟩ := h
  rw [h3]
  by_cases e : ra = 0
  · have := h4 e
    have hr : r < 0 := b3.2 e
    rw [decide_eq_false (by omega), decide_eq_false (by omega), decide_eq_false (by omega)]
    exact ⟨rfl, rfl⟩
  · by_cases q : ra ≤ a
    · have := (b4 (by omega)).1 q
      have := h5 (by omega) q
      rw [decide_eq_false (by omega), decide_eq_false (by omega), decide_eq_false (by omega)]
      exact ⟨rfl, rfl⟩
    · have := (b4 (by omega)).2 (by omega)
      have := h6 (by omega)
      rw [decide_eq_true (by omega), decide_eq_true (by omega), decide_eq_true (by omega)]
      exact ⟨rfl, rfl⟩
theorem nt_len (W : Nat → Int) : ∀ n, (ntP W n).length ≤ n := by
  intro n
  induction n with
  | zero => exact Nat.le_refl _
  | succ n ih =>
    unfold ntP
    split
    · omega
    · rw [List.length_append]; simp; omega
/-- What is told i-th: a place with what there is to tell; the places rise. -/
theorem nt_at (W : Nat → Int) : ∀ n i, i < (ntP W n).length → ∃ j : Nat, j < n ∧ (ntP W n).getD i (0, 0) = ((j : Int), W j) ∧ W j ≠ 0 ∧ ∀ i', i' < i → ∀ j' : Nat, (ntP W n).getD i' (0, 0) = ((j' : Int), W j') → j' < j := by
  intro n
  induction n with
  | zero => intro i h; simp [ntP] at h
  | succ n ih =>
    intro i hi
    unfold ntP at hi ⊢
    split at hi
    · rename_i q
      rw [if_pos q]
      obtain ⟨j, j1, j2, j3, j4⟩ := ih i hi
      exact ⟨j, by omega, j2, j3, j4⟩
    · rename_i q
      rw [if_neg q]
      rw [List.length_append] at hi
      simp at hi
      have low : ∀ i', i' < (ntP W n).length → (ntP W n ++ [((n : Int), W n)]).getD i' (0, 0) = (ntP W n).getD i' (0, 0) := fun i' h' => by
        rw [List.getD_eq_getElem?_getD, List.getD_eq_getElem?_getD, List.getElem?_append_left h']
      by_cases e : i < (ntP W n).length
      · obtain ⟨j, j1, j2, j3, j4⟩ := ih i e
        refine ⟨j, by omega, by rw [low i e]; exact j2, j3, fun i' h' j' hj' => ?_⟩
        rw [low i' (by omega)] at hj'
        exact j4 i' h' j' hj'
      · have e' : i = (ntP W n).length := by omega
        refine ⟨n, by omega, ?_, q, fun i' h' j' hj' => ?_⟩
        · rw [List.getD_eq_getElem?_getD, e', List.getElem?_append_right (Nat.le_refl _)]; simp
        · rw [low i' (by omega)] at hj'
          obtain ⟨j, j1, j2, j3, _⟩ := ih i' (by omega)
          rw [j2] at hj'
          have : (j : Int) = (j' : Int) := congrArg Prod.fst hj'
          omega
theorem nt_hit (W : Nat → Int) : ∀ n j, j < n → W j ≠ 0 → ∃ i, i < (ntP W n).length ∧ (ntP W n).getD i (0, 0) = ((j : Int), W j) := by
  intro n
  induction n with
  | zero => intro j h; omega
  | succ n ih =>
    intro j hj hw
    unfold ntP
    by_cases e : j = n
    · subst e
      rw [if_neg hw]
      exact ⟨(ntP W j).length, by simp, by rw [List.getD_eq_getElem?_getD, List.getElem?_append_right (Nat.le_refl _)]; simp⟩
    · obtain ⟨i, i1, i2⟩ := ih j (by omega) hw
      split
      · exact ⟨i, i1, i2⟩
      · exact ⟨i, by rw [List.length_append]; omega, by rw [List.getD_eq_getElem?_getD, List.getElem?_append_left i1, ← List.getD_eq_getElem?_getD]; exact i2⟩
/-- What was told last of each place, behind the first p notes. -/
def lasP (T : List (Int × Int)) (la : Nat → Int) : Nat → Nat → Int
  | 0 => la
  | p + 1 => fun j => if j = (T.getD p (0, 0)).1.toNat then (T.getD p (0, 0)).2 else lasP T la p j
theorem las_old (W : Nat → Int) (n : Nat) (la : Nat → Int) : ∀ (p : Nat) (j : Nat), p ≤ (ntP W n).length → (∀ i, i < p → (ntP W n).getD i (0, 0) ≠ ((j : Int), W j)) → lasP (ntP W n) la p j = la j := by
  intro p
  induction p with
  | zero => intro j _ _; rfl
  | succ p ih =>
    intro j hp h
    show (if j = _ then _ else _) = _
    obtain ⟨j0, a1, a2, a3, -⟩ := nt_at W n p (by omega)
    rw [if_neg (fun e => ?_)]
    · exact ih j (by omega) (fun i hi => h i (by omega))
    · rw [a2] at e
      have e2 : j = j0 := by simpa using e
      exact h p (by omega) (by rw [a2, e2])
theorem las_new (W : Nat → Int) (n : Nat) (la : Nat → Int) : ∀ (p : Nat) (j : Nat), p ≤ (ntP W n).length → (∃ i, i < p ∧ (ntP W n).getD i (0, 0) = ((j : Int), W j)) → lasP (ntP W n) la p j = W j := by
  intro p
  induction p with
  | zero => intro j _ h; obtain ⟨i, hi, _⟩ := h; omega
  | succ p ih =>
    intro j hp h
    show (if j = _ then _ else _) = _
    obtain ⟨j0, a1, a2, a3, -⟩ := nt_at W n p (by omega)
    rw [a2]
    by_cases e : j = j0
    · rw [if_pos (by simpa using e), e]
    · rw [if_neg (by simpa using e)]
      obtain ⟨i, hi, h2⟩ := h
      by_cases z : i = p
      · subst z
        rw [a2] at h2
        have : (j0 : Int) = (j : Int) := congrArg Prod.fst h2
        omega
      · exact ih j (by omega) ⟨i, by omega, h2⟩
theorem las_all (W : Nat → Int) (n : Nat) (la : Nat → Int) (j : Nat) (hj : j < n) : lasP (ntP W n) la (ntP W n).length j = if W j = 0 then la j else W j := by
  by_cases e : W j = 0
  · rw [if_pos e]
    refine las_old W n la _ j (Nat.le_refl _) fun i hi h => ?_
    obtain ⟨j0, a1, a2, a3, -⟩ := nt_at W n i hi
    rw [a2] at h
    have h1 : (j0 : Int) = (j : Int) := congrArg Prod.fst h
    have h2 : j0 = j := by omega
    rw [h2] at a3
    exact a3 e
  · rw [if_neg e]
    exact las_new W n la _ j (Nat.le_refl _) (nt_hit W n j hj e)
/-- At its note a place was not told of yet in this step. -/
theorem las_at (W : Nat → Int) (n : Nat) (la : Nat → Int) {p : Nat} (hp : p < (ntP W n).length) : ∃ j : Nat, j < n ∧ (ntP W n).getD p (0, 0) = ((j : Int), W j) ∧ W j ≠ 0 ∧ lasP (ntP W n) la p j = la j := by
  obtain ⟨j, a1, a2, a3, a4⟩ := nt_at W n p hp
  refine ⟨j, a1, a2, a3, las_old W n la p j (by omega) fun i hi h => ?_⟩
  have := a4 i hi j h
  omega
theorem bit_mod : ((List.range 256).all fun x => bitM (x : Int) 0 == decide ((x : Int) % 2 = 1)) = true := by kernel_rfl
theorem bit_odd {x : Int} (h0 : 0 ≤ x) (h1 : x ≤ 255) : bitM x 0 = decide (x % 2 = 1) := by
  have h := List.all_eq_true.1 bit_mod x.toNat (List.mem_range.2 (by omega))
  rw [show ((x.toNat : Nat) : Int) = x by omega] at h
  simpa using h
end Go.Proofs.YtmoeoepinlcmdaaDoor
