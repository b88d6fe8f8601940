/-
What is proved: how swings are counted, in numbers: what a stack of turnings gives up, and what is left.
-/
import Derived.Test.YthengechoaodcaaOwnL
namespace Go.Proofs.Ythengechoaodcaa
set_option maxRecDepth 40000
open Go.ChangeShapes Go.WideShapes Go.ChangeAt Go.RowKit
set_option linter.unusedVariables false
set_option linter.unusedSimpArgs false

def apt (a b : Int) : Int := if a < b then b - a else a - b
theorem apt_comm (a b : Int) : apt a b = apt b a := by unfold apt; split <;> split <;> omega
theorem apt_pos (a b : Int) : 0 ≤ apt a b := by unfold apt; split <;> omega
/-- What the topmost turnings close, if they close one. -/
def cutS (s : List Int) : Option (List Int × (Int × Int)) :=
  if s.length ≤ 2 then none
  else if apt (nthI s (s.length - 1)) (nthI s (s.length - 2)) < apt (nthI s (s.length - 2)) (nthI s (s.length - 3)) then none
  else if s.length = 3 then some ([nthI s 1, nthI s 2], (apt (nthI s (s.length - 2)) (nthI s (s.length - 3)), 1))
  else some (s.take (s.length - 3) ++ [nthI s (s.length - 1)], (apt (nthI s (s.length - 2)) (nthI s (s.length - 3)), 2))
theorem cut_less {s t : List Int} {o : Int × Int} (h : cutS s = some (t, o)) : t.length < s.length ∧ 2 ≤ t.length := by
  unfold cutS at h
  split at h
  · cases h
  · split at h
    · cases h
    · split at h
      · cases h; simp; omega
      · cases h; simp; omega
def cutsS : Nat → List Int → List Int × List (Int × Int)
  | 0, s => (s, [])
  | f + 1, s => match cutS s with
    | none => (s, [])
    | some (t, o) => ((cutsS f t).1, o :: (cutsS f t).2)
theorem cuts_more : ∀ (f : Nat) (s : List Int), s.length ≤ f → cutsS (f + 1) s = cutsS f s
  | 0, s, h => by
    have : cutS s = none := by unfold cutS; rw [if_pos (by omega)]
    show (match cutS s with | none => (s, []) | some (t, o) => ((cutsS 0 t).1, o :: (cutsS 0 t).2)) = (s, [])
    rw [this]
  | f + 1, s, h => by
    show (match cutS s with | none => (s, []) | some (t, o) => ((cutsS (f + 1) t).1, o :: (cutsS (f + 1) t).2)) = (match cutS s with | none => (s, []) | some (t, o) => ((cutsS f t).1, o :: (cutsS f t).2))
    cases q : cutS s with
    | none => rfl
    | some p =>
      obtain ⟨t, o⟩ := p
      have := cut_less q
      simp only
      rw [cuts_more f t (by omega)]
theorem cuts_at {f : Nat} {s : List Int} (h : s.length ≤ f) : cutsS f s = cutsS s.length s := by
  obtain ⟨d, rfl⟩ : ∃ d, f = s.length + d := ⟨f - s.length, by omega⟩
  clear h
  induction d with
  | zero => rfl
  | succ d ih => rw [← Nat.add_assoc, cuts_more _ _ (by omega), ih]
/-- What a stack comes to, and what it has given up then. -/
def rainIn (s : List Int) : List Int × List (Int × Int) := cutsS s.length s
theorem rain_no {s : List Int} (h : cutS s = none) : rainIn s = (s, []) := by
  unfold rainIn
  cases q : s.length with
  | zero => rfl
  | succ k =>
    show (match cutS s with | none => (s, []) | some (t, o) => ((cutsS k t).1, o :: (cutsS k t).2)) = (s, [])
    rw [h]
theorem rain_yes {s t : List Int} {o : Int × Int} (h : cutS s = some (t, o)) : rainIn s = ((rainIn t).1, o :: (rainIn t).2) := by
  have l := cut_less h
  unfold rainIn
  obtain ⟨k, hk⟩ : ∃ k, s.length = k + 1 := ⟨s.length - 1, by omega⟩
  rw [hk]
  show (match cutS s with | none => (s, []) | some (t, o) => ((cutsS k t).1, o :: (cutsS k t).2)) = _
  rw [h]
  simp only
  rw [cuts_at (f := k) (s := t) (by omega)]
/-- The stack and the swings behind the first k turnings. -/
def rainT (T : List Int) : Nat → List Int × List (Int × Int)
  | 0 => ([], [])
  | k + 1 => ((rainIn ((rainT T k).1 ++ [nthI T k])).1, (rainT T k).2 ++ (rainIn ((rainT T k).1 ++ [nthI T k])).2)
/-- On its way: a stack and what was told behind k turnings already. -/
def Way (T : List Int) (k : Nat) (s : List Int) (o : List (Int × Int)) : Prop := rainT T (k + 1) = ((rainIn s).1, o ++ (rainIn s).2)
theorem way_start (T : List Int) (k : Nat) : Way T k ((rainT T k).1 ++ [nthI T k]) (rainT T k).2 := rfl
theorem way_on {T : List Int} {k : Nat} {s t : List Int} {o : List (Int × Int)} {p : Int × Int} (h : Way T k s o) (c : cutS s = some (t, p)) : Way T k t (o ++ [p]) := by
  unfold Way at h ⊢
  rw [h, rain_yes c]
  simp
theorem way_end {T : List Int} {k : Nat} {s : List Int} {o : List (Int × Int)} (h : Way T k s o) (c : cutS s = none) : rainT T (k + 1) = (s, o) := by
  unfold Way at h
  rw [h, rain_no c]
  simp
theorem rainIn_len : ∀ (f : Nat) (s : List Int), (cutsS f s).1.length + (cutsS f s).2.length ≤ s.length
  | 0, s => by simp [cutsS]
  | f + 1, s => by
    show (match cutS s with | none => (s, []) | some (t, o) => ((cutsS f t).1, o :: (cutsS f t).2) : List Int × List (Int × Int)).1.length + (match cutS s with | none => (s, []) | some (t, o) => ((cutsS f t).1, o :: (cutsS f t).2) : List Int × List (Int × Int)).2.length ≤ _
    cases q : cutS s with
    | none => simp
    | some p =>
      obtain ⟨t, o⟩ := p
      have := cut_less q
      have := rainIn_len f t
      simp only [List.length_cons]
      omega
theorem rainT_len (T : List Int) : ∀ k, (rainT T k).1.length + (rainT T k).2.length ≤ k
  | 0 => by simp [rainT]
  | k + 1 => by
    have h1 := rainT_len T k
    have h2 := rainIn_len ((rainT T k).1 ++ [nthI T k]).length ((rainT T k).1 ++ [nthI T k])
    show (rainIn ((rainT T k).1 ++ [nthI T k])).1.length + ((rainT T k).2 ++ (rainIn ((rainT T k).1 ++ [nthI T k])).2).length ≤ _
    unfold rainIn
    simp only [List.length_append, List.length_singleton] at h2 ⊢
    omega
theorem way_len {T : List Int} {k : Nat} {s : List Int} {o : List (Int × Int)} (h : Way T k s o) : o.length ≤ k + 1 := by
  have := rainT_len T (k + 1)
  unfold Way at h
  rw [h] at this
  simp at this
  omega
/-- The swings between what is left on the stack. -/
def restS (s : List Int) : Nat → List (Int × Int)
  | 0 => []
  | k + 1 => restS s k ++ [(apt (nthI s (k + 1)) (nthI s k), 1)]
theorem rest_len (s : List Int) : ∀ k, (restS s k).length = k
  | 0 => rfl
  | k + 1 => by simp [restS, rest_len s k]
def rainL (T : List Int) : List (Int × Int) := (rainT T T.length).2 ++ restS (rainT T T.length).1 ((rainT T T.length).1.length - 1)
theorem rainL_le (T : List Int) : (rainL T).length ≤ T.length := by
  have := rainT_len T T.length
  unfold rainL
  rw [List.length_append, rest_len]
  omega
/-- All that stands on the stack stands among the turnings. -/
def Bd (B : Int) (s : List Int) : Prop := ∀ x, x ∈ s → -B ≤ x ∧ x ≤ B
theorem bd_nth {B : Int} (hB : 0 ≤ B) {s : List Int} (h : Bd B s) (j : Nat) : -B ≤ nthI s j ∧ nthI s j ≤ B := by
  unfold nthI
  rcases Nat.lt_or_ge j s.length with q | q
  · rw [List.getD_eq_getElem?_getD, List.getElem?_eq_getElem q]; exact h _ (List.getElem_mem q)
  · rw [List.getD_eq_getElem?_getD, List.getElem?_eq_none q]; simp; omega
theorem bd_cut {B : Int} (hB : 0 ≤ B) {s t : List Int} {o : Int × Int} (h : Bd B s) (c : cutS s = some (t, o)) : Bd B t := by
  unfold cutS at c
  split at c
  · cases c
  · split at c
    · cases c
    · split at c
      · cases c
        intro x hx
        simp at hx
        rcases hx with rfl | rfl <;> exact bd_nth hB h _
      · cases c
        intro x hx
        rw [List.mem_append] at hx
        rcases hx with hx | hx
        · exact h x (List.mem_of_mem_take hx)
        · rw [List.mem_singleton] at hx; rw [hx]; exact bd_nth hB h _
theorem bd_cuts {B : Int} (hB : 0 ≤ B) : ∀ (f : Nat) (s : List Int), Bd B s → Bd B (cutsS f s).1
  | 0, s, h => h
  | f + 1, s, h => by
    show Bd B (match cutS s with | none => (s, []) | some (t, o) => ((cutsS f t).1, o :: (cutsS f t).2) : List Int × List (Int × Int)).1
    cases q : cutS s with
    | none => exact h
    | some p => obtain ⟨t, o⟩ := p; exact bd_cuts hB f t (bd_cut hB h q)
theorem bd_snoc {B : Int} {s : List Int} {x : Int} (h : Bd B s) (hx : -B ≤ x ∧ x ≤ B) : Bd B (s ++ [x]) := fun y hy => by
  rw [List.mem_append] at hy
  rcases hy with hy | hy
  · exact h y hy
  · rw [List.mem_singleton] at hy; rw [hy]; exact hx
theorem bd_rainT {B : Int} (hB : 0 ≤ B) {T : List Int} (h : Bd B T) : ∀ k, Bd B (rainT T k).1
  | 0 => fun x hx => by simp [rainT] at hx
  | k + 1 => bd_cuts hB _ _ (bd_snoc (bd_rainT hB h k) (bd_nth hB h k))
end Go.Proofs.Ythengechoaodcaa
