/-
What is proved: how many bypassed and stuck channels a vote bears, in numbers.
-/
import Derived.Test.YtdneembeefflaaaVo
import Derived.Test.YtdneembeefflaaaCat
namespace Go.Proofs.Ytdneembeefflaaa
set_option maxRecDepth 40000
open Go.ChangeShapes Go.WideShapes Go.ChangeAt Go.RowKit
set_option linter.unusedVariables false
set_option linter.unusedSimpArgs false

/-- Do all ways to fill m places with b bypassed and k stuck ones, the rest saying as asked, vote as asked? L are left ahead of them, T trip. -/
def aB (q : Bool) (need L T m b k : Int) : Bool := if q = true then decide (min need (L + m - b) ≤ T + m - b - k) else !decide (min need (L + m - b) ≤ T + k)
def raB (q : Bool) (need L T m b k : Int) : Bool := if m < b + k then true else aB q need L T m b k
def wantV (q : Bool) : Int := if q = true then 1 else 0
/-- What is asked with the place filled by r. -/
def brB (q : Bool) (need L T m b k : Int) (r : Int) : Bool := if r = 3 then (if 0 < b then raB q need L T (m - 1) (b - 1) k else true) else (if 0 < k then raB q need (L + 1) (T + if r = 0 then 0 else 1) (m - 1) b (k - 1) else true)
theorem br_no {q : Bool} {need L T m b k r : Int} (hm : 1 ≤ m) (hb : 0 ≤ b) (hk : 0 ≤ k) (hs : b + k ≤ m) (h0 : 0 ≤ r) (h3 : r ≤ 3) (h : brB q need L T m b k r = false) : raB q need L T m b k = false := by
  unfold brB at h
  unfold raB at *
  rw [if_neg (by omega)]
  split at h
  · split at h
    · rw [if_neg (by omega)] at h
      unfold aB at *
      cases q
      · simp only [Bool.false_eq_true, if_false] at h ⊢
        rw [Bool.not_eq_false', decide_eq_true_iff] at h ⊢
        omega
      · simp only [if_true] at h ⊢
        rw [decide_eq_false_iff_not] at h ⊢
        omega
    · cases h
  · split at h
    · rw [if_neg (by omega)] at h
      unfold aB at *
      cases q
      · simp only [Bool.false_eq_true, if_false] at h ⊢
        rw [Bool.not_eq_false', decide_eq_true_iff] at h ⊢
        split at h <;> omega
      · simp only [if_true] at h ⊢
        rw [decide_eq_false_iff_not] at h ⊢
        split at h <;> omega
    · cases h
theorem br_end {q : Bool} {need L T m b k : Int} (hm : 1 ≤ m) (hb : 0 ≤ b) (hk : 0 ≤ k) (hs : b + k ≤ m) (h : ∀ r, 0 ≤ r → r ≤ 3 → brB q need L T m b k r = true) : raB q need (L + 1) (T + wantV q) (m - 1) b k = raB q need L T m b k := by
  by_cases e : b + k ≤ m - 1
  · unfold raB
    rw [if_neg (by omega), if_neg (by omega)]
    unfold aB wantV
    cases q
    · simp only [Bool.false_eq_true, if_false]
      congr 1
      exact decide_eq_decide.2 (by omega)
    · simp only [if_true]
      exact decide_eq_decide.2 (by omega)
  · have e1 : raB q need (L + 1) (T + wantV q) (m - 1) b k = true := by unfold raB; rw [if_pos (by omega)]
    rw [e1]
    symm
    by_cases b0 : 0 < b
    · have := h 3 (by omega) (by omega)
      unfold brB at this
      rw [if_pos rfl, if_pos b0] at this
      unfold raB at *
      rw [if_neg (by omega)] at this ⊢
      rw [← this]
      unfold aB
      cases q
      · simp only [Bool.false_eq_true, if_false]
        congr 1
        exact decide_eq_decide.2 (by omega)
      · simp only [if_true]
        exact decide_eq_decide.2 (by omega)
    · have k0 : 0 < k := by omega
      have h0 := h 0 (by omega) (by omega)
      have h1 := h 1 (by omega) (by omega)
      unfold brB at h0 h1
      rw [if_neg (by omega), if_pos k0, if_pos rfl] at h0
      rw [if_neg (by omega), if_pos k0, if_neg (by omega)] at h1
      unfold raB at *
      rw [if_neg (by omega)] at h0 h1 ⊢
      unfold aB at *
      cases q
      · simp only [Bool.false_eq_true, if_false] at h1 ⊢
        rw [← h1]
        congr 1
        exact decide_eq_decide.2 (by omega)
      · simp only [if_true] at h0 ⊢
        rw [← h0]
        exact decide_eq_decide.2 (by omega)
def updV (V : Nat → Int) (i : Nat) (x : Int) (j : Nat) : Int := if j = i then x else V j
theorem left_ext {V U : Nat → Int} : ∀ n, (∀ j, j < n → V j = U j) → leftN V n = leftN U n ∧ tripN V n = tripN U n
  | 0, _ => ⟨rfl, rfl⟩
  | n + 1, h => by
    obtain ⟨a, b⟩ := left_ext n (fun j hj => h j (by omega))
    have e := h n (by omega)
    unfold leftN tripN
    rw [a, b, e]
    exact ⟨rfl, rfl⟩
theorem left_upd {V : Nat → Int} {i : Nat} {x : Int} (h0 : 0 ≤ x) (h3 : x ≤ 3) : (leftN (updV V i x) (i + 1) : Int) = (leftN V i : Int) + (if x = 3 then 0 else 1) ∧ (tripN (updV V i x) (i + 1) : Int) = (tripN V i : Int) + (if x = 1 ∨ x = 2 then 1 else 0) := by
  obtain ⟨a, b⟩ := left_ext (V := updV V i x) (U := V) i (fun j hj => by unfold updV; rw [if_neg (by omega)])
  have hx : updV V i x i = x := by unfold updV; rw [if_pos rfl]
  rcases (by omega : x = 0 ∨ x = 1 ∨ x = 2 ∨ x = 3) with e | e | e | e
  · obtain ⟨p, q⟩ := left_good (V := updV V i x) (k := i) (by rw [hx, e])
    rw [p, q, a, b, e]; simp
  · obtain ⟨p, q⟩ := left_trip (V := updV V i x) (k := i) (by rw [hx, e]; omega)
    rw [p, q, a, b, e]; simp
  · obtain ⟨p, q⟩ := left_trip (V := updV V i x) (k := i) (by rw [hx, e]; omega)
    rw [p, q, a, b, e]; simp
  · obtain ⟨p, q⟩ := left_out (V := updV V i x) (k := i) (by rw [hx, e])
    rw [p, q, a, b, e]; simp
theorem vote_is {q : Bool} {n : Nat} {V : Nat → Int} {need : Int} (h : votersB n need = true) (g : allInB 0 3 V n = true) : (voteV n V need == wantV q) = raB q need (leftN V n) (tripN V n) 0 0 0 := by
  unfold raB
  rw [if_neg (show ¬ ((0 : Int) < 0 + 0) by omega)]
  unfold aB wantV
  simp only [Int.add_zero, Int.sub_zero]
  by_cases t : min need (leftN V n : Int) ≤ (tripN V n : Int)
  · rw [vote_yes h g t, decide_eq_true t]
    cases q <;> rfl
  · rw [vote_not h g t, decide_eq_false t]
    cases q <;> rfl
theorem upd_in {V : Nat → Int} {n i : Nat} {x : Int} (g : allInB 0 3 V n = true) (h0 : 0 ≤ x) (h3 : x ≤ 3) : allInB 0 3 (updV V i x) n = true := by
  have q := allIn_yes g.symm
  unfold allInB
  refine decide_eq_true fun j hj => ?_
  unfold updV
  split
  · exact ⟨h0, h3⟩
  · exact q j hj
/-- Are both told? -/
def tolB (n need b k : Int) : Bool := votersB n need && (inB 0 n b && inB 0 (n - b) k)
def tolV (q : Bool) (n need b k : Int) : Bool := tolB n need b k && aB q need 0 0 n b k
end Go.Proofs.Ytdneembeefflaaa
