/-
What is proved: a row of sayings that is filled place by place, turned round: how many are left and how many trip.
-/
import Derived.Test.YtdneembeefflaaaToN
namespace Go.Proofs.Ytdneembeefflaaa
set_option maxRecDepth 40000
open Go.ChangeShapes Go.WideShapes Go.ChangeAt Go.RowKit
set_option linter.unusedVariables false
set_option linter.unusedSimpArgs false

theorem cnt_upd {V : Nat → Int} {p : Nat} {x : Int} (h0 : V p = 0) (x0 : 0 ≤ x) (x3 : x ≤ 3) : ∀ n, p < n → (leftN (updV V p x) n : Int) = (leftN V n : Int) - (if x = 3 then 1 else 0) ∧ (tripN (updV V p x) n : Int) = (tripN V n : Int) + (if x = 1 ∨ x = 2 then 1 else 0)
  | 0, h => by omega
  | n + 1, h => by
    have sl : ∀ (U : Nat → Int) (k : Nat), leftN U (k + 1) = leftN U k + (if U k = 0 ∨ U k = 1 ∨ U k = 2 then 1 else 0) := fun _ _ => rfl
    have st : ∀ (U : Nat → Int) (k : Nat), tripN U (k + 1) = tripN U k + (if U k = 1 ∨ U k = 2 then 1 else 0) := fun _ _ => rfl
    rw [sl, sl, st, st]
    by_cases e : p = n
    · subst e
      obtain ⟨a, b⟩ := left_ext (V := updV V p x) (U := V) p (fun j hj => by unfold updV; rw [if_neg (by omega)])
      have hx : updV V p x p = x := by unfold updV; rw [if_pos rfl]
      rw [a, b, hx, h0]
      rcases (by omega : x = 0 ∨ x = 1 ∨ x = 2 ∨ x = 3) with q | q | q | q <;> rw [q] <;> simp <;> omega
    · obtain ⟨a, b⟩ := cnt_upd h0 x0 x3 n (by omega)
      have hx : updV V p x n = V n := by unfold updV; rw [if_neg (fun z => e z.symm)]
      rw [hx]
      constructor <;> split <;> omega
/-- Behind i places: trips A, goods G; of n channels the first b are bypassed, the next k stuck, turned by t. -/
def DemI (n b k t i : Nat) (A G : Nat → Int) : Prop :=
  (∀ p, p < n → (∀ j, j < i → (j + t) % n ≠ p) → A p = 0 ∧ G p = 0) ∧ allInB 0 3 A n = true ∧ allInB 0 3 G n = true ∧
  ((leftN A n : Int) = n - min i b ∧ (leftN G n : Int) = n - min i b) ∧ ((i : Int) - b - k ≤ (tripN A n : Int)) ∧ ((tripN G n : Int) ≤ max 0 (min ((i : Int) - b) k))
theorem cnt_zero : ∀ n, leftN (fun _ => (0 : Int)) n = n ∧ tripN (fun _ => (0 : Int)) n = 0
  | 0 => ⟨rfl, rfl⟩
  | n + 1 => by
    obtain ⟨a, b⟩ := cnt_zero n
    obtain ⟨p, q⟩ := left_good (V := fun _ => (0 : Int)) (k := n) rfl
    rw [p, q, a, b]
    exact ⟨rfl, rfl⟩
theorem dem_start (n b k t : Nat) : DemI n b k t 0 (fun _ => 0) (fun _ => 0) := by
  obtain ⟨a, c⟩ := cnt_zero n
  refine ⟨fun p _ _ => ⟨rfl, rfl⟩, decide_eq_true fun j hj => ⟨show (0 : Int) ≤ 0 by omega, show (0 : Int) ≤ 3 by omega⟩, decide_eq_true fun j hj => ⟨show (0 : Int) ≤ 0 by omega, show (0 : Int) ≤ 3 by omega⟩, ?_, ?_, ?_⟩
  · rw [a]; omega
  · rw [c]; omega
  · rw [c]; omega
theorem turn_apart {n t i j : Nat} (hi : i < n) (hj : j < i) : (j + t) % n ≠ (i + t) % n := by
  intro h
  have e1 := Nat.div_add_mod (j + t) n
  have e2 := Nat.div_add_mod (i + t) n
  rw [h] at e1
  have d : (j + t) / n ≤ (i + t) / n := Nat.div_le_div_right (by omega)
  rcases Nat.lt_or_ge ((j + t) / n) ((i + t) / n) with z | z
  · have : n * ((j + t) / n + 1) ≤ n * ((i + t) / n) := Nat.mul_le_mul_left n z
    rw [Nat.mul_add, Nat.mul_one] at this
    omega
  · have e : (j + t) / n = (i + t) / n := by omega
    rw [e] at e1
    omega
theorem dem_step {n b k t i : Nat} {A G : Nat → Int} {x y : Int} (h : DemI n b k t i A G) (hi : i < n) (hs : b + k ≤ n) (hxy : (i < b ∧ x = 3 ∧ y = 3) ∨ (b ≤ i ∧ i < b + k ∧ 0 ≤ x ∧ x ≤ 2 ∧ y = x) ∨ (b + k ≤ i ∧ x = 1 ∧ y = 0)) : DemI n b k t (i + 1) (updV A ((i + t) % n) x) (updV G ((i + t) % n) y) := by
  obtain ⟨h1, h2, h3, h4, h5, h6⟩ := h
  have hp : (i + t) % n < n := Nat.mod_lt _ (by omega)
  obtain ⟨a0, g0⟩ := h1 _ hp (fun j hj => turn_apart hi hj)
  have x0 : 0 ≤ x ∧ x ≤ 3 ∧ 0 ≤ y ∧ y ≤ 3 := by omega
  obtain ⟨p1, p2⟩ := cnt_upd a0 x0.1 x0.2.1 n hp
  obtain ⟨q1, q2⟩ := cnt_upd g0 x0.2.2.1 x0.2.2.2 n hp
  refine ⟨fun p hpn hq => ?_, upd_in h2 x0.1 x0.2.1, upd_in h3 x0.2.2.1 x0.2.2.2, ⟨?_, ?_⟩, ?_, ?_⟩
  · have ne := hq i (by omega)
    have := h1 p hpn (fun j hj => hq j (by omega))
    unfold updV
    rw [if_neg (fun z => ne z.symm), if_neg (fun z => ne z.symm)]
    exact this
  · rw [p1, h4.1]
    rcases hxy with ⟨c, rfl, rfl⟩ | ⟨c, d, e, f, rfl⟩ | ⟨c, rfl, rfl⟩
    · rw [if_pos rfl]; omega
    · rw [if_neg (by omega)]; omega
    · rw [if_neg (by omega)]; omega
  · rw [q1, h4.2]
    rcases hxy with ⟨c, rfl, rfl⟩ | ⟨c, d, e, f, rfl⟩ | ⟨c, rfl, rfl⟩
    · rw [if_pos rfl]; omega
    · rw [if_neg (by omega)]; omega
    · rw [if_neg (by omega)]; omega
  · rw [p2]
    rcases hxy with ⟨c, rfl, rfl⟩ | ⟨c, d, e, f, rfl⟩ | ⟨c, rfl, rfl⟩
    · split <;> omega
    · split <;> omega
    · rw [if_pos (by omega)]; omega
  · rw [q2]
    rcases hxy with ⟨c, rfl, rfl⟩ | ⟨c, d, e, f, rfl⟩ | ⟨c, rfl, rfl⟩
    · rw [if_neg (by omega)]; omega
    · split <;> omega
    · rw [if_neg (by omega)]; omega
theorem dem_end {n b k t : Nat} {A G : Nat → Int} {need : Int} (h : DemI n b k t n A G) (hs : b + k ≤ n) (hv : votersB n need = true) : (aB true need 0 0 n b k = true → voteV n A need = 1) ∧ (aB false need 0 0 n b k = true → voteV n G need = 0) := by
  obtain ⟨-, h2, h3, h4, h5, h6⟩ := h
  constructor
  · intro h
    unfold aB at h
    simp only [if_true] at h
    have := of_decide_eq_true h
    exact vote_yes hv h2 (by omega)
  · intro h
    unfold aB at h
    simp only [Bool.false_eq_true, if_false] at h
    rw [Bool.not_eq_true', decide_eq_false_iff_not] at h
    exact vote_not hv h3 (by omega)
theorem upd_upd (V : Nat → Int) (p : Nat) (x y : Int) : updV (updV V p x) p y = updV V p y := by
  funext j
  unfold updV
  by_cases h : j = p
  · rw [if_pos h, if_pos h]
  · rw [if_neg h, if_neg h, if_neg h]
end Go.Proofs.Ytdneembeefflaaa
