/-
What is proved: when a basin and a day's water are right, as both packages say it; what the program's own three steps do to a basin in memory.
-/
import Derived.Test.YtiamhpopgnblcaaAllIn
import Derived.Deep.RegionHeld3
namespace Go.Proofs.Ytiamhpopgnblcaa
set_option maxRecDepth 40000
open Go.RowKit
set_option linter.unusedVariables false
set_option linter.unusedSimpArgs false

def inB (lo hi n : Int) : Bool := decide (lo ≤ n ∧ n ≤ hi)
theorem inB_yes {lo hi n : Int} (h : inB lo hi n = true) : lo ≤ n ∧ n ≤ hi := of_decide_eq_true h
theorem inB_no {lo hi n : Int} (h : inB lo hi n = false) : n < lo ∨ hi < n := by have := of_decide_eq_false h; omega
/-- A basin is right. -/
def basB (S I O P : Int) : Bool := inB 0 1000000000000 S && (inB 0 1000000000000 I && (inB 0 1000000000000 O && (inB 0 1000000000000 P && decide (S = I - O - P))))
def watB (q k : Int) : Bool := inB 0 1000000000 q && inB 0 1000000000 k
theorem within_is (n lo hi : Int) (w : World) : Calls Try.prog 35 #[.int .i64 n, .int .i64 lo, .int .i64 hi] w fun e w' => e = .returned (.bool (inB lo hi n)) ∧ w' = w := by
  cases h : inB lo hi n
  · exact within_no n lo hi w (inB_no h)
  · exact within_yes n lo hi w (inB_yes h).1 (inB_yes h).2
theorem l1In_is (n lo hi : Int) (w : World) : Calls Try.prog 31 #[.int .i64 n, .int .i64 lo, .int .i64 hi] w fun e w' => e = .returned (.bool (inB lo hi n)) ∧ w' = w := by
  cases h : inB lo hi n
  · exact l1In_no n lo hi w (inB_no h)
  · exact l1In_yes n lo hi w (inB_yes h).1 (inB_yes h).2

set_option maxHeartbeats 1000000 in
theorem l7Basin_any (S I O P : Int) (w : World) : Calls Try.prog 29 #[.agg #[.int .i64 S, .int .i64 I, .int .i64 O, .int .i64 P]] w fun e w' => e = .returned (.bool (basB S I O P)) ∧ Below w.heap.size w w' := by
  unfold basB
  cases h0 : inB 0 1000000000000 S
  · rw [Bool.false_and]
    go_enter Try.func29, Try.ntmps29
    go_wp2_with fail
    refine (l1In_is _ _ _ _).mono ?_
    rintro e w1 ⟨rfl, rfl⟩
    rw [h0]
    go_wp2
    go_ret
    exact ⟨rfl, (by repeat (first | with_reducible exact Below.refl _ _ | with_reducible refine Below.setCell ?_ (by first | omega | (simp; done) | (simp; omega)) _ | with_reducible refine bDrewN ?_ _ | with_reducible refine Below.drew ?_ | with_reducible refine Below.alloc ?_ (by first | omega | (simp; done) | (simp; omega)) _))⟩
  · rw [Bool.true_and]
    cases h1 : inB 0 1000000000000 I
    · rw [Bool.false_and]
      go_enter Try.func29, Try.ntmps29
      go_wp2_with fail
      refine (l1In_is _ _ _ _).mono ?_
      rintro e w1 ⟨rfl, rfl⟩
      rw [h0]
      go_wp2_with fail
      refine (l1In_is _ _ _ _).mono ?_
      rintro e w1 ⟨rfl, rfl⟩
      rw [h1]
      go_wp2
      go_ret
      exact ⟨rfl, (by repeat (first | with_reducible exact Below.refl _ _ | with_reducible refine Below.setCell ?_ (by first | omega | (simp; done) | (simp; omega)) _ | with_reducible refine bDrewN ?_ _ | with_reducible refine Below.drew ?_ | with_reducible refine Below.alloc ?_ (by first | omega | (simp; done) | (simp; omega)) _))⟩
    · rw [Bool.true_and]
      cases h2 : inB 0 1000000000000 O
      · rw [Bool.false_and]
        go_enter Try.func29, Try.ntmps29
        go_wp2_with fail
        refine (l1In_is _ _ _ _).mono ?_
        rintro e w1 ⟨rfl, rfl⟩
        rw [h0]
        go_wp2_with fail
        refine (l1In_is _ _ _ _).mono ?_
        rintro e w1 ⟨rfl, rfl⟩
        rw [h1]
        go_wp2_with fail
        refine (l1In_is _ _ _ _).mono ?_
        rintro e w1 ⟨rfl, rfl⟩
        rw [h2]
        go_wp2
        go_ret
        exact ⟨rfl, (by repeat (first | with_reducible exact Below.refl _ _ | with_reducible refine Below.setCell ?_ (by first | omega | (simp; done) | (simp; omega)) _ | with_reducible refine bDrewN ?_ _ | with_reducible refine Below.drew ?_ | with_reducible refine Below.alloc ?_ (by first | omega | (simp; done) | (simp; omega)) _))⟩
      · rw [Bool.true_and]
        cases h3 : inB 0 1000000000000 P
        · rw [Bool.false_and]
          go_enter Try.func29, Try.ntmps29
          go_wp2_with fail
          refine (l1In_is _ _ _ _).mono ?_
          rintro e w1 ⟨rfl, rfl⟩
          rw [h0]
          go_wp2_with fail
          refine (l1In_is _ _ _ _).mono ?_
          rintro e w1 ⟨rfl, rfl⟩
          rw [h1]
          go_wp2_with fail
          refine (l1In_is _ _ _ _).mono ?_
          rintro e w1 ⟨rfl, rfl⟩
          rw [h2]
          go_wp2_with fail
          refine (l1In_is _ _ _ _).mono ?_
          rintro e w1 ⟨rfl, rfl⟩
          rw [h3]
          go_wp2
          go_ret
          exact ⟨rfl, (by repeat (first | with_reducible exact Below.refl _ _ | with_reducible refine Below.setCell ?_ (by first | omega | (simp; done) | (simp; omega)) _ | with_reducible refine bDrewN ?_ _ | with_reducible refine Below.drew ?_ | with_reducible refine Below.alloc ?_ (by first | omega | (simp; done) | (simp; omega)) _))⟩
        · rw [Bool.true_and]
          obtain ⟨a0, b0⟩ := inB_yes h0
          obtain ⟨a1, b1⟩ := inB_yes h1
          obtain ⟨a2, b2⟩ := inB_yes h2
          obtain ⟨a3, b3⟩ := inB_yes h3
          go_enter Try.func29, Try.ntmps29
          go_wp2_with fail
          refine (l1In_is _ _ _ _).mono ?_
          rintro e w1 ⟨rfl, rfl⟩
          rw [h0]
          go_wp2_with fail
          refine (l1In_is _ _ _ _).mono ?_
          rintro e w1 ⟨rfl, rfl⟩
          rw [h1]
          go_wp2_with fail
          refine (l1In_is _ _ _ _).mono ?_
          rintro e w1 ⟨rfl, rfl⟩
          rw [h2]
          go_wp2_with fail
          refine (l1In_is _ _ _ _).mono ?_
          rintro e w1 ⟨rfl, rfl⟩
          rw [h3]
          go_wp2
          go_ret
          exact ⟨ret_bool (by rw [Bool.eq_iff_iff, beq_iff_eq, decide_eq_true_iff]), (by repeat (first | with_reducible exact Below.refl _ _ | with_reducible refine Below.setCell ?_ (by first | omega | (simp; done) | (simp; omega)) _ | with_reducible refine bDrewN ?_ _ | with_reducible refine Below.drew ?_ | with_reducible refine Below.alloc ?_ (by first | omega | (simp; done) | (simp; omega)) _))⟩

def four (S I O P : Int) (j : Nat) : Int := if j = 0 then S else if j = 1 then I else if j = 2 then O else P
theorem four_all {S I O P lo hi : Int} : allInB lo hi (four S I O P) 4 = (inB lo hi S && (inB lo hi I && (inB lo hi O && inB lo hi P))) := by
  unfold allInB inB
  rw [← Bool.decide_and, ← Bool.decide_and, ← Bool.decide_and, decide_eq_decide]
  constructor
  · intro h
    exact ⟨h 0 (by omega), h 1 (by omega), h 2 (by omega), h 3 (by omega)⟩
  · intro ⟨h0, h1, h2, h3⟩ j hj
    unfold four
    by_cases e0 : j = 0
    · rw [if_pos e0]; exact h0
    by_cases e1 : j = 1
    · rw [if_neg e0, if_pos e1]; exact h1
    by_cases e2 : j = 2
    · rw [if_neg e0, if_neg e1, if_pos e2]; exact h2
    · rw [if_neg e0, if_neg e1, if_neg e2]; exact h3
theorem four_row (w : World) (S I O P : Int) (t : TypeId) (m : Nat) (hm : m = w.heap.size) : RowI (w.alloc (.cells #[.int .i64 S, .int .i64 I, .int .i64 O, .int .i64 P] t)) (some ⟨m, 0, none⟩) 4 (four S I O P) := fun j hj => by
  subst hm
  refine ⟨w.heap.size, 0, rfl, by simp, ?_⟩
  match j, hj with
  | 0, _ => simp [go_sem, four]
  | 1, _ => simp [go_sem, four]
  | 2, _ => simp [go_sem, four]
  | 3, _ => simp [go_sem, four]
theorem basB_four (S I O P : Int) : basB S I O P = (allInB 0 1000000000000 (four S I O P) 4 && decide (S = I - O - P)) := by
  rw [four_all]; unfold basB; simp only [Bool.and_assoc]

set_option maxHeartbeats 1000000 in
theorem right_any (S I O P : Int) (w : World) : Calls Try.prog 30 #[.agg #[.int .i64 S, .int .i64 I, .int .i64 O, .int .i64 P]] w fun e w' => e = .returned (.bool (basB S I O P)) ∧ Below w.heap.size w w' := by
  rw [basB_four]
  have HA : Hid (∀ (w : World) (s : Option Addr) (c : Nat), RowI w s 4 (four S I O P) → Calls Try.prog 45 #[.slice s 4 c, .int .i64 0, .int .i64 1000000000000] w fun e w' => e = .returned (.bool (allInB 0 1000000000000 (four S I O P) 4)) ∧ w' = w) := fun w s c h => allWithin_any s 4 c _ _ _ w (by omega) h
  have HF : Hid (∀ (w : World) (t : TypeId) (m : Nat), m = w.heap.size → RowI (w.alloc (.cells #[.int .i64 S, .int .i64 I, .int .i64 O, .int .i64 P] t)) (some ⟨m, 0, none⟩) 4 (four S I O P)) := fun w t m h => four_row w S I O P t m h
  cases h : allInB 0 1000000000000 (four S I O P) 4
  · rw [h] at HA
    clear h
    go_enter Try.func30, Try.ntmps30
    go_wp2_with fail
    refine (HA.out _ _ _ (HF.out _ _ _ (by simp))).mono ?_
    rintro e w1 ⟨rfl, rfl⟩
    go_wp2
    go_ret
    exact ⟨rfl, (by repeat (first | with_reducible exact Below.refl _ _ | with_reducible refine Below.setCell ?_ (by first | omega | (simp; done) | (simp; omega)) _ | with_reducible refine bDrewN ?_ _ | with_reducible refine Below.drew ?_ | with_reducible refine Below.alloc ?_ (by first | omega | (simp; done) | (simp; omega)) _))⟩
  · rw [four_all] at h
    simp only [Bool.and_eq_true] at h
    obtain ⟨h0, h1, h2, h3⟩ := h
    rw [four_all, h0, h1, h2, h3] at HA
    obtain ⟨a0, b0⟩ := inB_yes h0
    obtain ⟨a1, b1⟩ := inB_yes h1
    obtain ⟨a2, b2⟩ := inB_yes h2
    obtain ⟨a3, b3⟩ := inB_yes h3
    clear h0 h1 h2 h3
    go_enter Try.func30, Try.ntmps30
    go_wp2_with fail
    refine (HA.out _ _ _ (HF.out _ _ _ (by simp))).mono ?_
    rintro e w1 ⟨rfl, rfl⟩
    go_wp2
    go_ret
    exact ⟨ret_bool (by rw [Bool.true_and, Bool.eq_iff_iff, beq_iff_eq, decide_eq_true_iff]), (by repeat (first | with_reducible exact Below.refl _ _ | with_reducible refine Below.setCell ?_ (by first | omega | (simp; done) | (simp; omega)) _ | with_reducible refine bDrewN ?_ _ | with_reducible refine Below.drew ?_ | with_reducible refine Below.alloc ?_ (by first | omega | (simp; done) | (simp; omega)) _))⟩

set_option maxHeartbeats 1000000 in
theorem waterRight_any (q k d : Int) (w : World) : Calls Try.prog 34 #[.agg #[.int .i64 q, .int .i64 k, .int .i64 d]] w fun e w' => e = .returned (.bool (watB q k)) ∧ Below w.heap.size w w' := by
  unfold watB
  cases h0 : inB 0 1000000000 q
  · go_enter Try.func34, Try.ntmps34
    go_wp2_with fail
    refine (within_is _ _ _ _).mono ?_
    rintro e w1 ⟨rfl, rfl⟩
    rw [h0]
    go_wp2
    go_ret
    exact ⟨rfl, (by repeat (first | with_reducible exact Below.refl _ _ | with_reducible refine Below.setCell ?_ (by first | omega | (simp; done) | (simp; omega)) _ | with_reducible refine bDrewN ?_ _ | with_reducible refine Below.drew ?_ | with_reducible refine Below.alloc ?_ (by first | omega | (simp; done) | (simp; omega)) _))⟩
  · go_enter Try.func34, Try.ntmps34
    go_wp2_with fail
    refine (within_is _ _ _ _).mono ?_
    rintro e w1 ⟨rfl, rfl⟩
    rw [h0]
    go_wp2_with fail
    refine (within_is _ _ _ _).mono ?_
    rintro e w1 ⟨rfl, rfl⟩
    go_wp2
    go_ret
    exact ⟨rfl, (by repeat (first | with_reducible exact Below.refl _ _ | with_reducible refine Below.setCell ?_ (by first | omega | (simp; done) | (simp; omega)) _ | with_reducible refine bDrewN ?_ _ | with_reducible refine Below.drew ?_ | with_reducible refine Below.alloc ?_ (by first | omega | (simp; done) | (simp; omega)) _))⟩

set_option maxHeartbeats 1000000 in
theorem fill_any (b : Nat) (S I O P q : Int) (w : World) (c0 : w.cell? ⟨b, 0, none⟩ = some (.int .i64 S)) (c1 : w.cell? ⟨b, 1, none⟩ = some (.int .i64 I)) (c2 : w.cell? ⟨b, 2, none⟩ = some (.int .i64 O)) (c3 : w.cell? ⟨b, 3, none⟩ = some (.int .i64 P)) (f0 : w.frozen? ⟨b, 0, none⟩ = false) (f1 : w.frozen? ⟨b, 1, none⟩ = false) (f2 : w.frozen? ⟨b, 2, none⟩ = false) (f3 : w.frozen? ⟨b, 3, none⟩ = false) (hS : 0 ≤ S) (hS' : S ≤ 3000000000000) (hI : 0 ≤ I) (hI' : I ≤ 3000000000000) (hq : 0 ≤ q) (hq' : q ≤ 3000000000000) :
    Calls Try.prog 37 #[.pointer (some ⟨b, 0, none⟩), .int .i64 q] w fun e w' => e = .returned (.tuple #[]) ∧ w' = (w.setCell ⟨b, 0, none⟩ (.int .i64 (S + q))).setCell ⟨b, 1, none⟩ (.int .i64 (I + q)) := by
  go_enter Try.func37, Try.ntmps37
  go_wp2
  go_end0
  exact ⟨rfl, rfl⟩
set_option maxHeartbeats 1000000 in
theorem letDown_any (b : Nat) (S I O P a n : Int) (w : World) (c0 : w.cell? ⟨b, 0, none⟩ = some (.int .i64 S)) (c1 : w.cell? ⟨b, 1, none⟩ = some (.int .i64 I)) (c2 : w.cell? ⟨b, 2, none⟩ = some (.int .i64 O)) (c3 : w.cell? ⟨b, 3, none⟩ = some (.int .i64 P)) (f0 : w.frozen? ⟨b, 0, none⟩ = false) (f1 : w.frozen? ⟨b, 1, none⟩ = false) (f2 : w.frozen? ⟨b, 2, none⟩ = false) (f3 : w.frozen? ⟨b, 3, none⟩ = false) (hS : 0 ≤ S) (hS' : S ≤ 3000000000000) (hO : 0 ≤ O) (hO' : O ≤ 3000000000000) (ha : -4000000000000000 ≤ a) (ha' : a ≤ 4000000000000000) (hn : (if a < S then a else S) = n) :
    Calls Try.prog 38 #[.pointer (some ⟨b, 0, none⟩), .int .i64 a] w fun e w' => e = .returned (.tuple #[]) ∧ w' = (w.setCell ⟨b, 0, none⟩ (.int .i64 (S - n))).setCell ⟨b, 2, none⟩ (.int .i64 (O + n)) := by
  have n1 : -4000000000000000 ≤ n := by rw [← hn]; split <;> omega
  have n2 : n ≤ 4000000000000000 := by rw [← hn]; split <;> omega
  go_enter Try.func38, Try.ntmps38
  go_wp2
  go_end0
  exact ⟨rfl, rfl⟩
set_option maxHeartbeats 1000000 in
theorem spill_any (b : Nat) (S I O P a n : Int) (w : World) (c0 : w.cell? ⟨b, 0, none⟩ = some (.int .i64 S)) (c1 : w.cell? ⟨b, 1, none⟩ = some (.int .i64 I)) (c2 : w.cell? ⟨b, 2, none⟩ = some (.int .i64 O)) (c3 : w.cell? ⟨b, 3, none⟩ = some (.int .i64 P)) (f0 : w.frozen? ⟨b, 0, none⟩ = false) (f1 : w.frozen? ⟨b, 1, none⟩ = false) (f2 : w.frozen? ⟨b, 2, none⟩ = false) (f3 : w.frozen? ⟨b, 3, none⟩ = false) (hS : -5000000000000000 ≤ S) (hS' : S ≤ 5000000000000000) (hP : 0 ≤ P) (hP' : P ≤ 3000000000000) (ha : 0 ≤ a) (ha' : a ≤ 3000000000000) (hn : (if 0 < S - a then S - a else 0) = n) :
    Calls Try.prog 39 #[.pointer (some ⟨b, 0, none⟩), .int .i64 a] w fun e w' => e = .returned (.tuple #[]) ∧ w' = (w.setCell ⟨b, 0, none⟩ (.int .i64 (S - n))).setCell ⟨b, 3, none⟩ (.int .i64 (P + n)) := by
  have n1 : 0 ≤ n := by rw [← hn]; split <;> omega
  have n2 : n ≤ 6000000000000000 := by rw [← hn]; split <;> omega
  have hn2 : (if a < S then S - a else 0) = n := by rw [← hn]; by_cases q : a < S <;> simp [q] <;> omega
  have hn3 : (if S - a < 0 then 0 else S - a) = n := by rw [← hn]; by_cases q : S - a < 0 <;> simp [q] <;> omega
  have hn4 : (if S < a then 0 else S - a) = n := by rw [← hn]; by_cases q : S < a <;> simp [q] <;> omega
  go_enter Try.func39, Try.ntmps39
  go_wp2
  go_end0
  exact ⟨rfl, rfl⟩
end Go.Proofs.Ytiamhpopgnblcaa
