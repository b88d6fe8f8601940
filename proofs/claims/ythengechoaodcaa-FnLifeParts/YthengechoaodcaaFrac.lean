/-
What is proved: of every two int64s MakeFrac of both packages gives the right fraction and true, or the zero value and false.
-/
import Derived.Test.YthengechoaodcaaGcd
namespace Go.Proofs.Ythengechoaodcaa
set_option maxRecDepth 40000
open Go.RowKit

/-- The fraction of two numbers: whether there is a right one, its parts (0 and 0 where not). -/
def mkOk (n d : Int) : Bool := decide (d ≠ 0 ∧ n.natAbs / Nat.gcd n.natAbs d.natAbs ≤ 1000000000 ∧ d.natAbs / Nat.gcd n.natAbs d.natAbs ≤ 1000000000)
def mkNum (n d : Int) : Int := if mkOk n d = true then (if (decide (n < 0) != decide (d < 0)) = true then -((n.natAbs / Nat.gcd n.natAbs d.natAbs : Nat) : Int) else ((n.natAbs / Nat.gcd n.natAbs d.natAbs : Nat) : Int)) else 0
def mkDen (n d : Int) : Int := if mkOk n d = true then ((d.natAbs / Nat.gcd n.natAbs d.natAbs : Nat) : Int) else 0

/-- What MakeFrac hands back, by its cases. -/
theorem mk_zero (n d : Int) (h : d = 0) : mkOk n d = false ∧ mkNum n d = 0 ∧ mkDen n d = 0 := by
  have ho : mkOk n d = false := by simp [mkOk, h]
  exact ⟨ho, by simp [mkNum, ho], by simp [mkDen, ho]⟩
theorem mk_far (n d : Int) (h : 1000000000 < n.natAbs / Nat.gcd n.natAbs d.natAbs ∨ 1000000000 < d.natAbs / Nat.gcd n.natAbs d.natAbs) : mkOk n d = false ∧ mkNum n d = 0 ∧ mkDen n d = 0 := by
  have ho : mkOk n d = false := by
    unfold mkOk; rw [decide_eq_false_iff_not]; omega
  exact ⟨ho, by simp [mkNum, ho], by simp [mkDen, ho]⟩
theorem mk_good (n d : Int) (h : d ≠ 0) (h1 : n.natAbs / Nat.gcd n.natAbs d.natAbs ≤ 1000000000) (h2 : d.natAbs / Nat.gcd n.natAbs d.natAbs ≤ 1000000000) :
    mkOk n d = true ∧ mkNum n d = (if (decide (n < 0) != decide (d < 0)) = true then -((n.natAbs / Nat.gcd n.natAbs d.natAbs : Nat) : Int) else ((n.natAbs / Nat.gcd n.natAbs d.natAbs : Nat) : Int)) ∧ mkDen n d = ((d.natAbs / Nat.gcd n.natAbs d.natAbs : Nat) : Int) := by
  have ho : mkOk n d = true := by unfold mkOk; rw [decide_eq_true_iff]; exact ⟨h, h1, h2⟩
  exact ⟨ho, by rw [mkNum, if_pos ho], by rw [mkDen, if_pos ho]⟩



theorem quo_cast (A G : Nat) : ((A : Int) / (G : Int)) = ((A / G : Nat) : Int) := by omega

/-- The value of a fraction whose parts come to x and y. -/
def mkVal (n d : Int) (x y : Nat) : Value :=
  if x ≤ 1000000000 ∧ y ≤ 1000000000 then .tuple #[.agg #[.int .i64 (if (decide (n < 0) != decide (d < 0)) = true then -(x : Int) else (x : Int)), .int .i64 (y : Int)], .bool true]
  else .tuple #[.agg #[.int .i64 0, .int .i64 0], .bool false]
theorem mkVal_far (n d : Int) (x y : Nat) (h : 1000000000 < x ∨ 1000000000 < y) : mkVal n d x y = .tuple #[.agg #[.int .i64 0, .int .i64 0], .bool false] := by
  unfold mkVal; rw [if_neg (by omega)]
theorem mkVal_plus (n d : Int) (x y : Nat) (h : x ≤ 1000000000) (k : y ≤ 1000000000) (hs : (n < 0 ∧ d < 0) ∨ (0 ≤ n ∧ 0 ≤ d)) : mkVal n d x y = .tuple #[.agg #[.int .i64 x, .int .i64 y], .bool true] := by
  unfold mkVal; rw [if_pos ⟨h, k⟩, if_neg]; rcases hs with ⟨a, b⟩ | ⟨a, b⟩ <;> simp <;> omega
theorem mkVal_minus (n d : Int) (x y : Nat) (h : x ≤ 1000000000) (k : y ≤ 1000000000) (hs : (n < 0 ∧ 0 ≤ d) ∨ (0 ≤ n ∧ d < 0)) : mkVal n d x y = .tuple #[.agg #[.int .i64 (-(x : Int)), .int .i64 y], .bool true] := by
  unfold mkVal; rw [if_pos ⟨h, k⟩, if_pos]; rcases hs with ⟨a, b⟩ | ⟨a, b⟩ <;> simp <;> omega

set_option maxHeartbeats 400000 in
theorem specMakeFrac_core (n d : Int) (A B G : Nat) (w : World) (hb : (d == 0) = false) (hA : A ≤ 9223372036854775808) (hB : B ≤ 9223372036854775808) (hG : 1 ≤ G)
    (K1 : Hid (∀ w, Calls Try.prog 71 #[.int .i64 n] w fun e w' => e = .returned (.int .u64 A) ∧ w' = w))
    (K2 : Hid (∀ w, Calls Try.prog 71 #[.int .i64 d] w fun e w' => e = .returned (.int .u64 B) ∧ w' = w))
    (K3 : Hid (∀ w, Calls Try.prog 72 #[.int .u64 A, .int .u64 B] w fun e w' => e = .returned (.int .u64 G) ∧ w' = w)) :
    Calls Try.prog 54 #[.int .i64 n, .int .i64 d] w fun e w' => e = .returned (mkVal n d (A / G) (B / G)) ∧ Below w.heap.size w w' := by
  have qa : A / G ≤ A := Nat.div_le_self _ _
  have qb : B / G ≤ B := Nat.div_le_self _ _
  have ea := quo_cast A G
  have eb := quo_cast B G
  generalize A / G = x at *
  generalize B / G = y at *
  go_enter Try.func54, Try.ntmps54
  go_wp2_with fail
  refine (K1.out _).mono ?_
  rintro e w1 ⟨rfl, rfl⟩
  go_wp2_with fail
  refine (K2.out _).mono ?_
  rintro e w1 ⟨rfl, rfl⟩
  go_wp2_with fail
  refine (K3.out _).mono ?_
  rintro e w1 ⟨rfl, rfl⟩
  by_cases c1 : 1000000000 < x
  · go_wp2
    exact bodyPost_ret (v := .tuple #[.agg #[.int .i64 0, .int .i64 0], .bool false]) (by simp [results, Try.results54, go_sem]) rfl ⟨by rw [mkVal_far _ _ _ _ (by omega)], below0 _ _⟩
  · by_cases c2 : 1000000000 < y
    · go_wp2
      exact bodyPost_ret (v := .tuple #[.agg #[.int .i64 0, .int .i64 0], .bool false]) (by simp [results, Try.results54, go_sem]) rfl ⟨by rw [mkVal_far _ _ _ _ (by omega)], below0 _ _⟩
    · by_cases c3 : (n < 0 ∧ d < 0) ∨ (0 ≤ n ∧ 0 ≤ d)
      · have c4 : (decide (n < 0) == decide (d < 0)) = true := by simp; omega
        have C3 : Hid ((n < 0 ∧ d < 0) ∨ (0 ≤ n ∧ 0 ≤ d)) := c3
        clear c3
        go_wp2
        exact bodyPost_ret (v := .tuple #[.agg #[.int .i64 x, .int .i64 y], .bool true]) (by simp [results, Try.results54, go_sem]) rfl ⟨by rw [mkVal_plus _ _ _ _ (by omega) (by omega) C3.out], below0 _ _⟩
      · have c5 : (n < 0 ∧ 0 ≤ d) ∨ (0 ≤ n ∧ d < 0) := by omega
        have c4 : (decide (n < 0) == decide (d < 0)) = false := by simp; omega
        have C3 : Hid ((n < 0 ∧ 0 ≤ d) ∨ (0 ≤ n ∧ d < 0)) := c5
        clear c3 c5
        go_wp2
        exact bodyPost_ret (v := .tuple #[.agg #[.int .i64 (-x), .int .i64 y], .bool true]) (by simp [results, Try.results54, go_sem]) rfl ⟨by rw [mkVal_minus _ _ _ _ (by omega) (by omega) C3.out], below0 _ _⟩

theorem mkVal_eq (n d : Int) (hd : d ≠ 0) : mkVal n d (n.natAbs / Nat.gcd n.natAbs d.natAbs) (d.natAbs / Nat.gcd n.natAbs d.natAbs) = .tuple #[.agg #[.int .i64 (mkNum n d), .int .i64 (mkDen n d)], .bool (mkOk n d)] := by
  by_cases h1 : n.natAbs / Nat.gcd n.natAbs d.natAbs ≤ 1000000000
  · by_cases h2 : d.natAbs / Nat.gcd n.natAbs d.natAbs ≤ 1000000000
    · obtain ⟨e1, e2, e3⟩ := mk_good n d hd h1 h2
      rw [e1, e2, e3, mkVal, if_pos ⟨h1, h2⟩]
    · obtain ⟨e1, e2, e3⟩ := mk_far n d (.inr (by omega))
      rw [e1, e2, e3, mkVal_far _ _ _ _ (.inr (by omega))]
  · obtain ⟨e1, e2, e3⟩ := mk_far n d (.inl (by omega))
    rw [e1, e2, e3, mkVal_far _ _ _ _ (.inl (by omega))]

theorem specMakeFrac_any (n d : Int) (w : World) (h1 : -9223372036854775808 ≤ n) (h2 : n ≤ 9223372036854775807) (h3 : -9223372036854775808 ≤ d) (h4 : d ≤ 9223372036854775807) :
    Calls Try.prog 54 #[.int .i64 n, .int .i64 d] w fun e w' => e = .returned (.tuple #[.agg #[.int .i64 (mkNum n d), .int .i64 (mkDen n d)], .bool (mkOk n d)]) ∧ Below w.heap.size w w' := by
  by_cases hd : d = 0
  · obtain ⟨e1, e2, e3⟩ := mk_zero n d hd
    rw [e1, e2, e3]; clear e1 e2 e3
    have hb : (d == 0) = true := by simp [hd]
    clear hd
    go_enter Try.func54, Try.ntmps54
    go_wp2
    exact bodyPost_ret (v := .tuple #[.agg #[.int .i64 0, .int .i64 0], .bool false]) (by simp [results, Try.results54, go_sem]) rfl ⟨rfl, below0 _ _⟩
  · rw [← mkVal_eq n d hd]
    exact specMakeFrac_core n d n.natAbs d.natAbs (Nat.gcd n.natAbs d.natAbs) w (by simp [hd]) (by omega) (by omega) (Nat.gcd_pos_of_pos_right _ (by omega))
      (fun w => l1Abs_any n w h1 h2) (fun w => l1Abs_any d w h3 h4) (fun w => l1Gcd_any _ _ w (by omega) (by omega))

set_option maxHeartbeats 400000 in
theorem implMakeFrac_core (n d : Int) (A B G : Nat) (w : World) (hb : (d == 0) = false) (hA : A ≤ 9223372036854775808) (hB : B ≤ 9223372036854775808) (hG : 1 ≤ G)
    (K1 : Hid (∀ w, Calls Try.prog 77 #[.int .i64 n] w fun e w' => e = .returned (.int .u64 A) ∧ w' = w))
    (K2 : Hid (∀ w, Calls Try.prog 77 #[.int .i64 d] w fun e w' => e = .returned (.int .u64 B) ∧ w' = w))
    (K3 : Hid (∀ w, Calls Try.prog 76 #[.int .u64 A, .int .u64 B] w fun e w' => e = .returned (.int .u64 G) ∧ ∃ n, w' = w.drewN n)) :
    Calls Try.prog 75 #[.int .i64 n, .int .i64 d] w fun e w' => e = .returned (mkVal n d (A / G) (B / G)) ∧ Below w.heap.size w w' := by
  have qa : A / G ≤ A := Nat.div_le_self _ _
  have qb : B / G ≤ B := Nat.div_le_self _ _
  have ea := quo_cast A G
  have eb := quo_cast B G
  generalize A / G = x at *
  generalize B / G = y at *
  go_enter Try.func75, Try.ntmps75
  go_wp2_with fail
  refine (K1.out _).mono ?_
  rintro e w1 ⟨rfl, rfl⟩
  go_wp2_with fail
  refine (K2.out _).mono ?_
  rintro e w1 ⟨rfl, rfl⟩
  go_wp2_with fail
  refine (K3.out _).mono ?_
  rintro e w1 ⟨rfl, nq, rfl⟩
  go_wp2
  go_quiet (fail)
  by_cases c1 : 1000000000 < x
  · go_wp2
    exact bodyPost_ret (v := .tuple #[.agg #[.int .i64 0, .int .i64 0], .bool false]) (by simp [results, Try.results75, go_sem]) rfl ⟨by rw [mkVal_far _ _ _ _ (by omega)], (by repeat (first | with_reducible exact Below.refl _ _ | with_reducible refine Below.setCell ?_ (by first | omega | (simp; done) | (simp; omega)) _ | with_reducible refine bDrewN ?_ _ | with_reducible refine Below.drew ?_ | with_reducible refine Below.alloc ?_ (by first | omega | (simp; done) | (simp; omega)) _))⟩
  · by_cases c2 : 1000000000 < y
    · go_wp2
      exact bodyPost_ret (v := .tuple #[.agg #[.int .i64 0, .int .i64 0], .bool false]) (by simp [results, Try.results75, go_sem]) rfl ⟨by rw [mkVal_far _ _ _ _ (by omega)], (by repeat (first | with_reducible exact Below.refl _ _ | with_reducible refine Below.setCell ?_ (by first | omega | (simp; done) | (simp; omega)) _ | with_reducible refine bDrewN ?_ _ | with_reducible refine Below.drew ?_ | with_reducible refine Below.alloc ?_ (by first | omega | (simp; done) | (simp; omega)) _))⟩
    · by_cases c3 : (n < 0 ∧ d < 0) ∨ (0 ≤ n ∧ 0 ≤ d)
      · have c4 : (decide (n < 0) == decide (d < 0)) = true := by simp; omega
        have C3 : Hid ((n < 0 ∧ d < 0) ∨ (0 ≤ n ∧ 0 ≤ d)) := c3
        clear c3
        go_wp2
        exact bodyPost_ret (v := .tuple #[.agg #[.int .i64 x, .int .i64 y], .bool true]) (by simp [results, Try.results75, go_sem]) rfl ⟨by rw [mkVal_plus _ _ _ _ (by omega) (by omega) C3.out], (by repeat (first | with_reducible exact Below.refl _ _ | with_reducible refine Below.setCell ?_ (by first | omega | (simp; done) | (simp; omega)) _ | with_reducible refine bDrewN ?_ _ | with_reducible refine Below.drew ?_ | with_reducible refine Below.alloc ?_ (by first | omega | (simp; done) | (simp; omega)) _))⟩
      · have c5 : (n < 0 ∧ 0 ≤ d) ∨ (0 ≤ n ∧ d < 0) := by omega
        have c4 : (decide (n < 0) == decide (d < 0)) = false := by simp; omega
        have C3 : Hid ((n < 0 ∧ 0 ≤ d) ∨ (0 ≤ n ∧ d < 0)) := c5
        clear c3 c5
        go_wp2
        exact bodyPost_ret (v := .tuple #[.agg #[.int .i64 (-x), .int .i64 y], .bool true]) (by simp [results, Try.results75, go_sem]) rfl ⟨by rw [mkVal_minus _ _ _ _ (by omega) (by omega) C3.out], (by repeat (first | with_reducible exact Below.refl _ _ | with_reducible refine Below.setCell ?_ (by first | omega | (simp; done) | (simp; omega)) _ | with_reducible refine bDrewN ?_ _ | with_reducible refine Below.drew ?_ | with_reducible refine Below.alloc ?_ (by first | omega | (simp; done) | (simp; omega)) _))⟩

theorem implMakeFrac_any (n d : Int) (w : World) (h1 : -9223372036854775808 ≤ n) (h2 : n ≤ 9223372036854775807) (h3 : -9223372036854775808 ≤ d) (h4 : d ≤ 9223372036854775807) :
    Calls Try.prog 75 #[.int .i64 n, .int .i64 d] w fun e w' => e = .returned (.tuple #[.agg #[.int .i64 (mkNum n d), .int .i64 (mkDen n d)], .bool (mkOk n d)]) ∧ Below w.heap.size w w' := by
  by_cases hd : d = 0
  · obtain ⟨e1, e2, e3⟩ := mk_zero n d hd
    rw [e1, e2, e3]; clear e1 e2 e3
    have hb : (d == 0) = true := by simp [hd]
    clear hd
    go_enter Try.func75, Try.ntmps75
    go_wp2
    exact bodyPost_ret (v := .tuple #[.agg #[.int .i64 0, .int .i64 0], .bool false]) (by simp [results, Try.results75, go_sem]) rfl ⟨rfl, below0 _ _⟩
  · rw [← mkVal_eq n d hd]
    exact implMakeFrac_core n d n.natAbs d.natAbs (Nat.gcd n.natAbs d.natAbs) w (by simp [hd]) (by omega) (by omega) (Nat.gcd_pos_of_pos_right _ (by omega))
      (fun w => sizeOf_any n w h1 h2) (fun w => sizeOf_any d w h3 h4) (fun w => gcd_any _ _ w (by omega) (by omega))
end Go.Proofs.Ythengechoaodcaa
