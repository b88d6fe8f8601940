/-
What is proved: when a plan is right, in numbers, and as both packages say it.
-/
import Derived.Test.YtlkegoofpmgcjaaIsW
import Derived.Test.YtlkegoofpmgcjaaOwn
import Derived.Deep.RegionHeld3
import Derived.Deep.DeepCutAuto
namespace Go.Proofs.Ytlkegoofpmgcjaa
set_option maxRecDepth 40000
open Go.RowKit
set_option linter.unusedVariables false
set_option linter.unusedSimpArgs false

def modB (x : Int) : Bool := inB (-3) (-1) x
def goB (a b x : Int) : Bool := modB x || inB a b x
def stpB (D U L : Int) : Bool := inB 0 999 D && (inB 0 15 U && inB 1 1000 L)
def plnJ (n : Nat) (V : Nat → Int) (k : Nat) : Bool := stpB (V (k * 5)) (V (k * 5 + 1)) (V (k * 5 + 2)) && (goB ((k : Int) + 1) ((n : Int) - 1) (V (k * 5 + 3)) && goB ((k : Int) + 1) ((n : Int) - 1) (V (k * 5 + 4)))
def planB (n : Nat) (V : Nat → Int) : Bool := decide (1 ≤ n ∧ n ≤ 40 ∧ ∀ j, j < n → plnJ n V j = true)
theorem plan_no {n k : Nat} {V : Nat → Int} (hk : k < n) (h : plnJ n V k = false) : planB n V = false := decide_eq_false fun q => by have := q.2.2 k hk; rw [h] at this; cases this
theorem plan_far {n : Nat} {V : Nat → Int} (h : ¬ (1 ≤ n ∧ n ≤ 40)) : planB n V = false := decide_eq_false fun q => h ⟨q.1, q.2.1⟩
theorem plan_all {n : Nat} {V : Nat → Int} (hn : 1 ≤ n) (hn' : n ≤ 40) (h : ∀ j, j < n → plnJ n V j = true) : planB n V = true := decide_eq_true ⟨hn, hn', h⟩
theorem plan_yes {n : Nat} {V : Nat → Int} (h : planB n V = true) : 1 ≤ n ∧ n ≤ 40 ∧ ∀ j, j < n → plnJ n V j = true := of_decide_eq_true h
theorem ballP {P : Nat → Bool} {k : Nat} (h : ∀ j, j < k → P j = true) (hk : P k = true) : ∀ j, j < k + 1 → P j = true := by
  intro j hj
  by_cases e : j = k
  · subst e; exact hk
  · exact h j (by omega)
/-- What a right step is. -/
theorem pln_step {n k : Nat} {V : Nat → Int} (h : plnJ n V k = true) : (0 ≤ V (k * 5) ∧ V (k * 5) ≤ 999) ∧ (0 ≤ V (k * 5 + 1) ∧ V (k * 5 + 1) ≤ 15) ∧ (1 ≤ V (k * 5 + 2) ∧ V (k * 5 + 2) ≤ 1000) ∧ ((-3 ≤ V (k * 5 + 3) ∧ V (k * 5 + 3) ≤ -1) ∨ ((k : Int) + 1 ≤ V (k * 5 + 3) ∧ V (k * 5 + 3) ≤ (n : Int) - 1)) ∧ ((-3 ≤ V (k * 5 + 4) ∧ V (k * 5 + 4) ≤ -1) ∨ ((k : Int) + 1 ≤ V (k * 5 + 4) ∧ V (k * 5 + 4) ≤ (n : Int) - 1)) := by
  unfold plnJ stpB goB modB inB at h
  simp only [Bool.and_eq_true, Bool.or_eq_true, decide_eq_true_iff] at h
  exact ⟨h.1.1, h.1.2.1, h.1.2.2, h.2.1, h.2.2⟩
set_option maxHeartbeats 400000 in
theorem isMode_any (x : Int) (w : World) : Calls Try.prog 31 #[.int .i64 x] w fun e w' => e = .returned (.bool (modB x)) ∧ w' = w := by
  go_enter Try.func31, Try.ntmps31
  go_wp2_with fail
  refine (within_is _ _ _ _).mono ?_
  rintro e w1 ⟨rfl, rfl⟩
  go_wp2
  go_ret
  exact ⟨rfl, rfl⟩
set_option maxHeartbeats 400000 in
theorem leadsOn_any (x a b : Int) (w : World) : Calls Try.prog 47 #[.int .i64 x, .int .i64 a, .int .i64 b] w fun e w' => e = .returned (.bool (goB a b x)) ∧ w' = w := by
  go_enter Try.func47, Try.ntmps47
  go_wp2_with fail
  refine (isMode_any _ _).mono ?_
  rintro e w1 ⟨rfl, rfl⟩
  cases h : modB x
  · go_wp2_with fail
    refine (within_is _ _ _ _).mono ?_
    rintro e w1 ⟨rfl, rfl⟩
    go_wp2
    go_ret
    exact ⟨ret_bool (by unfold goB; rw [h]; rfl), rfl⟩
  · go_wp2
    go_ret
    exact ⟨ret_bool (by unfold goB; rw [h]; rfl), rfl⟩
set_option maxHeartbeats 400000 in
theorem l20Goes_any (s : Option Addr) (n c k : Nat) (x : Int) (w : World) (hn : (n : Int) ≤ 40) (hk : (k : Int) ≤ 40) : Calls Try.prog 37 #[.slice s n c, .int .i64 (k : Int), .int .i64 x] w fun e w' => e = .returned (.bool (goB ((k : Int) + 1) ((n : Int) - 1) x)) ∧ w' = w := by
  go_enter Try.func37, Try.ntmps37
  go_wp2_with fail
  refine (l1In_is _ _ _ _).mono ?_
  rintro e w1 ⟨rfl, rfl⟩
  cases h : inB (-3) (-1) x
  · go_wp2_with fail
    refine (l1In_is _ _ _ _).mono ?_
    rintro e w1 ⟨rfl, rfl⟩
    go_wp2
    go_ret
    exact ⟨ret_bool (by unfold goB modB; rw [h]; rfl), rfl⟩
  · go_wp2
    go_ret
    exact ⟨ret_bool (by unfold goB modB; rw [h]; rfl), rfl⟩
set_option maxHeartbeats 800000 in
theorem stepRight_any (D U L N E : Int) (w : World) : Calls Try.prog 46 #[.agg #[.int .i64 D, .int .i64 U, .int .i64 L, .int .i64 N, .int .i64 E]] w fun e w' => e = .returned (.bool (stpB D U L)) ∧ w' = w.alloc (.cells #[.int .i64 D, .int .i64 U, .int .i64 L, .int .i64 N, .int .i64 E] 33) := by
  go_enter Try.func46, Try.ntmps46
  go_wp2_with fail
  refine (within_is _ _ _ _).mono ?_
  rintro e w1 ⟨rfl, rfl⟩
  cases h0 : inB 0 999 D
  · go_wp2
    go_ret
    exact ⟨ret_bool (by unfold stpB; simp [h0]), rfl⟩
  go_wp2_with fail
  refine (within_is _ _ _ _).mono ?_
  rintro e w1 ⟨rfl, rfl⟩
  cases h1 : inB 0 15 U
  · go_wp2
    go_ret
    exact ⟨ret_bool (by unfold stpB; simp [h0, h1]), rfl⟩
  go_wp2_with fail
  refine (within_is _ _ _ _).mono ?_
  rintro e w1 ⟨rfl, rfl⟩
  cases h2 : inB 1 1000 L
  · go_wp2
    go_ret
    exact ⟨ret_bool (by unfold stpB; simp [h0, h1, h2]), rfl⟩
  go_wp2
  go_ret
  exact ⟨ret_bool (by unfold stpB; simp [h0, h1, h2]), rfl⟩
set_option maxRecDepth 20000 in
set_option maxHeartbeats 4000000 in
theorem specPlanOk_any (s : Option Addr) (n c : Nat) (V : Nat → Int) (w : World) (hn0 : (n : Int) ≤ 1048576) (HR : Hid (RowI w s (n * 5) V)) :
    Calls Try.prog 13 #[.slice s n c] w fun e w' => e = .returned (.bool (planB n V)) ∧ Below w.heap.size w w' := by
  by_cases n0 : n < 1
  · have HO : Hid (planB n V = false) := plan_far (by omega)
    have b0 : (n : Int) < 1 := by omega
    go_enter Try.func13, Try.ntmps13
    go_wp2
    go_ret
    exact ⟨ret_bool HO.out.symm, Below.refl _ _⟩
  by_cases n1 : 40 < n
  · have HO : Hid (planB n V = false) := plan_far (by omega)
    have b0 : decide ((n : Int) < 1) = false := decide_eq_false (by omega)
    have b1 : (40 : Int) < (n : Int) := by omega
    go_enter Try.func13, Try.ntmps13
    go_wp2
    go_ret
    exact ⟨ret_bool HO.out.symm, Below.refl _ _⟩
  have b0 : decide ((n : Int) < 1) = false := decide_eq_false (by omega)
  have b1 : decide ((40 : Int) < (n : Int)) = false := decide_eq_false (by omega)
  have hn : (n : Int) ≤ 40 := by omega
  clear hn0
  go_enter Try.func13, Try.ntmps13
  go_wp2_with fail
  go_loopw [3] (fun i wr => ∃ k : Nat, k ≤ n ∧ i = .int .i64 k ∧ Hid (∀ j, j < k → plnJ n V j = true) ∧ Below w.heap.size w wr) (fun i _ => n - (intOf i).toNat)
  case atStart => exact ⟨0, Nat.zero_le _, rfl, fun j hj => by omega, Below.refl _ _⟩
  case round =>
    obtain ⟨k, hk, rfl, HP, hB⟩ := hrel
    by_cases h1 : k < n
    · obtain ⟨g, o, rfl, hg, c0⟩ := HR.out (k * 5) (by omega)
      obtain ⟨g', o', e', hg1, c1⟩ := HR.out (k * 5 + 1) (by omega)
      cases e'
      obtain ⟨g', o', e', hg2, c2⟩ := HR.out (k * 5 + 2) (by omega)
      cases e'
      obtain ⟨g', o', e', hg3, c3⟩ := HR.out (k * 5 + 3) (by omega)
      cases e'
      obtain ⟨g', o', e', hg4, c4⟩ := HR.out (k * 5 + 4) (by omega)
      cases e'
      have d0 : wr.cell? ⟨g, o + k * 5, none⟩ = some (.int .i64 (V (k * 5))) := (hB.cell (p := ⟨g, o + k * 5, none⟩) hg).trans c0
      have d1 : wr.cell? ⟨g, o + k * 5 + 1, none⟩ = some (.int .i64 (V (k * 5 + 1))) := (hB.cell (p := ⟨g, o + (k * 5 + 1), none⟩) hg).trans c1
      have d2 : wr.cell? ⟨g, o + k * 5 + 2, none⟩ = some (.int .i64 (V (k * 5 + 2))) := (hB.cell (p := ⟨g, o + (k * 5 + 2), none⟩) hg).trans c2
      have d3 : wr.cell? ⟨g, o + k * 5 + 3, none⟩ = some (.int .i64 (V (k * 5 + 3))) := (hB.cell (p := ⟨g, o + (k * 5 + 3), none⟩) hg).trans c3
      have d4 : wr.cell? ⟨g, o + k * 5 + 4, none⟩ = some (.int .i64 (V (k * 5 + 4))) := (hB.cell (p := ⟨g, o + (k * 5 + 4), none⟩) hg).trans c4
      have zg : g < wr.heap.size := Nat.lt_of_lt_of_le hg hB.size
      clear c0 c1 c2 c3 c4 hg1 hg2 hg3 hg4
      have k1 : (k : Int) < (n : Int) := by omega
      have k40 : (k : Int) ≤ 40 := by omega
      have HB : Hid (Below w.heap.size w wr) := hB
      have zW : w.heap.size ≤ wr.heap.size := hB.size
      have HJ : Hid (plnJ n V k = (stpB (V (k * 5)) (V (k * 5 + 1)) (V (k * 5 + 2)) && (goB ((k : Int) + 1) ((n : Int) - 1) (V (k * 5 + 3)) && goB ((k : Int) + 1) ((n : Int) - 1) (V (k * 5 + 4))))) := rfl
      clear hB hg
      go_wp2_with fail
      refine (l1In_is _ _ _ _).mono ?_
      rintro e w2 ⟨rfl, rfl⟩
      cases q0 : inB 0 999 (V (k * 5))
      · have HO : Hid (planB n V = false) := plan_no h1 (by rw [HJ.out]; unfold stpB; simp [q0])
        have B2 := HB.out
        go_wp2
        go_ret
        exact ⟨ret_bool HO.out.symm, (by repeat (first | with_reducible exact Below.refl _ _ | with_reducible exact B2 | with_reducible refine Below.setCell ?_ (by first | omega | (simp; done) | (simp; omega)) _ | with_reducible refine bDrewN ?_ _ | with_reducible refine Below.drew ?_ | with_reducible refine Below.alloc ?_ (by first | omega | (simp; done) | (simp; omega)) _))⟩
      go_wp2_with fail
      refine (l1In_is _ _ _ _).mono ?_
      rintro e w2 ⟨rfl, rfl⟩
      cases q1 : inB 0 15 (V (k * 5 + 1))
      · have HO : Hid (planB n V = false) := plan_no h1 (by rw [HJ.out]; unfold stpB; simp [q0, q1])
        have B2 := HB.out
        go_wp2
        go_ret
        exact ⟨ret_bool HO.out.symm, (by repeat (first | with_reducible exact Below.refl _ _ | with_reducible exact B2 | with_reducible refine Below.setCell ?_ (by first | omega | (simp; done) | (simp; omega)) _ | with_reducible refine bDrewN ?_ _ | with_reducible refine Below.drew ?_ | with_reducible refine Below.alloc ?_ (by first | omega | (simp; done) | (simp; omega)) _))⟩
      go_wp2_with fail
      refine (l1In_is _ _ _ _).mono ?_
      rintro e w2 ⟨rfl, rfl⟩
      cases q2 : inB 1 1000 (V (k * 5 + 2))
      · have HO : Hid (planB n V = false) := plan_no h1 (by rw [HJ.out]; unfold stpB; simp [q0, q1, q2])
        have B2 := HB.out
        go_wp2
        go_ret
        exact ⟨ret_bool HO.out.symm, (by repeat (first | with_reducible exact Below.refl _ _ | with_reducible exact B2 | with_reducible refine Below.setCell ?_ (by first | omega | (simp; done) | (simp; omega)) _ | with_reducible refine bDrewN ?_ _ | with_reducible refine Below.drew ?_ | with_reducible refine Below.alloc ?_ (by first | omega | (simp; done) | (simp; omega)) _))⟩
      go_wp2_with fail
      refine (l20Goes_any _ n c k _ _ hn k40).mono ?_
      rintro e w2 ⟨rfl, rfl⟩
      cases q3 : goB ((k : Int) + 1) ((n : Int) - 1) (V (k * 5 + 3))
      · have HO : Hid (planB n V = false) := plan_no h1 (by rw [HJ.out]; unfold stpB; simp [q0, q1, q2, q3])
        have B2 := HB.out
        go_wp2
        go_ret
        exact ⟨ret_bool HO.out.symm, (by repeat (first | with_reducible exact Below.refl _ _ | with_reducible exact B2 | with_reducible refine Below.setCell ?_ (by first | omega | (simp; done) | (simp; omega)) _ | with_reducible refine bDrewN ?_ _ | with_reducible refine Below.drew ?_ | with_reducible refine Below.alloc ?_ (by first | omega | (simp; done) | (simp; omega)) _))⟩
      go_wp2_with fail
      refine (l20Goes_any _ n c k _ _ hn k40).mono ?_
      rintro e w2 ⟨rfl, rfl⟩
      cases q4 : goB ((k : Int) + 1) ((n : Int) - 1) (V (k * 5 + 4))
      · have HO : Hid (planB n V = false) := plan_no h1 (by rw [HJ.out]; unfold stpB; simp [q0, q1, q2, q3, q4])
        have B2 := HB.out
        go_wp2
        go_ret
        exact ⟨ret_bool HO.out.symm, (by repeat (first | with_reducible exact Below.refl _ _ | with_reducible exact B2 | with_reducible refine Below.setCell ?_ (by first | omega | (simp; done) | (simp; omega)) _ | with_reducible refine bDrewN ?_ _ | with_reducible refine Below.drew ?_ | with_reducible refine Below.alloc ?_ (by first | omega | (simp; done) | (simp; omega)) _))⟩
      have HK : Hid (plnJ n V k = true) := by show _ = _; rw [HJ.out]; unfold stpB; simp [q0, q1, q2, q3, q4]
      have B2 := HB.out
      go_wp2
      go_roundw
      case rel => exact ⟨k + 1, by omega, by go_num, ballP HP.out HK.out, (by repeat (first | with_reducible exact Below.refl _ _ | with_reducible exact B2 | with_reducible refine Below.setCell ?_ (by first | omega | (simp; done) | (simp; omega)) _ | with_reducible refine bDrewN ?_ _ | with_reducible refine Below.drew ?_ | with_reducible refine Below.alloc ?_ (by first | omega | (simp; done) | (simp; omega)) _))⟩
      case measure => first | (simp [intOf]; done) | (simp [intOf]; omega)
    · obtain rfl : k = n := by omega
      have HO : Hid (planB k V = true) := plan_all (by omega) (by omega) HP.out
      go_wp2
      go_ret
      exact ⟨ret_bool HO.out.symm, hB⟩
set_option maxRecDepth 20000 in
set_option maxHeartbeats 4000000 in
theorem implPlanOk_any (s : Option Addr) (n c : Nat) (V : Nat → Int) (w : World) (hn0 : (n : Int) ≤ 1048576) (HR : Hid (RowI w s (n * 5) V)) :
    Calls Try.prog 24 #[.slice s n c] w fun e w' => e = .returned (.bool (planB n V)) ∧ Below w.heap.size w w' := by
  by_cases n0 : n < 1
  · have HO : Hid (planB n V = false) := plan_far (by omega)
    have b0 : (n : Int) < 1 := by omega
    go_enter Try.func24, Try.ntmps24
    go_wp2
    go_ret
    exact ⟨ret_bool HO.out.symm, Below.refl _ _⟩
  by_cases n1 : 40 < n
  · have HO : Hid (planB n V = false) := plan_far (by omega)
    have b0 : decide ((n : Int) < 1) = false := decide_eq_false (by omega)
    have b1 : (40 : Int) < (n : Int) := by omega
    go_enter Try.func24, Try.ntmps24
    go_wp2
    go_ret
    exact ⟨ret_bool HO.out.symm, Below.refl _ _⟩
  have b0 : decide ((n : Int) < 1) = false := decide_eq_false (by omega)
  have b1 : decide ((40 : Int) < (n : Int)) = false := decide_eq_false (by omega)
  have hn : (n : Int) ≤ 40 := by omega
  clear hn0
  go_enter Try.func24, Try.ntmps24
  go_wp2_with fail
  go_loopw [20] (fun i wr => ∃ k : Nat, k ≤ n ∧ i = .int .i64 k ∧ Hid (∀ j, j < k → plnJ n V j = true) ∧ Below w.heap.size w wr) (fun i _ => n - (intOf i).toNat)
  case atStart => exact ⟨0, Nat.zero_le _, rfl, fun j hj => by omega, Below.refl _ _⟩
  case round =>
    obtain ⟨k, hk, rfl, HP, hB⟩ := hrel
    by_cases h1 : k < n
    · obtain ⟨g, o, rfl, hg, c0⟩ := HR.out (k * 5) (by omega)
      obtain ⟨g', o', e', hg1, c1⟩ := HR.out (k * 5 + 1) (by omega)
      cases e'
      obtain ⟨g', o', e', hg2, c2⟩ := HR.out (k * 5 + 2) (by omega)
      cases e'
      obtain ⟨g', o', e', hg3, c3⟩ := HR.out (k * 5 + 3) (by omega)
      cases e'
      obtain ⟨g', o', e', hg4, c4⟩ := HR.out (k * 5 + 4) (by omega)
      cases e'
      have d0 : wr.cell? ⟨g, o + k * 5, none⟩ = some (.int .i64 (V (k * 5))) := (hB.cell (p := ⟨g, o + k * 5, none⟩) hg).trans c0
      have d1 : wr.cell? ⟨g, o + k * 5 + 1, none⟩ = some (.int .i64 (V (k * 5 + 1))) := (hB.cell (p := ⟨g, o + (k * 5 + 1), none⟩) hg).trans c1
      have d2 : wr.cell? ⟨g, o + k * 5 + 2, none⟩ = some (.int .i64 (V (k * 5 + 2))) := (hB.cell (p := ⟨g, o + (k * 5 + 2), none⟩) hg).trans c2
      have d3 : wr.cell? ⟨g, o + k * 5 + 3, none⟩ = some (.int .i64 (V (k * 5 + 3))) := (hB.cell (p := ⟨g, o + (k * 5 + 3), none⟩) hg).trans c3
      have d4 : wr.cell? ⟨g, o + k * 5 + 4, none⟩ = some (.int .i64 (V (k * 5 + 4))) := (hB.cell (p := ⟨g, o + (k * 5 + 4), none⟩) hg).trans c4
      have zg : g < wr.heap.size := Nat.lt_of_lt_of_le hg hB.size
      clear c0 c1 c2 c3 c4 hg1 hg2 hg3 hg4
      have k1 : (k : Int) < (n : Int) := by omega
      have k40 : (k : Int) ≤ 40 := by omega
      have HB : Hid (Below w.heap.size w wr) := hB
      have zW : w.heap.size ≤ wr.heap.size := hB.size
      have HJ : Hid (plnJ n V k = (stpB (V (k * 5)) (V (k * 5 + 1)) (V (k * 5 + 2)) && (goB ((k : Int) + 1) ((n : Int) - 1) (V (k * 5 + 3)) && goB ((k : Int) + 1) ((n : Int) - 1) (V (k * 5 + 4))))) := rfl
      clear hB hg
      go_wp2_with fail
      refine (stepRight_any _ _ _ _ _ _).mono ?_
      rintro e w2 ⟨rfl, rfl⟩
      cases q0 : stpB (V (k * 5)) (V (k * 5 + 1)) (V (k * 5 + 2))
      · have HO : Hid (planB n V = false) := plan_no h1 (by rw [HJ.out]; simp [q0])
        have B2 := HB.out
        go_wp2
        go_ret
        exact ⟨ret_bool HO.out.symm, (by repeat (first | with_reducible exact Below.refl _ _ | with_reducible exact B2 | with_reducible refine Below.setCell ?_ (by first | omega | (simp; done) | (simp; omega)) _ | with_reducible refine bDrewN ?_ _ | with_reducible refine Below.drew ?_ | with_reducible refine Below.alloc ?_ (by first | omega | (simp; done) | (simp; omega)) _))⟩
      go_wp2_with fail
      refine (leadsOn_any _ _ _ _).mono ?_
      rintro e w2 ⟨rfl, rfl⟩
      cases q1 : goB ((k : Int) + 1) ((n : Int) - 1) (V (k * 5 + 3))
      · have HO : Hid (planB n V = false) := plan_no h1 (by rw [HJ.out]; simp [q0, q1])
        have B2 := HB.out
        go_wp2
        go_ret
        exact ⟨ret_bool HO.out.symm, (by repeat (first | with_reducible exact Below.refl _ _ | with_reducible exact B2 | with_reducible refine Below.setCell ?_ (by first | omega | (simp; done) | (simp; omega)) _ | with_reducible refine bDrewN ?_ _ | with_reducible refine Below.drew ?_ | with_reducible refine Below.alloc ?_ (by first | omega | (simp; done) | (simp; omega)) _))⟩
      go_wp2_with fail
      refine (leadsOn_any _ _ _ _).mono ?_
      rintro e w2 ⟨rfl, rfl⟩
      cases q2 : goB ((k : Int) + 1) ((n : Int) - 1) (V (k * 5 + 4))
      · have HO : Hid (planB n V = false) := plan_no h1 (by rw [HJ.out]; simp [q0, q1, q2])
        have B2 := HB.out
        go_wp2
        go_ret
        exact ⟨ret_bool HO.out.symm, (by repeat (first | with_reducible exact Below.refl _ _ | with_reducible exact B2 | with_reducible refine Below.setCell ?_ (by first | omega | (simp; done) | (simp; omega)) _ | with_reducible refine bDrewN ?_ _ | with_reducible refine Below.drew ?_ | with_reducible refine Below.alloc ?_ (by first | omega | (simp; done) | (simp; omega)) _))⟩
      have HK : Hid (plnJ n V k = true) := by show _ = _; rw [HJ.out]; simp [q0, q1, q2]
      have B2 := HB.out
      go_wp2
      go_roundw
      case rel => exact ⟨k + 1, by omega, by go_num, ballP HP.out HK.out, (by repeat (first | with_reducible exact Below.refl _ _ | with_reducible exact B2 | with_reducible refine Below.setCell ?_ (by first | omega | (simp; done) | (simp; omega)) _ | with_reducible refine bDrewN ?_ _ | with_reducible refine Below.drew ?_ | with_reducible refine Below.alloc ?_ (by first | omega | (simp; done) | (simp; omega)) _))⟩
      case measure => first | (simp [intOf]; done) | (simp [intOf]; omega)
    · obtain rfl : k = n := by omega
      have HO : Hid (planB k V = true) := plan_all (by omega) (by omega) HP.out
      go_wp2
      go_ret
      exact ⟨ret_bool HO.out.symm, hB⟩
end Go.Proofs.Ytlkegoofpmgcjaa
