/-
What is proved: what a step does to a latch, as both packages tell it.
-/
import Derived.Test.YtfinbbllgdmaeaaIsW
import Derived.Test.YtfinbbllgdmaeaaBeside
import Derived.Deep.RegionHeld3
import Derived.Deep.DeepCutAuto
namespace Go.Proofs.Ytfinbbllgdmaeaa
set_option maxRecDepth 40000
open Go.ChangeShapes Go.WideShapes Go.ChangeAt Go.RowKit
set_option linter.unusedVariables false
set_option linter.unusedSimpArgs false

def latB (on : Bool) (F : Int) : Bool := inB 0 1000000000000 F && (on || decide (F = 0))
def lstB (on : Bool) (F cy : Int) : Bool := latB on F && inB 0 1000000000000 cy
def lOn (on : Bool) (F : Int) (c r : Bool) (cy : Int) : Bool := lstB on F cy && (c || (on && !r))
def lFi (on : Bool) (F : Int) (c r : Bool) (cy : Int) : Int := if lstB on F cy = true then (if c = true then (if on = true then F else cy) else if r = true then 0 else F) else 0
theorem lst_yes {on : Bool} {F cy : Int} (h : lstB on F cy = true) : inB 0 1000000000000 F = true ∧ (on = true ∨ F = 0) ∧ inB 0 1000000000000 cy = true := by
  unfold lstB latB at h
  simp only [Bool.and_eq_true, Bool.or_eq_true, decide_eq_true_iff] at h
  exact ⟨h.1.1, h.1.2, h.2⟩
set_option maxHeartbeats 1000000 in
theorem latRight_any (on : Bool) (F : Int) (w : World) : Calls Try.prog 16 #[.agg #[.bool on, .int .i64 F]] w fun e w' => e = .returned (.bool (latB on F)) ∧ w' = w.alloc (.cells #[.bool on, .int .i64 F] 24) := by
  go_enter Try.func16, Try.ntmps16
  go_wp2_with fail
  refine (within_is _ _ _ _).mono ?_
  rintro e w1 ⟨rfl, rfl⟩
  cases h0 : inB 0 1000000000000 F
  · go_wp2
    go_ret
    exact ⟨ret_bool (by unfold latB; simp [h0]), rfl⟩
  cases on
  · go_wp2
    go_ret
    exact ⟨ret_bool (by unfold latB; simp [h0, Bool.beq_eq_decide_eq]), rfl⟩
  · go_wp2
    go_ret
    exact ⟨ret_bool (by unfold latB; simp [h0]), rfl⟩
set_option maxHeartbeats 800000 in
theorem toLatch_is (on : Bool) (F : Int) (w : World) : Calls Try.prog 7 #[.agg #[.bool on, .int .i64 F]] w fun e w' => e = .returned (.agg #[.bool on, .int .i64 F]) ∧ w' = ((w.alloc (.cells #[.bool on, .int .i64 F] 23)).alloc (.cells #[.bool on, .int .i64 F] 24)).alloc (.cells #[.bool on, .int .i64 F] 24) := by
  go_enter Try.func7, Try.ntmps7
  go_wp2
  exact bodyPost_ret (v := .agg #[.bool on, .int .i64 F]) (by simp [results, Try.results7, go_sem]) rfl ⟨rfl, rfl⟩
theorem toLatch_below (on : Bool) (F : Int) (w : World) : Calls Try.prog 7 #[.agg #[.bool on, .int .i64 F]] w fun e w' => e = .returned (.agg #[.bool on, .int .i64 F]) ∧ Below w.heap.size w w' :=
  (toLatch_is on F w).mono fun e w' ⟨h, hw⟩ => ⟨h, by rw [hw]; exact (by repeat (first | with_reducible exact Below.refl _ _ | with_reducible refine Below.setCell ?_ (by first | omega | (simp; done) | (simp; omega)) _ | with_reducible refine bDrewN ?_ _ | with_reducible refine Below.drew ?_ | with_reducible refine Below.alloc ?_ (by first | omega | (simp; done) | (simp; omega)) _))⟩
set_option maxHeartbeats 400000 in
theorem eqLatch_any (on : Bool) (F : Int) (w : World) : Calls Try.prog 9 #[.agg #[.bool on, .int .i64 F], .agg #[.bool on, .int .i64 F]] w fun e w' => e = .returned (.bool true) ∧ Below w.heap.size w w' := by
  go_enter Try.func9, Try.ntmps9
  go_wp2
  go_ret
  exact ⟨rfl, (by repeat (first | with_reducible exact Below.refl _ _ | with_reducible refine Below.setCell ?_ (by first | omega | (simp; done) | (simp; omega)) _ | with_reducible refine bDrewN ?_ _ | with_reducible refine Below.drew ?_ | with_reducible refine Below.alloc ?_ (by first | omega | (simp; done) | (simp; omega)) _))⟩
set_option maxHeartbeats 4000000 in
theorem specLatch_no (on c r : Bool) (F cy : Int) (w : World) (hb : lstB on F cy = false) : Calls Try.prog 6 #[.agg #[.bool on, .int .i64 F], .bool c, .bool r, .int .i64 cy] w fun e w' => e = .returned (.tuple #[.agg #[.bool false, .int .i64 0], .bool false]) ∧ Below w.heap.size w w' := by
  unfold lstB at hb
  go_enter Try.func6, Try.ntmps6
  unfold latB at hb
  go_wp2_with fail
  refine (l1In_is _ _ _ _).mono ?_
  rintro e w1 ⟨rfl, rfl⟩
  cases h0 : inB 0 1000000000000 F
  · go_wp2
    exact bodyPost_ret (v := .tuple #[.agg #[.bool false, .int .i64 0], .bool false]) (by simp [results, Try.results6, go_sem]) rfl ⟨rfl, (by repeat (first | with_reducible exact Below.refl _ _ | with_reducible refine Below.setCell ?_ (by first | omega | (simp; done) | (simp; omega)) _ | with_reducible refine bDrewN ?_ _ | with_reducible refine Below.drew ?_ | with_reducible refine Below.alloc ?_ (by first | omega | (simp; done) | (simp; omega)) _))⟩
  rw [h0, Bool.true_and] at hb
  cases on
  · by_cases hz : F = 0
    · subst hz
      simp at hb
      go_wp2_with fail
      refine (l1In_is _ _ _ _).mono ?_
      rintro e w1 ⟨rfl, rfl⟩
      rw [hb]
      go_wp2
      exact bodyPost_ret (v := .tuple #[.agg #[.bool false, .int .i64 0], .bool false]) (by simp [results, Try.results6, go_sem]) rfl ⟨rfl, (by repeat (first | with_reducible exact Below.refl _ _ | with_reducible refine Below.setCell ?_ (by first | omega | (simp; done) | (simp; omega)) _ | with_reducible refine bDrewN ?_ _ | with_reducible refine Below.drew ?_ | with_reducible refine Below.alloc ?_ (by first | omega | (simp; done) | (simp; omega)) _))⟩
    · have hz2 : (F != 0) = true := by simpa using hz
      have hz3 : (F == 0) = false := by simpa using hz
      go_wp2
      exact bodyPost_ret (v := .tuple #[.agg #[.bool false, .int .i64 0], .bool false]) (by simp [results, Try.results6, go_sem]) rfl ⟨rfl, (by repeat (first | with_reducible exact Below.refl _ _ | with_reducible refine Below.setCell ?_ (by first | omega | (simp; done) | (simp; omega)) _ | with_reducible refine bDrewN ?_ _ | with_reducible refine Below.drew ?_ | with_reducible refine Below.alloc ?_ (by first | omega | (simp; done) | (simp; omega)) _))⟩
  · simp at hb
    go_wp2_with fail
    refine (l1In_is _ _ _ _).mono ?_
    rintro e w1 ⟨rfl, rfl⟩
    rw [hb]
    go_wp2
    exact bodyPost_ret (v := .tuple #[.agg #[.bool false, .int .i64 0], .bool false]) (by simp [results, Try.results6, go_sem]) rfl ⟨rfl, (by repeat (first | with_reducible exact Below.refl _ _ | with_reducible refine Below.setCell ?_ (by first | omega | (simp; done) | (simp; omega)) _ | with_reducible refine bDrewN ?_ _ | with_reducible refine Below.drew ?_ | with_reducible refine Below.alloc ?_ (by first | omega | (simp; done) | (simp; omega)) _))⟩
set_option maxHeartbeats 8000000 in
theorem specLatch_yes (on c r : Bool) (F cy : Int) (w : World) (hb : lstB on F cy = true) : Calls Try.prog 6 #[.agg #[.bool on, .int .i64 F], .bool c, .bool r, .int .i64 cy] w fun e w' => e = .returned (.tuple #[.agg #[.bool (c || (on && !r)), .int .i64 (if c = true then (if on = true then F else cy) else if r = true then 0 else F)], .bool true]) ∧ Below w.heap.size w w' := by
  obtain ⟨k0, k1, k2⟩ := lst_yes hb
  have kl : latB on F = true := by unfold lstB at hb; simp at hb; exact hb.1
  clear hb
  cases on
  · simp at k1
    subst k1
    cases c
    · cases r
      · show Calls Try.prog 6 _ w fun e w' => e = .returned (.tuple #[.agg #[.bool false, .int .i64 0], .bool true]) ∧ Below w.heap.size w w'
        go_enter Try.func6, Try.ntmps6
        go_wp2_with fail
        refine (l1In_is 0 0 1000000000000 _).mono ?_
        rintro e w1 ⟨rfl, rfl⟩
        rw [k0]
        go_wp2_with fail
        refine (l1In_is cy 0 1000000000000 _).mono ?_
        rintro e w1 ⟨rfl, rfl⟩
        rw [k2]
        go_wp2
        exact bodyPost_ret (v := .tuple #[.agg #[.bool false, .int .i64 0], .bool true]) (by simp [results, Try.results6, go_sem]) rfl ⟨rfl, (by repeat (first | with_reducible exact Below.refl _ _ | with_reducible refine Below.setCell ?_ (by first | omega | (simp; done) | (simp; omega)) _ | with_reducible refine bDrewN ?_ _ | with_reducible refine Below.drew ?_ | with_reducible refine Below.alloc ?_ (by first | omega | (simp; done) | (simp; omega)) _))⟩
      · show Calls Try.prog 6 _ w fun e w' => e = .returned (.tuple #[.agg #[.bool false, .int .i64 0], .bool true]) ∧ Below w.heap.size w w'
        go_enter Try.func6, Try.ntmps6
        go_wp2_with fail
        refine (l1In_is 0 0 1000000000000 _).mono ?_
        rintro e w1 ⟨rfl, rfl⟩
        rw [k0]
        go_wp2_with fail
        refine (l1In_is cy 0 1000000000000 _).mono ?_
        rintro e w1 ⟨rfl, rfl⟩
        rw [k2]
        go_wp2
        exact bodyPost_ret (v := .tuple #[.agg #[.bool false, .int .i64 0], .bool true]) (by simp [results, Try.results6, go_sem]) rfl ⟨rfl, (by repeat (first | with_reducible exact Below.refl _ _ | with_reducible refine Below.setCell ?_ (by first | omega | (simp; done) | (simp; omega)) _ | with_reducible refine bDrewN ?_ _ | with_reducible refine Below.drew ?_ | with_reducible refine Below.alloc ?_ (by first | omega | (simp; done) | (simp; omega)) _))⟩
    · cases r
      · show Calls Try.prog 6 _ w fun e w' => e = .returned (.tuple #[.agg #[.bool true, .int .i64 cy], .bool true]) ∧ Below w.heap.size w w'
        go_enter Try.func6, Try.ntmps6
        go_wp2_with fail
        refine (l1In_is 0 0 1000000000000 _).mono ?_
        rintro e w1 ⟨rfl, rfl⟩
        rw [k0]
        go_wp2_with fail
        refine (l1In_is cy 0 1000000000000 _).mono ?_
        rintro e w1 ⟨rfl, rfl⟩
        rw [k2]
        go_wp2
        exact bodyPost_ret (v := .tuple #[.agg #[.bool true, .int .i64 cy], .bool true]) (by simp [results, Try.results6, go_sem]) rfl ⟨rfl, (by repeat (first | with_reducible exact Below.refl _ _ | with_reducible refine Below.setCell ?_ (by first | omega | (simp; done) | (simp; omega)) _ | with_reducible refine bDrewN ?_ _ | with_reducible refine Below.drew ?_ | with_reducible refine Below.alloc ?_ (by first | omega | (simp; done) | (simp; omega)) _))⟩
      · show Calls Try.prog 6 _ w fun e w' => e = .returned (.tuple #[.agg #[.bool true, .int .i64 cy], .bool true]) ∧ Below w.heap.size w w'
        go_enter Try.func6, Try.ntmps6
        go_wp2_with fail
        refine (l1In_is 0 0 1000000000000 _).mono ?_
        rintro e w1 ⟨rfl, rfl⟩
        rw [k0]
        go_wp2_with fail
        refine (l1In_is cy 0 1000000000000 _).mono ?_
        rintro e w1 ⟨rfl, rfl⟩
        rw [k2]
        go_wp2
        exact bodyPost_ret (v := .tuple #[.agg #[.bool true, .int .i64 cy], .bool true]) (by simp [results, Try.results6, go_sem]) rfl ⟨rfl, (by repeat (first | with_reducible exact Below.refl _ _ | with_reducible refine Below.setCell ?_ (by first | omega | (simp; done) | (simp; omega)) _ | with_reducible refine bDrewN ?_ _ | with_reducible refine Below.drew ?_ | with_reducible refine Below.alloc ?_ (by first | omega | (simp; done) | (simp; omega)) _))⟩
  · clear k1
    cases c
    · cases r
      · show Calls Try.prog 6 _ w fun e w' => e = .returned (.tuple #[.agg #[.bool true, .int .i64 F], .bool true]) ∧ Below w.heap.size w w'
        go_enter Try.func6, Try.ntmps6
        go_wp2_with fail
        refine (l1In_is F 0 1000000000000 _).mono ?_
        rintro e w1 ⟨rfl, rfl⟩
        rw [k0]
        go_wp2_with fail
        refine (l1In_is cy 0 1000000000000 _).mono ?_
        rintro e w1 ⟨rfl, rfl⟩
        rw [k2]
        go_wp2
        exact bodyPost_ret (v := .tuple #[.agg #[.bool true, .int .i64 F], .bool true]) (by simp [results, Try.results6, go_sem]) rfl ⟨rfl, (by repeat (first | with_reducible exact Below.refl _ _ | with_reducible refine Below.setCell ?_ (by first | omega | (simp; done) | (simp; omega)) _ | with_reducible refine bDrewN ?_ _ | with_reducible refine Below.drew ?_ | with_reducible refine Below.alloc ?_ (by first | omega | (simp; done) | (simp; omega)) _))⟩
      · show Calls Try.prog 6 _ w fun e w' => e = .returned (.tuple #[.agg #[.bool false, .int .i64 0], .bool true]) ∧ Below w.heap.size w w'
        go_enter Try.func6, Try.ntmps6
        go_wp2_with fail
        refine (l1In_is F 0 1000000000000 _).mono ?_
        rintro e w1 ⟨rfl, rfl⟩
        rw [k0]
        go_wp2_with fail
        refine (l1In_is cy 0 1000000000000 _).mono ?_
        rintro e w1 ⟨rfl, rfl⟩
        rw [k2]
        go_wp2
        exact bodyPost_ret (v := .tuple #[.agg #[.bool false, .int .i64 0], .bool true]) (by simp [results, Try.results6, go_sem]) rfl ⟨rfl, (by repeat (first | with_reducible exact Below.refl _ _ | with_reducible refine Below.setCell ?_ (by first | omega | (simp; done) | (simp; omega)) _ | with_reducible refine bDrewN ?_ _ | with_reducible refine Below.drew ?_ | with_reducible refine Below.alloc ?_ (by first | omega | (simp; done) | (simp; omega)) _))⟩
    · cases r
      · show Calls Try.prog 6 _ w fun e w' => e = .returned (.tuple #[.agg #[.bool true, .int .i64 F], .bool true]) ∧ Below w.heap.size w w'
        go_enter Try.func6, Try.ntmps6
        go_wp2_with fail
        refine (l1In_is F 0 1000000000000 _).mono ?_
        rintro e w1 ⟨rfl, rfl⟩
        rw [k0]
        go_wp2_with fail
        refine (l1In_is cy 0 1000000000000 _).mono ?_
        rintro e w1 ⟨rfl, rfl⟩
        rw [k2]
        go_wp2
        exact bodyPost_ret (v := .tuple #[.agg #[.bool true, .int .i64 F], .bool true]) (by simp [results, Try.results6, go_sem]) rfl ⟨rfl, (by repeat (first | with_reducible exact Below.refl _ _ | with_reducible refine Below.setCell ?_ (by first | omega | (simp; done) | (simp; omega)) _ | with_reducible refine bDrewN ?_ _ | with_reducible refine Below.drew ?_ | with_reducible refine Below.alloc ?_ (by first | omega | (simp; done) | (simp; omega)) _))⟩
      · show Calls Try.prog 6 _ w fun e w' => e = .returned (.tuple #[.agg #[.bool true, .int .i64 F], .bool true]) ∧ Below w.heap.size w w'
        go_enter Try.func6, Try.ntmps6
        go_wp2_with fail
        refine (l1In_is F 0 1000000000000 _).mono ?_
        rintro e w1 ⟨rfl, rfl⟩
        rw [k0]
        go_wp2_with fail
        refine (l1In_is cy 0 1000000000000 _).mono ?_
        rintro e w1 ⟨rfl, rfl⟩
        rw [k2]
        go_wp2
        exact bodyPost_ret (v := .tuple #[.agg #[.bool true, .int .i64 F], .bool true]) (by simp [results, Try.results6, go_sem]) rfl ⟨rfl, (by repeat (first | with_reducible exact Below.refl _ _ | with_reducible refine Below.setCell ?_ (by first | omega | (simp; done) | (simp; omega)) _ | with_reducible refine bDrewN ?_ _ | with_reducible refine Below.drew ?_ | with_reducible refine Below.alloc ?_ (by first | omega | (simp; done) | (simp; omega)) _))⟩
theorem specLatch_any (on c r : Bool) (F cy : Int) (w : World) : Calls Try.prog 6 #[.agg #[.bool on, .int .i64 F], .bool c, .bool r, .int .i64 cy] w fun e w' => e = .returned (.tuple #[.agg #[.bool (lOn on F c r cy), .int .i64 (lFi on F c r cy)], .bool (lstB on F cy)]) ∧ Below w.heap.size w w' := by
  unfold lOn lFi
  cases hb : lstB on F cy
  · exact specLatch_no on c r F cy w hb
  · exact specLatch_yes on c r F cy w hb
set_option maxHeartbeats 4000000 in
theorem implLatch_no (on c r : Bool) (F cy : Int) (w : World) (hb : lstB on F cy = false) : Calls Try.prog 8 #[.agg #[.bool on, .int .i64 F], .bool c, .bool r, .int .i64 cy] w fun e w' => e = .returned (.tuple #[.agg #[.bool false, .int .i64 0], .bool false]) ∧ Below w.heap.size w w' := by
  unfold lstB at hb
  go_enter Try.func8, Try.ntmps8
  go_wp2_with fail
  refine (latRight_any _ _ _).mono ?_
  rintro e w1 ⟨rfl, rfl⟩
  cases h0 : latB on F
  · go_wp2
    exact bodyPost_ret (v := .tuple #[.agg #[.bool false, .int .i64 0], .bool false]) (by simp [results, Try.results8, go_sem]) rfl ⟨rfl, (by repeat (first | with_reducible exact Below.refl _ _ | with_reducible refine Below.setCell ?_ (by first | omega | (simp; done) | (simp; omega)) _ | with_reducible refine bDrewN ?_ _ | with_reducible refine Below.drew ?_ | with_reducible refine Below.alloc ?_ (by first | omega | (simp; done) | (simp; omega)) _))⟩
  rw [h0, Bool.true_and] at hb
  go_wp2_with fail
  refine (within_is _ _ _ _).mono ?_
  rintro e w1 ⟨rfl, rfl⟩
  rw [hb]
  go_wp2
  exact bodyPost_ret (v := .tuple #[.agg #[.bool false, .int .i64 0], .bool false]) (by simp [results, Try.results8, go_sem]) rfl ⟨rfl, (by repeat (first | with_reducible exact Below.refl _ _ | with_reducible refine Below.setCell ?_ (by first | omega | (simp; done) | (simp; omega)) _ | with_reducible refine bDrewN ?_ _ | with_reducible refine Below.drew ?_ | with_reducible refine Below.alloc ?_ (by first | omega | (simp; done) | (simp; omega)) _))⟩
set_option maxHeartbeats 8000000 in
theorem implLatch_yes (on c r : Bool) (F cy : Int) (w : World) (hb : lstB on F cy = true) : Calls Try.prog 8 #[.agg #[.bool on, .int .i64 F], .bool c, .bool r, .int .i64 cy] w fun e w' => e = .returned (.tuple #[.agg #[.bool (c || (on && !r)), .int .i64 (if c = true then (if on = true then F else cy) else if r = true then 0 else F)], .bool true]) ∧ Below w.heap.size w w' := by
  obtain ⟨k0, k1, k2⟩ := lst_yes hb
  have kl : latB on F = true := by unfold lstB at hb; simp at hb; exact hb.1
  clear hb
  cases on
  · simp at k1
    subst k1
    cases c
    · cases r
      · show Calls Try.prog 8 _ w fun e w' => e = .returned (.tuple #[.agg #[.bool false, .int .i64 0], .bool true]) ∧ Below w.heap.size w w'
        go_enter Try.func8, Try.ntmps8
        go_wp2_with fail
        refine (latRight_any false 0 _).mono ?_
        rintro e w1 ⟨rfl, rfl⟩
        rw [kl]
        go_wp2_with fail
        refine (within_is cy 0 1000000000000 _).mono ?_
        rintro e w1 ⟨rfl, rfl⟩
        rw [k2]
        go_wp2
        exact bodyPost_ret (v := .tuple #[.agg #[.bool false, .int .i64 0], .bool true]) (by simp [results, Try.results8, go_sem]) rfl ⟨rfl, (by repeat (first | with_reducible exact Below.refl _ _ | with_reducible refine Below.setCell ?_ (by first | omega | (simp; done) | (simp; omega)) _ | with_reducible refine bDrewN ?_ _ | with_reducible refine Below.drew ?_ | with_reducible refine Below.alloc ?_ (by first | omega | (simp; done) | (simp; omega)) _))⟩
      · show Calls Try.prog 8 _ w fun e w' => e = .returned (.tuple #[.agg #[.bool false, .int .i64 0], .bool true]) ∧ Below w.heap.size w w'
        go_enter Try.func8, Try.ntmps8
        go_wp2_with fail
        refine (latRight_any false 0 _).mono ?_
        rintro e w1 ⟨rfl, rfl⟩
        rw [kl]
        go_wp2_with fail
        refine (within_is cy 0 1000000000000 _).mono ?_
        rintro e w1 ⟨rfl, rfl⟩
        rw [k2]
        go_wp2
        exact bodyPost_ret (v := .tuple #[.agg #[.bool false, .int .i64 0], .bool true]) (by simp [results, Try.results8, go_sem]) rfl ⟨rfl, (by repeat (first | with_reducible exact Below.refl _ _ | with_reducible refine Below.setCell ?_ (by first | omega | (simp; done) | (simp; omega)) _ | with_reducible refine bDrewN ?_ _ | with_reducible refine Below.drew ?_ | with_reducible refine Below.alloc ?_ (by first | omega | (simp; done) | (simp; omega)) _))⟩
    · cases r
      · show Calls Try.prog 8 _ w fun e w' => e = .returned (.tuple #[.agg #[.bool true, .int .i64 cy], .bool true]) ∧ Below w.heap.size w w'
        go_enter Try.func8, Try.ntmps8
        go_wp2_with fail
        refine (latRight_any false 0 _).mono ?_
        rintro e w1 ⟨rfl, rfl⟩
        rw [kl]
        go_wp2_with fail
        refine (within_is cy 0 1000000000000 _).mono ?_
        rintro e w1 ⟨rfl, rfl⟩
        rw [k2]
        go_wp2
        exact bodyPost_ret (v := .tuple #[.agg #[.bool true, .int .i64 cy], .bool true]) (by simp [results, Try.results8, go_sem]) rfl ⟨rfl, (by repeat (first | with_reducible exact Below.refl _ _ | with_reducible refine Below.setCell ?_ (by first | omega | (simp; done) | (simp; omega)) _ | with_reducible refine bDrewN ?_ _ | with_reducible refine Below.drew ?_ | with_reducible refine Below.alloc ?_ (by first | omega | (simp; done) | (simp; omega)) _))⟩
      · show Calls Try.prog 8 _ w fun e w' => e = .returned (.tuple #[.agg #[.bool true, .int .i64 cy], .bool true]) ∧ Below w.heap.size w w'
        go_enter Try.func8, Try.ntmps8
        go_wp2_with fail
        refine (latRight_any false 0 _).mono ?_
        rintro e w1 ⟨rfl, rfl⟩
        rw [kl]
        go_wp2_with fail
        refine (within_is cy 0 1000000000000 _).mono ?_
        rintro e w1 ⟨rfl, rfl⟩
        rw [k2]
        go_wp2
        exact bodyPost_ret (v := .tuple #[.agg #[.bool true, .int .i64 cy], .bool true]) (by simp [results, Try.results8, go_sem]) rfl ⟨rfl, (by repeat (first | with_reducible exact Below.refl _ _ | with_reducible refine Below.setCell ?_ (by first | omega | (simp; done) | (simp; omega)) _ | with_reducible refine bDrewN ?_ _ | with_reducible refine Below.drew ?_ | with_reducible refine Below.alloc ?_ (by first | omega | (simp; done) | (simp; omega)) _))⟩
  · clear k1
    cases c
    · cases r
      · show Calls Try.prog 8 _ w fun e w' => e = .returned (.tuple #[.agg #[.bool true, .int .i64 F], .bool true]) ∧ Below w.heap.size w w'
        go_enter Try.func8, Try.ntmps8
        go_wp2_with fail
        refine (latRight_any true F _).mono ?_
        rintro e w1 ⟨rfl, rfl⟩
        rw [kl]
        go_wp2_with fail
        refine (within_is cy 0 1000000000000 _).mono ?_
        rintro e w1 ⟨rfl, rfl⟩
        rw [k2]
        go_wp2
        exact bodyPost_ret (v := .tuple #[.agg #[.bool true, .int .i64 F], .bool true]) (by simp [results, Try.results8, go_sem]) rfl ⟨rfl, (by repeat (first | with_reducible exact Below.refl _ _ | with_reducible refine Below.setCell ?_ (by first | omega | (simp; done) | (simp; omega)) _ | with_reducible refine bDrewN ?_ _ | with_reducible refine Below.drew ?_ | with_reducible refine Below.alloc ?_ (by first | omega | (simp; done) | (simp; omega)) _))⟩
      · show Calls Try.prog 8 _ w fun e w' => e = .returned (.tuple #[.agg #[.bool false, .int .i64 0], .bool true]) ∧ Below w.heap.size w w'
        go_enter Try.func8, Try.ntmps8
        go_wp2_with fail
        refine (latRight_any true F _).mono ?_
        rintro e w1 ⟨rfl, rfl⟩
        rw [kl]
        go_wp2_with fail
        refine (within_is cy 0 1000000000000 _).mono ?_
        rintro e w1 ⟨rfl, rfl⟩
        rw [k2]
        go_wp2
        exact bodyPost_ret (v := .tuple #[.agg #[.bool false, .int .i64 0], .bool true]) (by simp [results, Try.results8, go_sem]) rfl ⟨rfl, (by repeat (first | with_reducible exact Below.refl _ _ | with_reducible refine Below.setCell ?_ (by first | omega | (simp; done) | (simp; omega)) _ | with_reducible refine bDrewN ?_ _ | with_reducible refine Below.drew ?_ | with_reducible refine Below.alloc ?_ (by first | omega | (simp; done) | (simp; omega)) _))⟩
    · cases r
      · show Calls Try.prog 8 _ w fun e w' => e = .returned (.tuple #[.agg #[.bool true, .int .i64 F], .bool true]) ∧ Below w.heap.size w w'
        go_enter Try.func8, Try.ntmps8
        go_wp2_with fail
        refine (latRight_any true F _).mono ?_
        rintro e w1 ⟨rfl, rfl⟩
        rw [kl]
        go_wp2_with fail
        refine (within_is cy 0 1000000000000 _).mono ?_
        rintro e w1 ⟨rfl, rfl⟩
        rw [k2]
        go_wp2
        exact bodyPost_ret (v := .tuple #[.agg #[.bool true, .int .i64 F], .bool true]) (by simp [results, Try.results8, go_sem]) rfl ⟨rfl, (by repeat (first | with_reducible exact Below.refl _ _ | with_reducible refine Below.setCell ?_ (by first | omega | (simp; done) | (simp; omega)) _ | with_reducible refine bDrewN ?_ _ | with_reducible refine Below.drew ?_ | with_reducible refine Below.alloc ?_ (by first | omega | (simp; done) | (simp; omega)) _))⟩
      · show Calls Try.prog 8 _ w fun e w' => e = .returned (.tuple #[.agg #[.bool true, .int .i64 F], .bool true]) ∧ Below w.heap.size w w'
        go_enter Try.func8, Try.ntmps8
        go_wp2_with fail
        refine (latRight_any true F _).mono ?_
        rintro e w1 ⟨rfl, rfl⟩
        rw [kl]
        go_wp2_with fail
        refine (within_is cy 0 1000000000000 _).mono ?_
        rintro e w1 ⟨rfl, rfl⟩
        rw [k2]
        go_wp2
        exact bodyPost_ret (v := .tuple #[.agg #[.bool true, .int .i64 F], .bool true]) (by simp [results, Try.results8, go_sem]) rfl ⟨rfl, (by repeat (first | with_reducible exact Below.refl _ _ | with_reducible refine Below.setCell ?_ (by first | omega | (simp; done) | (simp; omega)) _ | with_reducible refine bDrewN ?_ _ | with_reducible refine Below.drew ?_ | with_reducible refine Below.alloc ?_ (by first | omega | (simp; done) | (simp; omega)) _))⟩
theorem implLatch_any (on c r : Bool) (F cy : Int) (w : World) : Calls Try.prog 8 #[.agg #[.bool on, .int .i64 F], .bool c, .bool r, .int .i64 cy] w fun e w' => e = .returned (.tuple #[.agg #[.bool (lOn on F c r cy), .int .i64 (lFi on F c r cy)], .bool (lstB on F cy)]) ∧ Below w.heap.size w w' := by
  unfold lOn lFi
  cases hb : lstB on F cy
  · exact implLatch_no on c r F cy w hb
  · exact implLatch_yes on c r F cy w hb
end Go.Proofs.Ytfinbbllgdmaeaa
