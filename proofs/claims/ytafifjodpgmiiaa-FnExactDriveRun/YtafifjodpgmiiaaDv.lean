/-
What is proved: when a drive is right, as both packages say it; what a step makes of it, in numbers.
-/
import Derived.Test.YtafifjodpgmiiaaIsB
import Derived.Test.YtafifjodpgmiiaaBeside
import Derived.Deep.RegionHeld3
import Derived.Deep.DeepCutAuto
import Derived.RegionTactic
namespace Go.Proofs.Ytafifjodpgmiiaa
set_option maxRecDepth 40000
open Go.ChangeShapes Go.WideShapes Go.ChangeAt Go.RowKit
set_option linter.unusedVariables false
set_option linter.unusedSimpArgs false

def drvB (P W T : Int) : Bool := inB 0 100 P && (inB (-1) 1 W && (inB 0 20 T && (decide (W ≠ 0) || decide (T = 0))))
def dstB (P W T want sp : Int) : Bool := drvB P W T && (inB (-1) 1 want && inB 1 100 sp)
def mvV (P W sp : Int) (jam : Bool) : Int := if jam = true then P else max 0 (min (P + W * sp) 100)
def endV (W : Int) : Int := if W = 1 then 100 else 0
def wtV (P W T : Int) (F : Bool) : Int × Int × Int × Bool := if P = endV W then (P, 0, 0, F) else (P, W, min (T + 1) 20, F || decide (min (T + 1) 20 = 20))
def aftV (P W T : Int) (F : Bool) (sp : Int) (jam : Bool) : Int × Int × Int × Bool := if W = 0 then (P, W, T, F) else wtV (mvV P W sp jam) W T F
def drvV (P W T : Int) (F : Bool) (want sp : Int) (jam : Bool) : Int × Int × Int × Bool := if dstB P W T want sp = true then (if want ≠ 0 ∧ want ≠ W then aftV P want 0 false sp jam else aftV P W T F sp jam) else (0, 0, 0, false)
theorem aft_hit {P W T : Int} {F : Bool} {sp : Int} {jam : Bool} {E : Int} (hW : W ≠ 0) (he : endV W = E) (h : mvV P W sp jam = E) : aftV P W T F sp jam = (E, 0, 0, F) := by
  unfold aftV wtV
  rw [if_neg hW, h, he, if_pos rfl]
theorem aft_miss {P W T : Int} {F : Bool} {sp : Int} {jam : Bool} {E Q T2 : Int} (hW : W ≠ 0) (he : endV W = E) (h : mvV P W sp jam = Q) (hn : Q ≠ E) (ht : min (T + 1) 20 = T2) : aftV P W T F sp jam = (Q, W, T2, F || decide (T2 = 20)) := by
  unfold aftV wtV
  rw [if_neg hW, h, he, if_neg hn, ht]
theorem drv_yes {P W T : Int} (h : drvB P W T = true) : (0 ≤ P ∧ P ≤ 100) ∧ (-1 ≤ W ∧ W ≤ 1) ∧ (0 ≤ T ∧ T ≤ 20) ∧ (W ≠ 0 ∨ T = 0) := by
  unfold drvB inB at h
  simp only [Bool.and_eq_true, Bool.or_eq_true, decide_eq_true_iff] at h
  exact ⟨h.1, h.2.1, h.2.2.1, h.2.2.2⟩
theorem dst_yes {P W T want sp : Int} (h : dstB P W T want sp = true) : drvB P W T = true ∧ inB (-1) 1 want = true ∧ inB 1 100 sp = true := by
  unfold dstB at h
  simp only [Bool.and_eq_true] at h
  exact h
set_option maxHeartbeats 2000000 in
theorem drvRight_any (P W T : Int) (F : Bool) (w : World) : Calls Try.prog 37 #[.agg #[.int .i64 P, .int .i64 W, .int .i64 T, .bool F]] w fun e w' => e = .returned (.bool (drvB P W T)) ∧ w' = w.alloc (.cells #[.int .i64 P, .int .i64 W, .int .i64 T, .bool F] 40) := by
  go_enter Try.func37, Try.ntmps37
  go_wp2_with fail
  refine (within_is _ _ _ _).mono ?_
  rintro e w1 ⟨rfl, rfl⟩
  cases h0 : inB 0 100 P
  · go_wp2
    go_ret
    exact ⟨ret_bool (by unfold drvB; simp [h0]), rfl⟩
  go_wp2_with fail
  refine (within_is _ _ _ _).mono ?_
  rintro e w1 ⟨rfl, rfl⟩
  cases h1 : inB (-1) 1 W
  · go_wp2
    go_ret
    exact ⟨ret_bool (by unfold drvB; simp [h0, h1]), rfl⟩
  go_wp2_with fail
  refine (within_is _ _ _ _).mono ?_
  rintro e w1 ⟨rfl, rfl⟩
  cases h2 : inB 0 20 T
  · go_wp2
    go_ret
    exact ⟨ret_bool (by unfold drvB; simp [h0, h1, h2]), rfl⟩
  by_cases z : W = 0
  · subst z
    go_wp2
    go_ret
    exact ⟨ret_bool (by unfold drvB; simp [h0, h1, h2, Bool.beq_eq_decide_eq]), rfl⟩
  · have z1 : (W != 0) = true := by simpa using z
    go_wp2
    go_ret
    exact ⟨ret_bool (by unfold drvB; simp [h0, h1, h2, z]), rfl⟩
set_option maxHeartbeats 2000000 in
theorem l17Drive_any (P W T : Int) (F : Bool) (w : World) : Calls Try.prog 35 #[.agg #[.int .i64 P, .int .i64 W, .int .i64 T, .bool F]] w fun e w' => e = .returned (.bool (drvB P W T)) ∧ w' = w.alloc (.cells #[.int .i64 P, .int .i64 W, .int .i64 T, .bool F] 40) := by
  go_enter Try.func35, Try.ntmps35
  go_wp2_with fail
  refine (l1In_is _ _ _ _).mono ?_
  rintro e w1 ⟨rfl, rfl⟩
  cases h0 : inB 0 100 P
  · go_wp2
    go_ret
    exact ⟨ret_bool (by unfold drvB; simp [h0]), rfl⟩
  go_wp2_with fail
  refine (l1In_is _ _ _ _).mono ?_
  rintro e w1 ⟨rfl, rfl⟩
  cases h1 : inB (-1) 1 W
  · go_wp2
    go_ret
    exact ⟨ret_bool (by unfold drvB; simp [h0, h1]), rfl⟩
  go_wp2_with fail
  refine (l1In_is _ _ _ _).mono ?_
  rintro e w1 ⟨rfl, rfl⟩
  cases h2 : inB 0 20 T
  · go_wp2
    go_ret
    exact ⟨ret_bool (by unfold drvB; simp [h0, h1, h2]), rfl⟩
  by_cases z : W = 0
  · subst z
    go_wp2
    go_ret
    exact ⟨ret_bool (by unfold drvB; simp [h0, h1, h2, Bool.beq_eq_decide_eq]), rfl⟩
  · have z1 : (W != 0) = true := by simpa using z
    go_wp2
    go_ret
    exact ⟨ret_bool (by unfold drvB; simp [h0, h1, h2, z]), rfl⟩
set_option maxHeartbeats 800000 in
theorem toDrive_is (P W T : Int) (F : Bool) (w : World) : Calls Try.prog 16 #[.agg #[.int .i64 P, .int .i64 W, .int .i64 T, .bool F]] w fun e w' => e = .returned (.agg #[.int .i64 P, .int .i64 W, .int .i64 T, .bool F]) ∧ w' = ((w.alloc (.cells #[.int .i64 P, .int .i64 W, .int .i64 T, .bool F] 36)).alloc (.cells #[.int .i64 P, .int .i64 W, .int .i64 T, .bool F] 40)).alloc (.cells #[.int .i64 P, .int .i64 W, .int .i64 T, .bool F] 40) := by
  go_enter Try.func16, Try.ntmps16
  go_wp2
  exact bodyPost_ret (v := .agg #[.int .i64 P, .int .i64 W, .int .i64 T, .bool F]) (by simp [results, Try.results16, go_sem]) rfl ⟨rfl, rfl⟩
theorem toDrive_below (P W T : Int) (F : Bool) (w : World) : Calls Try.prog 16 #[.agg #[.int .i64 P, .int .i64 W, .int .i64 T, .bool F]] w fun e w' => e = .returned (.agg #[.int .i64 P, .int .i64 W, .int .i64 T, .bool F]) ∧ Below w.heap.size w w' :=
  (toDrive_is P W T F w).mono fun e w' ⟨h, hw⟩ => ⟨h, by rw [hw]; exact (by repeat (first | with_reducible exact Below.refl _ _ | with_reducible refine Below.setCell ?_ (by first | omega | (simp; done) | (simp; omega)) _ | with_reducible refine bDrewN ?_ _ | with_reducible refine Below.drew ?_ | with_reducible refine Below.alloc ?_ (by first | omega | (simp; done) | (simp; omega)) _))⟩
set_option maxHeartbeats 800000 in
theorem eqDrive_any (P W T : Int) (F : Bool) (w : World) : Calls Try.prog 20 #[.agg #[.int .i64 P, .int .i64 W, .int .i64 T, .bool F], .agg #[.int .i64 P, .int .i64 W, .int .i64 T, .bool F]] w fun e w' => e = .returned (.bool true) ∧ Below w.heap.size w w' := by
  go_enter Try.func20, Try.ntmps20
  go_wp2
  go_ret
  exact ⟨rfl, (by repeat (first | with_reducible exact Below.refl _ _ | with_reducible refine Below.setCell ?_ (by first | omega | (simp; done) | (simp; omega)) _ | with_reducible refine bDrewN ?_ _ | with_reducible refine Below.drew ?_ | with_reducible refine Below.alloc ?_ (by first | omega | (simp; done) | (simp; omega)) _))⟩
end Go.Proofs.Ytafifjodpgmiiaa
