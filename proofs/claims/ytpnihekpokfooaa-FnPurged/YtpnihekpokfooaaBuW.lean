/-
What is proved: what the functions in the rows of the program's table answer.
-/
import Derived.Test.YtpnihekpokfooaaBuO
namespace Go.Proofs.Ytpnihekpokfooaa
set_option maxRecDepth 40000
open Go.RowKit
set_option linter.unusedVariables false
set_option linter.unusedSimpArgs false

set_option maxHeartbeats 800000 in
theorem always_any (s t r : Int) (air gas fl st sp rs : Bool) (w : World) : Calls Try.prog 55 #[.agg #[.int .i64 s, .int .i64 t, .int .i64 r], .agg #[.bool air, .bool gas, .bool fl, .bool st, .bool sp, .bool rs]] w fun e w' => e = .returned (.bool (true)) ∧ Below w.heap.size w w' := by
  go_enter Try.func55, Try.ntmps55
  go_wp2
  go_ret
  exact ⟨rfl, (by repeat (first | with_reducible exact Below.refl _ _ | with_reducible refine Below.setCell ?_ (by first | omega | (simp; done) | (simp; omega)) _ | with_reducible refine bDrewN ?_ _ | with_reducible refine Below.drew ?_ | with_reducible refine Below.alloc ?_ (by first | omega | (simp; done) | (simp; omega)) _))⟩
set_option maxHeartbeats 800000 in
theorem mayUnlock_any (s t r : Int) (air gas fl st sp rs : Bool) (w : World) : Calls Try.prog 53 #[.agg #[.int .i64 s, .int .i64 t, .int .i64 r], .agg #[.bool air, .bool gas, .bool fl, .bool st, .bool sp, .bool rs]] w fun e w' => e = .returned (.bool (rs && !fl)) ∧ Below w.heap.size w w' := by
  cases rs
  all_goals
    cases fl
  all_goals
    go_enter Try.func53, Try.ntmps53
    go_wp2
    go_ret
    exact ⟨rfl, (by repeat (first | with_reducible exact Below.refl _ _ | with_reducible refine Below.setCell ?_ (by first | omega | (simp; done) | (simp; omega)) _ | with_reducible refine bDrewN ?_ _ | with_reducible refine Below.drew ?_ | with_reducible refine Below.alloc ?_ (by first | omega | (simp; done) | (simp; omega)) _))⟩
set_option maxHeartbeats 800000 in
theorem stopAsked_any (s t r : Int) (air gas fl st sp rs : Bool) (w : World) : Calls Try.prog 57 #[.agg #[.int .i64 s, .int .i64 t, .int .i64 r], .agg #[.bool air, .bool gas, .bool fl, .bool st, .bool sp, .bool rs]] w fun e w' => e = .returned (.bool (sp)) ∧ Below w.heap.size w w' := by
  go_enter Try.func57, Try.ntmps57
  go_wp2
  go_ret
  exact ⟨rfl, (by repeat (first | with_reducible exact Below.refl _ _ | with_reducible refine Below.setCell ?_ (by first | omega | (simp; done) | (simp; omega)) _ | with_reducible refine bDrewN ?_ _ | with_reducible refine Below.drew ?_ | with_reducible refine Below.alloc ?_ (by first | omega | (simp; done) | (simp; omega)) _))⟩
set_option maxHeartbeats 800000 in
theorem startAsked_any (s t r : Int) (air gas fl st sp rs : Bool) (w : World) : Calls Try.prog 60 #[.agg #[.int .i64 s, .int .i64 t, .int .i64 r], .agg #[.bool air, .bool gas, .bool fl, .bool st, .bool sp, .bool rs]] w fun e w' => e = .returned (.bool (st)) ∧ Below w.heap.size w w' := by
  go_enter Try.func60, Try.ntmps60
  go_wp2
  go_ret
  exact ⟨rfl, (by repeat (first | with_reducible exact Below.refl _ _ | with_reducible refine Below.setCell ?_ (by first | omega | (simp; done) | (simp; omega)) _ | with_reducible refine bDrewN ?_ _ | with_reducible refine Below.drew ?_ | with_reducible refine Below.alloc ?_ (by first | omega | (simp; done) | (simp; omega)) _))⟩
set_option maxHeartbeats 800000 in
theorem flameSeen_any (s t r : Int) (air gas fl st sp rs : Bool) (w : World) : Calls Try.prog 58 #[.agg #[.int .i64 s, .int .i64 t, .int .i64 r], .agg #[.bool air, .bool gas, .bool fl, .bool st, .bool sp, .bool rs]] w fun e w' => e = .returned (.bool (fl)) ∧ Below w.heap.size w w' := by
  go_enter Try.func58, Try.ntmps58
  go_wp2
  go_ret
  exact ⟨rfl, (by repeat (first | with_reducible exact Below.refl _ _ | with_reducible refine Below.setCell ?_ (by first | omega | (simp; done) | (simp; omega)) _ | with_reducible refine bDrewN ?_ _ | with_reducible refine Below.drew ?_ | with_reducible refine Below.alloc ?_ (by first | omega | (simp; done) | (simp; omega)) _))⟩
set_option maxHeartbeats 800000 in
theorem flameLacks_any (s t r : Int) (air gas fl st sp rs : Bool) (w : World) : Calls Try.prog 72 #[.agg #[.int .i64 s, .int .i64 t, .int .i64 r], .agg #[.bool air, .bool gas, .bool fl, .bool st, .bool sp, .bool rs]] w fun e w' => e = .returned (.bool (!fl)) ∧ Below w.heap.size w w' := by
  go_enter Try.func72, Try.ntmps72
  go_wp2
  go_ret
  exact ⟨rfl, (by repeat (first | with_reducible exact Below.refl _ _ | with_reducible refine Below.setCell ?_ (by first | omega | (simp; done) | (simp; omega)) _ | with_reducible refine bDrewN ?_ _ | with_reducible refine Below.drew ?_ | with_reducible refine Below.alloc ?_ (by first | omega | (simp; done) | (simp; omega)) _))⟩
set_option maxHeartbeats 800000 in
theorem airLacks_any (s t r : Int) (air gas fl st sp rs : Bool) (w : World) : Calls Try.prog 62 #[.agg #[.int .i64 s, .int .i64 t, .int .i64 r], .agg #[.bool air, .bool gas, .bool fl, .bool st, .bool sp, .bool rs]] w fun e w' => e = .returned (.bool (!air)) ∧ Below w.heap.size w w' := by
  go_enter Try.func62, Try.ntmps62
  go_wp2
  go_ret
  exact ⟨rfl, (by repeat (first | with_reducible exact Below.refl _ _ | with_reducible refine Below.setCell ?_ (by first | omega | (simp; done) | (simp; omega)) _ | with_reducible refine bDrewN ?_ _ | with_reducible refine Below.drew ?_ | with_reducible refine Below.alloc ?_ (by first | omega | (simp; done) | (simp; omega)) _))⟩
set_option maxHeartbeats 800000 in
theorem airOrGasLacks_any (s t r : Int) (air gas fl st sp rs : Bool) (w : World) : Calls Try.prog 68 #[.agg #[.int .i64 s, .int .i64 t, .int .i64 r], .agg #[.bool air, .bool gas, .bool fl, .bool st, .bool sp, .bool rs]] w fun e w' => e = .returned (.bool (!air || !gas)) ∧ Below w.heap.size w w' := by
  cases air
  all_goals
    cases gas
  all_goals
    go_enter Try.func68, Try.ntmps68
    go_wp2
    go_ret
    exact ⟨rfl, (by repeat (first | with_reducible exact Below.refl _ _ | with_reducible refine Below.setCell ?_ (by first | omega | (simp; done) | (simp; omega)) _ | with_reducible refine bDrewN ?_ _ | with_reducible refine Below.drew ?_ | with_reducible refine Below.alloc ?_ (by first | omega | (simp; done) | (simp; omega)) _))⟩
set_option maxHeartbeats 800000 in
theorem purgeEnds_any (s t r : Int) (air gas fl st sp rs : Bool) (w : World) : Calls Try.prog 65 #[.agg #[.int .i64 s, .int .i64 t, .int .i64 r], .agg #[.bool air, .bool gas, .bool fl, .bool st, .bool sp, .bool rs]] w fun e w' => e = .returned (.bool (decide (t = 4))) ∧ Below w.heap.size w w' := by
  by_cases h : t = 4
  · subst h
    go_enter Try.func65, Try.ntmps65
    go_wp2
    go_ret
    exact ⟨ret_bool (by simp), (by repeat (first | with_reducible exact Below.refl _ _ | with_reducible refine Below.setCell ?_ (by first | omega | (simp; done) | (simp; omega)) _ | with_reducible refine bDrewN ?_ _ | with_reducible refine Below.drew ?_ | with_reducible refine Below.alloc ?_ (by first | omega | (simp; done) | (simp; omega)) _))⟩
  · have b : (t == 4) = false := by simpa using h
    go_enter Try.func65, Try.ntmps65
    go_wp2
    go_ret
    exact ⟨ret_bool (by simp [h]), (by repeat (first | with_reducible exact Below.refl _ _ | with_reducible refine Below.setCell ?_ (by first | omega | (simp; done) | (simp; omega)) _ | with_reducible refine bDrewN ?_ _ | with_reducible refine Below.drew ?_ | with_reducible refine Below.alloc ?_ (by first | omega | (simp; done) | (simp; omega)) _))⟩
set_option maxHeartbeats 800000 in
theorem lightEnds_any (s t r : Int) (air gas fl st sp rs : Bool) (w : World) : Calls Try.prog 70 #[.agg #[.int .i64 s, .int .i64 t, .int .i64 r], .agg #[.bool air, .bool gas, .bool fl, .bool st, .bool sp, .bool rs]] w fun e w' => e = .returned (.bool (decide (t = 2))) ∧ Below w.heap.size w w' := by
  by_cases h : t = 2
  · subst h
    go_enter Try.func70, Try.ntmps70
    go_wp2
    go_ret
    exact ⟨ret_bool (by simp), (by repeat (first | with_reducible exact Below.refl _ _ | with_reducible refine Below.setCell ?_ (by first | omega | (simp; done) | (simp; omega)) _ | with_reducible refine bDrewN ?_ _ | with_reducible refine Below.drew ?_ | with_reducible refine Below.alloc ?_ (by first | omega | (simp; done) | (simp; omega)) _))⟩
  · have b : (t == 2) = false := by simpa using h
    go_enter Try.func70, Try.ntmps70
    go_wp2
    go_ret
    exact ⟨ret_bool (by simp [h]), (by repeat (first | with_reducible exact Below.refl _ _ | with_reducible refine Below.setCell ?_ (by first | omega | (simp; done) | (simp; omega)) _ | with_reducible refine bDrewN ?_ _ | with_reducible refine Below.drew ?_ | with_reducible refine Below.alloc ?_ (by first | omega | (simp; done) | (simp; omega)) _))⟩
set_option maxHeartbeats 2000000 in
theorem gasAwaited_any (s t r : Int) (air gas fl st sp rs : Bool) (w : World) : Calls Try.prog 64 #[.agg #[.int .i64 s, .int .i64 t, .int .i64 r], .agg #[.bool air, .bool gas, .bool fl, .bool st, .bool sp, .bool rs]] w fun e w' => e = .returned (.bool (decide (t = 4) && !gas)) ∧ Below w.heap.size w w' := by
  go_enter Try.func64, Try.ntmps64
  go_wp2_with fail
  refine (purgeEnds_any s t r air gas fl st sp rs _).mono ?_
  rintro e w1 ⟨rfl, h1⟩
  obtain ⟨hc, hf⟩ := bcell h1
  have q1 := hc (w.heap.size + 1) 1 (by first | omega | (simp; done) | (simp; omega))
  simp [go_sem] at q1
  have z1 : w.heap.size + 1 < w1.heap.size := by have := h1.size; simp at this; omega
  have B1 : Below w.heap.size w w1 := Below.trans (by repeat (first | with_reducible exact Below.refl _ _ | with_reducible refine Below.setCell ?_ (by first | omega | (simp; done) | (simp; omega)) _ | with_reducible refine bDrewN ?_ _ | with_reducible refine Below.drew ?_ | with_reducible refine Below.alloc ?_ (by first | omega | (simp; done) | (simp; omega)) _)) (h1.mono (by first | omega | (simp; done) | (simp; omega)))
  clear hc hf h1
  by_cases h : t = 4
  · have b : decide (t = 4) = true := decide_eq_true h
    rw [b]
    cases gas
    all_goals
      go_wp2
      go_ret
      exact ⟨ret_bool (by simp [h]), (by repeat (first | with_reducible exact Below.refl _ _ | with_reducible exact B1 | with_reducible refine Below.setCell ?_ (by first | omega | (simp; done) | (simp; omega)) _ | with_reducible refine bDrewN ?_ _ | with_reducible refine Below.drew ?_ | with_reducible refine Below.alloc ?_ (by first | omega | (simp; done) | (simp; omega)) _))⟩
  · have b : decide (t = 4) = false := decide_eq_false h
    rw [b]
    go_wp2
    go_ret
    exact ⟨ret_bool (by simp [h]), (by repeat (first | with_reducible exact Below.refl _ _ | with_reducible exact B1 | with_reducible refine Below.setCell ?_ (by first | omega | (simp; done) | (simp; omega)) _ | with_reducible refine bDrewN ?_ _ | with_reducible refine Below.drew ?_ | with_reducible refine Below.alloc ?_ (by first | omega | (simp; done) | (simp; omega)) _))⟩
set_option maxHeartbeats 800000 in
theorem toOff_any (s t r : Int) (w : World) : Calls Try.prog 54 #[.agg #[.int .i64 s, .int .i64 t, .int .i64 r]] w fun e w' => e = .returned (.agg #[.int .i64 0, .int .i64 0, .int .i64 0]) ∧ Below w.heap.size w w' := by
  go_enter Try.func54, Try.ntmps54
  go_wp2
  exact bodyPost_ret (v := .agg #[.int .i64 0, .int .i64 0, .int .i64 0]) (by simp [results, Try.results54, go_sem]) rfl ⟨rfl, (by repeat (first | with_reducible exact Below.refl _ _ | with_reducible refine Below.setCell ?_ (by first | omega | (simp; done) | (simp; omega)) _ | with_reducible refine bDrewN ?_ _ | with_reducible refine Below.drew ?_ | with_reducible refine Below.alloc ?_ (by first | omega | (simp; done) | (simp; omega)) _))⟩
set_option maxHeartbeats 800000 in
theorem stay_any (s t r : Int) (w : World) : Calls Try.prog 56 #[.agg #[.int .i64 s, .int .i64 t, .int .i64 r]] w fun e w' => e = .returned (.agg #[.int .i64 s, .int .i64 t, .int .i64 r]) ∧ Below w.heap.size w w' := by
  go_enter Try.func56, Try.ntmps56
  go_wp2
  exact bodyPost_ret (v := .agg #[.int .i64 s, .int .i64 t, .int .i64 r]) (by simp [results, Try.results56, go_sem]) rfl ⟨rfl, (by repeat (first | with_reducible exact Below.refl _ _ | with_reducible refine Below.setCell ?_ (by first | omega | (simp; done) | (simp; omega)) _ | with_reducible refine bDrewN ?_ _ | with_reducible refine Below.drew ?_ | with_reducible refine Below.alloc ?_ (by first | omega | (simp; done) | (simp; omega)) _))⟩
set_option maxHeartbeats 800000 in
theorem toLock_any (s t r : Int) (w : World) : Calls Try.prog 59 #[.agg #[.int .i64 s, .int .i64 t, .int .i64 r]] w fun e w' => e = .returned (.agg #[.int .i64 4, .int .i64 0, .int .i64 r]) ∧ Below w.heap.size w w' := by
  go_enter Try.func59, Try.ntmps59
  go_wp2
  exact bodyPost_ret (v := .agg #[.int .i64 4, .int .i64 0, .int .i64 r]) (by simp [results, Try.results59, go_sem]) rfl ⟨rfl, (by repeat (first | with_reducible exact Below.refl _ _ | with_reducible refine Below.setCell ?_ (by first | omega | (simp; done) | (simp; omega)) _ | with_reducible refine bDrewN ?_ _ | with_reducible refine Below.drew ?_ | with_reducible refine Below.alloc ?_ (by first | omega | (simp; done) | (simp; omega)) _))⟩
set_option maxHeartbeats 800000 in
theorem toPurge_any (s t r : Int) (w : World) : Calls Try.prog 61 #[.agg #[.int .i64 s, .int .i64 t, .int .i64 r]] w fun e w' => e = .returned (.agg #[.int .i64 1, .int .i64 0, .int .i64 r]) ∧ Below w.heap.size w w' := by
  go_enter Try.func61, Try.ntmps61
  go_wp2
  exact bodyPost_ret (v := .agg #[.int .i64 1, .int .i64 0, .int .i64 r]) (by simp [results, Try.results61, go_sem]) rfl ⟨rfl, (by repeat (first | with_reducible exact Below.refl _ _ | with_reducible refine Below.setCell ?_ (by first | omega | (simp; done) | (simp; omega)) _ | with_reducible refine bDrewN ?_ _ | with_reducible refine Below.drew ?_ | with_reducible refine Below.alloc ?_ (by first | omega | (simp; done) | (simp; omega)) _))⟩
set_option maxHeartbeats 800000 in
theorem timeAnew_any (s t r : Int) (w : World) : Calls Try.prog 63 #[.agg #[.int .i64 s, .int .i64 t, .int .i64 r]] w fun e w' => e = .returned (.agg #[.int .i64 s, .int .i64 0, .int .i64 r]) ∧ Below w.heap.size w w' := by
  go_enter Try.func63, Try.ntmps63
  go_wp2
  exact bodyPost_ret (v := .agg #[.int .i64 s, .int .i64 0, .int .i64 r]) (by simp [results, Try.results63, go_sem]) rfl ⟨rfl, (by repeat (first | with_reducible exact Below.refl _ _ | with_reducible refine Below.setCell ?_ (by first | omega | (simp; done) | (simp; omega)) _ | with_reducible refine bDrewN ?_ _ | with_reducible refine Below.drew ?_ | with_reducible refine Below.alloc ?_ (by first | omega | (simp; done) | (simp; omega)) _))⟩
set_option maxHeartbeats 800000 in
theorem toLight_any (s t r : Int) (w : World) : Calls Try.prog 66 #[.agg #[.int .i64 s, .int .i64 t, .int .i64 r]] w fun e w' => e = .returned (.agg #[.int .i64 2, .int .i64 0, .int .i64 r]) ∧ Below w.heap.size w w' := by
  go_enter Try.func66, Try.ntmps66
  go_wp2
  exact bodyPost_ret (v := .agg #[.int .i64 2, .int .i64 0, .int .i64 r]) (by simp [results, Try.results66, go_sem]) rfl ⟨rfl, (by repeat (first | with_reducible exact Below.refl _ _ | with_reducible refine Below.setCell ?_ (by first | omega | (simp; done) | (simp; omega)) _ | with_reducible refine bDrewN ?_ _ | with_reducible refine Below.drew ?_ | with_reducible refine Below.alloc ?_ (by first | omega | (simp; done) | (simp; omega)) _))⟩
set_option maxHeartbeats 800000 in
theorem timeOn_any (s t r : Int) (w : World) (h0 : 0 ≤ t) (h1 : t ≤ 4) : Calls Try.prog 67 #[.agg #[.int .i64 s, .int .i64 t, .int .i64 r]] w fun e w' => e = .returned (.agg #[.int .i64 s, .int .i64 (t + 1), .int .i64 r]) ∧ Below w.heap.size w w' := by
  go_enter Try.func67, Try.ntmps67
  go_wp2
  exact bodyPost_ret (v := .agg #[.int .i64 s, .int .i64 (t + 1), .int .i64 r]) (by simp [results, Try.results67, go_sem]) rfl ⟨rfl, (by repeat (first | with_reducible exact Below.refl _ _ | with_reducible refine Below.setCell ?_ (by first | omega | (simp; done) | (simp; omega)) _ | with_reducible refine bDrewN ?_ _ | with_reducible refine Below.drew ?_ | with_reducible refine Below.alloc ?_ (by first | omega | (simp; done) | (simp; omega)) _))⟩
set_option maxHeartbeats 800000 in
theorem toOn_any (s t r : Int) (w : World) : Calls Try.prog 69 #[.agg #[.int .i64 s, .int .i64 t, .int .i64 r]] w fun e w' => e = .returned (.agg #[.int .i64 3, .int .i64 0, .int .i64 0]) ∧ Below w.heap.size w w' := by
  go_enter Try.func69, Try.ntmps69
  go_wp2
  exact bodyPost_ret (v := .agg #[.int .i64 3, .int .i64 0, .int .i64 0]) (by simp [results, Try.results69, go_sem]) rfl ⟨rfl, (by repeat (first | with_reducible exact Below.refl _ _ | with_reducible refine Below.setCell ?_ (by first | omega | (simp; done) | (simp; omega)) _ | with_reducible refine bDrewN ?_ _ | with_reducible refine Below.drew ?_ | with_reducible refine Below.alloc ?_ (by first | omega | (simp; done) | (simp; omega)) _))⟩
set_option maxHeartbeats 2000000 in
theorem endTry_yes (s t r : Int) (w : World) (hr : r + 1 = 3) : Calls Try.prog 71 #[.agg #[.int .i64 s, .int .i64 t, .int .i64 r]] w fun e w' => e = .returned (.agg #[.int .i64 4, .int .i64 0, .int .i64 3]) ∧ Below w.heap.size w w' := by
  obtain rfl : r = 2 := by omega
  go_enter Try.func71, Try.ntmps71
  go_wp2_with fail
  refine (toLock_any _ _ _ _).mono ?_
  rintro e w1 ⟨rfl, h1⟩
  obtain ⟨hc, hf⟩ := bcell h1
  have q0 := hc (w.heap.size + 1) 0 (by first | omega | (simp; done) | (simp; omega))
  have f0 := hf (w.heap.size + 1) 0 (by first | omega | (simp; done) | (simp; omega))
  have q1 := hc (w.heap.size + 1) 1 (by first | omega | (simp; done) | (simp; omega))
  have f1 := hf (w.heap.size + 1) 1 (by first | omega | (simp; done) | (simp; omega))
  have q2 := hc (w.heap.size + 1) 2 (by first | omega | (simp; done) | (simp; omega))
  have f2 := hf (w.heap.size + 1) 2 (by first | omega | (simp; done) | (simp; omega))
  simp [go_sem] at q0 q1 q2 f0 f1 f2
  have z1 : w.heap.size + 1 < w1.heap.size := by have := h1.size; simp at this; omega
  have B1 : Below w.heap.size w w1 := Below.trans (by repeat (first | with_reducible exact Below.refl _ _ | with_reducible refine Below.setCell ?_ (by first | omega | (simp; done) | (simp; omega)) _ | with_reducible refine bDrewN ?_ _ | with_reducible refine Below.drew ?_ | with_reducible refine Below.alloc ?_ (by first | omega | (simp; done) | (simp; omega)) _)) (h1.mono (by first | omega | (simp; done) | (simp; omega)))
  clear hc hf h1
  go_wp2
  exact bodyPost_ret (v := .agg #[.int .i64 4, .int .i64 0, .int .i64 3]) (by simp [results, Try.results71, go_sem, q0, q1, q2]) rfl ⟨rfl, (by repeat (first | with_reducible exact Below.refl _ _ | with_reducible exact B1 | with_reducible refine Below.setCell ?_ (by first | omega | (simp; done) | (simp; omega)) _ | with_reducible refine bDrewN ?_ _ | with_reducible refine Below.drew ?_ | with_reducible refine Below.alloc ?_ (by first | omega | (simp; done) | (simp; omega)) _))⟩
set_option maxHeartbeats 2000000 in
theorem endTry_no (s t r : Int) (w : World) (hr : ¬ r + 1 = 3) (r0 : 0 ≤ r) (r1 : r ≤ 3) : Calls Try.prog 71 #[.agg #[.int .i64 s, .int .i64 t, .int .i64 r]] w fun e w' => e = .returned (.agg #[.int .i64 1, .int .i64 0, .int .i64 (r + 1)]) ∧ Below w.heap.size w w' := by
  have b : (r + 1 == 3) = false := by simpa using hr
  go_enter Try.func71, Try.ntmps71
  go_wp2_with fail
  refine (toPurge_any _ _ _ _).mono ?_
  rintro e w1 ⟨rfl, h1⟩
  obtain ⟨hc, hf⟩ := bcell h1
  have q0 := hc (w.heap.size + 1) 0 (by first | omega | (simp; done) | (simp; omega))
  have f0 := hf (w.heap.size + 1) 0 (by first | omega | (simp; done) | (simp; omega))
  have q1 := hc (w.heap.size + 1) 1 (by first | omega | (simp; done) | (simp; omega))
  have f1 := hf (w.heap.size + 1) 1 (by first | omega | (simp; done) | (simp; omega))
  have q2 := hc (w.heap.size + 1) 2 (by first | omega | (simp; done) | (simp; omega))
  have f2 := hf (w.heap.size + 1) 2 (by first | omega | (simp; done) | (simp; omega))
  simp [go_sem] at q0 q1 q2 f0 f1 f2
  have z1 : w.heap.size + 1 < w1.heap.size := by have := h1.size; simp at this; omega
  have B1 : Below w.heap.size w w1 := Below.trans (by repeat (first | with_reducible exact Below.refl _ _ | with_reducible refine Below.setCell ?_ (by first | omega | (simp; done) | (simp; omega)) _ | with_reducible refine bDrewN ?_ _ | with_reducible refine Below.drew ?_ | with_reducible refine Below.alloc ?_ (by first | omega | (simp; done) | (simp; omega)) _)) (h1.mono (by first | omega | (simp; done) | (simp; omega)))
  clear hc hf h1
  go_wp2
  exact bodyPost_ret (v := .agg #[.int .i64 1, .int .i64 0, .int .i64 (r + 1)]) (by simp [results, Try.results71, go_sem, q0, q1, q2]) rfl ⟨rfl, (by repeat (first | with_reducible exact Below.refl _ _ | with_reducible exact B1 | with_reducible refine Below.setCell ?_ (by first | omega | (simp; done) | (simp; omega)) _ | with_reducible refine bDrewN ?_ _ | with_reducible refine Below.drew ?_ | with_reducible refine Below.alloc ?_ (by first | omega | (simp; done) | (simp; omega)) _))⟩
def fromL : Nat → List Int
  | 0 => [4]
  | 1 => [4]
  | 2 => [0, 1, 2, 3]
  | 3 => [0, 1]
  | 4 => [0]
  | 5 => [0]
  | 6 => [1]
  | 7 => [1]
  | 8 => [1]
  | 9 => [1]
  | 10 => [2, 3]
  | 11 => [2]
  | 12 => [2]
  | 13 => [2]
  | 14 => [3]
  | _ => [3]
def whenF : Nat → FuncId
  | 0 => 53
  | 1 => 55
  | 2 => 57
  | 3 => 58
  | 4 => 60
  | 5 => 55
  | 6 => 62
  | 7 => 64
  | 8 => 65
  | 9 => 55
  | 10 => 68
  | 11 => 58
  | 12 => 70
  | 13 => 55
  | 14 => 72
  | _ => 55
def thenF : Nat → FuncId
  | 0 => 54
  | 1 => 56
  | 2 => 54
  | 3 => 59
  | 4 => 61
  | 5 => 56
  | 6 => 63
  | 7 => 56
  | 8 => 66
  | 9 => 67
  | 10 => 59
  | 11 => 69
  | 12 => 71
  | 13 => 67
  | 14 => 59
  | _ => 56
def whenV (t : Int) (air gas fl st sp rs : Bool) : Nat → Bool
  | 0 => rs && !fl
  | 1 => true
  | 2 => sp
  | 3 => fl
  | 4 => st
  | 5 => true
  | 6 => !air
  | 7 => decide (t = 4) && !gas
  | 8 => decide (t = 4)
  | 9 => true
  | 10 => !air || !gas
  | 11 => fl
  | 12 => decide (t = 2)
  | 13 => true
  | 14 => !fl
  | _ => true
def thenV (s t r : Int) : Nat → Int × Int × Int
  | 0 => (0, 0, 0)
  | 1 => (s, t, r)
  | 2 => (0, 0, 0)
  | 3 => (4, 0, r)
  | 4 => (1, 0, r)
  | 5 => (s, t, r)
  | 6 => (s, 0, r)
  | 7 => (s, t, r)
  | 8 => (2, 0, r)
  | 9 => (s, t + 1, r)
  | 10 => (4, 0, r)
  | 11 => (3, 0, 0)
  | 12 => if r + 1 = 3 then (4, 0, 3) else (1, 0, r + 1)
  | 13 => (s, t + 1, r)
  | 14 => (4, 0, r)
  | _ => (s, t, r)
theorem when_any (s t r : Int) (air gas fl st sp rs : Bool) (w : World) : ∀ k, k < 16 → Calls Try.prog (whenF k) #[.agg #[.int .i64 s, .int .i64 t, .int .i64 r], .agg #[.bool air, .bool gas, .bool fl, .bool st, .bool sp, .bool rs]] w fun e w' => e = .returned (.bool (whenV t air gas fl st sp rs k)) ∧ Below w.heap.size w w'
  | 0, _ => mayUnlock_any s t r air gas fl st sp rs w
  | 1, _ => always_any s t r air gas fl st sp rs w
  | 2, _ => stopAsked_any s t r air gas fl st sp rs w
  | 3, _ => flameSeen_any s t r air gas fl st sp rs w
  | 4, _ => startAsked_any s t r air gas fl st sp rs w
  | 5, _ => always_any s t r air gas fl st sp rs w
  | 6, _ => airLacks_any s t r air gas fl st sp rs w
  | 7, _ => gasAwaited_any s t r air gas fl st sp rs w
  | 8, _ => purgeEnds_any s t r air gas fl st sp rs w
  | 9, _ => always_any s t r air gas fl st sp rs w
  | 10, _ => airOrGasLacks_any s t r air gas fl st sp rs w
  | 11, _ => flameSeen_any s t r air gas fl st sp rs w
  | 12, _ => lightEnds_any s t r air gas fl st sp rs w
  | 13, _ => always_any s t r air gas fl st sp rs w
  | 14, _ => flameLacks_any s t r air gas fl st sp rs w
  | 15, _ => always_any s t r air gas fl st sp rs w
  | k + 16, h => by omega
theorem then_any (s t r : Int) (w : World) (t0 : 0 ≤ t) (t1 : t ≤ 4) (r0 : 0 ≤ r) (r1 : r ≤ 3) : ∀ k, k < 16 → Calls Try.prog (thenF k) #[.agg #[.int .i64 s, .int .i64 t, .int .i64 r]] w fun e w' => e = .returned (.agg #[.int .i64 (thenV s t r k).1, .int .i64 (thenV s t r k).2.1, .int .i64 (thenV s t r k).2.2]) ∧ Below w.heap.size w w'
  | 0, _ => toOff_any s t r w
  | 1, _ => stay_any s t r w
  | 2, _ => toOff_any s t r w
  | 3, _ => toLock_any s t r w
  | 4, _ => toPurge_any s t r w
  | 5, _ => stay_any s t r w
  | 6, _ => timeAnew_any s t r w
  | 7, _ => stay_any s t r w
  | 8, _ => toLight_any s t r w
  | 9, _ => timeOn_any s t r w t0 t1
  | 10, _ => toLock_any s t r w
  | 11, _ => toOn_any s t r w
  | 12, _ => by
    show Calls Try.prog 71 #[.agg #[.int .i64 s, .int .i64 t, .int .i64 r]] w fun e w' => e = .returned (.agg #[.int .i64 (if r + 1 = 3 then ((4, 0, 3) : Int × Int × Int) else (1, 0, r + 1)).1, .int .i64 (if r + 1 = 3 then ((4, 0, 3) : Int × Int × Int) else (1, 0, r + 1)).2.1, .int .i64 (if r + 1 = 3 then ((4, 0, 3) : Int × Int × Int) else (1, 0, r + 1)).2.2]) ∧ Below w.heap.size w w'
    by_cases hr : r + 1 = 3
    · rw [if_pos hr]; exact endTry_yes s t r w hr
    · rw [if_neg hr]; exact endTry_no s t r w hr r0 r1
  | 13, _ => timeOn_any s t r w t0 t1
  | 14, _ => toLock_any s t r w
  | 15, _ => stay_any s t r w
  | k + 16, h => by omega
end Go.Proofs.Ytpnihekpokfooaa
