/-
What is proved: what an op gives, as the specification tells it.
-/
import Derived.Test.YtdidgbibbkhnhaaGv
namespace Go.Proofs.Ytdidgbibbkhnhaa
set_option maxRecDepth 40000
open Go.RowKit
set_option linter.unusedVariables false
set_option linter.unusedSimpArgs false

set_option maxHeartbeats 800000 in
theorem l9Coef_on (g o n c k : Nat) (x : Int) (w : World) (hk : k < n) (hn : n ≤ 3) (zg : g < w.heap.size) (e : w.cell? ⟨g, o + k, none⟩ = some (.int .i64 x)) : Calls Try.prog 43 #[.slice (some ⟨g, o, none⟩) n c, .int .i64 (k : Int)] w fun e w' => e = .returned (.int .i64 x) ∧ w' = w := by
  have b0 : decide ((k : Int) < 0) = false := decide_eq_false (by omega)
  have b1 : decide ((n : Int) ≤ (k : Int)) = false := decide_eq_false (by omega)
  have b2 : (k : Int) < (n : Int) := by omega
  have n3 : (n : Int) ≤ 3 := by omega
  clear hk hn
  go_enter Try.func43, Try.ntmps43
  go_wp2
  go_ret
  exact ⟨rfl, rfl⟩
set_option maxHeartbeats 800000 in
theorem l9Coef_off (s : Option Addr) (n c k : Nat) (w : World) (hk : n ≤ k) (k3 : k ≤ 3) : Calls Try.prog 43 #[.slice s n c, .int .i64 (k : Int)] w fun e w' => e = .returned (.int .i64 0) ∧ w' = w := by
  have b0 : decide ((k : Int) < 0) = false := decide_eq_false (by omega)
  have b1 : (n : Int) ≤ (k : Int) := by omega
  have n3 : (k : Int) ≤ 3 := by omega
  clear hk k3
  go_enter Try.func43, Try.ntmps43
  go_wp2
  go_ret
  exact ⟨rfl, rfl⟩
set_option maxHeartbeats 400000 in
theorem l18Clip_any (n : Int) (w : World) : Calls Try.prog 27 #[.int .i64 n] w fun e w' => e = .returned (.int .i64 (clipV n)) ∧ w' = w := by
  obtain ⟨p, hp⟩ : ∃ p, (if n < 1000000 then n else 1000000) = p := ⟨_, rfl⟩
  obtain ⟨q, hq⟩ : ∃ q, (if -1000000 < p then p else -1000000) = q := ⟨_, rfl⟩
  have e : clipV n = q := by unfold clipV; rw [← hq, ← hp]; split <;> split <;> omega
  rw [e]
  clear e
  go_enter Try.func27, Try.ntmps27
  go_wp2
  go_ret
  exact ⟨rfl, rfl⟩
set_option maxHeartbeats 400000 in
theorem l18Bool_any (b : Bool) (w : World) : Calls Try.prog 44 #[.bool b] w fun e w' => e = .returned (.int .i64 (if b = true then 1 else 0)) ∧ w' = w := by
  cases b
  all_goals
    go_enter Try.func44, Try.ntmps44
    go_wp2
    go_ret
    exact ⟨rfl, rfl⟩
set_option maxRecDepth 20000 in
set_option maxHeartbeats 4000000 in
theorem gives_5 (g o c : Nat) (a b d : Int) (w : World) (a0 : -1000000 ≤ a) (a1 : a ≤ 1000000) (b0 : -1000000 ≤ b) (b1 : b ≤ 1000000) (zg : g < w.heap.size) (e0 : w.cell? ⟨g, o + 0, none⟩ = some (.int .i64 a)) (e1 : w.cell? ⟨g, o + 1, none⟩ = some (.int .i64 b))  :
    Calls Try.prog 28 #[.int .i64 5, .slice (some ⟨g, o, none⟩) 2 c, .int .i64 0, .int .i64 0] w fun e w' => e = .returned (.int .i64 (gvV 5 a b d)) ∧ w' = w := by
  have hw := mul_wrap a0 a1 b0 b1
  go_enter Try.func28, Try.ntmps28
  go_wp2_with fail
  refine (l9Coef_on g o 2 c 0 a _ (by omega) (by omega) zg e0).mono ?_
  rintro e w1 ⟨rfl, rfl⟩
  go_wp2_with fail
  refine (l9Coef_on g o 2 c 1 b _ (by omega) (by omega) zg e1).mono ?_
  rintro e w1 ⟨rfl, rfl⟩
  go_wp2
  go_ret
  exact ⟨rfl, rfl⟩
set_option maxRecDepth 20000 in
set_option maxHeartbeats 4000000 in
theorem gives_6 (g o c : Nat) (a b d : Int) (w : World) (a0 : -1000000 ≤ a) (a1 : a ≤ 1000000) (b0 : -1000000 ≤ b) (b1 : b ≤ 1000000) (zg : g < w.heap.size) (e0 : w.cell? ⟨g, o + 0, none⟩ = some (.int .i64 a)) (e1 : w.cell? ⟨g, o + 1, none⟩ = some (.int .i64 b))  :
    Calls Try.prog 28 #[.int .i64 6, .slice (some ⟨g, o, none⟩) 2 c, .int .i64 0, .int .i64 0] w fun e w' => e = .returned (.int .i64 (gvV 6 a b d)) ∧ w' = w := by
  obtain ⟨q, hq⟩ : ∃ q, (if a < b then b else a) = q := ⟨_, rfl⟩
  have HO : Hid (gvV 6 a b d = q) := hq
  go_enter Try.func28, Try.ntmps28
  go_wp2_with fail
  refine (l9Coef_on g o 2 c 0 a _ (by omega) (by omega) zg e0).mono ?_
  rintro e w1 ⟨rfl, rfl⟩
  go_wp2_with fail
  refine (l9Coef_on g o 2 c 1 b _ (by omega) (by omega) zg e1).mono ?_
  rintro e w1 ⟨rfl, rfl⟩
  go_wp2
  go_ret
  exact ⟨ret_int HO.out.symm, rfl⟩
set_option maxRecDepth 20000 in
set_option maxHeartbeats 4000000 in
theorem gives_7 (g o c : Nat) (a b d : Int) (w : World) (a0 : -1000000 ≤ a) (a1 : a ≤ 1000000) (b0 : -1000000 ≤ b) (b1 : b ≤ 1000000) (zg : g < w.heap.size) (e0 : w.cell? ⟨g, o + 0, none⟩ = some (.int .i64 a)) (e1 : w.cell? ⟨g, o + 1, none⟩ = some (.int .i64 b))  :
    Calls Try.prog 28 #[.int .i64 7, .slice (some ⟨g, o, none⟩) 2 c, .int .i64 0, .int .i64 0] w fun e w' => e = .returned (.int .i64 (gvV 7 a b d)) ∧ w' = w := by
  obtain ⟨q, hq⟩ : ∃ q, (a != b) = q := ⟨_, rfl⟩
  obtain ⟨r, hr⟩ : ∃ r, (if q = true then (1 : Int) else 0) = r := ⟨_, rfl⟩
  have HO : Hid (gvV 7 a b d = r) := by show _ = _; rw [← hr, ← hq]; rfl
  have HQ : Hid ((if q = true then (1 : Int) else 0) = r) := hr
  clear hr
  go_enter Try.func28, Try.ntmps28
  go_wp2_with fail
  refine (l9Coef_on g o 2 c 0 a _ (by omega) (by omega) zg e0).mono ?_
  rintro e w1 ⟨rfl, rfl⟩
  go_wp2_with fail
  refine (l9Coef_on g o 2 c 1 b _ (by omega) (by omega) zg e1).mono ?_
  rintro e w1 ⟨rfl, rfl⟩
  go_wp2_with fail
  refine (l18Bool_any q _).mono ?_
  rintro e w1 ⟨rfl, rfl⟩
  rw [HQ.out]
  go_wp2
  go_ret
  exact ⟨ret_int HO.out.symm, rfl⟩
set_option maxRecDepth 20000 in
set_option maxHeartbeats 4000000 in
theorem gives_8 (g o c : Nat) (a b d : Int) (w : World) (a0 : -1000000 ≤ a) (a1 : a ≤ 1000000) (b0 : -1000000 ≤ b) (b1 : b ≤ 1000000) (zg : g < w.heap.size) (e0 : w.cell? ⟨g, o + 0, none⟩ = some (.int .i64 a))   :
    Calls Try.prog 28 #[.int .i64 8, .slice (some ⟨g, o, none⟩) 1 c, .int .i64 0, .int .i64 0] w fun e w' => e = .returned (.int .i64 (gvV 8 a b d)) ∧ w' = w := by
  go_enter Try.func28, Try.ntmps28
  go_wp2_with fail
  refine (l9Coef_on g o 1 c 0 a _ (by omega) (by omega) zg e0).mono ?_
  rintro e w1 ⟨rfl, rfl⟩
  go_wp2_with fail
  refine (l9Coef_off _ 1 c 1 _ (by omega) (by omega)).mono ?_
  rintro e w1 ⟨rfl, rfl⟩
  go_wp2
  go_ret
  exact ⟨rfl, rfl⟩
set_option maxRecDepth 20000 in
set_option maxHeartbeats 4000000 in
theorem gives_9 (g o c : Nat) (a b d : Int) (w : World) (a0 : -1000000 ≤ a) (a1 : a ≤ 1000000) (b0 : -1000000 ≤ b) (b1 : b ≤ 1000000) (zg : g < w.heap.size) (e0 : w.cell? ⟨g, o + 0, none⟩ = some (.int .i64 a)) (e1 : w.cell? ⟨g, o + 1, none⟩ = some (.int .i64 b))  :
    Calls Try.prog 28 #[.int .i64 9, .slice (some ⟨g, o, none⟩) 2 c, .int .i64 0, .int .i64 0] w fun e w' => e = .returned (.int .i64 (gvV 9 a b d)) ∧ w' = w := by
  go_enter Try.func28, Try.ntmps28
  go_wp2_with fail
  refine (l9Coef_on g o 2 c 0 a _ (by omega) (by omega) zg e0).mono ?_
  rintro e w1 ⟨rfl, rfl⟩
  go_wp2_with fail
  refine (l9Coef_on g o 2 c 1 b _ (by omega) (by omega) zg e1).mono ?_
  rintro e w1 ⟨rfl, rfl⟩
  go_wp2_with fail
  refine (l18Clip_any _ _).mono ?_
  rintro e w1 ⟨rfl, rfl⟩
  go_wp2
  go_ret
  exact ⟨rfl, rfl⟩
set_option maxRecDepth 20000 in
set_option maxHeartbeats 4000000 in
theorem gives_10 (g o c : Nat) (a b d : Int) (w : World) (a0 : -1000000 ≤ a) (a1 : a ≤ 1000000) (b0 : -1000000 ≤ b) (b1 : b ≤ 1000000) (zg : g < w.heap.size) (e0 : w.cell? ⟨g, o + 0, none⟩ = some (.int .i64 a)) (e1 : w.cell? ⟨g, o + 1, none⟩ = some (.int .i64 b))  :
    Calls Try.prog 28 #[.int .i64 10, .slice (some ⟨g, o, none⟩) 2 c, .int .i64 0, .int .i64 0] w fun e w' => e = .returned (.int .i64 (gvV 10 a b d)) ∧ w' = w := by
  go_enter Try.func28, Try.ntmps28
  go_wp2_with fail
  refine (l9Coef_on g o 2 c 0 a _ (by omega) (by omega) zg e0).mono ?_
  rintro e w1 ⟨rfl, rfl⟩
  go_wp2_with fail
  refine (l9Coef_on g o 2 c 1 b _ (by omega) (by omega) zg e1).mono ?_
  rintro e w1 ⟨rfl, rfl⟩
  go_wp2_with fail
  refine (l18Clip_any _ _).mono ?_
  rintro e w1 ⟨rfl, rfl⟩
  go_wp2
  go_ret
  exact ⟨rfl, rfl⟩
set_option maxRecDepth 20000 in
set_option maxHeartbeats 4000000 in
theorem gives_11 (g o c : Nat) (a b d : Int) (w : World) (a0 : -1000000 ≤ a) (a1 : a ≤ 1000000) (b0 : -1000000 ≤ b) (b1 : b ≤ 1000000) (zg : g < w.heap.size) (e0 : w.cell? ⟨g, o + 0, none⟩ = some (.int .i64 a)) (e1 : w.cell? ⟨g, o + 1, none⟩ = some (.int .i64 b))  :
    Calls Try.prog 28 #[.int .i64 11, .slice (some ⟨g, o, none⟩) 2 c, .int .i64 0, .int .i64 0] w fun e w' => e = .returned (.int .i64 (gvV 11 a b d)) ∧ w' = w := by
  obtain ⟨q, hq⟩ : ∃ q, (if b < a then b else a) = q := ⟨_, rfl⟩
  have HO : Hid (gvV 11 a b d = q) := hq
  go_enter Try.func28, Try.ntmps28
  go_wp2_with fail
  refine (l9Coef_on g o 2 c 0 a _ (by omega) (by omega) zg e0).mono ?_
  rintro e w1 ⟨rfl, rfl⟩
  go_wp2_with fail
  refine (l9Coef_on g o 2 c 1 b _ (by omega) (by omega) zg e1).mono ?_
  rintro e w1 ⟨rfl, rfl⟩
  go_wp2
  go_ret
  exact ⟨ret_int HO.out.symm, rfl⟩
set_option maxRecDepth 20000 in
set_option maxHeartbeats 4000000 in
theorem gives_12 (g o c : Nat) (a b d : Int) (w : World) (a0 : -1000000 ≤ a) (a1 : a ≤ 1000000) (b0 : -1000000 ≤ b) (b1 : b ≤ 1000000) (zg : g < w.heap.size) (e0 : w.cell? ⟨g, o + 0, none⟩ = some (.int .i64 a)) (e1 : w.cell? ⟨g, o + 1, none⟩ = some (.int .i64 b))  :
    Calls Try.prog 28 #[.int .i64 12, .slice (some ⟨g, o, none⟩) 2 c, .int .i64 0, .int .i64 0] w fun e w' => e = .returned (.int .i64 (gvV 12 a b d)) ∧ w' = w := by
  obtain ⟨q, hq⟩ : ∃ q, (if a < b then b else a) = q := ⟨_, rfl⟩
  have HO : Hid (gvV 12 a b d = q) := hq
  go_enter Try.func28, Try.ntmps28
  go_wp2_with fail
  refine (l9Coef_on g o 2 c 0 a _ (by omega) (by omega) zg e0).mono ?_
  rintro e w1 ⟨rfl, rfl⟩
  go_wp2_with fail
  refine (l9Coef_on g o 2 c 1 b _ (by omega) (by omega) zg e1).mono ?_
  rintro e w1 ⟨rfl, rfl⟩
  go_wp2
  go_ret
  exact ⟨ret_int HO.out.symm, rfl⟩
set_option maxRecDepth 20000 in
set_option maxHeartbeats 4000000 in
theorem gives_13 (g o c : Nat) (a b d : Int) (w : World) (a0 : -1000000 ≤ a) (a1 : a ≤ 1000000) (b0 : -1000000 ≤ b) (b1 : b ≤ 1000000) (zg : g < w.heap.size) (e0 : w.cell? ⟨g, o + 0, none⟩ = some (.int .i64 a)) (e1 : w.cell? ⟨g, o + 1, none⟩ = some (.int .i64 b))  :
    Calls Try.prog 28 #[.int .i64 13, .slice (some ⟨g, o, none⟩) 2 c, .int .i64 0, .int .i64 0] w fun e w' => e = .returned (.int .i64 (gvV 13 a b d)) ∧ w' = w := by
  obtain ⟨q, hq⟩ : ∃ q, decide (b < a) = q := ⟨_, rfl⟩
  obtain ⟨r, hr⟩ : ∃ r, (if q = true then (1 : Int) else 0) = r := ⟨_, rfl⟩
  have HO : Hid (gvV 13 a b d = r) := by show _ = _; rw [← hr, ← hq]; rfl
  have HQ : Hid ((if q = true then (1 : Int) else 0) = r) := hr
  clear hr
  go_enter Try.func28, Try.ntmps28
  go_wp2_with fail
  refine (l9Coef_on g o 2 c 0 a _ (by omega) (by omega) zg e0).mono ?_
  rintro e w1 ⟨rfl, rfl⟩
  go_wp2_with fail
  refine (l9Coef_on g o 2 c 1 b _ (by omega) (by omega) zg e1).mono ?_
  rintro e w1 ⟨rfl, rfl⟩
  go_wp2_with fail
  refine (l18Bool_any q _).mono ?_
  rintro e w1 ⟨rfl, rfl⟩
  rw [HQ.out]
  go_wp2
  go_ret
  exact ⟨ret_int HO.out.symm, rfl⟩
set_option maxRecDepth 20000 in
set_option maxHeartbeats 4000000 in
theorem gives_14 (g o c : Nat) (a b d : Int) (w : World) (a0 : -1000000 ≤ a) (a1 : a ≤ 1000000) (b0 : -1000000 ≤ b) (b1 : b ≤ 1000000) (zg : g < w.heap.size) (e0 : w.cell? ⟨g, o + 0, none⟩ = some (.int .i64 a)) (e1 : w.cell? ⟨g, o + 1, none⟩ = some (.int .i64 b))  :
    Calls Try.prog 28 #[.int .i64 14, .slice (some ⟨g, o, none⟩) 2 c, .int .i64 0, .int .i64 0] w fun e w' => e = .returned (.int .i64 (gvV 14 a b d)) ∧ w' = w := by
  obtain ⟨q, hq⟩ : ∃ q, decide (b ≤ a) = q := ⟨_, rfl⟩
  obtain ⟨r, hr⟩ : ∃ r, (if q = true then (1 : Int) else 0) = r := ⟨_, rfl⟩
  have HO : Hid (gvV 14 a b d = r) := by show _ = _; rw [← hr, ← hq]; rfl
  have HQ : Hid ((if q = true then (1 : Int) else 0) = r) := hr
  clear hr
  go_enter Try.func28, Try.ntmps28
  go_wp2_with fail
  refine (l9Coef_on g o 2 c 0 a _ (by omega) (by omega) zg e0).mono ?_
  rintro e w1 ⟨rfl, rfl⟩
  go_wp2_with fail
  refine (l9Coef_on g o 2 c 1 b _ (by omega) (by omega) zg e1).mono ?_
  rintro e w1 ⟨rfl, rfl⟩
  go_wp2_with fail
  refine (l18Bool_any q _).mono ?_
  rintro e w1 ⟨rfl, rfl⟩
  rw [HQ.out]
  go_wp2
  go_ret
  exact ⟨ret_int HO.out.symm, rfl⟩
set_option maxRecDepth 20000 in
set_option maxHeartbeats 4000000 in
theorem gives_15 (g o c : Nat) (a b d : Int) (w : World) (a0 : -1000000 ≤ a) (a1 : a ≤ 1000000) (b0 : -1000000 ≤ b) (b1 : b ≤ 1000000) (zg : g < w.heap.size) (e0 : w.cell? ⟨g, o + 0, none⟩ = some (.int .i64 a)) (e1 : w.cell? ⟨g, o + 1, none⟩ = some (.int .i64 b))  :
    Calls Try.prog 28 #[.int .i64 15, .slice (some ⟨g, o, none⟩) 2 c, .int .i64 0, .int .i64 0] w fun e w' => e = .returned (.int .i64 (gvV 15 a b d)) ∧ w' = w := by
  obtain ⟨q, hq⟩ : ∃ q, (a == b) = q := ⟨_, rfl⟩
  obtain ⟨r, hr⟩ : ∃ r, (if q = true then (1 : Int) else 0) = r := ⟨_, rfl⟩
  have HO : Hid (gvV 15 a b d = r) := by show _ = _; rw [← hr, ← hq]; rfl
  have HQ : Hid ((if q = true then (1 : Int) else 0) = r) := hr
  clear hr
  go_enter Try.func28, Try.ntmps28
  go_wp2_with fail
  refine (l9Coef_on g o 2 c 0 a _ (by omega) (by omega) zg e0).mono ?_
  rintro e w1 ⟨rfl, rfl⟩
  go_wp2_with fail
  refine (l9Coef_on g o 2 c 1 b _ (by omega) (by omega) zg e1).mono ?_
  rintro e w1 ⟨rfl, rfl⟩
  go_wp2_with fail
  refine (l18Bool_any q _).mono ?_
  rintro e w1 ⟨rfl, rfl⟩
  rw [HQ.out]
  go_wp2
  go_ret
  exact ⟨ret_int HO.out.symm, rfl⟩
set_option maxRecDepth 20000 in
set_option maxHeartbeats 4000000 in
theorem gives_16 (g o c : Nat) (a b d : Int) (w : World) (a0 : -1000000 ≤ a) (a1 : a ≤ 1000000) (b0 : -1000000 ≤ b) (b1 : b ≤ 1000000) (zg : g < w.heap.size) (e0 : w.cell? ⟨g, o + 0, none⟩ = some (.int .i64 a)) (e1 : w.cell? ⟨g, o + 1, none⟩ = some (.int .i64 b)) (e2 : w.cell? ⟨g, o + 2, none⟩ = some (.int .i64 d)) :
    Calls Try.prog 28 #[.int .i64 16, .slice (some ⟨g, o, none⟩) 3 c, .int .i64 0, .int .i64 0] w fun e w' => e = .returned (.int .i64 (gvV 16 a b d)) ∧ w' = w := by
  by_cases qa : a = 1
  · subst qa
    go_enter Try.func28, Try.ntmps28
    go_wp2_with fail
    refine (l9Coef_on g o 3 c 0 1 _ (by omega) (by omega) zg e0).mono ?_
    rintro e w1 ⟨rfl, rfl⟩
    go_wp2_with fail
    refine (l9Coef_on g o 3 c 1 b _ (by omega) (by omega) zg e1).mono ?_
    rintro e w1 ⟨rfl, rfl⟩
    go_wp2
    go_ret
    exact ⟨rfl, rfl⟩
  have HO : Hid (gvV 16 a b d = d) := if_neg qa
  have qb : (a == 1) = false := by simpa using qa
  clear qa
  go_enter Try.func28, Try.ntmps28
  go_wp2_with fail
  refine (l9Coef_on g o 3 c 0 a _ (by omega) (by omega) zg e0).mono ?_
  rintro e w1 ⟨rfl, rfl⟩
  go_wp2_with fail
  refine (l9Coef_on g o 3 c 1 b _ (by omega) (by omega) zg e1).mono ?_
  rintro e w1 ⟨rfl, rfl⟩
  go_wp2
  go_ret
  exact ⟨ret_int HO.out.symm, rfl⟩
end Go.Proofs.Ytdidgbibbkhnhaa
