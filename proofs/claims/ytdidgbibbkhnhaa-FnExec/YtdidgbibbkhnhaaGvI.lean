/-
What is proved: what each work gives, as the program tells it.
-/
import Derived.Test.YtdidgbibbkhnhaaGv
namespace Go.Proofs.Ytdidgbibbkhnhaa
set_option maxRecDepth 40000
open Go.RowKit
set_option linter.unusedVariables false
set_option linter.unusedSimpArgs false

set_option maxHeartbeats 400000 in
theorem oneWhen_any (b : Bool) (w : World) : Calls Try.prog 83 #[.bool b] w fun e w' => e = .returned (.int .i64 (if b = true then 1 else 0)) ∧ w' = w := by
  cases b
  all_goals
    go_enter Try.func83, Try.ntmps83
    go_wp2
    go_ret
    exact ⟨rfl, rfl⟩
set_option maxRecDepth 20000 in
set_option maxHeartbeats 4000000 in
theorem work_5 (g o c : Nat) (a b d : Int) (w : World) (a0 : -1000000 ≤ a) (a1 : a ≤ 1000000) (b0 : -1000000 ≤ b) (b1 : b ≤ 1000000) (zg : g < w.heap.size) (e0 : w.cell? ⟨g, o, none⟩ = some (.int .i64 a)) (e1 : w.cell? ⟨g, o + 1, none⟩ = some (.int .i64 b))  :
    Calls Try.prog 80 #[.agg #[], .slice (some ⟨g, o, none⟩) 2 c] w fun e w' => e = .returned (.int .i64 (gvV 5 a b d)) ∧ Below w.heap.size w w' := by
  have hw := mul_wrap a0 a1 b0 b1
  go_enter Try.func80, Try.ntmps80
  go_upto_region 1 with fail
  go_quiet (fail)
  go_wp2
  go_ret
  exact ⟨rfl, (by repeat (first | with_reducible exact Below.refl _ _ | with_reducible refine Below.setCell ?_ (by first | omega | (simp; done) | (simp; omega)) _ | with_reducible refine bDrewN ?_ _ | with_reducible refine Below.drew ?_ | with_reducible refine Below.alloc ?_ (by first | omega | (simp; done) | (simp; omega)) _))⟩
set_option maxRecDepth 20000 in
set_option maxHeartbeats 4000000 in
theorem work_6 (g o c : Nat) (a b d : Int) (w : World) (a0 : -1000000 ≤ a) (a1 : a ≤ 1000000) (b0 : -1000000 ≤ b) (b1 : b ≤ 1000000) (zg : g < w.heap.size) (e0 : w.cell? ⟨g, o, none⟩ = some (.int .i64 a)) (e1 : w.cell? ⟨g, o + 1, none⟩ = some (.int .i64 b))  :
    Calls Try.prog 81 #[.agg #[], .slice (some ⟨g, o, none⟩) 2 c] w fun e w' => e = .returned (.int .i64 (gvV 6 a b d)) ∧ Below w.heap.size w w' := by
  obtain ⟨q, hq⟩ : ∃ q, (if a < b then b else a) = q := ⟨_, rfl⟩
  have HO : Hid (gvV 6 a b d = q) := hq
  go_enter Try.func81, Try.ntmps81
  go_upto_region 1 with fail
  go_quiet (fail)
  go_wp2
  go_ret
  exact ⟨ret_int HO.out.symm, (by repeat (first | with_reducible exact Below.refl _ _ | with_reducible refine Below.setCell ?_ (by first | omega | (simp; done) | (simp; omega)) _ | with_reducible refine bDrewN ?_ _ | with_reducible refine Below.drew ?_ | with_reducible refine Below.alloc ?_ (by first | omega | (simp; done) | (simp; omega)) _))⟩
set_option maxRecDepth 20000 in
set_option maxHeartbeats 4000000 in
theorem work_7 (g o c : Nat) (a b d : Int) (w : World) (a0 : -1000000 ≤ a) (a1 : a ≤ 1000000) (b0 : -1000000 ≤ b) (b1 : b ≤ 1000000) (zg : g < w.heap.size) (e0 : w.cell? ⟨g, o, none⟩ = some (.int .i64 a)) (e1 : w.cell? ⟨g, o + 1, none⟩ = some (.int .i64 b))  :
    Calls Try.prog 82 #[.agg #[], .slice (some ⟨g, o, none⟩) 2 c] w fun e w' => e = .returned (.int .i64 (gvV 7 a b d)) ∧ Below w.heap.size w w' := by
  obtain ⟨q, hq⟩ : ∃ q, (a != b) = q := ⟨_, rfl⟩
  obtain ⟨r, hr⟩ : ∃ r, (if q = true then (1 : Int) else 0) = r := ⟨_, rfl⟩
  have HO : Hid (gvV 7 a b d = r) := by show _ = _; rw [← hr, ← hq]; rfl
  have HQ : Hid ((if q = true then (1 : Int) else 0) = r) := hr
  clear hr
  have HB : ∀ w, Calls Try.prog 83 #[.bool q] w fun e w' => e = .returned (.int .i64 r) ∧ w' = w := fun w => HQ.out ▸ oneWhen_any q w
  go_enter Try.func82, Try.ntmps82
  go_upto_region 1 with fail
  go_quiet (first | (go_at_call 83; refine Calls.quiet_of_same (HB _)))
  go_wp2
  go_ret
  exact ⟨ret_int HO.out.symm, (by repeat (first | with_reducible exact Below.refl _ _ | with_reducible refine Below.setCell ?_ (by first | omega | (simp; done) | (simp; omega)) _ | with_reducible refine bDrewN ?_ _ | with_reducible refine Below.drew ?_ | with_reducible refine Below.alloc ?_ (by first | omega | (simp; done) | (simp; omega)) _))⟩
set_option maxRecDepth 20000 in
set_option maxHeartbeats 4000000 in
theorem work_8 (g o c : Nat) (a b d : Int) (w : World) (a0 : -1000000 ≤ a) (a1 : a ≤ 1000000) (b0 : -1000000 ≤ b) (b1 : b ≤ 1000000) (zg : g < w.heap.size) (e0 : w.cell? ⟨g, o, none⟩ = some (.int .i64 a))   :
    Calls Try.prog 84 #[.agg #[], .slice (some ⟨g, o, none⟩) 1 c] w fun e w' => e = .returned (.int .i64 (gvV 8 a b d)) ∧ Below w.heap.size w w' := by
  go_enter Try.func84, Try.ntmps84
  go_wp2
  go_ret
  exact ⟨rfl, (by repeat (first | with_reducible exact Below.refl _ _ | with_reducible refine Below.setCell ?_ (by first | omega | (simp; done) | (simp; omega)) _ | with_reducible refine bDrewN ?_ _ | with_reducible refine Below.drew ?_ | with_reducible refine Below.alloc ?_ (by first | omega | (simp; done) | (simp; omega)) _))⟩
set_option maxRecDepth 20000 in
set_option maxHeartbeats 4000000 in
theorem work_9 (g o c : Nat) (a b d : Int) (w : World) (a0 : -1000000 ≤ a) (a1 : a ≤ 1000000) (b0 : -1000000 ≤ b) (b1 : b ≤ 1000000) (zg : g < w.heap.size) (e0 : w.cell? ⟨g, o, none⟩ = some (.int .i64 a)) (e1 : w.cell? ⟨g, o + 1, none⟩ = some (.int .i64 b))  :
    Calls Try.prog 85 #[.agg #[], .slice (some ⟨g, o, none⟩) 2 c] w fun e w' => e = .returned (.int .i64 (gvV 9 a b d)) ∧ Below w.heap.size w w' := by
  have hs : IntKind.i64.wrap (a + b) = a + b := wrap_gv (by omega) (by omega)
  have HB : ∀ w, Calls Try.prog 62 #[.int .i64 (a + b), .int .i64 (-1000000), .int .i64 1000000] w fun e w' => e = .returned (.int .i64 (clipV (a + b))) ∧ w' = w := fun w => bounded_any _ _ _ w
  go_enter Try.func85, Try.ntmps85
  go_upto_region 1 with fail
  go_quiet (first | (go_at_call 62; refine Calls.quiet_of_same (HB _)))
  go_wp2
  go_ret
  exact ⟨rfl, (by repeat (first | with_reducible exact Below.refl _ _ | with_reducible refine Below.setCell ?_ (by first | omega | (simp; done) | (simp; omega)) _ | with_reducible refine bDrewN ?_ _ | with_reducible refine Below.drew ?_ | with_reducible refine Below.alloc ?_ (by first | omega | (simp; done) | (simp; omega)) _))⟩
set_option maxRecDepth 20000 in
set_option maxHeartbeats 4000000 in
theorem work_10 (g o c : Nat) (a b d : Int) (w : World) (a0 : -1000000 ≤ a) (a1 : a ≤ 1000000) (b0 : -1000000 ≤ b) (b1 : b ≤ 1000000) (zg : g < w.heap.size) (e0 : w.cell? ⟨g, o, none⟩ = some (.int .i64 a)) (e1 : w.cell? ⟨g, o + 1, none⟩ = some (.int .i64 b))  :
    Calls Try.prog 86 #[.agg #[], .slice (some ⟨g, o, none⟩) 2 c] w fun e w' => e = .returned (.int .i64 (gvV 10 a b d)) ∧ Below w.heap.size w w' := by
  have hs : IntKind.i64.wrap (a - b) = a - b := wrap_gv (by omega) (by omega)
  have HB : ∀ w, Calls Try.prog 62 #[.int .i64 (a - b), .int .i64 (-1000000), .int .i64 1000000] w fun e w' => e = .returned (.int .i64 (clipV (a - b))) ∧ w' = w := fun w => bounded_any _ _ _ w
  go_enter Try.func86, Try.ntmps86
  go_upto_region 1 with fail
  go_quiet (first | (go_at_call 62; refine Calls.quiet_of_same (HB _)))
  go_wp2
  go_ret
  exact ⟨rfl, (by repeat (first | with_reducible exact Below.refl _ _ | with_reducible refine Below.setCell ?_ (by first | omega | (simp; done) | (simp; omega)) _ | with_reducible refine bDrewN ?_ _ | with_reducible refine Below.drew ?_ | with_reducible refine Below.alloc ?_ (by first | omega | (simp; done) | (simp; omega)) _))⟩
set_option maxRecDepth 20000 in
set_option maxHeartbeats 4000000 in
theorem work_11 (g o c : Nat) (a b d : Int) (w : World) (a0 : -1000000 ≤ a) (a1 : a ≤ 1000000) (b0 : -1000000 ≤ b) (b1 : b ≤ 1000000) (zg : g < w.heap.size) (e0 : w.cell? ⟨g, o, none⟩ = some (.int .i64 a)) (e1 : w.cell? ⟨g, o + 1, none⟩ = some (.int .i64 b))  :
    Calls Try.prog 87 #[.agg #[], .slice (some ⟨g, o, none⟩) 2 c] w fun e w' => e = .returned (.int .i64 (gvV 11 a b d)) ∧ Below w.heap.size w w' := by
  obtain ⟨q, hq⟩ : ∃ q, (if b < a then b else a) = q := ⟨_, rfl⟩
  have HO : Hid (gvV 11 a b d = q) := hq
  go_enter Try.func87, Try.ntmps87
  go_upto_region 1 with fail
  go_quiet (fail)
  go_wp2
  go_ret
  exact ⟨ret_int HO.out.symm, (by repeat (first | with_reducible exact Below.refl _ _ | with_reducible refine Below.setCell ?_ (by first | omega | (simp; done) | (simp; omega)) _ | with_reducible refine bDrewN ?_ _ | with_reducible refine Below.drew ?_ | with_reducible refine Below.alloc ?_ (by first | omega | (simp; done) | (simp; omega)) _))⟩
set_option maxRecDepth 20000 in
set_option maxHeartbeats 4000000 in
theorem work_12 (g o c : Nat) (a b d : Int) (w : World) (a0 : -1000000 ≤ a) (a1 : a ≤ 1000000) (b0 : -1000000 ≤ b) (b1 : b ≤ 1000000) (zg : g < w.heap.size) (e0 : w.cell? ⟨g, o, none⟩ = some (.int .i64 a)) (e1 : w.cell? ⟨g, o + 1, none⟩ = some (.int .i64 b))  :
    Calls Try.prog 81 #[.agg #[], .slice (some ⟨g, o, none⟩) 2 c] w fun e w' => e = .returned (.int .i64 (gvV 12 a b d)) ∧ Below w.heap.size w w' := by
  obtain ⟨q, hq⟩ : ∃ q, (if a < b then b else a) = q := ⟨_, rfl⟩
  have HO : Hid (gvV 12 a b d = q) := hq
  go_enter Try.func81, Try.ntmps81
  go_upto_region 1 with fail
  go_quiet (fail)
  go_wp2
  go_ret
  exact ⟨ret_int HO.out.symm, (by repeat (first | with_reducible exact Below.refl _ _ | with_reducible refine Below.setCell ?_ (by first | omega | (simp; done) | (simp; omega)) _ | with_reducible refine bDrewN ?_ _ | with_reducible refine Below.drew ?_ | with_reducible refine Below.alloc ?_ (by first | omega | (simp; done) | (simp; omega)) _))⟩
set_option maxRecDepth 20000 in
set_option maxHeartbeats 4000000 in
theorem work_13 (g o c : Nat) (a b d : Int) (w : World) (a0 : -1000000 ≤ a) (a1 : a ≤ 1000000) (b0 : -1000000 ≤ b) (b1 : b ≤ 1000000) (zg : g < w.heap.size) (e0 : w.cell? ⟨g, o, none⟩ = some (.int .i64 a)) (e1 : w.cell? ⟨g, o + 1, none⟩ = some (.int .i64 b))  :
    Calls Try.prog 88 #[.agg #[], .slice (some ⟨g, o, none⟩) 2 c] w fun e w' => e = .returned (.int .i64 (gvV 13 a b d)) ∧ Below w.heap.size w w' := by
  obtain ⟨q, hq⟩ : ∃ q, decide (b < a) = q := ⟨_, rfl⟩
  obtain ⟨r, hr⟩ : ∃ r, (if q = true then (1 : Int) else 0) = r := ⟨_, rfl⟩
  have HO : Hid (gvV 13 a b d = r) := by show _ = _; rw [← hr, ← hq]; rfl
  have HQ : Hid ((if q = true then (1 : Int) else 0) = r) := hr
  clear hr
  have HB : ∀ w, Calls Try.prog 83 #[.bool q] w fun e w' => e = .returned (.int .i64 r) ∧ w' = w := fun w => HQ.out ▸ oneWhen_any q w
  go_enter Try.func88, Try.ntmps88
  go_upto_region 1 with fail
  go_quiet (first | (go_at_call 83; refine Calls.quiet_of_same (HB _)))
  go_wp2
  go_ret
  exact ⟨ret_int HO.out.symm, (by repeat (first | with_reducible exact Below.refl _ _ | with_reducible refine Below.setCell ?_ (by first | omega | (simp; done) | (simp; omega)) _ | with_reducible refine bDrewN ?_ _ | with_reducible refine Below.drew ?_ | with_reducible refine Below.alloc ?_ (by first | omega | (simp; done) | (simp; omega)) _))⟩
set_option maxRecDepth 20000 in
set_option maxHeartbeats 4000000 in
theorem work_14 (g o c : Nat) (a b d : Int) (w : World) (a0 : -1000000 ≤ a) (a1 : a ≤ 1000000) (b0 : -1000000 ≤ b) (b1 : b ≤ 1000000) (zg : g < w.heap.size) (e0 : w.cell? ⟨g, o, none⟩ = some (.int .i64 a)) (e1 : w.cell? ⟨g, o + 1, none⟩ = some (.int .i64 b))  :
    Calls Try.prog 89 #[.agg #[], .slice (some ⟨g, o, none⟩) 2 c] w fun e w' => e = .returned (.int .i64 (gvV 14 a b d)) ∧ Below w.heap.size w w' := by
  obtain ⟨q, hq⟩ : ∃ q, decide (b ≤ a) = q := ⟨_, rfl⟩
  obtain ⟨r, hr⟩ : ∃ r, (if q = true then (1 : Int) else 0) = r := ⟨_, rfl⟩
  have HO : Hid (gvV 14 a b d = r) := by show _ = _; rw [← hr, ← hq]; rfl
  have HQ : Hid ((if q = true then (1 : Int) else 0) = r) := hr
  clear hr
  have HB : ∀ w, Calls Try.prog 83 #[.bool q] w fun e w' => e = .returned (.int .i64 r) ∧ w' = w := fun w => HQ.out ▸ oneWhen_any q w
  go_enter Try.func89, Try.ntmps89
  go_upto_region 1 with fail
  go_quiet (first | (go_at_call 83; refine Calls.quiet_of_same (HB _)))
  go_wp2
  go_ret
  exact ⟨ret_int HO.out.symm, (by repeat (first | with_reducible exact Below.refl _ _ | with_reducible refine Below.setCell ?_ (by first | omega | (simp; done) | (simp; omega)) _ | with_reducible refine bDrewN ?_ _ | with_reducible refine Below.drew ?_ | with_reducible refine Below.alloc ?_ (by first | omega | (simp; done) | (simp; omega)) _))⟩
set_option maxRecDepth 20000 in
set_option maxHeartbeats 4000000 in
theorem work_15 (g o c : Nat) (a b d : Int) (w : World) (a0 : -1000000 ≤ a) (a1 : a ≤ 1000000) (b0 : -1000000 ≤ b) (b1 : b ≤ 1000000) (zg : g < w.heap.size) (e0 : w.cell? ⟨g, o, none⟩ = some (.int .i64 a)) (e1 : w.cell? ⟨g, o + 1, none⟩ = some (.int .i64 b))  :
    Calls Try.prog 90 #[.agg #[], .slice (some ⟨g, o, none⟩) 2 c] w fun e w' => e = .returned (.int .i64 (gvV 15 a b d)) ∧ Below w.heap.size w w' := by
  obtain ⟨q, hq⟩ : ∃ q, (a == b) = q := ⟨_, rfl⟩
  obtain ⟨r, hr⟩ : ∃ r, (if q = true then (1 : Int) else 0) = r := ⟨_, rfl⟩
  have HO : Hid (gvV 15 a b d = r) := by show _ = _; rw [← hr, ← hq]; rfl
  have HQ : Hid ((if q = true then (1 : Int) else 0) = r) := hr
  clear hr
  have HB : ∀ w, Calls Try.prog 83 #[.bool q] w fun e w' => e = .returned (.int .i64 r) ∧ w' = w := fun w => HQ.out ▸ oneWhen_any q w
  go_enter Try.func90, Try.ntmps90
  go_upto_region 1 with fail
  go_quiet (first | (go_at_call 83; refine Calls.quiet_of_same (HB _)))
  go_wp2
  go_ret
  exact ⟨ret_int HO.out.symm, (by repeat (first | with_reducible exact Below.refl _ _ | with_reducible refine Below.setCell ?_ (by first | omega | (simp; done) | (simp; omega)) _ | with_reducible refine bDrewN ?_ _ | with_reducible refine Below.drew ?_ | with_reducible refine Below.alloc ?_ (by first | omega | (simp; done) | (simp; omega)) _))⟩
set_option maxRecDepth 20000 in
set_option maxHeartbeats 4000000 in
theorem work_16 (g o c : Nat) (a b d : Int) (w : World) (a0 : -1000000 ≤ a) (a1 : a ≤ 1000000) (b0 : -1000000 ≤ b) (b1 : b ≤ 1000000) (zg : g < w.heap.size) (e0 : w.cell? ⟨g, o, none⟩ = some (.int .i64 a)) (e1 : w.cell? ⟨g, o + 1, none⟩ = some (.int .i64 b)) (e2 : w.cell? ⟨g, o + 2, none⟩ = some (.int .i64 d)) :
    Calls Try.prog 91 #[.agg #[], .slice (some ⟨g, o, none⟩) 3 c] w fun e w' => e = .returned (.int .i64 (gvV 16 a b d)) ∧ Below w.heap.size w w' := by
  by_cases qa : a = 1
  · subst qa
    go_enter Try.func91, Try.ntmps91
    go_wp2
    go_ret
    exact ⟨rfl, (by repeat (first | with_reducible exact Below.refl _ _ | with_reducible refine Below.setCell ?_ (by first | omega | (simp; done) | (simp; omega)) _ | with_reducible refine bDrewN ?_ _ | with_reducible refine Below.drew ?_ | with_reducible refine Below.alloc ?_ (by first | omega | (simp; done) | (simp; omega)) _))⟩
  have HO : Hid (gvV 16 a b d = d) := if_neg qa
  have qb : (a == 1) = false := by simpa using qa
  clear qa
  go_enter Try.func91, Try.ntmps91
  go_wp2
  go_ret
  exact ⟨ret_int HO.out.symm, (by repeat (first | with_reducible exact Below.refl _ _ | with_reducible refine Below.setCell ?_ (by first | omega | (simp; done) | (simp; omega)) _ | with_reducible refine bDrewN ?_ _ | with_reducible refine Below.drew ?_ | with_reducible refine Below.alloc ?_ (by first | omega | (simp; done) | (simp; omega)) _))⟩
end Go.Proofs.Ytdidgbibbkhnhaa
