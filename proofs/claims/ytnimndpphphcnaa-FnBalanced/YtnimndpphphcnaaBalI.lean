/-
What is proved: the program's balance of a gas.
-/
import Derived.Test.YtnimndpphphcnaaBalS
namespace Go.Proofs.Ytnimndpphphcnaa
set_option maxRecDepth 40000
open Go.RowKit
set_option linter.unusedVariables false

set_option maxHeartbeats 400000 in
theorem gasRight_0 (a b c d : Int) (w : World)  (A : Hid (∀ w, Calls Try.prog 34 #[.int .i64 a, .int .i64 0, .int .i64 10000] w fun r w' => r = .returned (.bool false) ∧ w' = w)) :
    Calls Try.prog 32 #[.agg #[.int .i64 a, .int .i64 b, .int .i64 c, .int .i64 d]] w fun r w' => r = .returned (.bool false) ∧ Below w.heap.size w w' := by
  go_enter Try.func32, Try.ntmps32
  go_wp2_with fail
  refine (A.out _).mono ?_
  rintro r w1 ⟨rfl, rfl⟩
  go_wp2
  go_ret
  exact ⟨rfl, (by repeat (first | with_reducible exact Below.refl _ _ | with_reducible refine Below.setCell ?_ (by first | omega | (simp; done) | (simp; omega)) _ | with_reducible refine bDrewN ?_ _ | with_reducible refine Below.drew ?_ | with_reducible refine Below.alloc ?_ (by first | omega | (simp; done) | (simp; omega)) _))⟩
set_option maxHeartbeats 400000 in
theorem gasRight_1 (a b c d : Int) (w : World) (A : Hid (∀ w, Calls Try.prog 34 #[.int .i64 a, .int .i64 0, .int .i64 10000] w fun r w' => r = .returned (.bool true) ∧ w' = w)) (B : Hid (∀ w, Calls Try.prog 34 #[.int .i64 b, .int .i64 0, .int .i64 10000] w fun r w' => r = .returned (.bool false) ∧ w' = w)) :
    Calls Try.prog 32 #[.agg #[.int .i64 a, .int .i64 b, .int .i64 c, .int .i64 d]] w fun r w' => r = .returned (.bool false) ∧ Below w.heap.size w w' := by
  go_enter Try.func32, Try.ntmps32
  go_wp2_with fail
  refine (A.out _).mono ?_
  rintro r w1 ⟨rfl, rfl⟩
  go_wp2_with fail
  refine (B.out _).mono ?_
  rintro r w1 ⟨rfl, rfl⟩
  go_wp2
  go_ret
  exact ⟨rfl, (by repeat (first | with_reducible exact Below.refl _ _ | with_reducible refine Below.setCell ?_ (by first | omega | (simp; done) | (simp; omega)) _ | with_reducible refine bDrewN ?_ _ | with_reducible refine Below.drew ?_ | with_reducible refine Below.alloc ?_ (by first | omega | (simp; done) | (simp; omega)) _))⟩
set_option maxHeartbeats 400000 in
theorem gasRight_2 (a b c d : Int) (w : World) (A : Hid (∀ w, Calls Try.prog 34 #[.int .i64 a, .int .i64 0, .int .i64 10000] w fun r w' => r = .returned (.bool true) ∧ w' = w)) (B : Hid (∀ w, Calls Try.prog 34 #[.int .i64 b, .int .i64 0, .int .i64 10000] w fun r w' => r = .returned (.bool true) ∧ w' = w)) (C : Hid (∀ w, Calls Try.prog 34 #[.int .i64 c, .int .i64 0, .int .i64 10000] w fun r w' => r = .returned (.bool false) ∧ w' = w)) :
    Calls Try.prog 32 #[.agg #[.int .i64 a, .int .i64 b, .int .i64 c, .int .i64 d]] w fun r w' => r = .returned (.bool false) ∧ Below w.heap.size w w' := by
  go_enter Try.func32, Try.ntmps32
  go_wp2_with fail
  refine (A.out _).mono ?_
  rintro r w1 ⟨rfl, rfl⟩
  go_wp2_with fail
  refine (B.out _).mono ?_
  rintro r w1 ⟨rfl, rfl⟩
  go_wp2_with fail
  refine (C.out _).mono ?_
  rintro r w1 ⟨rfl, rfl⟩
  go_wp2
  go_ret
  exact ⟨rfl, (by repeat (first | with_reducible exact Below.refl _ _ | with_reducible refine Below.setCell ?_ (by first | omega | (simp; done) | (simp; omega)) _ | with_reducible refine bDrewN ?_ _ | with_reducible refine Below.drew ?_ | with_reducible refine Below.alloc ?_ (by first | omega | (simp; done) | (simp; omega)) _))⟩
set_option maxHeartbeats 400000 in
theorem gasRight_3 (a b c d : Int) (w : World) (A : Hid (∀ w, Calls Try.prog 34 #[.int .i64 a, .int .i64 0, .int .i64 10000] w fun r w' => r = .returned (.bool true) ∧ w' = w)) (B : Hid (∀ w, Calls Try.prog 34 #[.int .i64 b, .int .i64 0, .int .i64 10000] w fun r w' => r = .returned (.bool true) ∧ w' = w)) (C : Hid (∀ w, Calls Try.prog 34 #[.int .i64 c, .int .i64 0, .int .i64 10000] w fun r w' => r = .returned (.bool true) ∧ w' = w)) (D : Hid (∀ w, Calls Try.prog 34 #[.int .i64 d, .int .i64 0, .int .i64 10000] w fun r w' => r = .returned (.bool false) ∧ w' = w)) :
    Calls Try.prog 32 #[.agg #[.int .i64 a, .int .i64 b, .int .i64 c, .int .i64 d]] w fun r w' => r = .returned (.bool false) ∧ Below w.heap.size w w' := by
  go_enter Try.func32, Try.ntmps32
  go_wp2_with fail
  refine (A.out _).mono ?_
  rintro r w1 ⟨rfl, rfl⟩
  go_wp2_with fail
  refine (B.out _).mono ?_
  rintro r w1 ⟨rfl, rfl⟩
  go_wp2_with fail
  refine (C.out _).mono ?_
  rintro r w1 ⟨rfl, rfl⟩
  go_wp2_with fail
  refine (D.out _).mono ?_
  rintro r w1 ⟨rfl, rfl⟩
  go_wp2
  go_ret
  exact ⟨rfl, (by repeat (first | with_reducible exact Below.refl _ _ | with_reducible refine Below.setCell ?_ (by first | omega | (simp; done) | (simp; omega)) _ | with_reducible refine bDrewN ?_ _ | with_reducible refine Below.drew ?_ | with_reducible refine Below.alloc ?_ (by first | omega | (simp; done) | (simp; omega)) _))⟩
set_option maxHeartbeats 400000 in
theorem gasRight_4 (a b c d : Int) (w : World) (A : Hid (∀ w, Calls Try.prog 34 #[.int .i64 a, .int .i64 0, .int .i64 10000] w fun r w' => r = .returned (.bool true) ∧ w' = w)) (B : Hid (∀ w, Calls Try.prog 34 #[.int .i64 b, .int .i64 0, .int .i64 10000] w fun r w' => r = .returned (.bool true) ∧ w' = w)) (C : Hid (∀ w, Calls Try.prog 34 #[.int .i64 c, .int .i64 0, .int .i64 10000] w fun r w' => r = .returned (.bool true) ∧ w' = w)) (D : Hid (∀ w, Calls Try.prog 34 #[.int .i64 d, .int .i64 0, .int .i64 10000] w fun r w' => r = .returned (.bool true) ∧ w' = w)) :
    Calls Try.prog 32 #[.agg #[.int .i64 a, .int .i64 b, .int .i64 c, .int .i64 d]] w fun r w' => r = .returned (.bool true) ∧ Below w.heap.size w w' := by
  go_enter Try.func32, Try.ntmps32
  go_wp2_with fail
  refine (A.out _).mono ?_
  rintro r w1 ⟨rfl, rfl⟩
  go_wp2_with fail
  refine (B.out _).mono ?_
  rintro r w1 ⟨rfl, rfl⟩
  go_wp2_with fail
  refine (C.out _).mono ?_
  rintro r w1 ⟨rfl, rfl⟩
  go_wp2_with fail
  refine (D.out _).mono ?_
  rintro r w1 ⟨rfl, rfl⟩
  go_wp2
  go_ret
  exact ⟨rfl, (by repeat (first | with_reducible exact Below.refl _ _ | with_reducible refine Below.setCell ?_ (by first | omega | (simp; done) | (simp; omega)) _ | with_reducible refine bDrewN ?_ _ | with_reducible refine Below.drew ?_ | with_reducible refine Below.alloc ?_ (by first | omega | (simp; done) | (simp; omega)) _))⟩
theorem gasRight_any (a b c d : Int) (w : World) : Calls Try.prog 32 #[.agg #[.int .i64 a, .int .i64 b, .int .i64 c, .int .i64 d]] w fun r w' => r = .returned (.bool (decide (inG a ∧ inG b ∧ inG c ∧ inG d))) ∧ Below w.heap.size w w' := by
  have Y : ∀ x, inG x → ∀ w, Calls Try.prog 34 #[.int .i64 x, .int .i64 0, .int .i64 10000] w fun r w' => r = .returned (.bool true) ∧ w' = w := fun x h w => within_yes x 0 10000 w h.1 h.2
  have N : ∀ x, ¬ inG x → ∀ w, Calls Try.prog 34 #[.int .i64 x, .int .i64 0, .int .i64 10000] w fun r w' => r = .returned (.bool false) ∧ w' = w := fun x h w => within_no x 0 10000 w (by unfold inG at h; omega)
  by_cases ca : inG a
  · by_cases cb : inG b
    · by_cases cc : inG c
      · by_cases cd : inG d
        · rw [decide_eq_true ⟨ca, cb, cc, cd⟩]; exact gasRight_4 a b c d w (Y a ca) (Y b cb) (Y c cc) (Y d cd)
        · rw [decide_eq_false fun g => cd g.2.2.2]; exact gasRight_3 a b c d w (Y a ca) (Y b cb) (Y c cc) (N d cd)
      · rw [decide_eq_false fun g => cc g.2.2.1]; exact gasRight_2 a b c d w (Y a ca) (Y b cb) (N c cc)
    · rw [decide_eq_false fun g => cb g.2.1]; exact gasRight_1 a b c d w (Y a ca) (N b cb)
  · rw [decide_eq_false fun g => ca g.1]; exact gasRight_0 a b c d w (N a ca)
set_option maxHeartbeats 400000 in
theorem moved_any (a b c d x : Int) (w : World) (ha : 0 ≤ a) (ha' : a ≤ 10000) (hb : 0 ≤ b) (hb' : b ≤ 10000) (hc : 0 ≤ c) (hc' : c ≤ 10000) (hd : 0 ≤ d) (hd' : d ≤ 10000) (hx : -10000 ≤ x) (hx' : x ≤ 10000) :
    Calls Try.prog 35 #[.agg #[.int .i64 a, .int .i64 b, .int .i64 c, .int .i64 d], .int .i64 x] w fun r w' => r = .returned (.agg #[.int .i64 (a - x), .int .i64 (b - x), .int .i64 (c + x), .int .i64 (d + x)]) ∧ Below w.heap.size w w' := by
  go_enter Try.func35, Try.ntmps35
  go_wp2
  exact bodyPost_ret (v := .agg #[.int .i64 (a - x), .int .i64 (b - x), .int .i64 (c + x), .int .i64 (d + x)]) (by simp [results, Try.results35, go_sem]) rfl ⟨rfl, (by repeat (first | with_reducible exact Below.refl _ _ | with_reducible refine Below.setCell ?_ (by first | omega | (simp; done) | (simp; omega)) _ | with_reducible refine bDrewN ?_ _ | with_reducible refine Below.drew ?_ | with_reducible refine Below.alloc ?_ (by first | omega | (simp; done) | (simp; omega)) _))⟩
set_option maxHeartbeats 400000 in
theorem surplus_any (p q r s n e : Int) (w : World) (p1 : 0 ≤ n * p) (p1' : n * p ≤ 20000000) (p2 : 0 ≤ n * p * q) (p2' : n * p * q ≤ 400000000000) (p3 : 0 ≤ r * s) (p3' : r * s ≤ 400000000) (p4 : 0 ≤ r * s * e) (p4' : r * s * e ≤ 400000000000) :
    Calls Try.prog 36 #[.agg #[.int .i64 p, .int .i64 q, .int .i64 r, .int .i64 s], .agg #[.int .i64 n, .int .i64 e]] w fun r' w' => r' = .returned (.int .i64 (n * p * q - r * s * e)) ∧ Below w.heap.size w w' := by
  go_enter Try.func36, Try.ntmps36
  go_wp2
  go_ret
  exact ⟨rfl, (by repeat (first | with_reducible exact Below.refl _ _ | with_reducible refine Below.setCell ?_ (by first | omega | (simp; done) | (simp; omega)) _ | with_reducible refine bDrewN ?_ _ | with_reducible refine Below.drew ?_ | with_reducible refine Below.alloc ?_ (by first | omega | (simp; done) | (simp; omega)) _))⟩

set_option maxHeartbeats 2000000 in
theorem implBal_yes (a b c d n e X lo hi : Int) (w : World) (ha : 0 ≤ a) (ha' : a ≤ 10000) (hb : 0 ≤ b) (hb' : b ≤ 10000) (hc : 0 ≤ c) (hc' : c ≤ 10000) (hd : 0 ≤ d) (hd' : d ≤ 10000) (hn : 1 ≤ n) (hn' : n ≤ 1000) (he : 1 ≤ e) (he' : e ≤ 1000)
    (R : Hid (∀ w, Calls Try.prog 32 #[.agg #[.int .i64 a, .int .i64 b, .int .i64 c, .int .i64 d]] w fun r w' => r = .returned (.bool true) ∧ Below w.heap.size w w'))
    (F : Hid (∀ w, Calls Try.prog 33 #[.agg #[.int .i64 n, .int .i64 e]] w fun r w' => r = .returned (.bool true) ∧ Below w.heap.size w w'))
    (I : Hid (∀ (x lo hi : Int) (w : World), lo ≤ x → x ≤ hi → Calls Try.prog 34 #[.int .i64 x, .int .i64 lo, .int .i64 hi] w fun r w' => r = .returned (.bool true) ∧ w' = w))
    (M : Hid (∀ (x : Int) w, -10000 ≤ x → x ≤ 10000 → Calls Try.prog 35 #[.agg #[.int .i64 a, .int .i64 b, .int .i64 c, .int .i64 d], .int .i64 x] w fun r w' => r = .returned (.agg #[.int .i64 (a - x), .int .i64 (b - x), .int .i64 (c + x), .int .i64 (d + x)]) ∧ Below w.heap.size w w'))
    (O : Hid (∀ (x : Int) w, lo ≤ x → x ≤ hi → Calls Try.prog 36 #[.agg #[.int .i64 (a - x), .int .i64 (b - x), .int .i64 (c + x), .int .i64 (d + x)], .agg #[.int .i64 n, .int .i64 e]] w fun r w' => r = .returned (.int .i64 (overV a b c d n e x)) ∧ Below w.heap.size w w'))
    (hlo : (if d < c then d else c) = -lo) (hhi : (if b < a then b else a) = hi) (l0 : -10000 ≤ lo) (h0 : hi ≤ 10000) (x1 : lo ≤ X) (x2 : X ≤ hi)
    (HB : Hid (Bal a b c d n e X)) (HT : Hid (hi = min a b ∧ lo = -min c d)) :
    Calls Try.prog 10 #[.agg #[.int .i64 a, .int .i64 b, .int .i64 c, .int .i64 d], .agg #[.int .i64 n, .int .i64 e]] w fun r w' => r = .returned (.tuple #[.agg #[.int .i64 (a - X), .int .i64 (b - X), .int .i64 (c + X), .int .i64 (d + X)], .int .i64 (overV a b c d n e X), .bool true]) ∧ Below w.heap.size w w' := by
  go_enter Try.func10, Try.ntmps10
  go_wp2_with fail
  refine (R.out _).mono ?_
  rintro r w1 ⟨rfl, hr⟩
  have z1 : w.heap.size + 2 < w1.heap.size := by have := hr.size; simp at this; omega
  have z1a : w.heap.size + 1 < w1.heap.size := by omega
  have z1b : w.heap.size < w1.heap.size := by omega
  have q0 : w1.cell? ⟨w.heap.size, 0, none⟩ = some (.int .i64 a) := by rw [hr.cell (by first | omega | (simp; done) | (simp; omega))]; simp [go_sem]
  have q1 : w1.cell? ⟨w.heap.size, 1, none⟩ = some (.int .i64 b) := by rw [hr.cell (by first | omega | (simp; done) | (simp; omega))]; simp [go_sem]
  have q2 : w1.cell? ⟨w.heap.size, 2, none⟩ = some (.int .i64 c) := by rw [hr.cell (by first | omega | (simp; done) | (simp; omega))]; simp [go_sem]
  have q3 : w1.cell? ⟨w.heap.size, 3, none⟩ = some (.int .i64 d) := by rw [hr.cell (by first | omega | (simp; done) | (simp; omega))]; simp [go_sem]
  have r0 : w1.cell? ⟨w.heap.size + 1, 0, none⟩ = some (.int .i64 n) := by rw [hr.cell (by first | omega | (simp; done) | (simp; omega))]; simp [go_sem]
  have r1 : w1.cell? ⟨w.heap.size + 1, 1, none⟩ = some (.int .i64 e) := by rw [hr.cell (by first | omega | (simp; done) | (simp; omega))]; simp [go_sem]
  have s0 : w1.cell? ⟨w.heap.size + 2, 0, none⟩ = some (.int .i64 0) := by rw [hr.cell (by first | omega | (simp; done) | (simp; omega))]; simp [go_sem]
  have s1 : w1.cell? ⟨w.heap.size + 2, 1, none⟩ = some (.int .i64 0) := by rw [hr.cell (by first | omega | (simp; done) | (simp; omega))]; simp [go_sem]
  have s2 : w1.cell? ⟨w.heap.size + 2, 2, none⟩ = some (.int .i64 0) := by rw [hr.cell (by first | omega | (simp; done) | (simp; omega))]; simp [go_sem]
  have s3 : w1.cell? ⟨w.heap.size + 2, 3, none⟩ = some (.int .i64 0) := by rw [hr.cell (by first | omega | (simp; done) | (simp; omega))]; simp [go_sem]
  have fy : ∀ o, w1.frozen? ⟨w.heap.size + 2, o, none⟩ = false := fun o => by rw [hr.frozen (by first | omega | (simp; done) | (simp; omega))]; simp [go_sem]
  have B1 : Below w.heap.size w w1 := Below.trans (by repeat (first | with_reducible exact Below.refl _ _ | with_reducible refine Below.setCell ?_ (by first | omega | (simp; done) | (simp; omega)) _ | with_reducible refine bDrewN ?_ _ | with_reducible refine Below.drew ?_ | with_reducible refine Below.alloc ?_ (by first | omega | (simp; done) | (simp; omega)) _)) (hr.mono (by first | omega | (simp; done) | (simp; omega)))
  clear hr
  go_wp2_with fail
  refine (F.out _).mono ?_
  rintro r w2 ⟨rfl, hf⟩
  have BF : Below w1.heap.size w1 w2 := Below.trans (by repeat (first | with_reducible exact Below.refl _ _ | with_reducible refine Below.setCell ?_ (by first | omega | (simp; done) | (simp; omega)) _ | with_reducible refine bDrewN ?_ _ | with_reducible refine Below.drew ?_ | with_reducible refine Below.alloc ?_ (by first | omega | (simp; done) | (simp; omega)) _)) (hf.mono (by first | omega | (simp; done) | (simp; omega)))
  have q0' : w2.cell? ⟨w.heap.size, 0, none⟩ = some (.int .i64 a) := (BF.cell (p := ⟨w.heap.size, 0, none⟩) z1b).trans q0
  have q1' : w2.cell? ⟨w.heap.size, 1, none⟩ = some (.int .i64 b) := (BF.cell (p := ⟨w.heap.size, 1, none⟩) z1b).trans q1
  have q2' : w2.cell? ⟨w.heap.size, 2, none⟩ = some (.int .i64 c) := (BF.cell (p := ⟨w.heap.size, 2, none⟩) z1b).trans q2
  have q3' : w2.cell? ⟨w.heap.size, 3, none⟩ = some (.int .i64 d) := (BF.cell (p := ⟨w.heap.size, 3, none⟩) z1b).trans q3
  have r0' : w2.cell? ⟨w.heap.size + 1, 0, none⟩ = some (.int .i64 n) := (BF.cell (p := ⟨w.heap.size + 1, 0, none⟩) z1a).trans r0
  have r1' : w2.cell? ⟨w.heap.size + 1, 1, none⟩ = some (.int .i64 e) := (BF.cell (p := ⟨w.heap.size + 1, 1, none⟩) z1a).trans r1
  have s0' : w2.cell? ⟨w.heap.size + 2, 0, none⟩ = some (.int .i64 0) := (BF.cell (p := ⟨w.heap.size + 2, 0, none⟩) z1).trans s0
  have s1' : w2.cell? ⟨w.heap.size + 2, 1, none⟩ = some (.int .i64 0) := (BF.cell (p := ⟨w.heap.size + 2, 1, none⟩) z1).trans s1
  have s2' : w2.cell? ⟨w.heap.size + 2, 2, none⟩ = some (.int .i64 0) := (BF.cell (p := ⟨w.heap.size + 2, 2, none⟩) z1).trans s2
  have s3' : w2.cell? ⟨w.heap.size + 2, 3, none⟩ = some (.int .i64 0) := (BF.cell (p := ⟨w.heap.size + 2, 3, none⟩) z1).trans s3
  have fz : ∀ o, w2.frozen? ⟨w.heap.size + 2, o, none⟩ = false := fun o => (BF.frozen (p := ⟨w.heap.size + 2, o, none⟩) z1).trans (fy o)
  have z2 : w.heap.size + 2 < w2.heap.size := Nat.lt_of_lt_of_le z1 BF.size
  have z2a : w.heap.size + 1 < w2.heap.size := by omega
  have z2b : w.heap.size < w2.heap.size := by omega
  have B2 : Below w.heap.size w w2 := Below.trans B1 (BF.mono (by omega))
  clear hf BF B1 z1 z1a z1b fy q0 q1 q2 q3 r0 r1 s0 s1 s2 s3
  go_wp2_with (first
    | (go_at_call 34; refine (I.out _ _ _ _ ?_ ?_).mono ?_; omega; omega; rintro r w1 ⟨rfl, rfl⟩))
  go_quiet (fail)
  go_wp2_with fail
  go_loopw [7, 8] (fun i j wr => ∃ l h, i = .int .i64 l ∧ j = .int .i64 h ∧ lo ≤ l ∧ l ≤ X ∧ X ≤ h ∧ h ≤ hi ∧ Below w1.heap.size w1 wr) (fun i j _ => (intOf j - intOf i).toNat)
  case atStart => exact ⟨lo, hi, rfl, rfl, Int.le_refl _, x1, x2, Int.le_refl _, (by repeat (first | with_reducible exact Below.refl _ _ | with_reducible refine Below.setCell ?_ (by first | omega | (simp; done) | (simp; omega)) _ | with_reducible refine bDrewN ?_ _ | with_reducible refine Below.drew ?_ | with_reducible refine Below.alloc ?_ (by first | omega | (simp; done) | (simp; omega)) _))⟩
  case round =>
    obtain ⟨l, h, rfl, rfl, l1, l2, l3, l4, hbr⟩ := hrel
    have q0 : wr.cell? ⟨w.heap.size, 0, none⟩ = some (.int .i64 a) := (hbr.cell (p := ⟨w.heap.size, 0, none⟩) z2b).trans q0'
    have q1 : wr.cell? ⟨w.heap.size, 1, none⟩ = some (.int .i64 b) := (hbr.cell (p := ⟨w.heap.size, 1, none⟩) z2b).trans q1'
    have q2 : wr.cell? ⟨w.heap.size, 2, none⟩ = some (.int .i64 c) := (hbr.cell (p := ⟨w.heap.size, 2, none⟩) z2b).trans q2'
    have q3 : wr.cell? ⟨w.heap.size, 3, none⟩ = some (.int .i64 d) := (hbr.cell (p := ⟨w.heap.size, 3, none⟩) z2b).trans q3'
    have r0 : wr.cell? ⟨w.heap.size + 1, 0, none⟩ = some (.int .i64 n) := (hbr.cell (p := ⟨w.heap.size + 1, 0, none⟩) z2a).trans r0'
    have r1 : wr.cell? ⟨w.heap.size + 1, 1, none⟩ = some (.int .i64 e) := (hbr.cell (p := ⟨w.heap.size + 1, 1, none⟩) z2a).trans r1'
    have s0 : wr.cell? ⟨w.heap.size + 2, 0, none⟩ = some (.int .i64 0) := (hbr.cell (p := ⟨w.heap.size + 2, 0, none⟩) z2).trans s0'
    have s1 : wr.cell? ⟨w.heap.size + 2, 1, none⟩ = some (.int .i64 0) := (hbr.cell (p := ⟨w.heap.size + 2, 1, none⟩) z2).trans s1'
    have s2 : wr.cell? ⟨w.heap.size + 2, 2, none⟩ = some (.int .i64 0) := (hbr.cell (p := ⟨w.heap.size + 2, 2, none⟩) z2).trans s2'
    have s3 : wr.cell? ⟨w.heap.size + 2, 3, none⟩ = some (.int .i64 0) := (hbr.cell (p := ⟨w.heap.size + 2, 3, none⟩) z2).trans s3'
    have y2 : w.heap.size + 2 < wr.heap.size := Nat.lt_of_lt_of_le z2 hbr.size
    have y2a : w.heap.size + 1 < wr.heap.size := by omega
    have y2b : w.heap.size < wr.heap.size := by omega
    have ky : ∀ o, wr.frozen? ⟨w.heap.size + 2, o, none⟩ = false := fun o => (hbr.frozen (p := ⟨w.heap.size + 2, o, none⟩) z2).trans (fz o)
    have BR : Hid (Below w1.heap.size w1 wr) := hbr
    have ZZ : Hid (w.heap.size + 2 < w1.heap.size) := z2
    clear q0' q1' q2' q3' r0' r1' s0' s1' s2' s3' hbr z2 z2a z2b fz
    by_cases lh : l < h
    · obtain ⟨m, hm⟩ : ∃ m, h - (h - l) / 2 = m := ⟨_, rfl⟩
      have m1 : l < m := by omega
      have m2 : m ≤ h := by omega
      have k1 : -10000 ≤ m := by omega
      have k2 : m ≤ 10000 := by omega
      have k3 : lo ≤ m := by omega
      have k4 : m ≤ hi := by omega
      by_cases sgn : 0 ≤ overV a b c d n e m
      · have HL : Hid (m ≤ X) := HB.out.low (by have := HT.out; omega) sgn
        go_wp2_with fail
        go_region_held3 (fun w' => w'.cell? ⟨w.heap.size, 0, none⟩ = some (.int .i64 a) ∧ w'.cell? ⟨w.heap.size, 1, none⟩ = some (.int .i64 b) ∧ w'.cell? ⟨w.heap.size, 2, none⟩ = some (.int .i64 c) ∧ w'.cell? ⟨w.heap.size, 3, none⟩ = some (.int .i64 d) ∧ w'.cell? ⟨w.heap.size + 1, 0, none⟩ = some (.int .i64 n) ∧ w'.cell? ⟨w.heap.size + 1, 1, none⟩ = some (.int .i64 e)) (first | (refine keep6 q0 q1 q2 q3 r0 r1 y2b y2a ?_; exact (by repeat (first | with_reducible exact Below.refl _ _ | with_reducible exact B4 | with_reducible exact B3 | with_reducible refine Below.setCell ?_ (by first | omega | (simp; done) | (simp; omega)) _ | with_reducible refine bDrewN ?_ _ | with_reducible refine Below.drew ?_ | with_reducible refine Below.alloc ?_ (by first | omega | (simp; done) | (simp; omega)) _)))) (first
          | (go_at_call 35; refine (M.out m _ k1 k2).mono ?_; rintro r w3 ⟨rfl, hb3⟩; have B3 : Below wr.heap.size wr w3 := Below.trans (by repeat (first | with_reducible exact Below.refl _ _ | with_reducible refine Below.setCell ?_ (by first | omega | (simp; done) | (simp; omega)) _ | with_reducible refine bDrewN ?_ _ | with_reducible refine Below.drew ?_ | with_reducible refine Below.alloc ?_ (by first | omega | (simp; done) | (simp; omega)) _)) (hb3.mono (by first | omega | (simp; done) | (simp; omega))); have z3 := B3.size)
          | (go_at_call 36; refine (O.out m _ k3 k4).mono ?_; rintro r w4 ⟨rfl, hb4⟩; have B4 : Below wr.heap.size wr w4 := Below.trans (by repeat (first | with_reducible exact Below.refl _ _ | with_reducible exact B3 | with_reducible refine Below.setCell ?_ (by first | omega | (simp; done) | (simp; omega)) _ | with_reducible refine bDrewN ?_ _ | with_reducible refine Below.drew ?_ | with_reducible refine Below.alloc ?_ (by first | omega | (simp; done) | (simp; omega)) _)) (hb4.mono (by first | omega | (simp; done) | (simp; omega)))))
        all_goals
          have B5 : Below w1.heap.size w1 w4 := Below.trans BR.out (B4.mono BR.out.size)
          go_wp2
          go_round
          case rel => exact ⟨m, h, rfl, rfl, k3, HL.out, l3, l4, (by repeat (first | with_reducible exact Below.refl _ _ | with_reducible exact B5 | with_reducible refine Below.setCell ?_ (by first | omega | (simp; done) | (simp; omega)) _ | with_reducible refine bDrewN ?_ _ | with_reducible refine Below.drew ?_ | with_reducible refine Below.alloc ?_ (by first | omega | (simp; done) | (simp; omega)) _))⟩
          case measure => simp [intOf]; omega
      · have HL : Hid (X ≤ m - 1) := HB.out.high hn he (by have := HT.out; omega) (by omega)
        go_wp2_with fail
        go_region_held3 (fun w' => w'.cell? ⟨w.heap.size, 0, none⟩ = some (.int .i64 a) ∧ w'.cell? ⟨w.heap.size, 1, none⟩ = some (.int .i64 b) ∧ w'.cell? ⟨w.heap.size, 2, none⟩ = some (.int .i64 c) ∧ w'.cell? ⟨w.heap.size, 3, none⟩ = some (.int .i64 d) ∧ w'.cell? ⟨w.heap.size + 1, 0, none⟩ = some (.int .i64 n) ∧ w'.cell? ⟨w.heap.size + 1, 1, none⟩ = some (.int .i64 e)) (first | (refine keep6 q0 q1 q2 q3 r0 r1 y2b y2a ?_; exact (by repeat (first | with_reducible exact Below.refl _ _ | with_reducible exact B4 | with_reducible exact B3 | with_reducible refine Below.setCell ?_ (by first | omega | (simp; done) | (simp; omega)) _ | with_reducible refine bDrewN ?_ _ | with_reducible refine Below.drew ?_ | with_reducible refine Below.alloc ?_ (by first | omega | (simp; done) | (simp; omega)) _)))) (first
          | (go_at_call 35; refine (M.out m _ k1 k2).mono ?_; rintro r w3 ⟨rfl, hb3⟩; have B3 : Below wr.heap.size wr w3 := Below.trans (by repeat (first | with_reducible exact Below.refl _ _ | with_reducible refine Below.setCell ?_ (by first | omega | (simp; done) | (simp; omega)) _ | with_reducible refine bDrewN ?_ _ | with_reducible refine Below.drew ?_ | with_reducible refine Below.alloc ?_ (by first | omega | (simp; done) | (simp; omega)) _)) (hb3.mono (by first | omega | (simp; done) | (simp; omega))); have z3 := B3.size)
          | (go_at_call 36; refine (O.out m _ k3 k4).mono ?_; rintro r w4 ⟨rfl, hb4⟩; have B4 : Below wr.heap.size wr w4 := Below.trans (by repeat (first | with_reducible exact Below.refl _ _ | with_reducible exact B3 | with_reducible refine Below.setCell ?_ (by first | omega | (simp; done) | (simp; omega)) _ | with_reducible refine bDrewN ?_ _ | with_reducible refine Below.drew ?_ | with_reducible refine Below.alloc ?_ (by first | omega | (simp; done) | (simp; omega)) _)) (hb4.mono (by first | omega | (simp; done) | (simp; omega)))))
        all_goals
          have B5 : Below w1.heap.size w1 w4 := Below.trans BR.out (B4.mono BR.out.size)
          go_wp2
          go_round
          case rel => exact ⟨l, m - 1, rfl, by go_num, l1, l2, HL.out, by omega, (by repeat (first | with_reducible exact Below.refl _ _ | with_reducible exact B5 | with_reducible refine Below.setCell ?_ (by first | omega | (simp; done) | (simp; omega)) _ | with_reducible refine bDrewN ?_ _ | with_reducible refine Below.drew ?_ | with_reducible refine Below.alloc ?_ (by first | omega | (simp; done) | (simp; omega)) _))⟩
          case measure => simp [intOf]; omega
    · obtain rfl : l = X := by omega
      obtain rfl : h = l := by omega
      have k1 : -10000 ≤ h := by omega
      have k2 : h ≤ 10000 := by omega
      go_wp2_with fail
      refine (M.out h _ k1 k2).mono ?_
      rintro r w3 ⟨rfl, hb3⟩
      have r0' : w3.cell? ⟨w.heap.size + 1, 0, none⟩ = some (.int .i64 n) := (hb3.cell (p := ⟨w.heap.size + 1, 0, none⟩) y2a).trans r0
      have r1' : w3.cell? ⟨w.heap.size + 1, 1, none⟩ = some (.int .i64 e) := (hb3.cell (p := ⟨w.heap.size + 1, 1, none⟩) y2a).trans r1
      have s0' : w3.cell? ⟨w.heap.size + 2, 0, none⟩ = some (.int .i64 0) := (hb3.cell (p := ⟨w.heap.size + 2, 0, none⟩) y2).trans s0
      have s1' : w3.cell? ⟨w.heap.size + 2, 1, none⟩ = some (.int .i64 0) := (hb3.cell (p := ⟨w.heap.size + 2, 1, none⟩) y2).trans s1
      have s2' : w3.cell? ⟨w.heap.size + 2, 2, none⟩ = some (.int .i64 0) := (hb3.cell (p := ⟨w.heap.size + 2, 2, none⟩) y2).trans s2
      have s3' : w3.cell? ⟨w.heap.size + 2, 3, none⟩ = some (.int .i64 0) := (hb3.cell (p := ⟨w.heap.size + 2, 3, none⟩) y2).trans s3
      have fz : ∀ o, w3.frozen? ⟨w.heap.size + 2, o, none⟩ = false := fun o => (hb3.frozen (p := ⟨w.heap.size + 2, o, none⟩) y2).trans (ky o)
      have v2 : w.heap.size + 2 < w3.heap.size := Nat.lt_of_lt_of_le y2 hb3.size
      have v2a : w.heap.size + 1 < w3.heap.size := by omega
      have BW : Below w.heap.size w w3 := Below.trans B2 ((Below.trans BR.out (hb3.mono BR.out.size)).mono (by have := ZZ.out; omega))
      clear q0 q1 q2 q3 r0 r1 s0 s1 s2 s3 hb3 ky y2 y2a y2b BR B2
      go_wp2_with fail
      obtain ⟨W, hW⟩ : ∃ W, W = w3.alloc (.cells #[.int .i64 (a - h), .int .i64 (b - h), .int .i64 (c + h), .int .i64 (d + h)] 25) := ⟨_, rfl⟩
      obtain ⟨p, hp⟩ : ∃ p, p = w3.heap.size := ⟨_, rfl⟩
      rw [← hW, ← hp]
      have e0 : W.cell? ⟨p, 0, none⟩ = some (.int .i64 (a - h)) := by rw [hW, hp]; simp [go_sem]
      have e1 : W.cell? ⟨p, 1, none⟩ = some (.int .i64 (b - h)) := by rw [hW, hp]; simp [go_sem]
      have e2 : W.cell? ⟨p, 2, none⟩ = some (.int .i64 (c + h)) := by rw [hW, hp]; simp [go_sem]
      have e3 : W.cell? ⟨p, 3, none⟩ = some (.int .i64 (d + h)) := by rw [hW, hp]; simp [go_sem]
      have r0 : W.cell? ⟨w.heap.size + 1, 0, none⟩ = some (.int .i64 n) := by rw [hW, (below0 w3 _).cell (p := ⟨w.heap.size + 1, 0, none⟩) v2a]; exact r0'
      have r1 : W.cell? ⟨w.heap.size + 1, 1, none⟩ = some (.int .i64 e) := by rw [hW, (below0 w3 _).cell (p := ⟨w.heap.size + 1, 1, none⟩) v2a]; exact r1'
      have s0 : W.cell? ⟨w.heap.size + 2, 0, none⟩ = some (.int .i64 0) := by rw [hW, (below0 w3 _).cell (p := ⟨w.heap.size + 2, 0, none⟩) v2]; exact s0'
      have s1 : W.cell? ⟨w.heap.size + 2, 1, none⟩ = some (.int .i64 0) := by rw [hW, (below0 w3 _).cell (p := ⟨w.heap.size + 2, 1, none⟩) v2]; exact s1'
      have s2 : W.cell? ⟨w.heap.size + 2, 2, none⟩ = some (.int .i64 0) := by rw [hW, (below0 w3 _).cell (p := ⟨w.heap.size + 2, 2, none⟩) v2]; exact s2'
      have s3 : W.cell? ⟨w.heap.size + 2, 3, none⟩ = some (.int .i64 0) := by rw [hW, (below0 w3 _).cell (p := ⟨w.heap.size + 2, 3, none⟩) v2]; exact s3'
      have ky : ∀ o, W.frozen? ⟨w.heap.size + 2, o, none⟩ = false := fun o => by rw [hW, (below0 w3 _).frozen (p := ⟨w.heap.size + 2, o, none⟩) v2]; exact fz o
      have u0 : p < W.heap.size := by rw [hW, hp]; simp
      have u1 : w.heap.size + 2 < p := by omega
      have u2 : w.heap.size + 1 < W.heap.size := by omega
      have u3 : w.heap.size + 2 < W.heap.size := by omega
      have n1 : ¬ p = w.heap.size + 2 := by omega
      have n2 : ¬ w.heap.size + 2 = p := by omega
      have BW2 : Below w.heap.size w W := by rw [hW]; exact (by repeat (first | with_reducible exact Below.refl _ _ | with_reducible exact BW | with_reducible refine Below.setCell ?_ (by first | omega | (simp; done) | (simp; omega)) _ | with_reducible refine bDrewN ?_ _ | with_reducible refine Below.drew ?_ | with_reducible refine Below.alloc ?_ (by first | omega | (simp; done) | (simp; omega)) _))
      clear hW BW hp fz r0' r1' s0' s1' s2' s3' v2 v2a
      go_region_held3 (fun w' => w'.cell? ⟨p, 0, none⟩ = some (.int .i64 (a - h)) ∧ w'.cell? ⟨p, 1, none⟩ = some (.int .i64 (b - h)) ∧ w'.cell? ⟨p, 2, none⟩ = some (.int .i64 (c + h)) ∧ w'.cell? ⟨p, 3, none⟩ = some (.int .i64 (d + h)) ∧ w'.cell? ⟨w.heap.size + 1, 0, none⟩ = some (.int .i64 n) ∧ w'.cell? ⟨w.heap.size + 1, 1, none⟩ = some (.int .i64 e)) (first | (simp [go_sem, *]; done) | (refine keep6 e0 e1 e2 e3 r0 r1 u0 u2 ?_; exact (by repeat (first | with_reducible exact Below.refl _ _ | with_reducible exact B4 | with_reducible refine Below.setCell ?_ (by first | omega | (simp; done) | (simp; omega)) _ | with_reducible refine bDrewN ?_ _ | with_reducible refine Below.drew ?_ | with_reducible refine Below.alloc ?_ (by first | omega | (simp; done) | (simp; omega)) _)))) (first
          | (go_at_call 36; refine (O.out h _ l1 l4).mono ?_; rintro r w4 ⟨rfl, hb4⟩; have B4 : Below W.heap.size W w4 := Below.trans (by repeat (first | with_reducible exact Below.refl _ _ | with_reducible refine Below.setCell ?_ (by first | omega | (simp; done) | (simp; omega)) _ | with_reducible refine bDrewN ?_ _ | with_reducible refine Below.drew ?_ | with_reducible refine Below.alloc ?_ (by first | omega | (simp; done) | (simp; omega)) _)) (hb4.mono (by first | omega | (simp; done) | (simp; omega))); obtain ⟨f0, f1, f2, f3, f4, f5⟩ := keep6 e0 e1 e2 e3 r0 r1 u0 u2 B4; have z4 := B4.size; have g0 : w4.cell? ⟨w.heap.size + 2, 0, none⟩ = some (.int .i64 0) := ((B4.cell (p := ⟨w.heap.size + 2, 0, none⟩) u3).trans s0); have g1 : w4.cell? ⟨w.heap.size + 2, 1, none⟩ = some (.int .i64 0) := ((B4.cell (p := ⟨w.heap.size + 2, 1, none⟩) u3).trans s1); have g2 : w4.cell? ⟨w.heap.size + 2, 2, none⟩ = some (.int .i64 0) := ((B4.cell (p := ⟨w.heap.size + 2, 2, none⟩) u3).trans s2); have g3 : w4.cell? ⟨w.heap.size + 2, 3, none⟩ = some (.int .i64 0) := ((B4.cell (p := ⟨w.heap.size + 2, 3, none⟩) u3).trans s3); have gf : ∀ o, w4.frozen? ⟨w.heap.size + 2, o, none⟩ = false := (fun o => (B4.frozen (p := ⟨w.heap.size + 2, o, none⟩) u3).trans (ky o)); have z5 : w.heap.size + 2 < w4.heap.size := (by omega)))
      all_goals
        go_wp2
        have B5 : Below w.heap.size w w4 := BW2.trans (B4.mono (by omega))
        refine bodyPost_ret (v := .tuple #[.agg #[.int .i64 (a - h), .int .i64 (b - h), .int .i64 (c + h), .int .i64 (d + h)], .int .i64 (overV a b c d n e h), .bool true]) (by simp [results, Try.results10, go_sem, g0, g1, g2, g3]) rfl ⟨rfl, ?_⟩
        exact (by repeat (first | with_reducible exact Below.refl _ _ | with_reducible exact B5 | with_reducible refine Below.setCell ?_ (by first | omega | (simp; done) | (simp; omega)) _ | with_reducible refine bDrewN ?_ _ | with_reducible refine Below.drew ?_ | with_reducible refine Below.alloc ?_ (by first | omega | (simp; done) | (simp; omega)) _))
set_option maxHeartbeats 1000000 in
theorem implBal_no0 (a b c d n e : Int) (w : World) (R : Hid (∀ w, Calls Try.prog 32 #[.agg #[.int .i64 a, .int .i64 b, .int .i64 c, .int .i64 d]] w fun r w' => r = .returned (.bool false) ∧ Below w.heap.size w w'))
    (I : Hid (∀ (x lo hi : Int) (w : World), lo ≤ x → x ≤ hi → Calls Try.prog 34 #[.int .i64 x, .int .i64 lo, .int .i64 hi] w fun r w' => r = .returned (.bool true) ∧ w' = w))
    (J : Hid (∀ (x lo hi : Int) (w : World), x < lo ∨ hi < x → Calls Try.prog 34 #[.int .i64 x, .int .i64 lo, .int .i64 hi] w fun r w' => r = .returned (.bool false) ∧ w' = w)) :
    Calls Try.prog 10 #[.agg #[.int .i64 a, .int .i64 b, .int .i64 c, .int .i64 d], .agg #[.int .i64 n, .int .i64 e]] w fun r w' => r = .returned (.tuple #[.agg #[.int .i64 0, .int .i64 0, .int .i64 0, .int .i64 0], .int .i64 0, .bool false]) ∧ Below w.heap.size w w' := by
  go_enter Try.func10, Try.ntmps10
  go_wp2_with fail
  refine (R.out _).mono ?_
  rintro r w1 ⟨rfl, hr⟩
  have z1 : w.heap.size + 2 < w1.heap.size := by have := hr.size; simp at this; omega
  have z1a : w.heap.size + 1 < w1.heap.size := by omega
  have r0 : w1.cell? ⟨w.heap.size + 1, 0, none⟩ = some (.int .i64 n) := by rw [hr.cell (by first | omega | (simp; done) | (simp; omega))]; simp [go_sem]
  have r1 : w1.cell? ⟨w.heap.size + 1, 1, none⟩ = some (.int .i64 e) := by rw [hr.cell (by first | omega | (simp; done) | (simp; omega))]; simp [go_sem]
  have s0 : w1.cell? ⟨w.heap.size + 2, 0, none⟩ = some (.int .i64 0) := by rw [hr.cell (by first | omega | (simp; done) | (simp; omega))]; simp [go_sem]
  have s1 : w1.cell? ⟨w.heap.size + 2, 1, none⟩ = some (.int .i64 0) := by rw [hr.cell (by first | omega | (simp; done) | (simp; omega))]; simp [go_sem]
  have s2 : w1.cell? ⟨w.heap.size + 2, 2, none⟩ = some (.int .i64 0) := by rw [hr.cell (by first | omega | (simp; done) | (simp; omega))]; simp [go_sem]
  have s3 : w1.cell? ⟨w.heap.size + 2, 3, none⟩ = some (.int .i64 0) := by rw [hr.cell (by first | omega | (simp; done) | (simp; omega))]; simp [go_sem]
  have fy : ∀ o, w1.frozen? ⟨w.heap.size + 2, o, none⟩ = false := fun o => by rw [hr.frozen (by first | omega | (simp; done) | (simp; omega))]; simp [go_sem]
  have B1 : Below w.heap.size w w1 := Below.trans (by repeat (first | with_reducible exact Below.refl _ _ | with_reducible refine Below.setCell ?_ (by first | omega | (simp; done) | (simp; omega)) _ | with_reducible refine bDrewN ?_ _ | with_reducible refine Below.drew ?_ | with_reducible refine Below.alloc ?_ (by first | omega | (simp; done) | (simp; omega)) _)) (hr.mono (by first | omega | (simp; done) | (simp; omega)))
  clear hr
  go_wp2
  refine bodyPost_ret (v := .tuple #[.agg #[.int .i64 0, .int .i64 0, .int .i64 0, .int .i64 0], .int .i64 0, .bool false]) (by simp [results, Try.results10, go_sem, s0, s1, s2, s3]) rfl ⟨rfl, ?_⟩
  exact (by repeat (first | with_reducible exact Below.refl _ _ | with_reducible exact B1 | with_reducible refine Below.setCell ?_ (by first | omega | (simp; done) | (simp; omega)) _ | with_reducible refine bDrewN ?_ _ | with_reducible refine Below.drew ?_ | with_reducible refine Below.alloc ?_ (by first | omega | (simp; done) | (simp; omega)) _))
set_option maxHeartbeats 1000000 in
theorem implBal_no1 (a b c d n e : Int) (w : World) (R : Hid (∀ w, Calls Try.prog 32 #[.agg #[.int .i64 a, .int .i64 b, .int .i64 c, .int .i64 d]] w fun r w' => r = .returned (.bool true) ∧ Below w.heap.size w w')) (F : Hid (∀ w, Calls Try.prog 33 #[.agg #[.int .i64 n, .int .i64 e]] w fun r w' => r = .returned (.bool false) ∧ Below w.heap.size w w'))
    (I : Hid (∀ (x lo hi : Int) (w : World), lo ≤ x → x ≤ hi → Calls Try.prog 34 #[.int .i64 x, .int .i64 lo, .int .i64 hi] w fun r w' => r = .returned (.bool true) ∧ w' = w))
    (J : Hid (∀ (x lo hi : Int) (w : World), x < lo ∨ hi < x → Calls Try.prog 34 #[.int .i64 x, .int .i64 lo, .int .i64 hi] w fun r w' => r = .returned (.bool false) ∧ w' = w)) :
    Calls Try.prog 10 #[.agg #[.int .i64 a, .int .i64 b, .int .i64 c, .int .i64 d], .agg #[.int .i64 n, .int .i64 e]] w fun r w' => r = .returned (.tuple #[.agg #[.int .i64 0, .int .i64 0, .int .i64 0, .int .i64 0], .int .i64 0, .bool false]) ∧ Below w.heap.size w w' := by
  go_enter Try.func10, Try.ntmps10
  go_wp2_with fail
  refine (R.out _).mono ?_
  rintro r w1 ⟨rfl, hr⟩
  have z1 : w.heap.size + 2 < w1.heap.size := by have := hr.size; simp at this; omega
  have z1a : w.heap.size + 1 < w1.heap.size := by omega
  have r0 : w1.cell? ⟨w.heap.size + 1, 0, none⟩ = some (.int .i64 n) := by rw [hr.cell (by first | omega | (simp; done) | (simp; omega))]; simp [go_sem]
  have r1 : w1.cell? ⟨w.heap.size + 1, 1, none⟩ = some (.int .i64 e) := by rw [hr.cell (by first | omega | (simp; done) | (simp; omega))]; simp [go_sem]
  have s0 : w1.cell? ⟨w.heap.size + 2, 0, none⟩ = some (.int .i64 0) := by rw [hr.cell (by first | omega | (simp; done) | (simp; omega))]; simp [go_sem]
  have s1 : w1.cell? ⟨w.heap.size + 2, 1, none⟩ = some (.int .i64 0) := by rw [hr.cell (by first | omega | (simp; done) | (simp; omega))]; simp [go_sem]
  have s2 : w1.cell? ⟨w.heap.size + 2, 2, none⟩ = some (.int .i64 0) := by rw [hr.cell (by first | omega | (simp; done) | (simp; omega))]; simp [go_sem]
  have s3 : w1.cell? ⟨w.heap.size + 2, 3, none⟩ = some (.int .i64 0) := by rw [hr.cell (by first | omega | (simp; done) | (simp; omega))]; simp [go_sem]
  have fy : ∀ o, w1.frozen? ⟨w.heap.size + 2, o, none⟩ = false := fun o => by rw [hr.frozen (by first | omega | (simp; done) | (simp; omega))]; simp [go_sem]
  have B1 : Below w.heap.size w w1 := Below.trans (by repeat (first | with_reducible exact Below.refl _ _ | with_reducible refine Below.setCell ?_ (by first | omega | (simp; done) | (simp; omega)) _ | with_reducible refine bDrewN ?_ _ | with_reducible refine Below.drew ?_ | with_reducible refine Below.alloc ?_ (by first | omega | (simp; done) | (simp; omega)) _)) (hr.mono (by first | omega | (simp; done) | (simp; omega)))
  clear hr
  go_wp2_with fail
  refine (F.out _).mono ?_
  rintro r w2 ⟨rfl, hf⟩
  have BF : Below w1.heap.size w1 w2 := Below.trans (by repeat (first | with_reducible exact Below.refl _ _ | with_reducible refine Below.setCell ?_ (by first | omega | (simp; done) | (simp; omega)) _ | with_reducible refine bDrewN ?_ _ | with_reducible refine Below.drew ?_ | with_reducible refine Below.alloc ?_ (by first | omega | (simp; done) | (simp; omega)) _)) (hf.mono (by first | omega | (simp; done) | (simp; omega)))
  have t0 : w2.cell? ⟨w.heap.size + 1, 0, none⟩ = some (.int .i64 n) := (BF.cell (p := ⟨w.heap.size + 1, 0, none⟩) z1a).trans r0
  have t1 : w2.cell? ⟨w.heap.size + 1, 1, none⟩ = some (.int .i64 e) := (BF.cell (p := ⟨w.heap.size + 1, 1, none⟩) z1a).trans r1
  have u0 : w2.cell? ⟨w.heap.size + 2, 0, none⟩ = some (.int .i64 0) := (BF.cell (p := ⟨w.heap.size + 2, 0, none⟩) z1).trans s0
  have u1 : w2.cell? ⟨w.heap.size + 2, 1, none⟩ = some (.int .i64 0) := (BF.cell (p := ⟨w.heap.size + 2, 1, none⟩) z1).trans s1
  have u2 : w2.cell? ⟨w.heap.size + 2, 2, none⟩ = some (.int .i64 0) := (BF.cell (p := ⟨w.heap.size + 2, 2, none⟩) z1).trans s2
  have u3 : w2.cell? ⟨w.heap.size + 2, 3, none⟩ = some (.int .i64 0) := (BF.cell (p := ⟨w.heap.size + 2, 3, none⟩) z1).trans s3
  have fz : ∀ o, w2.frozen? ⟨w.heap.size + 2, o, none⟩ = false := fun o => (BF.frozen (p := ⟨w.heap.size + 2, o, none⟩) z1).trans (fy o)
  have z2 : w.heap.size + 2 < w2.heap.size := Nat.lt_of_lt_of_le z1 BF.size
  have z2a : w.heap.size + 1 < w2.heap.size := by omega
  have B2 : Below w.heap.size w w2 := Below.trans B1 (BF.mono (by omega))
  clear hf BF B1 z1 z1a fy r0 r1 s0 s1 s2 s3
  go_wp2
  refine bodyPost_ret (v := .tuple #[.agg #[.int .i64 0, .int .i64 0, .int .i64 0, .int .i64 0], .int .i64 0, .bool false]) (by simp [results, Try.results10, go_sem, u0, u1, u2, u3]) rfl ⟨rfl, ?_⟩
  exact (by repeat (first | with_reducible exact Below.refl _ _ | with_reducible exact B2 | with_reducible refine Below.setCell ?_ (by first | omega | (simp; done) | (simp; omega)) _ | with_reducible refine bDrewN ?_ _ | with_reducible refine Below.drew ?_ | with_reducible refine Below.alloc ?_ (by first | omega | (simp; done) | (simp; omega)) _))
set_option maxHeartbeats 1000000 in
theorem implBal_no2 (a b c d n e : Int) (w : World) (R : Hid (∀ w, Calls Try.prog 32 #[.agg #[.int .i64 a, .int .i64 b, .int .i64 c, .int .i64 d]] w fun r w' => r = .returned (.bool true) ∧ Below w.heap.size w w')) (F : Hid (∀ w, Calls Try.prog 33 #[.agg #[.int .i64 n, .int .i64 e]] w fun r w' => r = .returned (.bool true) ∧ Below w.heap.size w w')) (hz : n < 1 ∨ 1000 < n)
    (I : Hid (∀ (x lo hi : Int) (w : World), lo ≤ x → x ≤ hi → Calls Try.prog 34 #[.int .i64 x, .int .i64 lo, .int .i64 hi] w fun r w' => r = .returned (.bool true) ∧ w' = w))
    (J : Hid (∀ (x lo hi : Int) (w : World), x < lo ∨ hi < x → Calls Try.prog 34 #[.int .i64 x, .int .i64 lo, .int .i64 hi] w fun r w' => r = .returned (.bool false) ∧ w' = w)) :
    Calls Try.prog 10 #[.agg #[.int .i64 a, .int .i64 b, .int .i64 c, .int .i64 d], .agg #[.int .i64 n, .int .i64 e]] w fun r w' => r = .returned (.tuple #[.agg #[.int .i64 0, .int .i64 0, .int .i64 0, .int .i64 0], .int .i64 0, .bool false]) ∧ Below w.heap.size w w' := by
  have HZ : Hid _ := hz
  clear hz
  go_enter Try.func10, Try.ntmps10
  go_wp2_with fail
  refine (R.out _).mono ?_
  rintro r w1 ⟨rfl, hr⟩
  have z1 : w.heap.size + 2 < w1.heap.size := by have := hr.size; simp at this; omega
  have z1a : w.heap.size + 1 < w1.heap.size := by omega
  have r0 : w1.cell? ⟨w.heap.size + 1, 0, none⟩ = some (.int .i64 n) := by rw [hr.cell (by first | omega | (simp; done) | (simp; omega))]; simp [go_sem]
  have r1 : w1.cell? ⟨w.heap.size + 1, 1, none⟩ = some (.int .i64 e) := by rw [hr.cell (by first | omega | (simp; done) | (simp; omega))]; simp [go_sem]
  have s0 : w1.cell? ⟨w.heap.size + 2, 0, none⟩ = some (.int .i64 0) := by rw [hr.cell (by first | omega | (simp; done) | (simp; omega))]; simp [go_sem]
  have s1 : w1.cell? ⟨w.heap.size + 2, 1, none⟩ = some (.int .i64 0) := by rw [hr.cell (by first | omega | (simp; done) | (simp; omega))]; simp [go_sem]
  have s2 : w1.cell? ⟨w.heap.size + 2, 2, none⟩ = some (.int .i64 0) := by rw [hr.cell (by first | omega | (simp; done) | (simp; omega))]; simp [go_sem]
  have s3 : w1.cell? ⟨w.heap.size + 2, 3, none⟩ = some (.int .i64 0) := by rw [hr.cell (by first | omega | (simp; done) | (simp; omega))]; simp [go_sem]
  have fy : ∀ o, w1.frozen? ⟨w.heap.size + 2, o, none⟩ = false := fun o => by rw [hr.frozen (by first | omega | (simp; done) | (simp; omega))]; simp [go_sem]
  have B1 : Below w.heap.size w w1 := Below.trans (by repeat (first | with_reducible exact Below.refl _ _ | with_reducible refine Below.setCell ?_ (by first | omega | (simp; done) | (simp; omega)) _ | with_reducible refine bDrewN ?_ _ | with_reducible refine Below.drew ?_ | with_reducible refine Below.alloc ?_ (by first | omega | (simp; done) | (simp; omega)) _)) (hr.mono (by first | omega | (simp; done) | (simp; omega)))
  clear hr
  go_wp2_with fail
  refine (F.out _).mono ?_
  rintro r w2 ⟨rfl, hf⟩
  have BF : Below w1.heap.size w1 w2 := Below.trans (by repeat (first | with_reducible exact Below.refl _ _ | with_reducible refine Below.setCell ?_ (by first | omega | (simp; done) | (simp; omega)) _ | with_reducible refine bDrewN ?_ _ | with_reducible refine Below.drew ?_ | with_reducible refine Below.alloc ?_ (by first | omega | (simp; done) | (simp; omega)) _)) (hf.mono (by first | omega | (simp; done) | (simp; omega)))
  have t0 : w2.cell? ⟨w.heap.size + 1, 0, none⟩ = some (.int .i64 n) := (BF.cell (p := ⟨w.heap.size + 1, 0, none⟩) z1a).trans r0
  have t1 : w2.cell? ⟨w.heap.size + 1, 1, none⟩ = some (.int .i64 e) := (BF.cell (p := ⟨w.heap.size + 1, 1, none⟩) z1a).trans r1
  have u0 : w2.cell? ⟨w.heap.size + 2, 0, none⟩ = some (.int .i64 0) := (BF.cell (p := ⟨w.heap.size + 2, 0, none⟩) z1).trans s0
  have u1 : w2.cell? ⟨w.heap.size + 2, 1, none⟩ = some (.int .i64 0) := (BF.cell (p := ⟨w.heap.size + 2, 1, none⟩) z1).trans s1
  have u2 : w2.cell? ⟨w.heap.size + 2, 2, none⟩ = some (.int .i64 0) := (BF.cell (p := ⟨w.heap.size + 2, 2, none⟩) z1).trans s2
  have u3 : w2.cell? ⟨w.heap.size + 2, 3, none⟩ = some (.int .i64 0) := (BF.cell (p := ⟨w.heap.size + 2, 3, none⟩) z1).trans s3
  have fz : ∀ o, w2.frozen? ⟨w.heap.size + 2, o, none⟩ = false := fun o => (BF.frozen (p := ⟨w.heap.size + 2, o, none⟩) z1).trans (fy o)
  have z2 : w.heap.size + 2 < w2.heap.size := Nat.lt_of_lt_of_le z1 BF.size
  have z2a : w.heap.size + 1 < w2.heap.size := by omega
  have B2 : Below w.heap.size w w2 := Below.trans B1 (BF.mono (by omega))
  clear hf BF B1 z1 z1a fy r0 r1 s0 s1 s2 s3
  go_wp2_with (first
    | (go_at_call 34; refine (I.out _ _ _ _ ?_ ?_).mono ?_; omega; omega; rintro r w1 ⟨rfl, rfl⟩))
  refine (J.out _ _ _ _ HZ.out).mono ?_
  rintro r w1 ⟨rfl, rfl⟩
  go_wp2
  refine bodyPost_ret (v := .tuple #[.agg #[.int .i64 0, .int .i64 0, .int .i64 0, .int .i64 0], .int .i64 0, .bool false]) (by simp [results, Try.results10, go_sem, u0, u1, u2, u3]) rfl ⟨rfl, ?_⟩
  exact (by repeat (first | with_reducible exact Below.refl _ _ | with_reducible exact B2 | with_reducible refine Below.setCell ?_ (by first | omega | (simp; done) | (simp; omega)) _ | with_reducible refine bDrewN ?_ _ | with_reducible refine Below.drew ?_ | with_reducible refine Below.alloc ?_ (by first | omega | (simp; done) | (simp; omega)) _))
set_option maxHeartbeats 1000000 in
theorem implBal_no3 (a b c d n e : Int) (w : World) (R : Hid (∀ w, Calls Try.prog 32 #[.agg #[.int .i64 a, .int .i64 b, .int .i64 c, .int .i64 d]] w fun r w' => r = .returned (.bool true) ∧ Below w.heap.size w w')) (F : Hid (∀ w, Calls Try.prog 33 #[.agg #[.int .i64 n, .int .i64 e]] w fun r w' => r = .returned (.bool true) ∧ Below w.heap.size w w')) (hn : 1 ≤ n) (hn' : n ≤ 1000) (hz : e < 1 ∨ 1000 < e)
    (I : Hid (∀ (x lo hi : Int) (w : World), lo ≤ x → x ≤ hi → Calls Try.prog 34 #[.int .i64 x, .int .i64 lo, .int .i64 hi] w fun r w' => r = .returned (.bool true) ∧ w' = w))
    (J : Hid (∀ (x lo hi : Int) (w : World), x < lo ∨ hi < x → Calls Try.prog 34 #[.int .i64 x, .int .i64 lo, .int .i64 hi] w fun r w' => r = .returned (.bool false) ∧ w' = w)) :
    Calls Try.prog 10 #[.agg #[.int .i64 a, .int .i64 b, .int .i64 c, .int .i64 d], .agg #[.int .i64 n, .int .i64 e]] w fun r w' => r = .returned (.tuple #[.agg #[.int .i64 0, .int .i64 0, .int .i64 0, .int .i64 0], .int .i64 0, .bool false]) ∧ Below w.heap.size w w' := by
  have HZ : Hid _ := hz
  clear hz
  go_enter Try.func10, Try.ntmps10
  go_wp2_with fail
  refine (R.out _).mono ?_
  rintro r w1 ⟨rfl, hr⟩
  have z1 : w.heap.size + 2 < w1.heap.size := by have := hr.size; simp at this; omega
  have z1a : w.heap.size + 1 < w1.heap.size := by omega
  have r0 : w1.cell? ⟨w.heap.size + 1, 0, none⟩ = some (.int .i64 n) := by rw [hr.cell (by first | omega | (simp; done) | (simp; omega))]; simp [go_sem]
  have r1 : w1.cell? ⟨w.heap.size + 1, 1, none⟩ = some (.int .i64 e) := by rw [hr.cell (by first | omega | (simp; done) | (simp; omega))]; simp [go_sem]
  have s0 : w1.cell? ⟨w.heap.size + 2, 0, none⟩ = some (.int .i64 0) := by rw [hr.cell (by first | omega | (simp; done) | (simp; omega))]; simp [go_sem]
  have s1 : w1.cell? ⟨w.heap.size + 2, 1, none⟩ = some (.int .i64 0) := by rw [hr.cell (by first | omega | (simp; done) | (simp; omega))]; simp [go_sem]
  have s2 : w1.cell? ⟨w.heap.size + 2, 2, none⟩ = some (.int .i64 0) := by rw [hr.cell (by first | omega | (simp; done) | (simp; omega))]; simp [go_sem]
  have s3 : w1.cell? ⟨w.heap.size + 2, 3, none⟩ = some (.int .i64 0) := by rw [hr.cell (by first | omega | (simp; done) | (simp; omega))]; simp [go_sem]
  have fy : ∀ o, w1.frozen? ⟨w.heap.size + 2, o, none⟩ = false := fun o => by rw [hr.frozen (by first | omega | (simp; done) | (simp; omega))]; simp [go_sem]
  have B1 : Below w.heap.size w w1 := Below.trans (by repeat (first | with_reducible exact Below.refl _ _ | with_reducible refine Below.setCell ?_ (by first | omega | (simp; done) | (simp; omega)) _ | with_reducible refine bDrewN ?_ _ | with_reducible refine Below.drew ?_ | with_reducible refine Below.alloc ?_ (by first | omega | (simp; done) | (simp; omega)) _)) (hr.mono (by first | omega | (simp; done) | (simp; omega)))
  clear hr
  go_wp2_with fail
  refine (F.out _).mono ?_
  rintro r w2 ⟨rfl, hf⟩
  have BF : Below w1.heap.size w1 w2 := Below.trans (by repeat (first | with_reducible exact Below.refl _ _ | with_reducible refine Below.setCell ?_ (by first | omega | (simp; done) | (simp; omega)) _ | with_reducible refine bDrewN ?_ _ | with_reducible refine Below.drew ?_ | with_reducible refine Below.alloc ?_ (by first | omega | (simp; done) | (simp; omega)) _)) (hf.mono (by first | omega | (simp; done) | (simp; omega)))
  have t0 : w2.cell? ⟨w.heap.size + 1, 0, none⟩ = some (.int .i64 n) := (BF.cell (p := ⟨w.heap.size + 1, 0, none⟩) z1a).trans r0
  have t1 : w2.cell? ⟨w.heap.size + 1, 1, none⟩ = some (.int .i64 e) := (BF.cell (p := ⟨w.heap.size + 1, 1, none⟩) z1a).trans r1
  have u0 : w2.cell? ⟨w.heap.size + 2, 0, none⟩ = some (.int .i64 0) := (BF.cell (p := ⟨w.heap.size + 2, 0, none⟩) z1).trans s0
  have u1 : w2.cell? ⟨w.heap.size + 2, 1, none⟩ = some (.int .i64 0) := (BF.cell (p := ⟨w.heap.size + 2, 1, none⟩) z1).trans s1
  have u2 : w2.cell? ⟨w.heap.size + 2, 2, none⟩ = some (.int .i64 0) := (BF.cell (p := ⟨w.heap.size + 2, 2, none⟩) z1).trans s2
  have u3 : w2.cell? ⟨w.heap.size + 2, 3, none⟩ = some (.int .i64 0) := (BF.cell (p := ⟨w.heap.size + 2, 3, none⟩) z1).trans s3
  have fz : ∀ o, w2.frozen? ⟨w.heap.size + 2, o, none⟩ = false := fun o => (BF.frozen (p := ⟨w.heap.size + 2, o, none⟩) z1).trans (fy o)
  have z2 : w.heap.size + 2 < w2.heap.size := Nat.lt_of_lt_of_le z1 BF.size
  have z2a : w.heap.size + 1 < w2.heap.size := by omega
  have B2 : Below w.heap.size w w2 := Below.trans B1 (BF.mono (by omega))
  clear hf BF B1 z1 z1a fy r0 r1 s0 s1 s2 s3
  go_wp2_with (first
    | (go_at_call 34; refine (I.out _ _ _ _ ?_ ?_).mono ?_; omega; omega; rintro r w1 ⟨rfl, rfl⟩))
  refine (J.out _ _ _ _ HZ.out).mono ?_
  rintro r w1 ⟨rfl, rfl⟩
  go_wp2
  refine bodyPost_ret (v := .tuple #[.agg #[.int .i64 0, .int .i64 0, .int .i64 0, .int .i64 0], .int .i64 0, .bool false]) (by simp [results, Try.results10, go_sem, u0, u1, u2, u3]) rfl ⟨rfl, ?_⟩
  exact (by repeat (first | with_reducible exact Below.refl _ _ | with_reducible exact B2 | with_reducible refine Below.setCell ?_ (by first | omega | (simp; done) | (simp; omega)) _ | with_reducible refine bDrewN ?_ _ | with_reducible refine Below.drew ?_ | with_reducible refine Below.alloc ?_ (by first | omega | (simp; done) | (simp; omega)) _))
theorem implBalance_any (a b c d n e : Int) (h1 : -9223372036854775808 ≤ n) (h2 : n ≤ 9223372036854775807) (h3 : -9223372036854775808 ≤ e) (h4 : e ≤ 9223372036854775807) :
    ∃ v, balV a b c d n e v ∧ ∀ w, Calls Try.prog 10 #[.agg #[.int .i64 a, .int .i64 b, .int .i64 c, .int .i64 d], .agg #[.int .i64 n, .int .i64 e]] w fun r w' => r = .returned v ∧ Below w.heap.size w w' := by
  have I : Hid (∀ (x lo hi : Int) (w : World), lo ≤ x → x ≤ hi → Calls Try.prog 34 #[.int .i64 x, .int .i64 lo, .int .i64 hi] w fun r w' => r = .returned (.bool true) ∧ w' = w) := fun x lo hi w p q => within_yes x lo hi w p q
  have J : Hid (∀ (x lo hi : Int) (w : World), x < lo ∨ hi < x → Calls Try.prog 34 #[.int .i64 x, .int .i64 lo, .int .i64 hi] w fun r w' => r = .returned (.bool false) ∧ w' = w) := fun x lo hi w p => within_no x lo hi w p
  have R := fun w => gasRight_any a b c d w
  have F := fun w => right_any n e w h1 h2 h3 h4
  by_cases cg : inG a ∧ inG b ∧ inG c ∧ inG d
  · rw [decide_eq_true cg] at R
    obtain ⟨ca, cb, cc, cd⟩ := cg
    cases cr : rightB n e
    · rw [cr] at F
      exact ⟨_, .inl ⟨bal_not (.inr cr), rfl⟩, fun w => implBal_no1 a b c d n e w R F I J⟩
    · rw [cr] at F
      by_cases cn : inK n
      · by_cases ce : inK e
        · obtain ⟨X, hX⟩ := bal_exists (e := e) ca cb cc cd cn
          have hB : balB a b c d n e = true := by unfold balB; rw [decide_eq_true ⟨ca, cb, cc, cd, cn, ce⟩, cr]; rfl
          have x1 := hX.1
          have x2 := hX.2.1
          refine ⟨_, .inr ⟨hB, X, hX, rfl⟩, fun w => implBal_yes a b c d n e X (-min c d) (min a b) w ca.1 ca.2 cb.1 cb.2 cc.1 cc.2 cd.1 cd.2 cn.1 cn.2 ce.1 ce.2 R F I (fun x w y1 y2 => moved_any a b c d x w ca.1 ca.2 cb.1 cb.2 cc.1 cc.2 cd.1 cd.2 y1 y2) (fun x w y1 y2 => ?_) (by split <;> omega) (by split <;> omega) (by omega) (by omega) x1 x2 hX ⟨rfl, rfl⟩⟩
          obtain ⟨p1, p2, p3, p4, p5, p6, p7, p8⟩ := over_prods (x := x) ca cb cc cd cn ce y1 y2
          exact surplus_any (a - x) (b - x) (c + x) (d + x) n e w p1 p2 p3 p4 p5 p6 p7 p8
        · exact ⟨_, .inl ⟨bal_not (.inl fun g => ce g.2.2.2.2.2), rfl⟩, fun w => implBal_no3 a b c d n e w R F cn.1 cn.2 (by unfold inK at ce; omega) I J⟩
      · exact ⟨_, .inl ⟨bal_not (.inl fun g => cn g.2.2.2.2.1), rfl⟩, fun w => implBal_no2 a b c d n e w R F (by unfold inK at cn; omega) I J⟩
  · rw [decide_eq_false cg] at R
    exact ⟨_, .inl ⟨bal_not (.inl fun g => cg ⟨g.1, g.2.1, g.2.2.1, g.2.2.2.1⟩), rfl⟩, fun w => implBal_no0 a b c d n e w R I J⟩
end Go.Proofs.Ytnimndpphphcnaa
