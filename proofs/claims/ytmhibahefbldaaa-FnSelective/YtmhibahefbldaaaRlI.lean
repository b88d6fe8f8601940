/-
What is proved: a relay's delay, as the program tells it.
-/
import Derived.Test.YtmhibahefbldaaaRl
import Derived.Test.YtmhibahefbldaaaDnI
import Derived.Deep.RegionHeld3
import Derived.Deep.DeepCutAuto
namespace Go.Proofs.Ytmhibahefbldaaa
set_option maxRecDepth 40000
open Go.RowKit
set_option linter.unusedVariables false
set_option linter.unusedSimpArgs false

set_option maxHeartbeats 1000000 in
theorem timed_any (p d : Int) (w : World) : Calls Try.prog 23 #[.agg #[.int .i64 p, .int .i64 d]] w fun e w' => e = .returned (.agg #[.int .i64 p, .int .i64 d]) ∧ Below w.heap.size w w' := by
  go_enter Try.func23, Try.ntmps23
  go_wp2
  exact bodyPost_ret (v := .agg #[.int .i64 p, .int .i64 d]) (by simp [results, Try.results23, go_sem]) rfl ⟨rfl, (by repeat (first | with_reducible exact Below.refl _ _ | with_reducible refine Below.setCell ?_ (by first | omega | (simp; done) | (simp; omega)) _ | with_reducible refine bDrewN ?_ _ | with_reducible refine Below.drew ?_ | with_reducible refine Below.alloc ?_ (by first | omega | (simp; done) | (simp; omega)) _))⟩
set_option maxHeartbeats 400000 in
theorem levelOk_any (p : Int) (w : World) : Calls Try.prog 40 #[.agg #[.int .i64 p]] w fun e w' => e = .returned (.bool (inB 1 100000 p)) ∧ Below w.heap.size w w' := by
  go_enter Try.func40, Try.ntmps40
  go_wp2_with fail
  refine (within_is _ _ _ _).mono ?_
  rintro e w1 ⟨rfl, rfl⟩
  go_wp2
  go_ret
  exact ⟨rfl, (by repeat (first | with_reducible exact Below.refl _ _ | with_reducible refine Below.setCell ?_ (by first | omega | (simp; done) | (simp; omega)) _ | with_reducible refine bDrewN ?_ _ | with_reducible refine Below.drew ?_ | with_reducible refine Below.alloc ?_ (by first | omega | (simp; done) | (simp; omega)) _))⟩
set_option maxHeartbeats 400000 in
theorem touched_any (p a : Int) (w : World) : Calls Try.prog 26 #[.agg #[.int .i64 p], .int .i64 a] w fun e w' => e = .returned (.bool (decide (p < a))) ∧ Below w.heap.size w w' := by
  go_enter Try.func26, Try.ntmps26
  go_wp2
  go_ret
  exact ⟨rfl, (by repeat (first | with_reducible exact Below.refl _ _ | with_reducible refine Below.setCell ?_ (by first | omega | (simp; done) | (simp; omega)) _ | with_reducible refine bDrewN ?_ _ | with_reducible refine Below.drew ?_ | with_reducible refine Below.alloc ?_ (by first | omega | (simp; done) | (simp; omega)) _))⟩
set_option maxHeartbeats 400000 in
theorem excess_any (p a : Int) (w : World) (h0 : 1 ≤ p) (h1 : p < a) (h2 : a ≤ 1000000) : Calls Try.prog 42 #[.agg #[.int .i64 p], .int .i64 a] w fun e w' => e = .returned (.int .i64 (a - p)) ∧ Below w.heap.size w w' := by
  go_enter Try.func42, Try.ntmps42
  go_wp2
  go_ret
  exact ⟨rfl, (by repeat (first | with_reducible exact Below.refl _ _ | with_reducible refine Below.setCell ?_ (by first | omega | (simp; done) | (simp; omega)) _ | with_reducible refine bDrewN ?_ _ | with_reducible refine Below.drew ?_ | with_reducible refine Below.alloc ?_ (by first | omega | (simp; done) | (simp; omega)) _))⟩
set_option maxHeartbeats 1000000 in
theorem timedRight_any (p d : Int) (w : World) : Calls Try.prog 24 #[.agg #[.int .i64 p, .int .i64 d]] w fun e w' => e = .returned (.bool (relB p d)) ∧ Below w.heap.size w w' := by
  go_enter Try.func24, Try.ntmps24
  go_wp2_with fail
  refine (levelOk_any _ _).mono ?_
  rintro e w1 ⟨rfl, h1⟩
  obtain ⟨hc, hf⟩ := bcell h1
  have q0 := hc w.heap.size 0 (by first | omega | (simp; done) | (simp; omega))
  have q1 := hc w.heap.size 1 (by first | omega | (simp; done) | (simp; omega))
  simp [go_sem] at q0 q1
  have z1 : w.heap.size < w1.heap.size := by have := h1.size; simp at this; omega
  have B1 : Below w.heap.size w w1 := Below.trans (by repeat (first | with_reducible exact Below.refl _ _ | with_reducible refine Below.setCell ?_ (by first | omega | (simp; done) | (simp; omega)) _ | with_reducible refine bDrewN ?_ _ | with_reducible refine Below.drew ?_ | with_reducible refine Below.alloc ?_ (by first | omega | (simp; done) | (simp; omega)) _)) (h1.mono (by first | omega | (simp; done) | (simp; omega)))
  clear hc hf h1
  cases h0 : inB 1 100000 p
  · go_wp2
    go_ret
    exact ⟨ret_bool (by unfold relB; simp [h0]), (by repeat (first | with_reducible exact Below.refl _ _ | with_reducible exact B1 | with_reducible refine Below.setCell ?_ (by first | omega | (simp; done) | (simp; omega)) _ | with_reducible refine bDrewN ?_ _ | with_reducible refine Below.drew ?_ | with_reducible refine Below.alloc ?_ (by first | omega | (simp; done) | (simp; omega)) _))⟩
  go_wp2_with fail
  refine (within_is _ _ _ _).mono ?_
  rintro e w1 ⟨rfl, rfl⟩
  go_wp2
  go_ret
  exact ⟨ret_bool (by unfold relB; simp [h0]), (by repeat (first | with_reducible exact Below.refl _ _ | with_reducible exact B1 | with_reducible refine Below.setCell ?_ (by first | omega | (simp; done) | (simp; omega)) _ | with_reducible refine bDrewN ?_ _ | with_reducible refine Below.drew ?_ | with_reducible refine Below.alloc ?_ (by first | omega | (simp; done) | (simp; omega)) _))⟩
set_option maxHeartbeats 400000 in
theorem currentOk_any (a : Int) (w : World) : Calls Try.prog 25 #[.int .i64 a] w fun e w' => e = .returned (.bool (inB 0 1000000 a)) ∧ w' = w := by
  go_enter Try.func25, Try.ntmps25
  go_wp2_with fail
  refine (within_is _ _ _ _).mono ?_
  rintro e w1 ⟨rfl, rfl⟩
  go_wp2
  go_ret
  exact ⟨rfl, rfl⟩
theorem keepR {W W' : World} {p : Nat} {a b : Value} (h0 : W.cell? ⟨p, 0, none⟩ = some a) (h1 : W.cell? ⟨p, 1, none⟩ = some b) (hp : p < W.heap.size) (hb : Below W.heap.size W W') : W'.cell? ⟨p, 0, none⟩ = some a ∧ W'.cell? ⟨p, 1, none⟩ = some b :=
  ⟨(hb.cell (p := ⟨p, 0, none⟩) hp).trans h0, (hb.cell (p := ⟨p, 1, none⟩) hp).trans h1⟩
set_option maxHeartbeats 4000000 in
theorem delay_any (p d a : Int) (w : World) (h0 : relB p d = true) (h1 : p < a) (h2 : a ≤ 1000000) : Calls Try.prog 27 #[.agg #[.int .i64 p, .int .i64 d], .int .i64 a] w fun e w' => e = .returned (.int .i64 (quoV p d a)) ∧ Below w.heap.size w w' := by
  obtain ⟨⟨p0, p1⟩, d0, d1⟩ := relB_yes h0
  obtain ⟨r1, r2⟩ := prod_rng ⟨p0, p1⟩ ⟨d0, d1⟩
  have T := quo_rng h0 h1
  obtain ⟨x, hx⟩ : ∃ x, d * p = x := ⟨_, rfl⟩
  obtain ⟨v, hv⟩ : ∃ v, -(x * 1000) / (a - p) = v := ⟨_, rfl⟩
  have e : quoV p d a = -v := by unfold quoV; rw [hx, hv]
  rw [e] at T ⊢
  rw [hx] at r1 r2
  obtain ⟨t1, t2⟩ := T
  obtain ⟨y, hy⟩ : ∃ y, -d = y := ⟨_, rfl⟩
  obtain ⟨z, hz⟩ : ∃ z, -x = z := ⟨_, rfl⟩
  obtain ⟨u, hu⟩ : ∃ u, z * 1000 = u := ⟨_, rfl⟩
  have m0 : IntKind.i64.wrap (-d) = y := by rw [IntKind.wrap_i64]; omega
  have m1 : IntKind.i64.wrap (y * p) = z := by
    have : y * p = z := by rw [← hy, Int.neg_mul, hx, hz]
    rw [this, IntKind.wrap_i64]; omega
  have m2 : IntKind.i64.wrap (z * 1000) = u := by rw [hu, IntKind.wrap_i64]; omega
  obtain ⟨b, hb⟩ : ∃ b, a - p = b := ⟨_, rfl⟩
  have Q : Hid (∀ w, Calls Try.prog 41 #[.int .i64 u, .int .i64 b] w fun e w' => e = .returned (.int .i64 v) ∧ w' = w) := fun w => by
    have := quotientDown_any u b w (by omega) (by omega) (by omega) (by omega)
    have e2 : u / b = v := by rw [← hb, ← hv, ← hu, ← hz, Int.neg_mul]
    rw [e2] at this
    exact this
  have X : Hid (∀ w, Calls Try.prog 42 #[.agg #[.int .i64 p], .int .i64 a] w fun e w' => e = .returned (.int .i64 b) ∧ Below w.heap.size w w') := fun w => by rw [← hb]; exact excess_any p a w p0 h1 h2
  have m3 : IntKind.i64.wrap (-v) = -v := by rw [IntKind.wrap_i64]; omega
  clear e hv hx h0 hy hz hu hb r1 r2
  go_enter Try.func27, Try.ntmps27
  go_upto_region 1 with fail
  obtain ⟨wd, hwd⟩ : ∃ wd, wd = w.alloc (.cells #[.int .i64 p, .int .i64 d] 49) := ⟨_, rfl⟩
  rw [← hwd]
  have c0 : wd.cell? ⟨w.heap.size, 0, none⟩ = some (.int .i64 p) := by rw [hwd]; simp [go_sem]
  have c1 : wd.cell? ⟨w.heap.size, 1, none⟩ = some (.int .i64 d) := by rw [hwd]; simp [go_sem]
  have z0 : w.heap.size < wd.heap.size := by rw [hwd]; simp
  have B0 : Below w.heap.size w wd := by rw [hwd]; exact (by repeat (first | with_reducible exact Below.refl _ _ | with_reducible refine Below.setCell ?_ (by first | omega | (simp; done) | (simp; omega)) _ | with_reducible refine bDrewN ?_ _ | with_reducible refine Below.drew ?_ | with_reducible refine Below.alloc ?_ (by first | omega | (simp; done) | (simp; omega)) _))
  clear hwd
  go_region_held3 (fun w' => w'.cell? ⟨w.heap.size, 0, none⟩ = some (.int .i64 p) ∧ w'.cell? ⟨w.heap.size, 1, none⟩ = some (.int .i64 d)) (first | (refine keepR c0 c1 z0 ?_; exact (by repeat (first | with_reducible exact Below.refl _ _ | with_reducible exact B3 | with_reducible refine Below.setCell ?_ (by first | omega | (simp; done) | (simp; omega)) _ | with_reducible refine bDrewN ?_ _ | with_reducible refine Below.drew ?_ | with_reducible refine Below.alloc ?_ (by first | omega | (simp; done) | (simp; omega)) _)))) (first
    | (go_at_call 42; refine (X.out _).mono ?_; rintro r w3 ⟨rfl, h3⟩; have B3 : Below wd.heap.size wd w3 := Below.trans (by repeat (first | with_reducible exact Below.refl _ _ | with_reducible refine Below.setCell ?_ (by first | omega | (simp; done) | (simp; omega)) _ | with_reducible refine bDrewN ?_ _ | with_reducible refine Below.drew ?_ | with_reducible refine Below.alloc ?_ (by first | omega | (simp; done) | (simp; omega)) _)) (h3.mono (by first | omega | (simp; done) | (simp; omega))))
    | (go_at_call 41; refine (Q.out _).mono ?_; rintro r w3 ⟨rfl, rfl⟩))
  all_goals
    have B4 : Below w.heap.size w w3 := B0.trans (B3.mono B0.size)
    go_wp2
    go_ret
    exact ⟨rfl, (by repeat (first | with_reducible exact Below.refl _ _ | with_reducible exact B4 | with_reducible refine Below.setCell ?_ (by first | omega | (simp; done) | (simp; omega)) _ | with_reducible refine bDrewN ?_ _ | with_reducible refine Below.drew ?_ | with_reducible refine Below.alloc ?_ (by first | omega | (simp; done) | (simp; omega)) _))⟩
set_option maxHeartbeats 4000000 in
theorem implDelay_any (p d a : Int) (w : World) : Calls Try.prog 9 #[.agg #[.int .i64 p, .int .i64 d], .int .i64 a] w fun e w' => e = .returned (.int .i64 (delV p d a)) ∧ Below w.heap.size w w' := by
  go_enter Try.func9, Try.ntmps9
  go_wp2_with fail
  refine (timed_any p d _).mono ?_
  rintro e w1 ⟨rfl, h1⟩
  have z1 : w.heap.size < w1.heap.size := by have := h1.size; simp at this; omega
  have B1 : Below w.heap.size w w1 := Below.trans (by repeat (first | with_reducible exact Below.refl _ _ | with_reducible refine Below.setCell ?_ (by first | omega | (simp; done) | (simp; omega)) _ | with_reducible refine bDrewN ?_ _ | with_reducible refine Below.drew ?_ | with_reducible refine Below.alloc ?_ (by first | omega | (simp; done) | (simp; omega)) _)) (h1.mono (by first | omega | (simp; done) | (simp; omega)))
  clear h1
  go_wp2_with fail
  refine (timedRight_any p d _).mono ?_
  rintro e w2 ⟨rfl, h2⟩
  obtain ⟨hc, hf⟩ := bcell h2
  have q0 := hc w1.heap.size 0 (by first | omega | (simp; done) | (simp; omega))
  have q1 := hc w1.heap.size 1 (by first | omega | (simp; done) | (simp; omega))
  simp [go_sem] at q0 q1
  have z2 : w1.heap.size < w2.heap.size := by have := h2.size; simp at this; omega
  have B2 : Below w.heap.size w w2 := Below.trans (by repeat (first | with_reducible exact Below.refl _ _ | with_reducible exact B1 | with_reducible refine Below.setCell ?_ (by first | omega | (simp; done) | (simp; omega)) _ | with_reducible refine bDrewN ?_ _ | with_reducible refine Below.drew ?_ | with_reducible refine Below.alloc ?_ (by first | omega | (simp; done) | (simp; omega)) _)) (h2.mono (by first | omega | (simp; done) | (simp; omega)))
  clear hc hf h2
  cases k0 : relB p d
  · have HO : Hid (delV p d a = -1) := del_off (by simp [k0])
    go_wp2
    go_ret
    exact ⟨ret_int HO.out.symm, (by repeat (first | with_reducible exact Below.refl _ _ | with_reducible exact B2 | with_reducible refine Below.setCell ?_ (by first | omega | (simp; done) | (simp; omega)) _ | with_reducible refine bDrewN ?_ _ | with_reducible refine Below.drew ?_ | with_reducible refine Below.alloc ?_ (by first | omega | (simp; done) | (simp; omega)) _))⟩
  go_wp2_with fail
  refine (currentOk_any _ _).mono ?_
  rintro e w3 ⟨rfl, rfl⟩
  cases k1 : inB 0 1000000 a
  · have HO : Hid (delV p d a = -1) := del_off (by simp [k1])
    go_wp2
    go_ret
    exact ⟨ret_int HO.out.symm, (by repeat (first | with_reducible exact Below.refl _ _ | with_reducible exact B2 | with_reducible refine Below.setCell ?_ (by first | omega | (simp; done) | (simp; omega)) _ | with_reducible refine bDrewN ?_ _ | with_reducible refine Below.drew ?_ | with_reducible refine Below.alloc ?_ (by first | omega | (simp; done) | (simp; omega)) _))⟩
  go_wp2_with fail
  refine (touched_any _ _ _).mono ?_
  rintro e w4 ⟨rfl, h4⟩
  replace q0 := (h4.cell (p := ⟨w1.heap.size, 0, none⟩) (by first | omega | (simp; done) | (simp; omega))).trans q0
  replace q1 := (h4.cell (p := ⟨w1.heap.size, 1, none⟩) (by first | omega | (simp; done) | (simp; omega))).trans q1
  have z4 : w1.heap.size < w4.heap.size := Nat.lt_of_lt_of_le z2 h4.size
  have B4 : Below w.heap.size w w4 := B2.trans (h4.mono B2.size)
  clear h4
  by_cases k2 : p < a
  case neg =>
    have b2 : decide (p < a) = false := decide_eq_false k2
    rw [b2]
    have HO : Hid (delV p d a = -1) := del_off (by simp [k2])
    go_wp2
    go_ret
    exact ⟨ret_int HO.out.symm, (by repeat (first | with_reducible exact Below.refl _ _ | with_reducible exact B4 | with_reducible refine Below.setCell ?_ (by first | omega | (simp; done) | (simp; omega)) _ | with_reducible refine bDrewN ?_ _ | with_reducible refine Below.drew ?_ | with_reducible refine Below.alloc ?_ (by first | omega | (simp; done) | (simp; omega)) _))⟩
  have b2 : decide (p < a) = true := decide_eq_true k2
  rw [b2]
  have HO : Hid (delV p d a = quoV p d a) := del_on k0 k1 k2
  go_wp2_with fail
  refine (delay_any p d a _ k0 k2 (inB_yes k1).2).mono ?_
  rintro e w5 ⟨rfl, h5⟩
  have B5 : Below w.heap.size w w5 := B4.trans (h5.mono B4.size)
  go_wp2
  go_ret
  exact ⟨ret_int HO.out.symm, (by repeat (first | with_reducible exact Below.refl _ _ | with_reducible exact B5 | with_reducible refine Below.setCell ?_ (by first | omega | (simp; done) | (simp; omega)) _ | with_reducible refine bDrewN ?_ _ | with_reducible refine Below.drew ?_ | with_reducible refine Below.alloc ?_ (by first | omega | (simp; done) | (simp; omega)) _))⟩
end Go.Proofs.Ytmhibahefbldaaa
