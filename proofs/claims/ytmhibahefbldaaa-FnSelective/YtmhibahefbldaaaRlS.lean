/-
What is proved: a relay's delay, as the specification tells it.
-/
import Derived.Test.YtmhibahefbldaaaRl
namespace Go.Proofs.Ytmhibahefbldaaa
set_option maxRecDepth 40000
open Go.RowKit
set_option linter.unusedVariables false
set_option linter.unusedSimpArgs false

set_option maxHeartbeats 1000000 in
theorem l16Relay_any (p d : Int) (w : World) : Calls Try.prog 21 #[.agg #[.int .i64 p, .int .i64 d]] w fun e w' => e = .returned (.bool (relB p d)) ∧ Below w.heap.size w w' := by
  go_enter Try.func21, Try.ntmps21
  go_wp2_with fail
  refine (l1In_is _ _ _ _).mono ?_
  rintro e w1 ⟨rfl, rfl⟩
  cases h0 : inB 1 100000 p
  · go_wp2
    go_ret
    exact ⟨ret_bool (by unfold relB; simp [h0]), (by repeat (first | with_reducible exact Below.refl _ _ | with_reducible refine Below.setCell ?_ (by first | omega | (simp; done) | (simp; omega)) _ | with_reducible refine bDrewN ?_ _ | with_reducible refine Below.drew ?_ | with_reducible refine Below.alloc ?_ (by first | omega | (simp; done) | (simp; omega)) _))⟩
  go_wp2_with fail
  refine (l1In_is _ _ _ _).mono ?_
  rintro e w1 ⟨rfl, rfl⟩
  go_wp2
  go_ret
  exact ⟨ret_bool (by unfold relB; simp [h0]), (by repeat (first | with_reducible exact Below.refl _ _ | with_reducible refine Below.setCell ?_ (by first | omega | (simp; done) | (simp; omega)) _ | with_reducible refine bDrewN ?_ _ | with_reducible refine Below.drew ?_ | with_reducible refine Below.alloc ?_ (by first | omega | (simp; done) | (simp; omega)) _))⟩
set_option maxHeartbeats 400000 in
theorem l16Amps_any (a : Int) (w : World) : Calls Try.prog 22 #[.int .i64 a] w fun e w' => e = .returned (.bool (inB 0 1000000 a)) ∧ w' = w := by
  go_enter Try.func22, Try.ntmps22
  go_wp2_with fail
  refine (l1In_is _ _ _ _).mono ?_
  rintro e w1 ⟨rfl, rfl⟩
  go_wp2
  go_ret
  exact ⟨rfl, rfl⟩
set_option maxHeartbeats 2000000 in
theorem specDelay_any (p d a : Int) (w : World) : Calls Try.prog 7 #[.agg #[.int .i64 p, .int .i64 d], .int .i64 a] w fun e w' => e = .returned (.int .i64 (delV p d a)) ∧ Below w.heap.size w w' := by
  go_enter Try.func7, Try.ntmps7
  go_wp2_with fail
  refine (l16Relay_any p d _).mono ?_
  rintro e w1 ⟨rfl, h1⟩
  obtain ⟨hc, hf⟩ := bcell h1
  have q0 := hc w.heap.size 0 (by first | omega | (simp; done) | (simp; omega))
  have q1 := hc w.heap.size 1 (by first | omega | (simp; done) | (simp; omega))
  simp [go_sem] at q0 q1
  have z1 : w.heap.size < w1.heap.size := by have := h1.size; simp at this; omega
  have B1 : Below w.heap.size w w1 := Below.trans (by repeat (first | with_reducible exact Below.refl _ _ | with_reducible refine Below.setCell ?_ (by first | omega | (simp; done) | (simp; omega)) _ | with_reducible refine bDrewN ?_ _ | with_reducible refine Below.drew ?_ | with_reducible refine Below.alloc ?_ (by first | omega | (simp; done) | (simp; omega)) _)) (h1.mono (by first | omega | (simp; done) | (simp; omega)))
  clear hc hf h1
  cases h0 : relB p d
  · have HO : Hid (delV p d a = -1) := del_off (by simp [h0])
    go_wp2
    go_ret
    exact ⟨ret_int HO.out.symm, (by repeat (first | with_reducible exact Below.refl _ _ | with_reducible exact B1 | with_reducible refine Below.setCell ?_ (by first | omega | (simp; done) | (simp; omega)) _ | with_reducible refine bDrewN ?_ _ | with_reducible refine Below.drew ?_ | with_reducible refine Below.alloc ?_ (by first | omega | (simp; done) | (simp; omega)) _))⟩
  go_wp2_with fail
  refine (l16Amps_any _ _).mono ?_
  rintro e w2 ⟨rfl, rfl⟩
  cases h1 : inB 0 1000000 a
  · have HO : Hid (delV p d a = -1) := del_off (by simp [h1])
    go_wp2
    go_ret
    exact ⟨ret_int HO.out.symm, (by repeat (first | with_reducible exact Below.refl _ _ | with_reducible exact B1 | with_reducible refine Below.setCell ?_ (by first | omega | (simp; done) | (simp; omega)) _ | with_reducible refine bDrewN ?_ _ | with_reducible refine Below.drew ?_ | with_reducible refine Below.alloc ?_ (by first | omega | (simp; done) | (simp; omega)) _))⟩
  by_cases h2 : a ≤ p
  · have HO : Hid (delV p d a = -1) := del_off (by simp [show ¬ p < a by omega])
    go_wp2
    go_ret
    exact ⟨ret_int HO.out.symm, (by repeat (first | with_reducible exact Below.refl _ _ | with_reducible exact B1 | with_reducible refine Below.setCell ?_ (by first | omega | (simp; done) | (simp; omega)) _ | with_reducible refine bDrewN ?_ _ | with_reducible refine Below.drew ?_ | with_reducible refine Below.alloc ?_ (by first | omega | (simp; done) | (simp; omega)) _))⟩
  obtain ⟨hp, hd⟩ := relB_yes h0
  obtain ⟨a0, a1⟩ := inB_yes h1
  obtain ⟨r1, r2⟩ := prod_rng hp hd
  have HO : Hid (delV p d a = (d * p * 1000 + (a - p) - 1).tdiv (a - p)) := by
    show _ = _
    rw [del_on h0 h1 (by omega), up_eq (by omega) (by omega)]; rfl
  have T : Hid (1 ≤ delV p d a ∧ delV p d a ≤ 10000000000) := by
    show _ ∧ _
    rw [del_on h0 h1 (by omega)]; exact quo_rng h0 (by omega)
  obtain ⟨v, hv⟩ : ∃ v, delV p d a = v := ⟨_, rfl⟩
  rw [hv] at HO T
  have HV : Hid (delV p d a = v) := hv
  obtain ⟨x, hx⟩ : ∃ x, d * p = x := ⟨_, rfl⟩
  rw [hx] at HO r1 r2
  have hq : (x * 1000 + (a - p) - 1).tdiv (a - p) = v := HO.out.symm
  obtain ⟨v1, v2⟩ := T.out
  clear hv HO T h0 h1
  go_wp2
  go_ret
  exact ⟨ret_int HV.out.symm, (by repeat (first | with_reducible exact Below.refl _ _ | with_reducible exact B1 | with_reducible refine Below.setCell ?_ (by first | omega | (simp; done) | (simp; omega)) _ | with_reducible refine bDrewN ?_ _ | with_reducible refine Below.drew ?_ | with_reducible refine Below.alloc ?_ (by first | omega | (simp; done) | (simp; omega)) _))⟩
end Go.Proofs.Ytmhibahefbldaaa
