/-
What is proved: whether a drum is right, as the program says it, for all int64s as its parts.
-/
import Derived.Test.YtjiojofgpdimaaaDrum
namespace Go.Proofs.Ytjiojofgpdimaaa
set_option maxRecDepth 40000
open Go.RowKit

set_option maxHeartbeats 2000000 in
theorem implDrumOk_any (x0 x1 x2 x3 x4 x5 x6 : Int) (w : World) :
    Calls Try.prog 11 #[.agg #[.int .i64 x0, .int .i64 x1, .int .i64 x2, .int .i64 x3, .int .i64 x4, .int .i64 x5, .int .i64 x6]] w fun e w' => e = .returned (.bool (drumB x0 x1 x2 x3 x4 x5 x6)) ∧ Below w.heap.size w w' := by
  have Y : Hid (∀ (x : Int) (w : World), 0 ≤ x → x ≤ 1000000000000 → Calls Try.prog 28 #[.int .i64 x, .int .i64 0, .int .i64 1000000000000] w fun e w' => e = .returned (.bool true) ∧ w' = w) := fun x w a b => within_yes x 0 1000000000000 w a b
  have N : Hid (∀ (x : Int) (w : World), x < 0 ∨ 1000000000000 < x → Calls Try.prog 28 #[.int .i64 x, .int .i64 0, .int .i64 1000000000000] w fun e w' => e = .returned (.bool false) ∧ w' = w) := fun x w a => within_no x 0 1000000000000 w a
  have i0 : ∀ w, (Instr.index 54 (.agg #[.int .i64 x0, .int .i64 x1, .int .i64 x2, .int .i64 x3, .int .i64 x4, .int .i64 x5, .int .i64 x6]) (.int .i64 0)).run Try.prog w = .ok (.int .i64 x0) w := fun _ => by kernel_rfl
  have i1 : ∀ w, (Instr.index 54 (.agg #[.int .i64 x0, .int .i64 x1, .int .i64 x2, .int .i64 x3, .int .i64 x4, .int .i64 x5, .int .i64 x6]) (.int .i64 1)).run Try.prog w = .ok (.int .i64 x1) w := fun _ => by kernel_rfl
  have i2 : ∀ w, (Instr.index 54 (.agg #[.int .i64 x0, .int .i64 x1, .int .i64 x2, .int .i64 x3, .int .i64 x4, .int .i64 x5, .int .i64 x6]) (.int .i64 2)).run Try.prog w = .ok (.int .i64 x2) w := fun _ => by kernel_rfl
  have i3 : ∀ w, (Instr.index 54 (.agg #[.int .i64 x0, .int .i64 x1, .int .i64 x2, .int .i64 x3, .int .i64 x4, .int .i64 x5, .int .i64 x6]) (.int .i64 3)).run Try.prog w = .ok (.int .i64 x3) w := fun _ => by kernel_rfl
  have i4 : ∀ w, (Instr.index 54 (.agg #[.int .i64 x0, .int .i64 x1, .int .i64 x2, .int .i64 x3, .int .i64 x4, .int .i64 x5, .int .i64 x6]) (.int .i64 4)).run Try.prog w = .ok (.int .i64 x4) w := fun _ => by kernel_rfl
  have i5 : ∀ w, (Instr.index 54 (.agg #[.int .i64 x0, .int .i64 x1, .int .i64 x2, .int .i64 x3, .int .i64 x4, .int .i64 x5, .int .i64 x6]) (.int .i64 5)).run Try.prog w = .ok (.int .i64 x5) w := fun _ => by kernel_rfl
  have i6 : ∀ w, (Instr.index 54 (.agg #[.int .i64 x0, .int .i64 x1, .int .i64 x2, .int .i64 x3, .int .i64 x4, .int .i64 x5, .int .i64 x6]) (.int .i64 6)).run Try.prog w = .ok (.int .i64 x6) w := fun _ => by kernel_rfl
  go_enter Try.func11, Try.ntmps11
  go_wp2
  go_loop [20] (fun i => ∃ k : Nat, k ≤ 7 ∧ i = .int .i64 k ∧ Hid (∀ j, j < k → inD (dth x0 x1 x2 x3 x4 x5 x6 j))) (fun i => 7 - (intOf i).toNat)
  case atStart => exact ⟨0, by omega, rfl, fun j hj => by omega⟩
  case round =>
    obtain ⟨k, hk, rfl, hj⟩ := hrel
    by_cases h7 : k = 7
    · subst h7
      obtain ⟨b0, b1, b2, b3, b4, b5, b6, hf⟩ := drum_all hj.out
      have HF : Hid _ := hf
      clear hf hj
      have O : Hid (∀ w, Calls Try.prog 31 #[.agg #[.int .i64 x0, .int .i64 x1, .int .i64 x2, .int .i64 x3, .int .i64 x4, .int .i64 x5, .int .i64 x6]] w fun e w' => e = .returned (.int .i64 (x2 - 20 * x0 - 30 * x1)) ∧ Below w.heap.size w w') := fun w => spare_any x0 x1 x2 x3 x4 x5 x6 w b0.1 (by omega) b1.1 (by omega) b2.1 (by omega)
      have H : Hid (∀ w, Calls Try.prog 29 #[.agg #[.int .i64 x0, .int .i64 x1, .int .i64 x2, .int .i64 x3, .int .i64 x4, .int .i64 x5, .int .i64 x6]] w fun e w' => e = .returned (.agg #[.int .i64 (x0 + x1), .int .i64 x2]) ∧ Below w.heap.size w w') := fun w => held_any x0 x1 x2 x3 x4 x5 x6 w b0.1 (by omega) b1.1 (by omega)
      have K : Hid (∀ w, Calls Try.prog 30 #[.agg #[.int .i64 x0, .int .i64 x1, .int .i64 x2, .int .i64 x3, .int .i64 x4, .int .i64 x5, .int .i64 x6]] w fun e w' => e = .returned (.agg #[.int .i64 (x3 - x4), .int .i64 (x5 - x6)]) ∧ Below w.heap.size w w') := fun w => booked_any x0 x1 x2 x3 x4 x5 x6 w b3.1 (by omega) b4.1 (by omega) b5.1 (by omega) b6.1 (by omega)
      have EQ : ∀ w, (binOp .eql 57 (.agg #[.int .i64 (x0 + x1), .int .i64 x2]) (.agg #[.int .i64 (x3 - x4), .int .i64 (x5 - x6)])).run Try.prog w = .ok (.bool (x0 + x1 == x3 - x4 && x2 == x5 - x6)) w := fun w => eq_book _ _ _ _ w
      by_cases m : x0 + x1 = x3 - x4 ∧ x2 = x5 - x6
      · have e1 : (x0 + x1 == x3 - x4 && x2 == x5 - x6) = true := by simpa using m
        rw [e1] at EQ
        have hg : Try.prog.eqGuardType Try.prog.depth 57 = false := by kernel_rfl
        by_cases s0 : x1 = 0
        · have e0 : (x1 == 0) = true := by simpa using s0
          have S0 : Hid (x1 = 0) := s0
          have HM : Hid _ := m
          clear m O s0
          go_wp2_with fail
          first | go_region_with (first
            | (refine Eq.mpr (if_neg ?_) ?_; exact (show ¬ ((none : Option Bool) = some false) from (by decide)))
            | (go_at_call 29; refine (H.out _).mono ?_; rintro e w1 ⟨rfl, hb1⟩; have B1 : Below (w.alloc (.cells #[.int .i64 x0, .int .i64 x1, .int .i64 x2, .int .i64 x3, .int .i64 x4, .int .i64 x5, .int .i64 x6] 25)).heap.size (w.alloc (.cells #[.int .i64 x0, .int .i64 x1, .int .i64 x2, .int .i64 x3, .int .i64 x4, .int .i64 x5, .int .i64 x6] 25)) w1 := Below.trans (by repeat (first | with_reducible exact Below.refl _ _ | with_reducible refine Below.setCell ?_ (by first | omega | (simp; done) | (simp; omega)) _ | with_reducible refine bDrewN ?_ _ | with_reducible refine Below.drew ?_ | with_reducible refine Below.alloc ?_ (by first | omega | (simp; done) | (simp; omega)) _)) (hb1.mono (by first | omega | (simp; done) | (simp; omega))); have s1 := B1.size; obtain ⟨q0, q1, q2, q3, q4, q5, q6⟩ := keep7 B1; simp at s1)
            | (go_at_call 30; refine (K.out _).mono ?_; rintro e w2 ⟨rfl, hb2⟩; have B2 : Below (w.alloc (.cells #[.int .i64 x0, .int .i64 x1, .int .i64 x2, .int .i64 x3, .int .i64 x4, .int .i64 x5, .int .i64 x6] 25)).heap.size (w.alloc (.cells #[.int .i64 x0, .int .i64 x1, .int .i64 x2, .int .i64 x3, .int .i64 x4, .int .i64 x5, .int .i64 x6] 25)) w2 := Below.trans (by repeat (first | with_reducible exact Below.refl _ _ | with_reducible exact B1 | with_reducible refine Below.setCell ?_ (by first | omega | (simp; done) | (simp; omega)) _ | with_reducible refine bDrewN ?_ _ | with_reducible refine Below.drew ?_ | with_reducible refine Below.alloc ?_ (by first | omega | (simp; done) | (simp; omega)) _)) (hb2.mono (by first | omega | (simp; done) | (simp; omega))); have s2 := B2.size; obtain ⟨q0, q1, q2, q3, q4, q5, q6⟩ := keep7 B2; simp at s2)
            | (go_at_call 31; refine (O.out _).mono ?_; rintro e w3 ⟨rfl, hb3⟩; have B3 : Below (w.alloc (.cells #[.int .i64 x0, .int .i64 x1, .int .i64 x2, .int .i64 x3, .int .i64 x4, .int .i64 x5, .int .i64 x6] 25)).heap.size (w.alloc (.cells #[.int .i64 x0, .int .i64 x1, .int .i64 x2, .int .i64 x3, .int .i64 x4, .int .i64 x5, .int .i64 x6] 25)) w3 := Below.trans (by repeat (first | with_reducible exact Below.refl _ _ | with_reducible exact B2 | with_reducible refine Below.setCell ?_ (by first | omega | (simp; done) | (simp; omega)) _ | with_reducible refine bDrewN ?_ _ | with_reducible refine Below.drew ?_ | with_reducible refine Below.alloc ?_ (by first | omega | (simp; done) | (simp; omega)) _)) (hb3.mono (by first | omega | (simp; done) | (simp; omega))))) | fail "region"
          all_goals
            go_wp2
            go_ret
            refine ⟨ret_bool ?_, Below.trans (by repeat (first | with_reducible exact Below.refl _ _ | with_reducible refine Below.setCell ?_ (by first | omega | (simp; done) | (simp; omega)) _ | with_reducible refine bDrewN ?_ _ | with_reducible refine Below.drew ?_ | with_reducible refine Below.alloc ?_ (by first | omega | (simp; done) | (simp; omega)) _)) (B2.mono (by first | omega | (simp; done) | (simp; omega)))⟩
            have m2 := HM.out
            rw [HF.out]
            symm; rw [decide_eq_true_iff]
            exact ⟨m2.1, m2.2, .inl S0.out⟩
        · have HM : Hid _ := m
          have S0 : Hid (¬ x1 = 0) := s0
          have e0 : (x1 == 0) = false := by simpa using s0
          clear m s0
          go_wp2_with fail
          first | go_region_with (first
            | (refine Eq.mpr (if_neg ?_) ?_; exact (show ¬ ((none : Option Bool) = some false) from (by decide)))
            | (go_at_call 29; refine (H.out _).mono ?_; rintro e w1 ⟨rfl, hb1⟩; have B1 : Below (w.alloc (.cells #[.int .i64 x0, .int .i64 x1, .int .i64 x2, .int .i64 x3, .int .i64 x4, .int .i64 x5, .int .i64 x6] 25)).heap.size (w.alloc (.cells #[.int .i64 x0, .int .i64 x1, .int .i64 x2, .int .i64 x3, .int .i64 x4, .int .i64 x5, .int .i64 x6] 25)) w1 := Below.trans (by repeat (first | with_reducible exact Below.refl _ _ | with_reducible refine Below.setCell ?_ (by first | omega | (simp; done) | (simp; omega)) _ | with_reducible refine bDrewN ?_ _ | with_reducible refine Below.drew ?_ | with_reducible refine Below.alloc ?_ (by first | omega | (simp; done) | (simp; omega)) _)) (hb1.mono (by first | omega | (simp; done) | (simp; omega))); have s1 := B1.size; obtain ⟨q0, q1, q2, q3, q4, q5, q6⟩ := keep7 B1; simp at s1)
            | (go_at_call 30; refine (K.out _).mono ?_; rintro e w2 ⟨rfl, hb2⟩; have B2 : Below (w.alloc (.cells #[.int .i64 x0, .int .i64 x1, .int .i64 x2, .int .i64 x3, .int .i64 x4, .int .i64 x5, .int .i64 x6] 25)).heap.size (w.alloc (.cells #[.int .i64 x0, .int .i64 x1, .int .i64 x2, .int .i64 x3, .int .i64 x4, .int .i64 x5, .int .i64 x6] 25)) w2 := Below.trans (by repeat (first | with_reducible exact Below.refl _ _ | with_reducible exact B1 | with_reducible refine Below.setCell ?_ (by first | omega | (simp; done) | (simp; omega)) _ | with_reducible refine bDrewN ?_ _ | with_reducible refine Below.drew ?_ | with_reducible refine Below.alloc ?_ (by first | omega | (simp; done) | (simp; omega)) _)) (hb2.mono (by first | omega | (simp; done) | (simp; omega))); have s2 := B2.size; obtain ⟨q0, q1, q2, q3, q4, q5, q6⟩ := keep7 B2; simp at s2)
            | (go_at_call 31; refine (O.out _).mono ?_; rintro e w3 ⟨rfl, hb3⟩; have B3 : Below (w.alloc (.cells #[.int .i64 x0, .int .i64 x1, .int .i64 x2, .int .i64 x3, .int .i64 x4, .int .i64 x5, .int .i64 x6] 25)).heap.size (w.alloc (.cells #[.int .i64 x0, .int .i64 x1, .int .i64 x2, .int .i64 x3, .int .i64 x4, .int .i64 x5, .int .i64 x6] 25)) w3 := Below.trans (by repeat (first | with_reducible exact Below.refl _ _ | with_reducible exact B2 | with_reducible refine Below.setCell ?_ (by first | omega | (simp; done) | (simp; omega)) _ | with_reducible refine bDrewN ?_ _ | with_reducible refine Below.drew ?_ | with_reducible refine Below.alloc ?_ (by first | omega | (simp; done) | (simp; omega)) _)) (hb3.mono (by first | omega | (simp; done) | (simp; omega))))) | fail "region"
          all_goals
            go_wp2
            go_ret
            refine ⟨ret_bool ?_, Below.trans (by repeat (first | with_reducible exact Below.refl _ _ | with_reducible refine Below.setCell ?_ (by first | omega | (simp; done) | (simp; omega)) _ | with_reducible refine bDrewN ?_ _ | with_reducible refine Below.drew ?_ | with_reducible refine Below.alloc ?_ (by first | omega | (simp; done) | (simp; omega)) _)) (B3.mono (by first | omega | (simp; done) | (simp; omega)))⟩
            have m2 := HM.out
            have m3 := S0.out
            rw [HF.out, Bool.eq_iff_iff, decide_eq_true_iff]
            simp only [decide_eq_true_iff]
            omega
      · have hg : Try.prog.eqGuardType Try.prog.depth 57 = false := by kernel_rfl
        have e1 : (x0 + x1 == x3 - x4 && x2 == x5 - x6) = false := by
          rw [Bool.eq_false_iff]; intro h; exact m (by simpa using h)
        rw [e1] at EQ
        clear e1
        by_cases m1 : x0 + x1 = x3 - x4
        · have e2 : (x2 == x5 - x6) = false := by
            rw [Bool.eq_false_iff]; intro h; exact m ⟨m1, by simpa using h⟩
          have HM : Hid _ := m
          clear m O
          go_wp2_with fail
          first | go_region_with (first
            | (refine Eq.mpr (if_neg ?_) ?_; exact (show ¬ ((none : Option Bool) = some false) from (by decide)))
            | (go_at_call 29; refine (H.out _).mono ?_; rintro e w1 ⟨rfl, hb1⟩; have B1 : Below (w.alloc (.cells #[.int .i64 x0, .int .i64 x1, .int .i64 x2, .int .i64 x3, .int .i64 x4, .int .i64 x5, .int .i64 x6] 25)).heap.size (w.alloc (.cells #[.int .i64 x0, .int .i64 x1, .int .i64 x2, .int .i64 x3, .int .i64 x4, .int .i64 x5, .int .i64 x6] 25)) w1 := Below.trans (by repeat (first | with_reducible exact Below.refl _ _ | with_reducible refine Below.setCell ?_ (by first | omega | (simp; done) | (simp; omega)) _ | with_reducible refine bDrewN ?_ _ | with_reducible refine Below.drew ?_ | with_reducible refine Below.alloc ?_ (by first | omega | (simp; done) | (simp; omega)) _)) (hb1.mono (by first | omega | (simp; done) | (simp; omega))); have s1 := B1.size; obtain ⟨q0, q1, q2, q3, q4, q5, q6⟩ := keep7 B1; simp at s1)
            | (go_at_call 30; refine (K.out _).mono ?_; rintro e w2 ⟨rfl, hb2⟩; have B2 : Below (w.alloc (.cells #[.int .i64 x0, .int .i64 x1, .int .i64 x2, .int .i64 x3, .int .i64 x4, .int .i64 x5, .int .i64 x6] 25)).heap.size (w.alloc (.cells #[.int .i64 x0, .int .i64 x1, .int .i64 x2, .int .i64 x3, .int .i64 x4, .int .i64 x5, .int .i64 x6] 25)) w2 := Below.trans (by repeat (first | with_reducible exact Below.refl _ _ | with_reducible exact B1 | with_reducible refine Below.setCell ?_ (by first | omega | (simp; done) | (simp; omega)) _ | with_reducible refine bDrewN ?_ _ | with_reducible refine Below.drew ?_ | with_reducible refine Below.alloc ?_ (by first | omega | (simp; done) | (simp; omega)) _)) (hb2.mono (by first | omega | (simp; done) | (simp; omega))); have s2 := B2.size; obtain ⟨q0, q1, q2, q3, q4, q5, q6⟩ := keep7 B2; simp at s2)
            | (go_at_call 31; refine (O.out _).mono ?_; rintro e w3 ⟨rfl, hb3⟩; have B3 : Below (w.alloc (.cells #[.int .i64 x0, .int .i64 x1, .int .i64 x2, .int .i64 x3, .int .i64 x4, .int .i64 x5, .int .i64 x6] 25)).heap.size (w.alloc (.cells #[.int .i64 x0, .int .i64 x1, .int .i64 x2, .int .i64 x3, .int .i64 x4, .int .i64 x5, .int .i64 x6] 25)) w3 := Below.trans (by repeat (first | with_reducible exact Below.refl _ _ | with_reducible exact B2 | with_reducible refine Below.setCell ?_ (by first | omega | (simp; done) | (simp; omega)) _ | with_reducible refine bDrewN ?_ _ | with_reducible refine Below.drew ?_ | with_reducible refine Below.alloc ?_ (by first | omega | (simp; done) | (simp; omega)) _)) (hb3.mono (by first | omega | (simp; done) | (simp; omega))))) | fail "region"
          all_goals
            go_wp2
            go_ret
            refine ⟨ret_bool ?_, Below.trans (by repeat (first | with_reducible exact Below.refl _ _ | with_reducible refine Below.setCell ?_ (by first | omega | (simp; done) | (simp; omega)) _ | with_reducible refine bDrewN ?_ _ | with_reducible refine Below.drew ?_ | with_reducible refine Below.alloc ?_ (by first | omega | (simp; done) | (simp; omega)) _)) (B2.mono (by first | omega | (simp; done) | (simp; omega)))⟩
            have m2 := HM.out
            rw [HF.out]
            symm; rw [decide_eq_false_iff_not]
            exact fun h => m2 ⟨h.1, h.2.1⟩
        · have e2 : (x0 + x1 == x3 - x4) = false := by simpa using m1
          clear m1
          have HM : Hid _ := m
          clear m O
          go_wp2_with fail
          first | go_region_with (first
            | (refine Eq.mpr (if_neg ?_) ?_; exact (show ¬ ((none : Option Bool) = some false) from (by decide)))
            | (go_at_call 29; refine (H.out _).mono ?_; rintro e w1 ⟨rfl, hb1⟩; have B1 : Below (w.alloc (.cells #[.int .i64 x0, .int .i64 x1, .int .i64 x2, .int .i64 x3, .int .i64 x4, .int .i64 x5, .int .i64 x6] 25)).heap.size (w.alloc (.cells #[.int .i64 x0, .int .i64 x1, .int .i64 x2, .int .i64 x3, .int .i64 x4, .int .i64 x5, .int .i64 x6] 25)) w1 := Below.trans (by repeat (first | with_reducible exact Below.refl _ _ | with_reducible refine Below.setCell ?_ (by first | omega | (simp; done) | (simp; omega)) _ | with_reducible refine bDrewN ?_ _ | with_reducible refine Below.drew ?_ | with_reducible refine Below.alloc ?_ (by first | omega | (simp; done) | (simp; omega)) _)) (hb1.mono (by first | omega | (simp; done) | (simp; omega))); have s1 := B1.size; obtain ⟨q0, q1, q2, q3, q4, q5, q6⟩ := keep7 B1; simp at s1)
            | (go_at_call 30; refine (K.out _).mono ?_; rintro e w2 ⟨rfl, hb2⟩; have B2 : Below (w.alloc (.cells #[.int .i64 x0, .int .i64 x1, .int .i64 x2, .int .i64 x3, .int .i64 x4, .int .i64 x5, .int .i64 x6] 25)).heap.size (w.alloc (.cells #[.int .i64 x0, .int .i64 x1, .int .i64 x2, .int .i64 x3, .int .i64 x4, .int .i64 x5, .int .i64 x6] 25)) w2 := Below.trans (by repeat (first | with_reducible exact Below.refl _ _ | with_reducible exact B1 | with_reducible refine Below.setCell ?_ (by first | omega | (simp; done) | (simp; omega)) _ | with_reducible refine bDrewN ?_ _ | with_reducible refine Below.drew ?_ | with_reducible refine Below.alloc ?_ (by first | omega | (simp; done) | (simp; omega)) _)) (hb2.mono (by first | omega | (simp; done) | (simp; omega))); have s2 := B2.size; obtain ⟨q0, q1, q2, q3, q4, q5, q6⟩ := keep7 B2; simp at s2)
            | (go_at_call 31; refine (O.out _).mono ?_; rintro e w3 ⟨rfl, hb3⟩; have B3 : Below (w.alloc (.cells #[.int .i64 x0, .int .i64 x1, .int .i64 x2, .int .i64 x3, .int .i64 x4, .int .i64 x5, .int .i64 x6] 25)).heap.size (w.alloc (.cells #[.int .i64 x0, .int .i64 x1, .int .i64 x2, .int .i64 x3, .int .i64 x4, .int .i64 x5, .int .i64 x6] 25)) w3 := Below.trans (by repeat (first | with_reducible exact Below.refl _ _ | with_reducible exact B2 | with_reducible refine Below.setCell ?_ (by first | omega | (simp; done) | (simp; omega)) _ | with_reducible refine bDrewN ?_ _ | with_reducible refine Below.drew ?_ | with_reducible refine Below.alloc ?_ (by first | omega | (simp; done) | (simp; omega)) _)) (hb3.mono (by first | omega | (simp; done) | (simp; omega))))) | fail "region"
          all_goals
            go_wp2
            go_ret
            refine ⟨ret_bool ?_, Below.trans (by repeat (first | with_reducible exact Below.refl _ _ | with_reducible refine Below.setCell ?_ (by first | omega | (simp; done) | (simp; omega)) _ | with_reducible refine bDrewN ?_ _ | with_reducible refine Below.drew ?_ | with_reducible refine Below.alloc ?_ (by first | omega | (simp; done) | (simp; omega)) _)) (B2.mono (by first | omega | (simp; done) | (simp; omega)))⟩
            have m2 := HM.out
            rw [HF.out]
            symm; rw [decide_eq_false_iff_not]
            exact fun h => m2 ⟨h.1, h.2.1⟩
    · have hlt : k < 7 := by omega
      by_cases hx : inD (dth x0 x1 x2 x3 x4 x5 x6 k)
      · have hs : Hid (∀ j, j < k + 1 → inD (dth x0 x1 x2 x3 x4 x5 x6 j)) := dth_succ hj.out hx
        obtain ⟨hx1, hx2⟩ := hx
        have k7 : k = 0 ∨ k = 1 ∨ k = 2 ∨ k = 3 ∨ k = 4 ∨ k = 5 ∨ k = 6 := by omega
        clear hj hk h7 hlt
        rcases k7 with rfl | rfl | rfl | rfl | rfl | rfl | rfl
        all_goals
          simp only [dth] at hx1 hx2
          go_wp2_with (go_at_call 28; refine (Y.out _ _ hx1 hx2).mono ?_; rintro e w1 ⟨rfl, rfl⟩)
          go_round
          case rel => exact ⟨_, by omega, by go_num, hs⟩
          case measure => simp [intOf]
      · have hn : Hid (drumB x0 x1 x2 x3 x4 x5 x6 = false) := drum_no hlt hx
        have hx' : dth x0 x1 x2 x3 x4 x5 x6 k < 0 ∨ 1000000000000 < dth x0 x1 x2 x3 x4 x5 x6 k := by unfold inD at hx; omega
        have k7 : k = 0 ∨ k = 1 ∨ k = 2 ∨ k = 3 ∨ k = 4 ∨ k = 5 ∨ k = 6 := by omega
        clear hj hk h7 hlt hx
        rcases k7 with rfl | rfl | rfl | rfl | rfl | rfl | rfl
        all_goals
          simp only [dth] at hx'
          have HX : Hid _ := hx'
          clear hx'
          go_wp2_with (go_at_call 28; refine (N.out _ _ HX.out).mono ?_; rintro e w1 ⟨rfl, rfl⟩)
          go_ret
          exact ⟨ret_bool hn.out.symm, (by repeat (first | with_reducible exact Below.refl _ _ | with_reducible refine Below.setCell ?_ (by first | omega | (simp; done) | (simp; omega)) _ | with_reducible refine bDrewN ?_ _ | with_reducible refine Below.drew ?_ | with_reducible refine Below.alloc ?_ (by first | omega | (simp; done) | (simp; omega)) _))⟩
end Go.Proofs.Ytjiojofgpdimaaa
