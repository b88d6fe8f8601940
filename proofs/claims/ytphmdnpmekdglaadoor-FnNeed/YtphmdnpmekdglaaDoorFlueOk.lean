/-
What is proved: whether each number of a flue is in its bounds, as the specification says it, for all int64s.
-/
import Derived.Test.YtphmdnpmekdglaaDoorElem
namespace Go.Proofs.YtphmdnpmekdglaaDoor
set_option maxRecDepth 40000
open Go.RowKit
set_option linter.unusedVariables false

theorem elemOk_no {G : Nat → Int} {k : Nat} (hk : k < 9) (h : ¬ inF (G k)) : elemOk G = false := by
  rw [Bool.eq_false_iff]; intro g; exact h ((elemOk_iff G).1 g k hk)
theorem in_succ {G : Nat → Int} {k : Nat} (hj : ∀ j, j < k → inF (G j)) (hx : inF (G k)) : ∀ j, j < k + 1 → inF (G j) := fun j hl => by
  by_cases e : j = k
  · rw [e]; exact hx
  · exact hj j (by omega)

set_option maxHeartbeats 2000000 in
theorem l2FlueOk_any (g0 g1 g2 g3 g4 g5 g6 g7 g8 : Int) (w : World) :
    Calls Tryd.prog 37 #[.agg #[.int .i64 g0, .int .i64 g1, .int .i64 g2, .int .i64 g3, .int .i64 g4, .int .i64 g5, .int .i64 g6, .int .i64 g7, .int .i64 g8]] w fun e w' => e = .returned (.bool (elemOk (nth g0 g1 g2 g3 g4 g5 g6 g7 g8))) ∧ Below w.heap.size w w' := by
  have Y : Hid (∀ (x : Int) (w : World), 0 ≤ x → x ≤ 1000000000000 → Calls Tryd.prog 29 #[.int .i64 x, .int .i64 0, .int .i64 1000000000000] w fun e w' => e = .returned (.bool true) ∧ w' = w) := fun x w a b => l1In_yes x 0 1000000000000 w a b
  have N : Hid (∀ (x : Int) (w : World), x < 0 ∨ 1000000000000 < x → Calls Tryd.prog 29 #[.int .i64 x, .int .i64 0, .int .i64 1000000000000] w fun e w' => e = .returned (.bool false) ∧ w' = w) := fun x w a => l1In_no x 0 1000000000000 w a
  go_enter Tryd.func37, Tryd.ntmps37
  go_wp2
  go_loop [4] (fun i => ∃ k : Nat, k ≤ 9 ∧ i = .int .i64 k ∧ Hid (∀ j, j < k → inF (nth g0 g1 g2 g3 g4 g5 g6 g7 g8 j))) (fun i => 9 - (intOf i).toNat)
  case atStart => exact ⟨0, by omega, rfl, fun j hj => by omega⟩
  case round =>
    obtain ⟨k, hk, rfl, hj⟩ := hrel
    by_cases h9 : k = 9
    · subst h9
      have HF : Hid (elemOk (nth g0 g1 g2 g3 g4 g5 g6 g7 g8) = true) := (elemOk_iff _).2 hj.out
      clear hj
      go_wp2
      go_ret
      exact ⟨ret_bool HF.out.symm, (by repeat (first | with_reducible exact Below.refl _ _ | with_reducible refine Below.setCell ?_ (by first | omega | (simp; done) | (simp; omega)) _ | with_reducible refine bDrewN ?_ _ | with_reducible refine Below.drew ?_ | with_reducible refine Below.alloc ?_ (by first | omega | (simp; done) | (simp; omega)) _))⟩
    · have hlt : k < 9 := by omega
      by_cases hx : inF (nth g0 g1 g2 g3 g4 g5 g6 g7 g8 k)
      · have hs : Hid (∀ j, j < k + 1 → inF (nth g0 g1 g2 g3 g4 g5 g6 g7 g8 j)) := in_succ hj.out hx
        obtain ⟨hx1, hx2⟩ := hx
        have k9 : k = 0 ∨ k = 1 ∨ k = 2 ∨ k = 3 ∨ k = 4 ∨ k = 5 ∨ k = 6 ∨ k = 7 ∨ k = 8 := by omega
        clear hj hk h9 hlt
        rcases k9 with rfl | rfl | rfl | rfl | rfl | rfl | rfl | rfl | rfl
        all_goals
          simp only [nth] at hx1 hx2
          go_wp2_with (go_at_call 29; refine (Y.out _ _ hx1 hx2).mono ?_; rintro e w1 ⟨rfl, rfl⟩)
          go_round
          case rel => exact ⟨_, by omega, by go_num, hs⟩
          case measure => simp [intOf]
      · have hn : Hid (elemOk (nth g0 g1 g2 g3 g4 g5 g6 g7 g8) = false) := elemOk_no hlt hx
        have hx' : nth g0 g1 g2 g3 g4 g5 g6 g7 g8 k < 0 ∨ 1000000000000 < nth g0 g1 g2 g3 g4 g5 g6 g7 g8 k := by unfold inF at hx; omega
        have k9 : k = 0 ∨ k = 1 ∨ k = 2 ∨ k = 3 ∨ k = 4 ∨ k = 5 ∨ k = 6 ∨ k = 7 ∨ k = 8 := by omega
        clear hj hk h9 hlt hx
        rcases k9 with rfl | rfl | rfl | rfl | rfl | rfl | rfl | rfl | rfl
        all_goals
          simp only [nth] at hx'
          have HX : Hid _ := hx'
          clear hx'
          go_wp2_with (go_at_call 29; refine (N.out _ _ HX.out).mono ?_; rintro e w1 ⟨rfl, rfl⟩)
          go_ret
          exact ⟨ret_bool hn.out.symm, (by repeat (first | with_reducible exact Below.refl _ _ | with_reducible refine Below.setCell ?_ (by first | omega | (simp; done) | (simp; omega)) _ | with_reducible refine bDrewN ?_ _ | with_reducible refine Below.drew ?_ | with_reducible refine Below.alloc ?_ (by first | omega | (simp; done) | (simp; omega)) _))⟩

end Go.Proofs.YtphmdnpmekdglaaDoor
