/-
What is proved: what machines take at a tick, as the specification tells it.
-/
import Derived.Test.YtdoekgnmbdekgaaPwS
import Derived.Deep.RegionHeld3
import Derived.Deep.DeepCutAuto
namespace Go.Proofs.Ytdoekgnmbdekgaa
set_option maxRecDepth 40000
open Go.RowKit
set_option linter.unusedVariables false
set_option linter.unusedSimpArgs false

set_option maxRecDepth 20000 in
set_option maxHeartbeats 4000000 in
theorem specPower_any (s : Option Addr) (n c : Nat) (V : Nat → Int) (u : Option Addr) (m e : Nat) (T : Nat → Int) (t : Int) (w : World) (hn : (n : Int) ≤ 1048576) (hm : (m : Int) ≤ 1048576) (HR : Hid (RowI w s (n * 4) V)) (HU : Hid (RowI w u m T)) :
    Calls Try.prog 8 #[.slice s n c, .slice u m e, .int .i64 t] w fun e w' => e = .returned (.int .i64 (atV n V m T t)) ∧ Below w.heap.size w w' := by
  go_enter Try.func8, Try.ntmps8
  go_wp2_with fail
  refine (l11Ok_any s n c V _ HR).mono ?_
  rintro e' w1 ⟨rfl, B1⟩
  cases h0 : machsB n V
  · go_wp2
    go_ret
    exact ⟨ret_int (by unfold atV atB; simp [h0]), (by repeat (first | with_reducible exact Below.refl _ _ | with_reducible exact B1 | with_reducible refine Below.setCell ?_ (by first | omega | (simp; done) | (simp; omega)) _ | with_reducible refine bDrewN ?_ _ | with_reducible refine Below.drew ?_ | with_reducible refine Below.alloc ?_ (by first | omega | (simp; done) | (simp; omega)) _))⟩
  have s1 := B1.size
  by_cases q : m = n
  · subst q
    obtain ⟨m60, mAll⟩ := machs_yes h0
    have HA : Hid (∀ j, j < m → machB V j = true) := mAll
    clear mAll
    have HU1 : Hid (RowI w1 u m T) := HU.out.below B1
    go_wp2_with fail
    go_loopw [7] (fun i wr => ∃ k : Nat, k ≤ m ∧ i = .int .i64 k ∧ wr = w1 ∧ Hid (∀ j, j < k → -1 ≤ T j ∧ T j ≤ 1000000)) (fun i _ => m - (intOf i).toNat)
    case atStart => exact ⟨0, Nat.zero_le _, rfl, rfl, fun j hj => by omega⟩
    case round =>
      obtain ⟨k, hk, rfl, rfl, hP⟩ := hrel
      by_cases hlt : k < m
      · obtain ⟨g, o, rfl, hg, c0⟩ := HU1.out k hlt
        have k1 : (k : Int) < (m : Int) := by omega
        go_wp2_with fail
        refine (l1In_is _ _ _ _).mono ?_
        rintro e' w2 ⟨rfl, rfl⟩
        cases h1 : inB (-1) 1000000 (T k)
        · have NO : allInB (-1) 1000000 T m = false := decide_eq_false fun h => by have := inB_no h1; have := h k hlt; omega
          go_wp2
          go_ret
          exact ⟨ret_int (by unfold atV atB; simp [NO]), (by repeat (first | with_reducible exact Below.refl _ _ | with_reducible exact B1 | with_reducible refine Below.setCell ?_ (by first | omega | (simp; done) | (simp; omega)) _ | with_reducible refine bDrewN ?_ _ | with_reducible refine Below.drew ?_ | with_reducible refine Below.alloc ?_ (by first | omega | (simp; done) | (simp; omega)) _))⟩
        · have YK := inB_yes h1
          clear h1
          go_wp2
          go_roundw
          case rel => exact ⟨k + 1, by omega, by go_num, trivial, ball_succ hP.out YK⟩
          case measure => simp [intOf]; omega
      · obtain rfl : k = m := by omega
        have h1 : allInB (-1) 1000000 T k = true := by unfold allInB; exact decide_eq_true hP.out
        go_wp2_with fail
        refine (l1In_is _ _ _ _).mono ?_
        rintro e' w2 ⟨rfl, rfl⟩
        cases h2 : inB 0 1000000 t
        · go_wp2
          go_ret
          exact ⟨ret_int (by unfold atV atB; simp [h2]), (by repeat (first | with_reducible exact Below.refl _ _ | with_reducible exact B1 | with_reducible refine Below.setCell ?_ (by first | omega | (simp; done) | (simp; omega)) _ | with_reducible refine bDrewN ?_ _ | with_reducible refine Below.drew ?_ | with_reducible refine Below.alloc ?_ (by first | omega | (simp; done) | (simp; omega)) _))⟩
        have HV : Hid (atV k V k T t = powV V T t k) := show atV k V k T t = powV V T t k by unfold atV atB; simp [h0, h1, h2]
        clear h1 h2 h0
        go_wp2_with fail
        refine (l11Power_any s k c V u k e T t _ rfl m60 HA hP (HR.out.below B1) (HU.out.below B1)).mono ?_
        rintro e' w3 ⟨rfl, h3⟩
        have B3 : Below w.heap.size w w3 := B1.trans (h3.mono s1)
        go_wp2
        go_ret
        exact ⟨ret_int HV.out.symm, B3⟩
  · have q1 : ¬ (m : Int) = (n : Int) := by omega
    go_wp2
    go_ret
    exact ⟨ret_int (by unfold atV atB; simp [q]), (by repeat (first | with_reducible exact Below.refl _ _ | with_reducible exact B1 | with_reducible refine Below.setCell ?_ (by first | omega | (simp; done) | (simp; omega)) _ | with_reducible refine bDrewN ?_ _ | with_reducible refine Below.drew ?_ | with_reducible refine Below.alloc ?_ (by first | omega | (simp; done) | (simp; omega)) _))⟩
end Go.Proofs.Ytdoekgnmbdekgaa
