/-
What is proved: what machines take at a tick, as the program tells it.
-/
import Derived.Test.YtcialcejmjggeaaPwI
import Derived.Deep.RegionHeld3
import Derived.Deep.DeepCutAuto
namespace Go.Proofs.Ytcialcejmjggeaa
set_option maxRecDepth 40000
open Go.RowKit
set_option linter.unusedVariables false
set_option linter.unusedSimpArgs false

set_option maxRecDepth 20000 in
set_option maxHeartbeats 4000000 in
theorem implPower_any (s : Option Addr) (n c : Nat) (V : Nat → Int) (u : Option Addr) (m e : Nat) (T : Nat → Int) (t : Int) (w : World) (hn : (n : Int) ≤ 1048576) (hm : (m : Int) ≤ 1048576) (HR : Hid (RowI w s (n * 4) V)) (HU : Hid (RowI w u m T)) :
    Calls Try.prog 24 #[.slice s n c, .slice u m e, .int .i64 t] w fun e w' => e = .returned (.int .i64 (atV n V m T t)) ∧ Below w.heap.size w w' := by
  go_enter Try.func24, Try.ntmps24
  go_wp2_with fail
  refine (machinesOk_any s n c V _ HR).mono ?_
  rintro e' w1 ⟨rfl, B1⟩
  cases h0 : machsB n V
  · go_wp2
    go_ret
    exact ⟨ret_int (by unfold atV atB; simp [h0]), (by repeat (first | with_reducible exact Below.refl _ _ | with_reducible exact B1 | with_reducible refine Below.setCell ?_ (by first | omega | (simp; done) | (simp; omega)) _ | with_reducible refine bDrewN ?_ _ | with_reducible refine Below.drew ?_ | with_reducible refine Below.alloc ?_ (by first | omega | (simp; done) | (simp; omega)) _))⟩
  have s1 := B1.size
  by_cases q : m = n
  · subst q
    obtain ⟨m60, mAll⟩ := machs_yes h0
    have HA : Hid (∀ j, j < m → machB V j = true) := mAll
    clear mAll
    go_wp2_with fail
    refine (allWithin_any u m e T (-1) 1000000 _ hm (HU.out.below B1)).mono ?_
    rintro e' w2 ⟨rfl, rfl⟩
    cases h1 : allInB (-1) 1000000 T m
    · go_wp2
      go_ret
      exact ⟨ret_int (by unfold atV atB; simp [h1]), (by repeat (first | with_reducible exact Below.refl _ _ | with_reducible exact B1 | with_reducible refine Below.setCell ?_ (by first | omega | (simp; done) | (simp; omega)) _ | with_reducible refine bDrewN ?_ _ | with_reducible refine Below.drew ?_ | with_reducible refine Below.alloc ?_ (by first | omega | (simp; done) | (simp; omega)) _))⟩
    go_wp2_with fail
    refine (within_is _ _ _ _).mono ?_
    rintro e' w2 ⟨rfl, rfl⟩
    cases h2 : inB 0 1000000 t
    · go_wp2
      go_ret
      exact ⟨ret_int (by unfold atV atB; simp [h2]), (by repeat (first | with_reducible exact Below.refl _ _ | with_reducible exact B1 | with_reducible refine Below.setCell ?_ (by first | omega | (simp; done) | (simp; omega)) _ | with_reducible refine bDrewN ?_ _ | with_reducible refine Below.drew ?_ | with_reducible refine Below.alloc ?_ (by first | omega | (simp; done) | (simp; omega)) _))⟩
    have HV : Hid (atV m V m T t = powV V T t m) := show atV m V m T t = powV V T t m by unfold atV atB; simp [h0, h1, h2]
    have TT := allIn_yes h1.symm
    have HTT : Hid (∀ j, j < m → -1 ≤ T j ∧ T j ≤ 1000000) := TT
    clear TT h1 h2 h0
    go_wp2_with fail
    refine (takenAt_any s m c V u m e T t _ rfl m60 HA HTT (HR.out.below B1) (HU.out.below B1)).mono ?_
    rintro e' w3 ⟨rfl, h3⟩
    have B3 : Below w.heap.size w w3 := B1.trans (h3.mono s1)
    go_wp2
    go_ret
    exact ⟨ret_int HV.out.symm, B3⟩
  · have q1 : ¬ (m : Int) = (n : Int) := by omega
    go_wp2
    go_ret
    exact ⟨ret_int (by unfold atV atB; simp [q]), (by repeat (first | with_reducible exact Below.refl _ _ | with_reducible exact B1 | with_reducible refine Below.setCell ?_ (by first | omega | (simp; done) | (simp; omega)) _ | with_reducible refine bDrewN ?_ _ | with_reducible refine Below.drew ?_ | with_reducible refine Below.alloc ?_ (by first | omega | (simp; done) | (simp; omega)) _))⟩
end Go.Proofs.Ytcialcejmjggeaa
