/-
What is proved: what a channel says of what it measures, as the specification tells it.
-/
import Derived.Test.YtjomflmmlmfipaaPt
namespace Go.Proofs.Ytjomflmmlmfipaa
set_option maxRecDepth 40000
open Go.RowKit
set_option linter.unusedVariables false
set_option linter.unusedSimpArgs false

set_option maxHeartbeats 2000000 in
theorem l14Point_any (s r : Nat) (ab : Bool) (ls : s < 18446744073709551616) (lr : r < 18446744073709551616) (w : World) : Calls Try.prog 21 #[.agg #[.float .f64 s, .float .f64 r, .bool ab]] w fun e w' => e = .returned (.bool (posB s r ab)) ∧ Below w.heap.size w w' := by
  go_enter Try.func21, Try.ntmps21
  go_wp2_with fail
  refine (specKnown_any _ _).mono ?_
  rintro e w1 ⟨rfl, n1, rfl⟩
  cases h0 : knownB s
  · go_wp2
    go_ret
    exact ⟨ret_bool (by unfold posB; simp [h0]), (by repeat (first | with_reducible exact Below.refl _ _ | with_reducible refine Below.setCell ?_ (by first | omega | (simp; done) | (simp; omega)) _ | with_reducible refine bDrewN ?_ _ | with_reducible refine Below.drew ?_ | with_reducible refine Below.alloc ?_ (by first | omega | (simp; done) | (simp; omega)) _))⟩
  go_wp2_with fail
  refine (specKnown_any _ _).mono ?_
  rintro e w1 ⟨rfl, n2, rfl⟩
  cases h1 : knownB r
  · go_wp2
    go_ret
    exact ⟨ret_bool (by unfold posB; simp [h0, h1]), (by repeat (first | with_reducible exact Below.refl _ _ | with_reducible refine Below.setCell ?_ (by first | omega | (simp; done) | (simp; omega)) _ | with_reducible refine bDrewN ?_ _ | with_reducible refine Below.drew ?_ | with_reducible refine Below.alloc ?_ (by first | omega | (simp; done) | (simp; omega)) _))⟩
  cases ab
  · go_wp2
    go_ret
    exact ⟨ret_bool (by unfold posB geF; simp [h0, h1]), (by repeat (first | with_reducible exact Below.refl _ _ | with_reducible refine Below.setCell ?_ (by first | omega | (simp; done) | (simp; omega)) _ | with_reducible refine bDrewN ?_ _ | with_reducible refine Below.drew ?_ | with_reducible refine Below.alloc ?_ (by first | omega | (simp; done) | (simp; omega)) _))⟩
  · go_wp2
    go_ret
    exact ⟨ret_bool (by unfold posB leF; simp [h0, h1]), (by repeat (first | with_reducible exact Below.refl _ _ | with_reducible refine Below.setCell ?_ (by first | omega | (simp; done) | (simp; omega)) _ | with_reducible refine bDrewN ?_ _ | with_reducible refine Below.drew ?_ | with_reducible refine Below.alloc ?_ (by first | omega | (simp; done) | (simp; omega)) _))⟩
set_option maxHeartbeats 4000000 in
theorem specSays_any (s r : Nat) (ab : Bool) (ls : s < 18446744073709551616) (lr : r < 18446744073709551616) (on : Bool) (x : Nat) (w : World) : Calls Try.prog 10 #[.agg #[.float .f64 s, .float .f64 r, .bool ab], .bool on, .float .f64 x] w fun e w' => e = .returned (.int .i64 (saysV s r ab on x)) ∧ Below w.heap.size w w' := by
  go_enter Try.func10, Try.ntmps10
  go_wp2_with fail
  refine (l14Point_any s r ab ls lr _).mono ?_
  rintro e w1 ⟨rfl, h1⟩
  obtain ⟨hc, hf⟩ := bcell h1
  have q0 := hc w.heap.size 0 (by first | omega | (simp; done) | (simp; omega))
  have q1 := hc w.heap.size 1 (by first | omega | (simp; done) | (simp; omega))
  have q2 := hc w.heap.size 2 (by first | omega | (simp; done) | (simp; omega))
  simp [go_sem] at q0 q1 q2
  have z1 : w.heap.size < w1.heap.size := by have := h1.size; simp at this; omega
  have B1 : Below w.heap.size w w1 := Below.trans (by repeat (first | with_reducible exact Below.refl _ _ | with_reducible refine Below.setCell ?_ (by first | omega | (simp; done) | (simp; omega)) _ | with_reducible refine bDrewN ?_ _ | with_reducible refine Below.drew ?_ | with_reducible refine Below.alloc ?_ (by first | omega | (simp; done) | (simp; omega)) _)) (h1.mono (by first | omega | (simp; done) | (simp; omega)))
  clear hc hf h1
  cases h0 : posB s r ab
  · have HO : Hid (saysV s r ab on x = 2) := show saysV s r ab on x = 2 by unfold saysV; simp [h0]
    go_wp2
    go_ret
    exact ⟨ret_int HO.out.symm, (by repeat (first | with_reducible exact Below.refl _ _ | with_reducible exact B1 | with_reducible refine Below.setCell ?_ (by first | omega | (simp; done) | (simp; omega)) _ | with_reducible refine bDrewN ?_ _ | with_reducible refine Below.drew ?_ | with_reducible refine Below.alloc ?_ (by first | omega | (simp; done) | (simp; omega)) _))⟩
  go_wp2_with fail
  refine (specKnown_any _ _).mono ?_
  rintro e w2 ⟨rfl, n2, rfl⟩
  cases h2 : knownB x
  · have HO : Hid (saysV s r ab on x = 2) := show saysV s r ab on x = 2 by unfold saysV; simp [h2]
    go_wp2
    go_ret
    exact ⟨ret_int HO.out.symm, (by repeat (first | with_reducible exact Below.refl _ _ | with_reducible exact B1 | with_reducible refine Below.setCell ?_ (by first | omega | (simp; done) | (simp; omega)) _ | with_reducible refine bDrewN ?_ _ | with_reducible refine Below.drew ?_ | with_reducible refine Below.alloc ?_ (by first | omega | (simp; done) | (simp; omega)) _))⟩
  have HO : Hid (saysV s r ab on x = (if (tripB s ab x || (on && !goodB r ab x)) = true then 1 else 0)) := show saysV s r ab on x = _ by unfold saysV; simp [h0, h2]
  clear h0 h2
  cases ab
  · cases ht : (FloatKind.f64.format.order x s == some .lt || FloatKind.f64.format.order x s == some .eq)
    · cases on
      · go_wp2
        go_ret
        exact ⟨ret_int (by rw [HO.out]; unfold tripB goodB leF geF; simp [ht]), (by repeat (first | with_reducible exact Below.refl _ _ | with_reducible exact B1 | with_reducible refine Below.setCell ?_ (by first | omega | (simp; done) | (simp; omega)) _ | with_reducible refine bDrewN ?_ _ | with_reducible refine Below.drew ?_ | with_reducible refine Below.alloc ?_ (by first | omega | (simp; done) | (simp; omega)) _))⟩
      · cases hg : (FloatKind.f64.format.order x r == some .gt || FloatKind.f64.format.order x r == some .eq)
        · go_wp2
          go_ret
          exact ⟨ret_int (by rw [HO.out]; unfold tripB goodB leF geF; simp [ht, hg]), (by repeat (first | with_reducible exact Below.refl _ _ | with_reducible exact B1 | with_reducible refine Below.setCell ?_ (by first | omega | (simp; done) | (simp; omega)) _ | with_reducible refine bDrewN ?_ _ | with_reducible refine Below.drew ?_ | with_reducible refine Below.alloc ?_ (by first | omega | (simp; done) | (simp; omega)) _))⟩
        · go_wp2
          go_ret
          exact ⟨ret_int (by rw [HO.out]; unfold tripB goodB leF geF; simp [ht, hg]), (by repeat (first | with_reducible exact Below.refl _ _ | with_reducible exact B1 | with_reducible refine Below.setCell ?_ (by first | omega | (simp; done) | (simp; omega)) _ | with_reducible refine bDrewN ?_ _ | with_reducible refine Below.drew ?_ | with_reducible refine Below.alloc ?_ (by first | omega | (simp; done) | (simp; omega)) _))⟩
    · go_wp2
      go_ret
      exact ⟨ret_int (by rw [HO.out]; unfold tripB goodB leF geF; simp [ht]), (by repeat (first | with_reducible exact Below.refl _ _ | with_reducible exact B1 | with_reducible refine Below.setCell ?_ (by first | omega | (simp; done) | (simp; omega)) _ | with_reducible refine bDrewN ?_ _ | with_reducible refine Below.drew ?_ | with_reducible refine Below.alloc ?_ (by first | omega | (simp; done) | (simp; omega)) _))⟩
  · cases ht : (FloatKind.f64.format.order x s == some .gt || FloatKind.f64.format.order x s == some .eq)
    · cases on
      · go_wp2
        go_ret
        exact ⟨ret_int (by rw [HO.out]; unfold tripB goodB leF geF; simp [ht]), (by repeat (first | with_reducible exact Below.refl _ _ | with_reducible exact B1 | with_reducible refine Below.setCell ?_ (by first | omega | (simp; done) | (simp; omega)) _ | with_reducible refine bDrewN ?_ _ | with_reducible refine Below.drew ?_ | with_reducible refine Below.alloc ?_ (by first | omega | (simp; done) | (simp; omega)) _))⟩
      · cases hg : (FloatKind.f64.format.order x r == some .lt || FloatKind.f64.format.order x r == some .eq)
        · go_wp2
          go_ret
          exact ⟨ret_int (by rw [HO.out]; unfold tripB goodB leF geF; simp [ht, hg]), (by repeat (first | with_reducible exact Below.refl _ _ | with_reducible exact B1 | with_reducible refine Below.setCell ?_ (by first | omega | (simp; done) | (simp; omega)) _ | with_reducible refine bDrewN ?_ _ | with_reducible refine Below.drew ?_ | with_reducible refine Below.alloc ?_ (by first | omega | (simp; done) | (simp; omega)) _))⟩
        · go_wp2
          go_ret
          exact ⟨ret_int (by rw [HO.out]; unfold tripB goodB leF geF; simp [ht, hg]), (by repeat (first | with_reducible exact Below.refl _ _ | with_reducible exact B1 | with_reducible refine Below.setCell ?_ (by first | omega | (simp; done) | (simp; omega)) _ | with_reducible refine bDrewN ?_ _ | with_reducible refine Below.drew ?_ | with_reducible refine Below.alloc ?_ (by first | omega | (simp; done) | (simp; omega)) _))⟩
    · go_wp2
      go_ret
      exact ⟨ret_int (by rw [HO.out]; unfold tripB goodB leF geF; simp [ht]), (by repeat (first | with_reducible exact Below.refl _ _ | with_reducible exact B1 | with_reducible refine Below.setCell ?_ (by first | omega | (simp; done) | (simp; omega)) _ | with_reducible refine bDrewN ?_ _ | with_reducible refine Below.drew ?_ | with_reducible refine Below.alloc ?_ (by first | omega | (simp; done) | (simp; omega)) _))⟩
end Go.Proofs.Ytjomflmmlmfipaa
