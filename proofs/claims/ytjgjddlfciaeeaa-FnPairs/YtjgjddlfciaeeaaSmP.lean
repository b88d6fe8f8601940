/-
What is proved: impl.SamePair of two pairs.
-/
import Derived.Test.YtjgjddlfciaeeaaSame
import Derived.Test.YtjgjddlfciaeeaaISame
import Derived.Test.YtjgjddlfciaeeaaPairT
import Derived.Deep.RegionHeld3
import Derived.Deep.DeepCutAuto
namespace Go.Proofs.Ytjgjddlfciaeeaa
set_option maxRecDepth 40000
open Go.ChangeShapes Go.WideShapes Go.ChangeAt Go.RowKit
set_option linter.unusedVariables false
set_option linter.unusedSimpArgs false

set_option maxHeartbeats 1000000 in
theorem implSamePair_any (x y z u : Nat) (lx : x < 18446744073709551616) (ly : y < 18446744073709551616) (lz : z < 18446744073709551616) (lu : u < 18446744073709551616) (w : World) : Calls Try.prog 13 #[.agg #[.float .f64 x, .float .f64 y], .agg #[.float .f64 z, .float .f64 u]] w fun e w' => e = .returned (.bool (sameB x z && sameB y u)) ∧ Below w.heap.size w w' := by
  have S1 : Hid (∀ w, Calls Try.prog 29 #[.float .f64 x, .float .f64 z] w fun e w' => e = .returned (.bool (sameB x z)) ∧ w' = w) := fun w => implSame_any x z w
  have S2 : Hid (∀ w, Calls Try.prog 29 #[.float .f64 y, .float .f64 u] w fun e w' => e = .returned (.bool (sameB y u)) ∧ w' = w) := fun w => implSame_any y u w
  clear lx ly lz lu
  generalize sameB x z = p at *
  generalize sameB y u = q at *
  cases p
  · go_enter Try.func13, Try.ntmps13
    go_wp2_with fail
    refine (S1.out _).mono ?_
    rintro e w1 ⟨rfl, rfl⟩
    go_wp2
    go_ret
    exact ⟨rfl, (by repeat (first | with_reducible exact Below.refl _ _ | with_reducible refine Below.setCell ?_ (by first | omega | (simp; done) | (simp; omega)) _ | with_reducible refine bDrewN ?_ _ | with_reducible refine Below.drew ?_ | with_reducible refine Below.alloc ?_ (by first | omega | (simp; done) | (simp; omega)) _))⟩
  · go_enter Try.func13, Try.ntmps13
    go_wp2_with fail
    refine (S1.out _).mono ?_
    rintro e w1 ⟨rfl, rfl⟩
    go_wp2_with fail
    refine (S2.out _).mono ?_
    rintro e w1 ⟨rfl, rfl⟩
    go_wp2
    go_ret
    exact ⟨rfl, (by repeat (first | with_reducible exact Below.refl _ _ | with_reducible refine Below.setCell ?_ (by first | omega | (simp; done) | (simp; omega)) _ | with_reducible refine bDrewN ?_ _ | with_reducible refine Below.drew ?_ | with_reducible refine Below.alloc ?_ (by first | omega | (simp; done) | (simp; omega)) _))⟩
end Go.Proofs.Ytjgjddlfciaeeaa
