/-
What is proved: a book marked by the law's own helper.
-/
import Derived.Test.YtabmkklnbaomnaaBkT
import Derived.Test.YtabmkklnbaomnaaPeM
namespace Go.Proofs.Ytabmkklnbaomnaa
set_option maxRecDepth 40000
open Go.ChangeShapes Go.WideShapes Go.ChangeAt Go.RowKit
set_option linter.unusedVariables false
set_option linter.unusedSimpArgs false

set_option maxHeartbeats 2000000 in
theorem markBook_r (n0 : Nat) (X0 : Nat → Int) (Y0 : Nat → Int) (K0 : Nat → Nat) (V0 : Nat → Nat → Int) (s0 : Option Addr) (c0 : Nat) (S : Nat → Prop) (k : Int) (w : World) (hn0 : ((n0 : Int) + (suK K0 n0 : Int)) ≤ 1048576) (k0 : 0 ≤ k) (k1 : k ≤ 40000000) (hS : ∀ q, S q → q < w.heap.size) (HR : Hid (BookR S w s0 n0 X0 Y0 K0 V0)) :
    Calls Try.prog 25 #[.agg #[.slice s0 n0 c0], .int .i64 k] w fun e w' => e = .returned (.int .i64 (k + ((n0 : Int) * 2 + (suK K0 n0 : Int)))) ∧ Turn S w w' := by
  have O0 : Hid (PerR S w s0 n0 X0 Y0 K0 V0) := HR
  have u0 : Hid (∀ k, S k → S k) := fun _ h => h
  replace hS : Hid (∀ q, S q → q < w.heap.size) := hS
  go_enter Try.func25, Try.ntmps25
  go_wp2_with fail
  obtain ⟨wa, hwa⟩ : ∃ x, x = w.alloc (.cells #[.slice s0 n0 c0] 45) := ⟨_, rfl⟩
  rw [← hwa]
  have B0 : Turn S w wa := by rw [hwa]; exact Turn.grown (by repeat (first | with_reducible exact Below.refl _ _ | with_reducible refine Below.setCell ?_ (by first | omega | (simp; done) | (simp; omega)) _ | with_reducible refine bDrewN ?_ _ | with_reducible refine Below.drew ?_ | with_reducible refine Below.alloc ?_ (by first | omega | (simp; done) | (simp; omega)) _))
  have z0 : w.heap.size < wa.heap.size := by rw [hwa]; simp
  have p0 : wa.cell? ⟨w.heap.size, 0, none⟩ = some (.slice s0 n0 c0) := by rw [hwa]; simp [go_sem]
  replace O0 : Hid (PerR S wa s0 n0 X0 Y0 K0 V0) := by rw [hwa]; exact O0.out.below (by repeat (first | with_reducible exact Below.refl _ _ | with_reducible refine Below.setCell ?_ (by first | omega | (simp; done) | (simp; omega)) _ | with_reducible refine bDrewN ?_ _ | with_reducible refine Below.drew ?_ | with_reducible refine Below.alloc ?_ (by first | omega | (simp; done) | (simp; omega)) _))
  clear hwa
  refine (markPermitS_r S s0 n0 c0 (k) X0 Y0 K0 V0 _ hn0 (by omega) (by omega) O0.out).mono ?_
  rintro e w0 ⟨rfl, -, T⟩
  replace z0 := Nat.lt_of_lt_of_le z0 T.size
  replace B0 : Turn S w w0 := B0.trans (T.mono u0.out)
  clear T
  go_wp2
  go_ret
  exact ⟨ret_int (by first | rfl | omega), B0⟩
end Go.Proofs.Ytabmkklnbaomnaa
