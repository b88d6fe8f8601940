/-
What is proved: a tree marked by the law's own helper.
-/
import Derived.Test.YtljaidacaepmmaaTrT
import Derived.Test.YtljaidacaepmmaaGaM
namespace Go.Proofs.Ytljaidacaepmmaa
set_option maxRecDepth 40000
open Go.ChangeShapes Go.WideShapes Go.ChangeAt Go.RowKit
set_option linter.unusedVariables false
set_option linter.unusedSimpArgs false

set_option maxHeartbeats 2000000 in
theorem markTree_r (x0 : Int) (n1 : Nat) (X1 : Nat → Int) (K1 : Nat → Nat) (V1 : Nat → Nat → Int) (s1 : Option Addr) (c1 : Nat) (S : Nat → Prop) (k : Int) (w : World) (hn1 : ((n1 : Int) + (suK K1 n1 : Int)) ≤ 1048576) (k0 : 0 ≤ k) (k1 : k ≤ 40000000) (hS : ∀ q, S q → q < w.heap.size) (HR : Hid (TreeR S w s1 n1 X1 K1 V1)) :
    Calls Try.prog 15 #[.agg #[.int .i64 x0, .slice s1 n1 c1], .int .i64 k] w fun e w' => e = .returned (.int .i64 (k + ((n1 : Int) + (suK K1 n1 : Int)))) ∧ Turn S w w' := by
  have O1 : Hid (GatR S w s1 n1 X1 K1 V1) := HR
  have u1 : Hid (∀ k, S k → S k) := fun _ h => h
  replace hS : Hid (∀ q, S q → q < w.heap.size) := hS
  go_enter Try.func15, Try.ntmps15
  go_wp2_with fail
  obtain ⟨wa, hwa⟩ : ∃ x, x = w.alloc (.cells #[.int .i64 x0, .slice s1 n1 c1] 30) := ⟨_, rfl⟩
  rw [← hwa]
  have B0 : Turn S w wa := by rw [hwa]; exact Turn.grown (by repeat (first | with_reducible exact Below.refl _ _ | with_reducible refine Below.setCell ?_ (by first | omega | (simp; done) | (simp; omega)) _ | with_reducible refine bDrewN ?_ _ | with_reducible refine Below.drew ?_ | with_reducible refine Below.alloc ?_ (by first | omega | (simp; done) | (simp; omega)) _))
  have z0 : w.heap.size < wa.heap.size := by rw [hwa]; simp
  have p1 : wa.cell? ⟨w.heap.size, 1, none⟩ = some (.slice s1 n1 c1) := by rw [hwa]; simp [go_sem]
  replace O1 : Hid (GatR S wa s1 n1 X1 K1 V1) := by rw [hwa]; exact O1.out.below (by repeat (first | with_reducible exact Below.refl _ _ | with_reducible refine Below.setCell ?_ (by first | omega | (simp; done) | (simp; omega)) _ | with_reducible refine bDrewN ?_ _ | with_reducible refine Below.drew ?_ | with_reducible refine Below.alloc ?_ (by first | omega | (simp; done) | (simp; omega)) _))
  clear hwa
  refine (markGateS_r S s1 n1 c1 (k) X1 K1 V1 _ hn1 (by omega) (by omega) O1.out).mono ?_
  rintro e w0 ⟨rfl, -, T⟩
  replace z0 := Nat.lt_of_lt_of_le z0 T.size
  replace B0 : Turn S w w0 := B0.trans (T.mono u1.out)
  clear T
  go_wp2
  go_ret
  exact ⟨ret_int (by first | rfl | omega), B0⟩
end Go.Proofs.Ytljaidacaepmmaa
