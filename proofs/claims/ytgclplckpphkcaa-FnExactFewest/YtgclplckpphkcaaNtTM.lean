/-
What is proved: a net marked by the law's own helper.
-/
import Derived.Test.YtgclplckpphkcaaNtT
import Derived.Test.YtgclplckpphkcaaDucR
import Derived.Test.YtgclplckpphkcaaI64R2
import Derived.Test.YtgclplckpphkcaaSzI
namespace Go.Proofs.Ytgclplckpphkcaa
set_option maxRecDepth 40000
open Go.ChangeShapes Go.WideShapes Go.ChangeAt Go.RowKit
set_option linter.unusedVariables false
set_option linter.unusedSimpArgs false

set_option maxHeartbeats 2000000 in
theorem markNet_r (x0 : Int) (n1 : Nat) (V1 : Nat → Int × Int) (n2 : Nat) (V2 : Nat → Int) (s1 : Option Addr) (c1 : Nat) (s2 : Option Addr) (c2 : Nat) (S : Nat → Prop) (k : Int) (w : World) (hn1 : (n1 : Int) ≤ 1048576) (hn2 : (n2 : Int) ≤ 1048576) (k0 : 0 ≤ k) (k1 : k ≤ 40000000) (hS : ∀ q, S q → q < w.heap.size) (HR : Hid (NetR S w s1 n1 V1 s2 n2 V2)) :
    Calls Try.prog 12 #[.agg #[.int .i64 x0, .slice s1 n1 c1, .slice s2 n2 c2], .int .i64 k] w fun e w' => e = .returned (.int .i64 (k + (n1 * 2 : Nat) + n2)) ∧ Turn S w w' := by
  obtain ⟨S1, S2, u1, u2, d0, O1, O2⟩ := HR.out
  replace O1 : Hid (DuctR S1 w s1 n1 V1) := O1
  replace u1 : Hid (∀ k, S1 k → S k) := u1
  replace O2 : Hid (I64R S2 w s2 n2 V2) := O2
  replace u2 : Hid (∀ k, S2 k → S k) := u2
  replace d0 : Hid (∀ k, S1 k → ¬ S2 k) := d0
  replace hS : Hid (∀ q, S q → q < w.heap.size) := hS
  go_enter Try.func12, Try.ntmps12
  go_wp2_with fail
  obtain ⟨wa, hwa⟩ : ∃ x, x = w.alloc (.cells #[.int .i64 x0, .slice s1 n1 c1, .slice s2 n2 c2] 31) := ⟨_, rfl⟩
  rw [← hwa]
  have B0 : Turn S w wa := by rw [hwa]; exact Turn.grown (by repeat (first | with_reducible exact Below.refl _ _ | with_reducible refine Below.setCell ?_ (by first | omega | (simp; done) | (simp; omega)) _ | with_reducible refine bDrewN ?_ _ | with_reducible refine Below.drew ?_ | with_reducible refine Below.alloc ?_ (by first | omega | (simp; done) | (simp; omega)) _))
  have z0 : w.heap.size < wa.heap.size := by rw [hwa]; simp
  have p1 : wa.cell? ⟨w.heap.size, 1, none⟩ = some (.slice s1 n1 c1) := by rw [hwa]; simp [go_sem]
  replace O1 : Hid (DuctR S1 wa s1 n1 V1) := by rw [hwa]; exact O1.out.below (by repeat (first | with_reducible exact Below.refl _ _ | with_reducible refine Below.setCell ?_ (by first | omega | (simp; done) | (simp; omega)) _ | with_reducible refine bDrewN ?_ _ | with_reducible refine Below.drew ?_ | with_reducible refine Below.alloc ?_ (by first | omega | (simp; done) | (simp; omega)) _))
  have p2 : wa.cell? ⟨w.heap.size, 2, none⟩ = some (.slice s2 n2 c2) := by rw [hwa]; simp [go_sem]
  replace O2 : Hid (I64R S2 wa s2 n2 V2) := by rw [hwa]; exact O2.out.below (by repeat (first | with_reducible exact Below.refl _ _ | with_reducible refine Below.setCell ?_ (by first | omega | (simp; done) | (simp; omega)) _ | with_reducible refine bDrewN ?_ _ | with_reducible refine Below.drew ?_ | with_reducible refine Below.alloc ?_ (by first | omega | (simp; done) | (simp; omega)) _))
  clear hwa
  refine (markDuctS_r S1 s1 n1 c1 (k) V1 _ hn1 (by omega) (by omega) O1.out).mono ?_
  rintro e w0 ⟨rfl, -, T⟩
  replace p2 := (T.cell (p := ⟨w.heap.size, 2, none⟩) z0 (fun q => Nat.lt_irrefl _ (hS.out _ (u1.out _ q)))).trans p2
  replace O2 : Hid (I64R S2 w0 s2 n2 V2) := O2.out.keep T.size (fun x hx hl => T.2.2.2.2 x hl (fun q => d0.out x q hx))
  replace z0 := Nat.lt_of_lt_of_le z0 T.size
  replace B0 : Turn S w w0 := B0.trans (T.mono u1.out)
  clear T
  go_wp2_with fail
  refine (markInt64S_r S2 s2 n2 c2 (k + (n1 * 2 : Nat)) V2 _ hn2 (by omega) (by omega) O2.out).mono ?_
  rintro e w1 ⟨rfl, -, T⟩
  replace z0 := Nat.lt_of_lt_of_le z0 T.size
  replace B0 : Turn S w w1 := B0.trans (T.mono u2.out)
  clear T
  go_wp2
  go_ret
  exact ⟨ret_int (by first | rfl | omega), B0⟩
end Go.Proofs.Ytgclplckpphkcaa
