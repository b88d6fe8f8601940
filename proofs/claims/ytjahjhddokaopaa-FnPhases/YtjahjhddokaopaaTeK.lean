/-
What is proved: a number of tenths, a pair, two pairs that are drawn from a code: any floats.
-/
import Derived.Test.YtjahjhddokaopaaFlK
import Derived.Test.YtjahjhddokaopaaRdC

import Derived.Deep.DeepCutAuto
import Derived.RegionTactic
namespace Go.Proofs.Ytjahjhddokaopaa
set_option maxRecDepth 40000
open Go.ChangeShapes Go.WideShapes Go.ChangeAt Go.RowKit
set_option linter.unusedVariables false
set_option linter.unusedSimpArgs false

set_option maxRecDepth 20000 in
set_option maxHeartbeats 2000000 in
theorem tenth_any {r : Nat} {s : Option Addr} {n c p : Nat} {w : World} (h : Hid (Rd w r s n c p)) (lo hi : Int) (l0 : -100000 ≤ lo) (l1 : lo ≤ hi) (l2 : hi ≤ 100000) :
    Calls Try.prog 36 #[.pointer (some ⟨r, 0, none⟩), .int .i64 lo, .int .i64 hi] w fun e w' => ∃ (x : Nat) (p' : Nat), e = .returned (.float .f64 x) ∧ x < 18446744073709551616 ∧ Rd w' r s n c p' ∧ Beside r w w' := by
  have zr : r < w.heap.size := h.out.1
  have HR : Hid (Rd w r s n c p) := h
  have HS : Hid (Beside r w w) := Beside.of (Below.refl _ _)
  clear h
  go_enter Try.func36, Try.ntmps36
  have w1 : IntKind.i64.wrap (hi - lo) = hi - lo := by rw [IntKind.wrap_i64]; omega
  have w2 : IntKind.i64.wrap (hi - lo + 1) = hi - lo + 1 := by rw [IntKind.wrap_i64]; omega
  go_wp2_with fail
  refine (below_any (hi - lo + 1) (HR.out.below (by repeat (first | with_reducible exact Below.refl _ _ | with_reducible refine Below.setCell ?_ (by first | omega | (simp; done) | (simp; omega)) _ | with_reducible refine bDrewN ?_ _ | with_reducible refine Below.drew ?_ | with_reducible refine Below.alloc ?_ (by first | omega | (simp; done) | (simp; omega)) _)))).mono ?_
  rintro e w1 ⟨k, pk, rfl, k0, k1, k2, R_, b_⟩
  have sz_ : w.heap.size ≤ w.heap.size := HS.out.2.2.2.1
  have zr_ : r < w.heap.size := HR.out.1
  have bb : Beside r w w1 := (Beside.of (show Below w.heap.size w _ from (by repeat (first | with_reducible exact Below.refl _ _ | with_reducible refine Below.setCell ?_ (by first | omega | (simp; done) | (simp; omega)) _ | with_reducible refine bDrewN ?_ _ | with_reducible refine Below.drew ?_ | with_reducible refine Below.alloc ?_ (by first | omega | (simp; done) | (simp; omega)) _)))).trans b_
  replace HS : Hid (Beside r w w1) := HS.out.trans bb
  replace HR : Hid (Rd w1 r s n c pk) := R_
  clear R_
  clear bb b_ sz_ zr_ 
  have k3 : k ≤ 65536 := by omega
  clear k1 k2
  have w3 : IntKind.i64.wrap (lo + k) = lo + k := by rw [IntKind.wrap_i64]; omega
  have cv := conv_fl (lo + k)
  obtain ⟨x, m, hrun, hx⟩ := fl_run (P := Try.prog) (f := .quo) rfl 24 (itF_fl (lo + k)) fl_ten w1
  go_wp2
  go_ret
  exact ⟨x, pk, rfl, hx.1, Rd.below' HR.out (show Below (r + 1) w1 _ from (by repeat (first | with_reducible exact Below.refl _ _ | with_reducible refine Below.setCell ?_ (by first | omega | (simp; done) | (simp; omega)) _ | with_reducible refine bDrewN ?_ _ | with_reducible refine Below.drew ?_ | with_reducible refine Below.alloc ?_ (by first | omega | (simp; done) | (simp; omega)) _))), HS.out.onB (show Below w.heap.size w1 _ from (by repeat (first | with_reducible exact Below.refl _ _ | with_reducible refine Below.setCell ?_ (by first | omega | (simp; done) | (simp; omega)) _ | with_reducible refine bDrewN ?_ _ | with_reducible refine Below.drew ?_ | with_reducible refine Below.alloc ?_ (by first | omega | (simp; done) | (simp; omega)) _)))⟩
end Go.Proofs.Ytjahjhddokaopaa
