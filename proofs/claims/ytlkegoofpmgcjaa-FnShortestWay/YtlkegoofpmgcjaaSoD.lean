/-
What is proved: a plan and a mode that are drawn.
-/
import Derived.Test.YtlkegoofpmgcjaaPnX
namespace Go.Proofs.Ytlkegoofpmgcjaa
set_option maxRecDepth 40000
open Go.ChangeShapes Go.WideShapes Go.ChangeAt Go.RowKit
set_option linter.unusedVariables false
set_option linter.unusedSimpArgs false

def DsPost (w : World) (e : Ending) (w' : World) : Prop := ∃ (t : Option Addr) (m cap : Nat) (U : Nat → Int) (x : Int), e = .returned (.tuple #[.slice t m cap, .int .i64 x]) ∧ 1 ≤ m ∧ m ≤ 41 ∧ RowI w' t (m * 5) U ∧ Below w.heap.size w w'
set_option maxHeartbeats 1000000 in
theorem drawShortest_any {s : Option Addr} {n c : Nat} {w : World} (h : Hid (Code8 w s n)) : Calls Try.prog 9 #[.slice s n c] w fun e w' => DsPost w e w' := by
  go_enter Try.func9, Try.ntmps9
  go_wp2_with fail
  refine (open_any (h.out.below (by repeat (first | with_reducible exact Below.refl _ _ | with_reducible refine Below.setCell ?_ (by first | omega | (simp; done) | (simp; omega)) _ | with_reducible refine bDrewN ?_ _ | with_reducible refine Below.drew ?_ | with_reducible refine Below.alloc ?_ (by first | omega | (simp; done) | (simp; omega)) _)))).mono ?_
  rintro e w1 ⟨rfl, R_, b_⟩
  have HR : Hid (Rd w1 w.heap.size s n c 0) := R_
  have HB : Hid (Below w.heap.size w w1) := b_
  clear R_ b_ h
  go_wp2_with fail
  refine (plan_any HR).mono ?_
  rintro e w2 hP
  unfold PlnPost at hP
  obtain ⟨t, m, cap, U, p', rfl, m1, m2, hO, hR2, bS⟩ := hP
  have HR2 : Hid (Rd w2 w.heap.size s n c p') := hR2
  have HO : Hid (OwnI w1.heap.size w2 t (m * 5) U) := hO
  have lw : w.heap.size < w1.heap.size := HR.out.1
  have HB2 : Hid (Below w.heap.size w w2) := HB.out.trans (bS.below (Nat.le_refl _) HB.out.size)
  clear hO bS hR2
  go_wp2_with fail
  refine (off_any (-3) (-1) (by omega) (by omega) (by omega) HR2).mono ?_
  rintro e w3 ⟨x, px, rfl, x0, -, bb⟩
  have RF := (ownB_besideP HO.out bb lw).row
  have BF : Below w.heap.size w w3 := HB2.out.trans (bb.below (Nat.le_refl _) HB2.out.size)
  clear x0 bb
  go_wp2
  go_ret2
  unfold DsPost
  exact ⟨t, m, cap, U, x, rfl, m1, m2, RF, BF⟩
end Go.Proofs.Ytlkegoofpmgcjaa
