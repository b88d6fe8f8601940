/-
What is proved: the limits that are drawn from a code: at least one, at most 63, any int64s.
-/
import Derived.Test.YtmoeoepinlcmdaaDoorLmD
import Derived.Test.YtmoeoepinlcmdaaDoorRdC
import Derived.Deep.DeepCutAuto
import Derived.RegionTactic
namespace Go.Proofs.YtmoeoepinlcmdaaDoor
set_option maxRecDepth 40000
open Go.ChangeShapes Go.WideShapes Go.ChangeAt Go.RowKit
set_option linter.unusedVariables false
set_option linter.unusedSimpArgs false

def DslPost (w : World) (e : Ending) (w' : World) : Prop := ∃ (t : Option Addr) (nl cap : Nat) (V : Nat → Int × Int) (cv : Value), e = .returned (.tuple #[.slice t nl cap, cv]) ∧ 1 ≤ nl ∧ nl ≤ 63 ∧ RowLimit w' t nl V ∧ Below w.heap.size w w' ∧ ∀ g o, t = some ⟨g, o, none⟩ → w.heap.size ≤ g
set_option maxRecDepth 20000 in
set_option maxHeartbeats 4000000 in
theorem drawSoonestLate_any {s : Option Addr} {n c : Nat} {w : World} (h : Hid (Code8 w s n)) :
    Calls Tryd.prog 7 #[.slice s n c] w fun e w' => DslPost w e w' := by
  unfold DslPost
  go_enter Tryd.func7, Tryd.ntmps7
  go_wp2_with fail
  refine (open_any (h.out.below (by repeat (first | with_reducible exact Below.refl _ _ | with_reducible refine Below.setCell ?_ (by first | omega | (simp; done) | (simp; omega)) _ | with_reducible refine bDrewN ?_ _ | with_reducible refine Below.drew ?_ | with_reducible refine Below.alloc ?_ (by first | omega | (simp; done) | (simp; omega)) _)))).mono ?_
  rintro e w1 ⟨rfl, R_, b_⟩
  obtain ⟨r, hr⟩ : ∃ r, r = w.heap.size := ⟨_, rfl⟩
  have HR : Hid (Rd w1 r s n c 0) := by show Rd _ _ _ _ _ _; rw [hr]; simpa using R_
  have HB : Hid (Below w.heap.size w w1) := (show Below w.heap.size w _ from (by repeat (first | with_reducible exact Below.refl _ _ | with_reducible refine Below.setCell ?_ (by first | omega | (simp; done) | (simp; omega)) _ | with_reducible refine bDrewN ?_ _ | with_reducible refine Below.drew ?_ | with_reducible refine Below.alloc ?_ (by first | omega | (simp; done) | (simp; omega)) _))).trans (b_.mono (by first | omega | (simp; done) | (simp; omega)))
  have zr : w.heap.size ≤ r := by omega
  try rw [show w.heap.size = r by rw [hr]; simp]
  try rw [← hr]
  clear R_ b_ h hr
  have zrr : r < w1.heap.size := HR.out.1
  go_wp2_with fail
  refine (limits_any (HR.out.below (by repeat (first | with_reducible exact Below.refl _ _ | with_reducible refine Below.setCell ?_ (by first | omega | (simp; done) | (simp; omega)) _ | with_reducible refine bDrewN ?_ _ | with_reducible refine Below.drew ?_ | with_reducible refine Below.alloc ?_ (by first | omega | (simp; done) | (simp; omega)) _)))).mono ?_
  rintro e w2 ⟨B, lv, nl, cv, nc, p1, rfl, n1, n2, n3, HL⟩
  have sz_ : w.heap.size ≤ w1.heap.size := HB.out.size
  have bb : Beside r w1 w2 := (Beside.of (show Below w1.heap.size w1 _ from (by repeat (first | with_reducible exact Below.refl _ _ | with_reducible refine Below.setCell ?_ (by first | omega | (simp; done) | (simp; omega)) _ | with_reducible refine bDrewN ?_ _ | with_reducible refine Below.drew ?_ | with_reducible refine Below.alloc ?_ (by first | omega | (simp; done) | (simp; omega)) _)))).trans HL.2.1
  have HB2 : Hid (Below w.heap.size w w2) := HB.out.trans (bb.below (by omega) HB.out.size)
  obtain ⟨t, cap, V, rfl, RW, LB⟩ := HL.row
  have RWh : Hid (RowLimit w2 t nl V) := RW
  have LBh : Hid (∀ g o, t = some ⟨g, o, none⟩ → w.heap.size ≤ g) := fun g o e => by have := LB g o e; (try simp at this); omega
  clear RW LB HL bb sz_ HR HB
  have BF := HB2.out
  have szBF := BF.size
  go_wp2
  exact bodyPost_ret (v := .tuple #[.slice t nl cap, cv]) (by simp [results, Tryd.results7, go_sem]) rfl (by first | exact ⟨t, nl, cap, V, cv, rfl, n1, n2, RWh.out, (by repeat (first | with_reducible exact Below.refl _ _ | with_reducible exact BF | with_reducible refine Below.setCell ?_ (by first | omega | (simp; done) | (simp; omega)) _ | with_reducible refine bDrewN ?_ _ | with_reducible refine Below.drew ?_ | with_reducible refine Below.alloc ?_ (by first | omega | (simp; done) | (simp; omega)) _)), LBh.out⟩ | exact ⟨t, nl, cap, V, cv, rfl, n1, n2, RWh.out, BF, LBh.out⟩)
end Go.Proofs.YtmoeoepinlcmdaaDoor
