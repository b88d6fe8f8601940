/-
What is proved: machines and a number that are drawn from a code for a loading.
-/
import Derived.Test.YtcialcejmjggeaaMhE
import Derived.Deep.DeepCutAuto
import Derived.RegionTactic
namespace Go.Proofs.Ytcialcejmjggeaa
set_option maxRecDepth 40000
open Go.ChangeShapes Go.WideShapes Go.ChangeAt Go.RowKit
set_option linter.unusedVariables false
set_option linter.unusedSimpArgs false

set_option maxRecDepth 20000 in
set_option maxHeartbeats 4000000 in
theorem drawLoading_any {s : Option Addr} {n c : Nat} {w : World} (h : Hid (Code8 w s n)) :
    Calls Try.prog 23 #[.slice s n c] w fun e w' => DmsPost w e w' := by
  unfold DmsPost
  go_enter Try.func23, Try.ntmps23
  go_wp2_with fail
  refine (open_any (h.out.below (by repeat (first | with_reducible exact Below.refl _ _ | with_reducible refine Below.setCell ?_ (by first | omega | (simp; done) | (simp; omega)) _ | with_reducible refine bDrewN ?_ _ | with_reducible refine Below.drew ?_ | with_reducible refine Below.alloc ?_ (by first | omega | (simp; done) | (simp; omega)) _)))).mono ?_
  rintro e w1 ⟨rfl, R_, b_⟩
  obtain ⟨r, hr⟩ : ∃ r, r = w.heap.size := ⟨_, rfl⟩
  have HR : Hid (Rd w1 r s n c 0) := by show Rd _ _ _ _ _ _; rw [hr]; simpa using R_
  have HB : Hid (Below w.heap.size w w1) := (show Below w.heap.size w _ from (by repeat (first | with_reducible exact Below.refl _ _ | with_reducible refine Below.setCell ?_ (by first | omega | (simp; done) | (simp; omega)) _ | with_reducible refine bDrewN ?_ _ | with_reducible refine Below.drew ?_ | with_reducible refine Below.alloc ?_ (by first | omega | (simp; done) | (simp; omega)) _))).trans (b_.mono (by first | omega | (simp; done) | (simp; omega)))
  have zr : w.heap.size ≤ r := by omega
  try rw [show w.heap.size = r by rw [hr]; simp]
  try rw [← hr]
  clear R_ b_ h hr
  have zrr : r < w1.heap.size := HR.out.1
  go_wp2_with fail
  refine (machines_any (HR.out.below (by repeat (first | with_reducible exact Below.refl _ _ | with_reducible refine Below.setCell ?_ (by first | omega | (simp; done) | (simp; omega)) _ | with_reducible refine bDrewN ?_ _ | with_reducible refine Below.drew ?_ | with_reducible refine Below.alloc ?_ (by first | omega | (simp; done) | (simp; omega)) _)))).mono ?_
  rintro e w2 ⟨t, m, cap, U, p1, rfl, hm, RW_, LB_, R_, b_⟩
  have sz_ : w.heap.size ≤ w1.heap.size := HB.out.size
  have zr_ : r < w1.heap.size := HR.out.1
  have bb : Beside r w1 w2 := (Beside.of (show Below w1.heap.size w1 _ from (by repeat (first | with_reducible exact Below.refl _ _ | with_reducible refine Below.setCell ?_ (by first | omega | (simp; done) | (simp; omega)) _ | with_reducible refine bDrewN ?_ _ | with_reducible refine Below.drew ?_ | with_reducible refine Below.alloc ?_ (by first | omega | (simp; done) | (simp; omega)) _)))).trans b_
  replace HB : Hid (Below w.heap.size w w2) := HB.out.trans (bb.below (by omega) HB.out.size)
  replace HR : Hid (Rd w2 r s n c p1) := R_
  clear R_
  clear bb b_ sz_ zr_ 
  have RW : Hid (RowI w2 t (m * 4) U) := RW_
  clear RW_
  have NB : Hid (∀ g o, t = some ⟨g, o, none⟩ → g ≠ r) := fun g o e => by have := LB_ g o e; omega
  clear LB_ zrr
  go_wp2_with fail
  refine (l11Sum_any t m cap U _ hm RW).mono ?_
  rintro e wz ⟨sm, rfl, sm0, sm1, rfl⟩
  rename World => wz
  obtain ⟨y, hy⟩ : ∃ y : Int, sm + 200 = y := ⟨_, rfl⟩
  have wsm : IntKind.i64.wrap (sm + 200) = y := by rw [← hy, IntKind.wrap_i64]; omega
  obtain ⟨hi, hhi, hi0, hi1⟩ : ∃ z : Int, y = z ∧ 1 ≤ z ∧ z ≤ 100000000 := ⟨_, rfl, by omega, by omega⟩
  have hmx : (1 : Int) < y := by omega
  have hy3 : (1 < y) = True := by simp [hmx]
  have H1 : Hid (1 ≤ y ∧ y ≤ 100000000) := ⟨by omega, by omega⟩
  clear hhi hi0 hi1
  go_wp2_with fail
  refine (off_any 0 y (by omega) (by have := H1.out.1; omega) (by have := H1.out.2; omega) (HR.out.below (by repeat (first | with_reducible exact Below.refl _ _ | with_reducible refine Below.setCell ?_ (by first | omega | (simp; done) | (simp; omega)) _ | with_reducible refine bDrewN ?_ _ | with_reducible refine Below.drew ?_ | with_reducible refine Below.alloc ?_ (by first | omega | (simp; done) | (simp; omega)) _)))).mono ?_
  rintro e w3 ⟨mo, pm, rfl, -, R_, b_⟩
  have sz_ : w.heap.size ≤ wz.heap.size := HB.out.size
  have zr_ : r < wz.heap.size := HR.out.1
  have bb : Beside r wz w3 := (Beside.of (show Below wz.heap.size wz _ from (by repeat (first | with_reducible exact Below.refl _ _ | with_reducible refine Below.setCell ?_ (by first | omega | (simp; done) | (simp; omega)) _ | with_reducible refine bDrewN ?_ _ | with_reducible refine Below.drew ?_ | with_reducible refine Below.alloc ?_ (by first | omega | (simp; done) | (simp; omega)) _)))).trans b_
  replace HB : Hid (Below w.heap.size w w3) := HB.out.trans (bb.below (by omega) HB.out.size)
  replace HR : Hid (Rd w3 r s n c pm) := R_
  clear R_
  replace RW : Hid (RowI w3 t (m * 4) U) := row_besM RW.out bb NB.out
  clear bb b_ sz_ zr_ 
  have BF := HB.out
  have szBF := BF.size
  clear hmx
  go_wp2
  exact bodyPost_ret (v := .tuple #[.slice t m cap, .int .i64 mo]) (by simp [results, Try.results23, go_sem]) rfl ⟨t, m, cap, U, mo, rfl, hm, RW.out, (by repeat (first | with_reducible exact Below.refl _ _ | with_reducible exact BF | with_reducible refine Below.setCell ?_ (by first | omega | (simp; done) | (simp; omega)) _ | with_reducible refine bDrewN ?_ _ | with_reducible refine Below.drew ?_ | with_reducible refine Below.alloc ?_ (by first | omega | (simp; done) | (simp; omega)) _))⟩
end Go.Proofs.Ytcialcejmjggeaa
