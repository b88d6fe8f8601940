/-
What is proved: the response of two polynomials, as the specification tells it.
-/
import Derived.Test.YtamcmhlliplphaaPoS
import Derived.Test.YtamcmhlliplphaaDivPairSQ
import Derived.Deep.RegionHeld3
import Derived.Deep.DeepCutAuto
namespace Go.Proofs.Ytamcmhlliplphaa
set_option maxRecDepth 40000
open Go.RowKit
set_option linter.unusedVariables false
set_option linter.unusedSimpArgs false

set_option maxRecDepth 20000 in
set_option maxHeartbeats 4000000 in
theorem specResp_any (s : Option Addr) (n c : Nat) (V : Nat → Int) (t : Option Addr) (m d : Nat) (U : Nat → Int) (x : Nat) (a p1 q1 p2 q2 : Option Nat) (w : World) (hx : Fl x a) (HR : Hid (RowI w s n V)) (HT : Hid (RowI w t m U))
    (H1 : Hid (∀ w, RowI w s n V → Calls Try.prog 5 #[.slice s n c, .agg #[.float .f64 0, .float .f64 x]] w fun e w' => ∃ r i, e = .returned (.agg #[.float .f64 r, .float .f64 i]) ∧ Fl r p1 ∧ Fl i q1 ∧ Below w.heap.size w w'))
    (H2 : Hid (∀ w, RowI w t m U → Calls Try.prog 5 #[.slice t m d, .agg #[.float .f64 0, .float .f64 x]] w fun e w' => ∃ r i, e = .returned (.agg #[.float .f64 r, .float .f64 i]) ∧ Fl r p2 ∧ Fl i q2 ∧ Below w.heap.size w w')) :
    Calls Try.prog 11 #[.slice s n c, .slice t m d, .float .f64 x] w fun e w' => ∃ r i, e = .returned (.agg #[.float .f64 r, .float .f64 i]) ∧ Fl r (divRe p1 q1 p2 q2) ∧ Fl i (divIm p1 q1 p2 q2) ∧ Below w.heap.size w w' := by
  have st := store_fp
  go_enter Try.func11, Try.ntmps11
  go_upto_region 2 with fail
  obtain ⟨wd, hwd⟩ : ∃ wd, wd = (w.alloc (.cells #[.float .f64 0, .float .f64 0] 26)).alloc (.cells #[.float .f64 0, .float .f64 x] 26) := ⟨_, rfl⟩
  rw [← hwd]
  have PR : Hid (PrAt wd w.heap.size 0 0) := by rw [hwd]; refine ⟨by simp; omega, fun o => ?_, ?_, ?_⟩ <;> simp [go_sem]
  have PS : Hid (PrAt wd (w.heap.size + 1) 0 x) := by rw [hwd]; refine ⟨by simp, fun o => ?_, ?_, ?_⟩ <;> simp [go_sem]
  have B0 : Below w.heap.size w wd := by rw [hwd]; exact (by repeat (first | with_reducible exact Below.refl _ _ | with_reducible refine Below.setCell ?_ (by first | omega | (simp; done) | (simp; omega)) _ | with_reducible refine bDrewN ?_ _ | with_reducible refine Below.drew ?_ | with_reducible refine Below.alloc ?_ (by first | omega | (simp; done) | (simp; omega)) _))
  have s0 := B0.size
  clear hwd
  obtain ⟨zs, -, d0, d1⟩ := PS.out
  go_region_with (first
    | (go_at_call_of 5 (Value.slice s n c); refine (H1.out _ (HR.out.below (Below.trans B0 (Below.mono (by repeat (first | with_reducible exact Below.refl _ _ | with_reducible refine Below.setCell ?_ (by first | omega | (simp; done) | (simp; omega)) _ | with_reducible refine bDrewN ?_ _ | with_reducible refine Below.drew ?_ | with_reducible refine Below.alloc ?_ (by first | omega | (simp; done) | (simp; omega)) _)) s0)))).mono ?_; rintro e w3 ⟨r1, i1, rfl, hr1, hi1, h3⟩; have B3 : Below wd.heap.size wd w3 := Below.trans (by repeat (first | with_reducible exact Below.refl _ _ | with_reducible refine Below.setCell ?_ (by first | omega | (simp; done) | (simp; omega)) _ | with_reducible refine bDrewN ?_ _ | with_reducible refine Below.drew ?_ | with_reducible refine Below.alloc ?_ (by first | omega | (simp; done) | (simp; omega)) _)) (h3.mono (by first | omega | (simp; done) | (simp; omega))); have s3 := B3.size; have k0 := (B3.cell (p := ⟨w.heap.size + 1, 0, none⟩) zs).trans d0; have k1 := (B3.cell (p := ⟨w.heap.size + 1, 1, none⟩) zs).trans d1; have zs3 := Nat.lt_of_lt_of_le zs s3)
    | (go_at_call_of 5 (Value.slice t m d); refine (H2.out _ (HT.out.below (Below.trans B0 (Below.mono (by repeat (first | with_reducible exact Below.refl _ _ | with_reducible exact B3 | with_reducible refine Below.setCell ?_ (by first | omega | (simp; done) | (simp; omega)) _ | with_reducible refine bDrewN ?_ _ | with_reducible refine Below.drew ?_ | with_reducible refine Below.alloc ?_ (by first | omega | (simp; done) | (simp; omega)) _)) s0)))).mono ?_; rintro e w4 ⟨r2, i2, rfl, hr2, hi2, h4⟩; have B4 : Below wd.heap.size wd w4 := Below.trans (by repeat (first | with_reducible exact Below.refl _ _ | with_reducible exact B3 | with_reducible refine Below.setCell ?_ (by first | omega | (simp; done) | (simp; omega)) _ | with_reducible refine bDrewN ?_ _ | with_reducible refine Below.drew ?_ | with_reducible refine Below.alloc ?_ (by first | omega | (simp; done) | (simp; omega)) _)) (h4.mono (by first | omega | (simp; done) | (simp; omega))); have s4 := B4.size)
    | (go_at_call 23; refine (specDivPair_any hr1 hi1 hr2 hi2 _).mono ?_; rintro e w5 ⟨r, i, rfl, hr, hi, h5⟩; have B5 : Below wd.heap.size wd w5 := Below.trans (by repeat (first | with_reducible exact Below.refl _ _ | with_reducible exact B4 | with_reducible refine Below.setCell ?_ (by first | omega | (simp; done) | (simp; omega)) _ | with_reducible refine bDrewN ?_ _ | with_reducible refine Below.drew ?_ | with_reducible refine Below.alloc ?_ (by first | omega | (simp; done) | (simp; omega)) _)) (h5.mono (by first | omega | (simp; done) | (simp; omega))); obtain ⟨z5, f5, l0, l1⟩ := PR.out.below B5; have f50 := f5 0; have f51 := f5 1))
  all_goals
    have B6 : Below w.heap.size w w5 := B0.trans (B5.mono s0)
    clear f5
    go_wp2
    exact bodyPost_ret (v := .agg #[.float .f64 r, .float .f64 i]) (by simp [results, Try.results11, go_sem, l0, l1]) rfl ⟨r, i, rfl, hr, hi, (by repeat (first | with_reducible exact Below.refl _ _ | with_reducible exact B6 | with_reducible refine Below.setCell ?_ (by first | omega | (simp; done) | (simp; omega)) _ | with_reducible refine bDrewN ?_ _ | with_reducible refine Below.drew ?_ | with_reducible refine Below.alloc ?_ (by first | omega | (simp; done) | (simp; omega)) _))⟩
end Go.Proofs.Ytamcmhlliplphaa
