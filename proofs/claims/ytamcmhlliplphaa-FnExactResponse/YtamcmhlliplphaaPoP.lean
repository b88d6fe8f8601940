/-
What is proved: a polynomial's value at a pair, as the program tells it.
-/
import Derived.Test.YtamcmhlliplphaaPoA
import Derived.Deep.RegionHeld3
import Derived.Deep.DeepCutAuto
namespace Go.Proofs.Ytamcmhlliplphaa
set_option maxRecDepth 40000
open Go.RowKit
set_option linter.unusedVariables false
set_option linter.unusedSimpArgs false

set_option maxHeartbeats 1000000 in
theorem implPoly_no (s : Option Addr) (n c : Nat) (V : Nat → Int) (x y : Nat) (w : World) (hn : (n : Int) ≤ 1048576) (HR : Hid (RowI w s n V)) (hb : polyB n V = false) :
    Calls Try.prog 8 #[.slice s n c, .agg #[.float .f64 x, .float .f64 y]] w fun e w' => ∃ r i, e = .returned (.agg #[.float .f64 r, .float .f64 i]) ∧ Fl r none ∧ Fl i none ∧ Below w.heap.size w w' := by
  have st := store_fp
  go_enter Try.func8, Try.ntmps8
  go_wp2_with fail
  refine (polyOk_any _ n _ V _ hn (HR.out.below (by repeat (first | with_reducible exact Below.refl _ _ | with_reducible refine Below.setCell ?_ (by first | omega | (simp; done) | (simp; omega)) _ | with_reducible refine bDrewN ?_ _ | with_reducible refine Below.drew ?_ | with_reducible refine Below.alloc ?_ (by first | omega | (simp; done) | (simp; omega)) _)))).mono ?_
  rintro e w1 ⟨rfl, rfl⟩
  rw [hb]
  go_wp2_with fail
  refine (nan_any _).mono ?_
  rintro e w2 ⟨r, rfl, hr, rfl⟩
  go_wp2_with fail
  refine (nan_any _).mono ?_
  rintro e w2 ⟨i, rfl, hi, rfl⟩
  go_wp2
  exact bodyPost_ret (v := .agg #[.float .f64 r, .float .f64 i]) (by simp [results, Try.results8, go_sem]) rfl ⟨r, i, rfl, hr, hi, (by repeat (first | with_reducible exact Below.refl _ _ | with_reducible refine Below.setCell ?_ (by first | omega | (simp; done) | (simp; omega)) _ | with_reducible refine bDrewN ?_ _ | with_reducible refine Below.drew ?_ | with_reducible refine Below.alloc ?_ (by first | omega | (simp; done) | (simp; omega)) _))⟩
set_option maxRecDepth 20000 in
set_option maxHeartbeats 4000000 in
theorem implPoly_yes (s : Option Addr) (n c : Nat) (V : Nat → Int) (x y : Nat) (a b : Option Nat) (w : World) (hx : Fl x a) (hy : Fl y b) (hn : (n : Int) ≤ 1048576) (HR : Hid (RowI w s n V)) (hb : polyB n V = true) :
    Calls Try.prog 8 #[.slice s n c, .agg #[.float .f64 x, .float .f64 y]] w fun e w' => ∃ r i, e = .returned (.agg #[.float .f64 r, .float .f64 i]) ∧ Fl r (horV V a b n n).1 ∧ Fl i (horV V a b n n).2 ∧ Below w.heap.size w w' := by
  have st := store_fp
  go_enter Try.func8, Try.ntmps8
  go_wp2_with fail
  refine (polyOk_any _ n _ V _ hn (HR.out.below (by repeat (first | with_reducible exact Below.refl _ _ | with_reducible refine Below.setCell ?_ (by first | omega | (simp; done) | (simp; omega)) _ | with_reducible refine bDrewN ?_ _ | with_reducible refine Below.drew ?_ | with_reducible refine Below.alloc ?_ (by first | omega | (simp; done) | (simp; omega)) _)))).mono ?_
  rintro e w1 ⟨rfl, rfl⟩
  rw [hb]
  clear hb
  go_upto_region 3 with fail
  obtain ⟨wd, hwd⟩ : ∃ wd, wd = (w.alloc (.cells #[.float .f64 x, .float .f64 y] 26)).alloc (.cells #[.float .f64 0, .float .f64 0] 26) := ⟨_, rfl⟩
  rw [← hwd]
  have PS : Hid (PrAt wd w.heap.size x y) := by rw [hwd]; refine ⟨by simp; omega, fun o => ?_, ?_, ?_⟩ <;> simp [go_sem]
  have PR : Hid (PrAt wd (w.heap.size + 1) 0 0) := by rw [hwd]; refine ⟨by simp, fun o => ?_, ?_, ?_⟩ <;> simp [go_sem]
  have B0 : Below w.heap.size w wd := by rw [hwd]; exact (by repeat (first | with_reducible exact Below.refl _ _ | with_reducible refine Below.setCell ?_ (by first | omega | (simp; done) | (simp; omega)) _ | with_reducible refine bDrewN ?_ _ | with_reducible refine Below.drew ?_ | with_reducible refine Below.alloc ?_ (by first | omega | (simp; done) | (simp; omega)) _))
  have s0 := B0.size
  clear hwd
  obtain ⟨zs, -, d0, d1⟩ := PS.out
  go_region_with (first
    | (go_at_call 19; refine (polyOf_any _ n _ V _ hn (HR.out.below (Below.trans B0 (Below.mono (by repeat (first | with_reducible exact Below.refl _ _ | with_reducible refine Below.setCell ?_ (by first | omega | (simp; done) | (simp; omega)) _ | with_reducible refine bDrewN ?_ _ | with_reducible refine Below.drew ?_ | with_reducible refine Below.alloc ?_ (by first | omega | (simp; done) | (simp; omega)) _)) s0)))).mono ?_; rintro e w3 ⟨bk, rfl, lk, uk, HC, h3⟩; have B3 : Below wd.heap.size wd w3 := Below.trans (by repeat (first | with_reducible exact Below.refl _ _ | with_reducible refine Below.setCell ?_ (by first | omega | (simp; done) | (simp; omega)) _ | with_reducible refine bDrewN ?_ _ | with_reducible refine Below.drew ?_ | with_reducible refine Below.alloc ?_ (by first | omega | (simp; done) | (simp; omega)) _)) (h3.mono (by first | omega | (simp; done) | (simp; omega))); have s3 := B3.size; have q0 := (B3.cell (p := ⟨w.heap.size, 0, none⟩) zs).trans d0; have q1 := (B3.cell (p := ⟨w.heap.size, 1, none⟩) zs).trans d1; have zs3 := Nat.lt_of_lt_of_le zs s3)
    | (go_at_call 21; refine (at_any bk n _ V x y a b _ hx hy hn (by first | omega | (simp; done) | (simp; omega)) (show Hid _ from fun j hj => HC.out j hj)).mono ?_; rintro e w4 ⟨r, i, rfl, hr, hi, h4⟩; have B4 : Below wd.heap.size wd w4 := Below.trans (by repeat (first | with_reducible exact Below.refl _ _ | with_reducible exact B3 | with_reducible refine Below.setCell ?_ (by first | omega | (simp; done) | (simp; omega)) _ | with_reducible refine bDrewN ?_ _ | with_reducible refine Below.drew ?_ | with_reducible refine Below.alloc ?_ (by first | omega | (simp; done) | (simp; omega)) _)) (h4.mono (by first | omega | (simp; done) | (simp; omega))); obtain ⟨z4, f4, k0, k1⟩ := PR.out.below B4; have f40 := f4 0; have f41 := f4 1))
  all_goals
    have B5 : Below w.heap.size w w4 := B0.trans (B4.mono s0)
    clear f4
    go_wp2
    exact bodyPost_ret (v := .agg #[.float .f64 r, .float .f64 i]) (by simp [results, Try.results8, go_sem, k0, k1]) rfl ⟨r, i, rfl, hr, hi, (by repeat (first | with_reducible exact Below.refl _ _ | with_reducible exact B5 | with_reducible refine Below.setCell ?_ (by first | omega | (simp; done) | (simp; omega)) _ | with_reducible refine bDrewN ?_ _ | with_reducible refine Below.drew ?_ | with_reducible refine Below.alloc ?_ (by first | omega | (simp; done) | (simp; omega)) _))⟩
theorem implPoly_any (s : Option Addr) (n c : Nat) (V : Nat → Int) (x y : Nat) (a b : Option Nat) (w : World) (hx : Fl x a) (hy : Fl y b) (hn : (n : Int) ≤ 1048576) (HR : RowI w s n V) :
    Calls Try.prog 8 #[.slice s n c, .agg #[.float .f64 x, .float .f64 y]] w fun e w' => ∃ r i, e = .returned (.agg #[.float .f64 r, .float .f64 i]) ∧ Fl r (polRe n V a b) ∧ Fl i (polIm n V a b) ∧ Below w.heap.size w w' := by
  unfold polRe polIm
  cases hb : polyB n V
  · exact implPoly_no s n c V x y w hn HR hb
  · exact implPoly_yes s n c V x y a b w hx hy hn HR hb
end Go.Proofs.Ytamcmhlliplphaa
