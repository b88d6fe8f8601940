/-
What is proved: what the power of two pairs is, up to a NaN's bits, as both packages tell it.
-/
import Derived.Test.YtjgjddlfciaeeaaPairT
namespace Go.Proofs.Ytjgjddlfciaeeaa
set_option maxRecDepth 40000
open Go.RowKit
set_option linter.unusedVariables false
set_option linter.unusedSimpArgs false

set_option maxHeartbeats 1200000 in
theorem implPower_any {x y z u : Nat} {a b c d : Option Nat} (hx : Fl x a) (hy : Fl y b) (hz : Fl z c) (hu : Fl u d) (w : World) : Calls Try.prog 17 #[.agg #[.float .f64 x, .float .f64 y], .agg #[.float .f64 z, .float .f64 u]] w fun e w' => ∃ r i, e = .returned (.agg #[.float .f64 r, .float .f64 i]) ∧ Fl r (mulRe a b c (conjIm d)) ∧ Fl i (mulIm a b c (conjIm d)) ∧ Below w.heap.size w w' := by
  have st := store_fp
  go_enter Try.func17, Try.ntmps17
  go_upto_region 1 with fail
  go_region_held3 (fun w' => w'.cell? ⟨w.heap.size, 0, none⟩ = some (.float .f64 x) ∧ w'.cell? ⟨w.heap.size, 1, none⟩ = some (.float .f64 y) ∧ w'.cell? ⟨w.heap.size + 1, 0, none⟩ = some (.float .f64 z) ∧ w'.cell? ⟨w.heap.size + 1, 1, none⟩ = some (.float .f64 u)) (first | (simp [go_sem]; done) | (simp [go_sem, *]; done)) (first
    | (go_at_call_of 27 (Value.float FloatKind.f64 x); refine (inside_any x y _).mono ?_; rintro e w1 ⟨rfl, rfl⟩)
    | (go_at_call_of 27 (Value.float FloatKind.f64 z); refine (inside_any z u _).mono ?_; rintro e w2 ⟨rfl, rfl⟩)
    | (go_at_call 31; refine (conjInside_any hz hu _).mono ?_; rintro e w5 ⟨j, m, rfl, hj, rfl⟩)
    | (go_at_call 26; refine (mulInside_any hx hy hz hj _).mono ?_; rintro e w3 ⟨r, i, n, rfl, hr, hi, rfl⟩)
    | (go_at_call 25; refine (pairOf_any _ _ _).mono ?_; rintro e w4 ⟨rfl, rfl⟩))
  all_goals
    go_wp2
    exact bodyPost_ret (v := .agg #[.float .f64 r, .float .f64 i]) (by simp [results, Try.results17, go_sem]) rfl ⟨r, i, rfl, hr, hi, (by repeat (first | with_reducible exact Below.refl _ _ | with_reducible refine Below.setCell ?_ (by first | omega | (simp; done) | (simp; omega)) _ | with_reducible refine bDrewN ?_ _ | with_reducible refine Below.drew ?_ | with_reducible refine Below.alloc ?_ (by first | omega | (simp; done) | (simp; omega)) _))⟩

set_option maxHeartbeats 1200000 in
theorem specPower_any {x y z u : Nat} {a b c d : Option Nat} (hx : Fl x a) (hy : Fl y b) (hz : Fl z c) (hu : Fl u d) (w : World) : Calls Try.prog 23 #[.agg #[.float .f64 x, .float .f64 y], .agg #[.float .f64 z, .float .f64 u]] w fun e w' => ∃ r i, e = .returned (.agg #[.float .f64 r, .float .f64 i]) ∧ Fl r (mulRe a b c (conjIm d)) ∧ Fl i (mulIm a b c (conjIm d)) ∧ Below w.heap.size w w' := by
  have st := store_fp
  go_enter Try.func23, Try.ntmps23
  go_upto_region 1 with fail
  obtain ⟨wd, hwd⟩ : ∃ wd, wd = (((w.alloc (.cells #[.float .f64 x, .float .f64 y] 26)).alloc (.cells #[.float .f64 z, .float .f64 u] 26)).alloc (.cells #[.float .f64 0, .float .f64 0] 26)) := ⟨_, rfl⟩
  rw [← hwd]
  have q0 : wd.cell? ⟨w.heap.size, 0, none⟩ = some (.float .f64 x) := by rw [hwd]; simp [go_sem]
  have q1 : wd.cell? ⟨w.heap.size, 1, none⟩ = some (.float .f64 y) := by rw [hwd]; simp [go_sem]
  have q2 : wd.cell? ⟨w.heap.size + 1, 0, none⟩ = some (.float .f64 z) := by rw [hwd]; simp [go_sem]
  have q3 : wd.cell? ⟨w.heap.size + 1, 1, none⟩ = some (.float .f64 u) := by rw [hwd]; simp [go_sem]
  have c0 : wd.cell? ⟨w.heap.size + 1 + 1, 0, none⟩ = some (.float .f64 0) := by rw [hwd]; simp [go_sem]
  have c1 : wd.cell? ⟨w.heap.size + 1 + 1, 1, none⟩ = some (.float .f64 0) := by rw [hwd]; simp [go_sem]
  have f0 : wd.frozen? ⟨w.heap.size + 1 + 1, 0, none⟩ = false := by rw [hwd]; simp [go_sem]
  have f1 : wd.frozen? ⟨w.heap.size + 1 + 1, 1, none⟩ = false := by rw [hwd]; simp [go_sem]
  have z0 : w.heap.size < wd.heap.size := by rw [hwd]; simp; omega
  have z1 : w.heap.size + 1 < wd.heap.size := by rw [hwd]; simp
  have z2 : w.heap.size + 1 + 1 < wd.heap.size := by rw [hwd]; simp
  have B1 : Below w.heap.size w wd := by rw [hwd]; exact (by repeat (first | with_reducible exact Below.refl _ _ | with_reducible refine Below.setCell ?_ (by first | omega | (simp; done) | (simp; omega)) _ | with_reducible refine bDrewN ?_ _ | with_reducible refine Below.drew ?_ | with_reducible refine Below.alloc ?_ (by first | omega | (simp; done) | (simp; omega)) _))
  clear hwd
  go_region_with (first
    | (go_at_call 34; refine (specConjPair_any hz hu _).mono ?_; rintro e w3 ⟨j', j, rfl, hj', hj, h3⟩; have B3 : Below wd.heap.size wd w3 := Below.trans (by repeat (first | with_reducible exact Below.refl _ _ | with_reducible refine Below.setCell ?_ (by first | omega | (simp; done) | (simp; omega)) _ | with_reducible refine bDrewN ?_ _ | with_reducible refine Below.drew ?_ | with_reducible refine Below.alloc ?_ (by first | omega | (simp; done) | (simp; omega)) _)) (h3.mono (by first | omega | (simp; done) | (simp; omega))); have s3 := B3.size; have q0' := (B3.cell (p := ⟨w.heap.size, 0, none⟩) z0).trans q0; have q1' := (B3.cell (p := ⟨w.heap.size, 1, none⟩) z0).trans q1)
    | (go_at_call 14; refine (specMulPair_any hx hy hj' hj _).mono ?_; rintro e w4 ⟨r, i, rfl, hr, hi, h4⟩; have B4 : Below wd.heap.size wd w4 := Below.trans (by repeat (first | with_reducible exact Below.refl _ _ | with_reducible exact B3 | with_reducible refine Below.setCell ?_ (by first | omega | (simp; done) | (simp; omega)) _ | with_reducible refine bDrewN ?_ _ | with_reducible refine Below.drew ?_ | with_reducible refine Below.alloc ?_ (by first | omega | (simp; done) | (simp; omega)) _)) (h4.mono (by first | omega | (simp; done) | (simp; omega))); have c0' := (B4.cell (p := ⟨w.heap.size + 1 + 1, 0, none⟩) z2).trans c0; have c1' := (B4.cell (p := ⟨w.heap.size + 1 + 1, 1, none⟩) z2).trans c1; have f0' := (B4.frozen (p := ⟨w.heap.size + 1 + 1, 0, none⟩) z2).trans f0; have f1' := (B4.frozen (p := ⟨w.heap.size + 1 + 1, 1, none⟩) z2).trans f1))
  all_goals
    have Bx : Below w.heap.size w w4 := B1.trans (B4.mono B1.size)
    go_wp2
    exact bodyPost_ret (v := .agg #[.float .f64 r, .float .f64 i]) (by simp [results, Try.results23, go_sem, c0', c1']) rfl ⟨r, i, rfl, hr, hi, (by repeat (first | with_reducible exact Below.refl _ _ | with_reducible exact Bx | with_reducible refine Below.setCell ?_ (by first | omega | (simp; done) | (simp; omega)) _ | with_reducible refine bDrewN ?_ _ | with_reducible refine Below.drew ?_ | with_reducible refine Below.alloc ?_ (by first | omega | (simp; done) | (simp; omega)) _))⟩
end Go.Proofs.Ytjgjddlfciaeeaa
