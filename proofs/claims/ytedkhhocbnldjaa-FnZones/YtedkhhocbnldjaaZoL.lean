/-
What is proved: what the law's own helpers do with a pair and a zone.
-/
import Derived.Test.YtedkhhocbnldjaaPair
namespace Go.Proofs.Ytedkhhocbnldjaa
set_option maxRecDepth 40000
open Go.RowKit
set_option linter.unusedVariables false
set_option linter.unusedSimpArgs false

theorem toPair_below (x y : Nat) (w : World) : Calls Try.prog 9 #[.agg #[.float .f64 x, .float .f64 y]] w fun q w' => q = .returned (.agg #[.float .f64 x, .float .f64 y]) ∧ Below w.heap.size w w' := by
  refine (toPair_any x y w).mono ?_
  rintro q w' ⟨rfl, rfl⟩
  exact ⟨rfl, (by repeat (first | with_reducible exact Below.refl _ _ | with_reducible refine Below.setCell ?_ (by first | omega | (simp; done) | (simp; omega)) _ | with_reducible refine bDrewN ?_ _ | with_reducible refine Below.drew ?_ | with_reducible refine Below.alloc ?_ (by first | omega | (simp; done) | (simp; omega)) _))⟩
theorem f64w_lt {x : Nat} (h : (Lit.float .f64 x).wf = true) : x < 18446744073709551616 := by
  simpa [Lit.wf] using h
set_option maxHeartbeats 800000 in
theorem toZone_any (c e r : Nat) (t : Int) (w : World) : Calls Try.prog 8 #[.agg #[.float .f64 c, .float .f64 e, .float .f64 r, .int .i64 t]] w fun q w' => q = .returned (.agg #[.float .f64 c, .float .f64 e, .float .f64 r, .int .i64 t]) ∧ Below w.heap.size w w' := by
  have st := store_fp
  go_enter Try.func8, Try.ntmps8
  go_wp2_with fail
  refine (toPair_any c e _).mono ?_
  rintro q w1 ⟨rfl, rfl⟩
  go_wp2
  exact bodyPost_ret (v := .agg #[.float .f64 c, .float .f64 e, .float .f64 r, .int .i64 t]) (by simp [results, Try.results8, go_sem]) rfl ⟨rfl, (by repeat (first | with_reducible exact Below.refl _ _ | with_reducible refine Below.setCell ?_ (by first | omega | (simp; done) | (simp; omega)) _ | with_reducible refine bDrewN ?_ _ | with_reducible refine Below.drew ?_ | with_reducible refine Below.alloc ?_ (by first | omega | (simp; done) | (simp; omega)) _))⟩
set_option maxHeartbeats 1600000 in
theorem eqZone_same (c e r : Nat) (t : Int) (lc : c < 18446744073709551616) (le : e < 18446744073709551616) (lr : r < 18446744073709551616) (w : World) : Calls Try.prog 28 #[.agg #[.float .f64 c, .float .f64 e, .float .f64 r, .int .i64 t], .agg #[.float .f64 c, .float .f64 e, .float .f64 r, .int .i64 t]] w fun q w' => q = .returned (.bool true) ∧ Below w.heap.size w w' := by
  go_enter Try.func28, Try.ntmps28
  go_wp2_with fail
  refine (eqPair_any (fl_of c lc) (fl_of e le) (fl_of c lc) (fl_of e le) _).mono ?_
  rintro q w1 ⟨rfl, h1⟩
  obtain ⟨hc, hf⟩ := bcell h1
  have p2 := hc w.heap.size 2 (by first | omega | (simp; done) | (simp; omega))
  have p3 := hc w.heap.size 3 (by first | omega | (simp; done) | (simp; omega))
  have q2 := hc (w.heap.size + 1) 2 (by first | omega | (simp; done) | (simp; omega))
  have q3 := hc (w.heap.size + 1) 3 (by first | omega | (simp; done) | (simp; omega))
  simp [go_sem] at p2 p3 q2 q3
  have z1 : w.heap.size + 1 < w1.heap.size := by have := h1.size; simp at this; omega
  have B1 : Below w.heap.size w w1 := Below.trans (by repeat (first | with_reducible exact Below.refl _ _ | with_reducible refine Below.setCell ?_ (by first | omega | (simp; done) | (simp; omega)) _ | with_reducible refine bDrewN ?_ _ | with_reducible refine Below.drew ?_ | with_reducible refine Below.alloc ?_ (by first | omega | (simp; done) | (simp; omega)) _)) (h1.mono (by first | omega | (simp; done) | (simp; omega)))
  clear hc hf h1
  go_wp2_with fail
  refine (sameFloat_any (fl_of r lr) (fl_of r lr) _).mono ?_
  rintro q w2 ⟨rfl, rfl⟩
  go_wp2
  go_ret
  exact ⟨rfl, B1⟩
end Go.Proofs.Ytedkhhocbnldjaa
