/-
What is proved: what the program's own difference of two pairs is, up to a NaN's bits.
-/
import Derived.Test.YtedkhhocbnldjaaPair
namespace Go.Proofs.Ytedkhhocbnldjaa
set_option maxRecDepth 40000
open Go.RowKit
set_option linter.unusedVariables false
set_option linter.unusedSimpArgs false

set_option maxHeartbeats 1200000 in
theorem implSubPair_any {x y z u : Nat} {a b c d : Option Nat} (hx : Fl x a) (hy : Fl y b) (hz : Fl z c) (hu : Fl u d) (w : World) : Calls Try.prog 32 #[.agg #[.float .f64 x, .float .f64 y], .agg #[.float .f64 z, .float .f64 u]] w fun e w' => ∃ r i, e = .returned (.agg #[.float .f64 r, .float .f64 i]) ∧ Fl r (opO .sub a c) ∧ Fl i (opO .sub b d) ∧ Below w.heap.size w w' := by
  have st := store_fp
  go_enter Try.func32, Try.ntmps32
  go_upto_region 1 with fail
  go_region_held3 (fun w' => w'.cell? ⟨w.heap.size, 0, none⟩ = some (.float .f64 x) ∧ w'.cell? ⟨w.heap.size, 1, none⟩ = some (.float .f64 y) ∧ w'.cell? ⟨w.heap.size + 1, 0, none⟩ = some (.float .f64 z) ∧ w'.cell? ⟨w.heap.size + 1, 1, none⟩ = some (.float .f64 u)) (first | (simp [go_sem]; done) | (simp [go_sem, *]; done)) (first
    | (go_at_call_of 46 (Value.float FloatKind.f64 x); refine (inside_any x y _).mono ?_; rintro e w1 ⟨rfl, rfl⟩)
    | (go_at_call_of 46 (Value.float FloatKind.f64 z); refine (inside_any z u _).mono ?_; rintro e w2 ⟨rfl, rfl⟩)
    | (go_at_call 51; refine (subInside_any hx hy hz hu _).mono ?_; rintro e w3 ⟨r, i, n, rfl, hr, hi, rfl⟩)
    | (go_at_call 44; refine (pairOf_any _ _ _).mono ?_; rintro e w4 ⟨rfl, rfl⟩))
  all_goals
    go_wp2
    exact bodyPost_ret (v := .agg #[.float .f64 r, .float .f64 i]) (by simp [results, Try.results32, go_sem]) rfl ⟨r, i, rfl, hr, hi, (by repeat (first | with_reducible exact Below.refl _ _ | with_reducible refine Below.setCell ?_ (by first | omega | (simp; done) | (simp; omega)) _ | with_reducible refine bDrewN ?_ _ | with_reducible refine Below.drew ?_ | with_reducible refine Below.alloc ?_ (by first | omega | (simp; done) | (simp; omega)) _))⟩
end Go.Proofs.Ytedkhhocbnldjaa
