/-
What is proved: a sensor as the law's helper hands it on.
-/
import Derived.Test.YtbdilaacfokpiaaFO
namespace Go.Proofs.Ytbdilaacfokpiaa
set_option maxRecDepth 40000
open Go.ChangeShapes Go.WideShapes Go.ChangeAt Go.RowKit
set_option linter.unusedVariables false
set_option linter.unusedSimpArgs false

theorem store_fp : ∀ (W : World) (a : Addr) (x : Nat), (W.cell? a).isSome = true → W.frozen? a = false → (store a (.float .f64 x)).run Try.prog W = .ok () (W.setCell a (.float .f64 x)) := fun W a x h hf => by
  obtain ⟨u, hu⟩ := Option.isSome_iff_exists.1 h
  rw [run_store Try.prog W a _ _ rfl, hu]
  simp [hf]
set_option maxHeartbeats 800000 in
theorem toSensor_any (a b : Nat) (w : World) : Calls Try.prog 7 #[.agg #[.float .f64 a, .float .f64 b]] w fun e w' => e = .returned (.agg #[.float .f64 a, .float .f64 b]) ∧ Below w.heap.size w w' := by
  have st := store_fp
  go_enter Try.func7, Try.ntmps7
  go_wp2
  exact bodyPost_ret (v := .agg #[.float .f64 a, .float .f64 b]) (by simp [results, Try.results7, go_sem]) rfl ⟨rfl, (by repeat (first | with_reducible exact Below.refl _ _ | with_reducible refine Below.setCell ?_ (by first | omega | (simp; done) | (simp; omega)) _ | with_reducible refine bDrewN ?_ _ | with_reducible refine Below.drew ?_ | with_reducible refine Below.alloc ?_ (by first | omega | (simp; done) | (simp; omega)) _))⟩
end Go.Proofs.Ytbdilaacfokpiaa
