/-
What is proved: what the law's own helpers do with a burner, what is seen and what is done.
-/
import Derived.Test.YtaimdbgimkgelaaOpen
import Derived.Deep.RegionHeld3
import Derived.Deep.DeepCutAuto
namespace Go.Proofs.Ytaimdbgimkgelaa
set_option maxRecDepth 40000
open Go.RowKit
set_option linter.unusedVariables false
set_option linter.unusedSimpArgs false

set_option maxHeartbeats 800000 in
theorem toBurner_is (s t r : Int) (w : World) : Calls Try.prog 10 #[.agg #[.int .i64 s, .int .i64 t, .int .i64 r]] w fun e w' => e = .returned (.agg #[.int .i64 s, .int .i64 t, .int .i64 r]) ∧ w' = ((w.alloc (.cells #[.int .i64 s, .int .i64 t, .int .i64 r] 23)).alloc (.cells #[.int .i64 s, .int .i64 t, .int .i64 r] 25)).alloc (.cells #[.int .i64 s, .int .i64 t, .int .i64 r] 25) := by
  go_enter Try.func10, Try.ntmps10
  go_wp2
  exact bodyPost_ret (v := .agg #[.int .i64 s, .int .i64 t, .int .i64 r]) (by simp [results, Try.results10, go_sem]) rfl ⟨rfl, rfl⟩
set_option maxHeartbeats 800000 in
theorem toIn_is (air gas fl st sp rs : Bool) (w : World) : Calls Try.prog 13 #[.agg #[.bool air, .bool gas, .bool fl, .bool st, .bool sp, .bool rs]] w fun e w' => e = .returned (.agg #[.bool air, .bool gas, .bool fl, .bool st, .bool sp, .bool rs]) ∧ w' = ((w.alloc (.cells #[.bool air, .bool gas, .bool fl, .bool st, .bool sp, .bool rs] 29)).alloc (.cells #[.bool air, .bool gas, .bool fl, .bool st, .bool sp, .bool rs] 34)).alloc (.cells #[.bool air, .bool gas, .bool fl, .bool st, .bool sp, .bool rs] 34) := by
  go_enter Try.func13, Try.ntmps13
  go_wp2
  exact bodyPost_ret (v := .agg #[.bool air, .bool gas, .bool fl, .bool st, .bool sp, .bool rs]) (by simp [results, Try.results13, go_sem]) rfl ⟨rfl, rfl⟩
set_option maxHeartbeats 800000 in
theorem eqBurner_any (s t r : Int) (w : World) : Calls Try.prog 15 #[.agg #[.int .i64 s, .int .i64 t, .int .i64 r], .agg #[.int .i64 s, .int .i64 t, .int .i64 r]] w fun e w' => e = .returned (.bool true) ∧ Below w.heap.size w w' := by
  go_enter Try.func15, Try.ntmps15
  go_wp2
  go_ret
  exact ⟨rfl, (by repeat (first | with_reducible exact Below.refl _ _ | with_reducible refine Below.setCell ?_ (by first | omega | (simp; done) | (simp; omega)) _ | with_reducible refine bDrewN ?_ _ | with_reducible refine Below.drew ?_ | with_reducible refine Below.alloc ?_ (by first | omega | (simp; done) | (simp; omega)) _))⟩
set_option maxHeartbeats 800000 in
theorem eqOut_any (a b c : Bool) (w : World) : Calls Try.prog 16 #[.agg #[.bool a, .bool b, .bool c], .agg #[.bool a, .bool b, .bool c]] w fun e w' => e = .returned (.bool true) ∧ Below w.heap.size w w' := by
  cases a
  all_goals
    cases b
  all_goals
    cases c
  all_goals
    go_enter Try.func16, Try.ntmps16
    go_wp2
    go_ret
    exact ⟨rfl, (by repeat (first | with_reducible exact Below.refl _ _ | with_reducible refine Below.setCell ?_ (by first | omega | (simp; done) | (simp; omega)) _ | with_reducible refine bDrewN ?_ _ | with_reducible refine Below.drew ?_ | with_reducible refine Below.alloc ?_ (by first | omega | (simp; done) | (simp; omega)) _))⟩
end Go.Proofs.Ytaimdbgimkgelaa
