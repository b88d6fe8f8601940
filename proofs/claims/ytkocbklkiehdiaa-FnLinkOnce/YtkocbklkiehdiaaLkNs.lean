/-
What is proved: a new link, as both packages make it.
-/
import Derived.Test.YtkocbklkiehdiaaIsW
namespace Go.Proofs.Ytkocbklkiehdiaa
set_option maxRecDepth 40000
open Go.RowKit
set_option linter.unusedVariables false
set_option linter.unusedSimpArgs false

def newT (x : Int) : Int := if inB 1 4 x = true then x else 0
def newA (x : Int) : Int := if inB 1 4 x = true then 100 else 0
set_option maxHeartbeats 1000000 in
theorem specNewLink_any (x : Int) (w : World) : Calls Try.prog 64 #[.int .i64 x] w fun e w' => e = .returned (.agg #[.int .i64 (newT x), .bool false, .int .i64 0, .int .i64 (newA x), .int .i64 0, .slice none 0 0]) ∧ Below w.heap.size w w' := by
  go_enter Try.func64, Try.ntmps64
  go_wp2_with fail
  refine (l1In_is _ _ _ _).mono ?_
  rintro e w1 ⟨rfl, rfl⟩
  cases h0 : inB 1 4 x
  · go_wp2
    exact bodyPost_ret (v := .agg #[.int .i64 0, .bool false, .int .i64 0, .int .i64 0, .int .i64 0, .slice none 0 0]) (by simp [results, Try.results64, go_sem]) rfl ⟨by simp [newT, newA, h0], (by repeat (first | with_reducible exact Below.refl _ _ | with_reducible refine Below.setCell ?_ (by first | omega | (simp; done) | (simp; omega)) _ | with_reducible refine bDrewN ?_ _ | with_reducible refine Below.drew ?_ | with_reducible refine Below.alloc ?_ (by first | omega | (simp; done) | (simp; omega)) _))⟩
  · go_wp2
    exact bodyPost_ret (v := .agg #[.int .i64 x, .bool false, .int .i64 0, .int .i64 100, .int .i64 0, .slice none 0 0]) (by simp [results, Try.results64, go_sem]) rfl ⟨by simp [newT, newA, h0], (by repeat (first | with_reducible exact Below.refl _ _ | with_reducible refine Below.setCell ?_ (by first | omega | (simp; done) | (simp; omega)) _ | with_reducible refine bDrewN ?_ _ | with_reducible refine Below.drew ?_ | with_reducible refine Below.alloc ?_ (by first | omega | (simp; done) | (simp; omega)) _))⟩
end Go.Proofs.Ytkocbklkiehdiaa
