/-
What is proved: a frame found as it was marked.
-/
import Derived.Test.YtkaicllddneokaaSli
namespace Go.Proofs.Ytkaicllddneokaa
set_option maxRecDepth 40000
open Go.RowKit
set_option linter.unusedVariables false
set_option linter.unusedSimpArgs false

set_option maxHeartbeats 1000000 in
theorem heldFrame_any (t q : Int) (s : Option Addr) (n c : Nat) (k : Int) (w : World) (hn : (n : Int) ≤ 1048576) (k0 : 0 ≤ k) (k1 : k ≤ 100000000) (HR : Hid (RowI w s n (fun j => k + j))) :
    Calls Try.prog 20 #[.agg #[.int .i64 t, .int .i64 q, .slice s n c], .int .i64 k] w fun e w' => e = .returned (.int .i64 (k + n)) ∧ Below w.heap.size w w' := by
  go_enter Try.func20, Try.ntmps20
  go_wp2_with fail
  refine (heldInt64S_any s n c k _ hn k0 k1 (row_one HR.out)).mono ?_
  rintro e w1 ⟨rfl, rfl⟩
  go_wp2
  go_ret
  exact ⟨rfl, (by repeat (first | with_reducible exact Below.refl _ _ | with_reducible refine Below.setCell ?_ (by first | omega | (simp; done) | (simp; omega)) _ | with_reducible refine bDrewN ?_ _ | with_reducible refine Below.drew ?_ | with_reducible refine Below.alloc ?_ (by first | omega | (simp; done) | (simp; omega)) _))⟩
end Go.Proofs.Ytkaicllddneokaa
