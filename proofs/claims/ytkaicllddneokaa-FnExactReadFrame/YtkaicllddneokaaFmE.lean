/-
What is proved: a frame's fields held against another's, and what marking one spares.
-/
import Derived.Test.YtkaicllddneokaaSli
namespace Go.Proofs.Ytkaicllddneokaa
set_option maxRecDepth 40000
open Go.RowKit
set_option linter.unusedVariables false
set_option linter.unusedSimpArgs false

set_option maxHeartbeats 2000000 in
theorem eqFrame_any (t q : Int) (s1 s2 : Option Addr) (n c1 c2 : Nat) (V : Nat → Int) (w : World) (hn : (n : Int) ≤ 1048576) (H1 : Hid (RowI w s1 n V)) (H2 : Hid (RowI w s2 n V)) :
    Calls Try.prog 14 #[.agg #[.int .i64 t, .int .i64 q, .slice s1 n c1], .agg #[.int .i64 t, .int .i64 q, .slice s2 n c2]] w fun e w' => e = .returned (.bool true) ∧ Below w.heap.size w w' := by
  go_enter Try.func14, Try.ntmps14
  go_wp2_with fail
  refine (eqInt64S_any s1 s2 n c1 c2 V _ hn (row_two H1.out) (row_two H2.out)).mono ?_
  rintro e w1 ⟨rfl, h1⟩
  have B1 : Below w.heap.size w w1 := Below.trans (by repeat (first | with_reducible exact Below.refl _ _ | with_reducible refine Below.setCell ?_ (by first | omega | (simp; done) | (simp; omega)) _ | with_reducible refine bDrewN ?_ _ | with_reducible refine Below.drew ?_ | with_reducible refine Below.alloc ?_ (by first | omega | (simp; done) | (simp; omega)) _)) (h1.mono (by first | omega | (simp; done) | (simp; omega)))
  clear h1
  go_wp2
  go_ret
  exact ⟨rfl, B1⟩
set_option maxHeartbeats 1000000 in
theorem markFrame_sp (t q : Int) (base : Nat) (s : Option Addr) (n c : Nat) (k : Int) (V : Nat → Int) (w : World) (hn : (n : Int) ≤ 1048576) (k0 : 0 ≤ k) (k1 : k ≤ 100000000) (hb : base ≤ w.heap.size) (HR : Hid (OwnI base w s n V)) :
    Calls Try.prog 15 #[.agg #[.int .i64 t, .int .i64 q, .slice s n c], .int .i64 k] w fun e w' => e = .returned (.int .i64 (k + n)) ∧ OwnI base w' s n (fun j => k + j) ∧ Below base w w' ∧ Spared s n w w' := by
  go_enter Try.func15, Try.ntmps15
  go_wp2_with fail
  refine (markInt64S_sp base s n c k V _ hn k0 k1 (by first | omega | (simp; done) | (simp; omega)) (own_alloc HR.out)).mono ?_
  rintro e w1 ⟨rfl, O1, h1, hs⟩
  have B1 : Below base w w1 := Below.trans (Below.mono (B := w.heap.size) (by repeat (first | with_reducible exact Below.refl _ _ | with_reducible refine Below.setCell ?_ (by first | omega | (simp; done) | (simp; omega)) _ | with_reducible refine bDrewN ?_ _ | with_reducible refine Below.drew ?_ | with_reducible refine Below.alloc ?_ (by first | omega | (simp; done) | (simp; omega)) _)) hb) h1
  have S1 : Spared s n w w1 := hs.from (by repeat (first | with_reducible exact Below.refl _ _ | with_reducible refine Below.setCell ?_ (by first | omega | (simp; done) | (simp; omega)) _ | with_reducible refine bDrewN ?_ _ | with_reducible refine Below.drew ?_ | with_reducible refine Below.alloc ?_ (by first | omega | (simp; done) | (simp; omega)) _))
  clear hs h1
  go_wp2
  go_ret
  exact ⟨rfl, O1, B1, S1⟩
end Go.Proofs.Ytkaicllddneokaa
