/-
What is proved: a link's fields held against another's, marked, and found as they were marked.
-/
import Derived.Test.YtkocbklkiehdiaaI64
namespace Go.Proofs.Ytkocbklkiehdiaa
set_option maxRecDepth 40000
open Go.RowKit
set_option linter.unusedVariables false
set_option linter.unusedSimpArgs false

theorem own_alloc {base : Nat} {w : World} {s : Option Addr} {n : Nat} {V : Nat → Int} {o : Obj} (h : OwnI base w s n V) : OwnI base (w.alloc o) s n V := h.below (by repeat (first | with_reducible exact Below.refl _ _ | with_reducible refine Below.setCell ?_ (by first | omega | (simp; done) | (simp; omega)) _ | with_reducible refine bDrewN ?_ _ | with_reducible refine Below.drew ?_ | with_reducible refine Below.alloc ?_ (by first | omega | (simp; done) | (simp; omega)) _))
theorem row_two {w : World} {s : Option Addr} {n : Nat} {V : Nat → Int} {o p : Obj} (h : RowI w s n V) : RowI ((w.alloc o).alloc p) s n V := h.below (by repeat (first | with_reducible exact Below.refl _ _ | with_reducible refine Below.setCell ?_ (by first | omega | (simp; done) | (simp; omega)) _ | with_reducible refine bDrewN ?_ _ | with_reducible refine Below.drew ?_ | with_reducible refine Below.alloc ?_ (by first | omega | (simp; done) | (simp; omega)) _))
theorem row_one {w : World} {s : Option Addr} {n : Nat} {V : Nat → Int} {o : Obj} (h : RowI w s n V) : RowI (w.alloc o) s n V := h.below (by repeat (first | with_reducible exact Below.refl _ _ | with_reducible refine Below.setCell ?_ (by first | omega | (simp; done) | (simp; omega)) _ | with_reducible refine bDrewN ?_ _ | with_reducible refine Below.drew ?_ | with_reducible refine Below.alloc ?_ (by first | omega | (simp; done) | (simp; omega)) _))
set_option maxHeartbeats 2000000 in
theorem eqLink_any (t : Int) (h : Bool) (q a l : Int) (s1 s2 : Option Addr) (n c1 c2 : Nat) (V : Nat → Int) (w : World) (hn : (n : Int) ≤ 1048576) (H1 : Hid (RowI w s1 n V)) (H2 : Hid (RowI w s2 n V)) :
    Calls Try.prog 19 #[.agg #[.int .i64 t, .bool h, .int .i64 q, .int .i64 a, .int .i64 l, .slice s1 n c1], .agg #[.int .i64 t, .bool h, .int .i64 q, .int .i64 a, .int .i64 l, .slice s2 n c2]] w fun e w' => e = .returned (.bool true) ∧ Below w.heap.size w w' := by
  go_enter Try.func19, Try.ntmps19
  go_wp2_with fail
  refine (eqInt64S_any s1 s2 n c1 c2 V _ hn (row_two H1.out) (row_two H2.out)).mono ?_
  rintro e w1 ⟨rfl, h1⟩
  have B1 : Below w.heap.size w w1 := Below.trans (by repeat (first | with_reducible exact Below.refl _ _ | with_reducible refine Below.setCell ?_ (by first | omega | (simp; done) | (simp; omega)) _ | with_reducible refine bDrewN ?_ _ | with_reducible refine Below.drew ?_ | with_reducible refine Below.alloc ?_ (by first | omega | (simp; done) | (simp; omega)) _)) (h1.mono (by first | omega | (simp; done) | (simp; omega)))
  clear h1
  go_wp2
  go_ret
  exact ⟨rfl, B1⟩
set_option maxHeartbeats 1000000 in
theorem markLink_own (t : Int) (h : Bool) (q a l : Int) (base : Nat) (s : Option Addr) (n c : Nat) (k : Int) (V : Nat → Int) (w : World) (hn : (n : Int) ≤ 1048576) (k0 : 0 ≤ k) (k1 : k ≤ 100000000) (hb : base ≤ w.heap.size) (HR : Hid (OwnI base w s n V)) :
    Calls Try.prog 21 #[.agg #[.int .i64 t, .bool h, .int .i64 q, .int .i64 a, .int .i64 l, .slice s n c], .int .i64 k] w fun e w' => e = .returned (.int .i64 (k + n)) ∧ OwnI base w' s n (fun j => k + j) ∧ Below base w w' ∧ ∀ b, s = some ⟨b, 0, none⟩ → Beside b w w' := by
  go_enter Try.func21, Try.ntmps21
  go_wp2_with fail
  refine (markInt64S_own base s n c k V _ hn k0 k1 (by first | omega | (simp; done) | (simp; omega)) (own_alloc HR.out)).mono ?_
  rintro e w1 ⟨rfl, O1, h1, hs⟩
  have B1 : Below base w w1 := Below.trans (Below.mono (B := w.heap.size) (by repeat (first | with_reducible exact Below.refl _ _ | with_reducible refine Below.setCell ?_ (by first | omega | (simp; done) | (simp; omega)) _ | with_reducible refine bDrewN ?_ _ | with_reducible refine Below.drew ?_ | with_reducible refine Below.alloc ?_ (by first | omega | (simp; done) | (simp; omega)) _)) hb) h1
  have hs' : ∀ b, s = some ⟨b, 0, none⟩ → Beside b w w1 := fun b e => (Beside.of (by repeat (first | with_reducible exact Below.refl _ _ | with_reducible refine Below.setCell ?_ (by first | omega | (simp; done) | (simp; omega)) _ | with_reducible refine bDrewN ?_ _ | with_reducible refine Below.drew ?_ | with_reducible refine Below.alloc ?_ (by first | omega | (simp; done) | (simp; omega)) _))).trans (hs b e)
  clear hs h1
  go_wp2
  go_ret
  exact ⟨rfl, O1, B1, hs'⟩
set_option maxHeartbeats 1000000 in
theorem heldLink_any (t : Int) (h : Bool) (q a l : Int) (s : Option Addr) (n c : Nat) (k : Int) (w : World) (hn : (n : Int) ≤ 1048576) (k0 : 0 ≤ k) (k1 : k ≤ 100000000) (HR : Hid (RowI w s n (fun j => k + j))) :
    Calls Try.prog 23 #[.agg #[.int .i64 t, .bool h, .int .i64 q, .int .i64 a, .int .i64 l, .slice s n c], .int .i64 k] w fun e w' => e = .returned (.int .i64 (k + n)) ∧ Below w.heap.size w w' := by
  go_enter Try.func23, Try.ntmps23
  go_wp2_with fail
  refine (heldInt64S_any s n c k _ hn k0 k1 (row_one HR.out)).mono ?_
  rintro e w1 ⟨rfl, rfl⟩
  go_wp2
  go_ret
  exact ⟨rfl, (by repeat (first | with_reducible exact Below.refl _ _ | with_reducible refine Below.setCell ?_ (by first | omega | (simp; done) | (simp; omega)) _ | with_reducible refine bDrewN ?_ _ | with_reducible refine Below.drew ?_ | with_reducible refine Below.alloc ?_ (by first | omega | (simp; done) | (simp; omega)) _))⟩
end Go.Proofs.Ytkocbklkiehdiaa
