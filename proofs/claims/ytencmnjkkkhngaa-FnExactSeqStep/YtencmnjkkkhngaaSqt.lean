/-
What is proved: what the law's own helpers do with a stand and a tick; a stand's place that is 0.
-/
import Derived.Test.YtencmnjkkkhngaaOwn
namespace Go.Proofs.Ytencmnjkkkhngaa
set_option maxRecDepth 40000
open Go.RowKit
set_option linter.unusedVariables false
set_option linter.unusedSimpArgs false

set_option maxHeartbeats 800000 in
theorem toStand_is (a t : Int) (w : World) : Calls Try.prog 13 #[.agg #[.int .i64 a, .int .i64 t]] w fun e w' => e = .returned (.agg #[.int .i64 a, .int .i64 t]) ∧ w' = ((w.alloc (.cells #[.int .i64 a, .int .i64 t] 30)).alloc (.cells #[.int .i64 a, .int .i64 t] 33)).alloc (.cells #[.int .i64 a, .int .i64 t] 33) := by
  go_enter Try.func13, Try.ntmps13
  go_wp2
  exact bodyPost_ret (v := .agg #[.int .i64 a, .int .i64 t]) (by simp [results, Try.results13, go_sem]) rfl ⟨rfl, rfl⟩
set_option maxHeartbeats 800000 in
theorem toTick_is (S : Int) (H : Bool) (w : World) : Calls Try.prog 14 #[.agg #[.int .i64 S, .bool H]] w fun e w' => e = .returned (.agg #[.int .i64 S, .bool H]) ∧ w' = ((w.alloc (.cells #[.int .i64 S, .bool H] 32)).alloc (.cells #[.int .i64 S, .bool H] 37)).alloc (.cells #[.int .i64 S, .bool H] 37) := by
  go_enter Try.func14, Try.ntmps14
  go_wp2
  exact bodyPost_ret (v := .agg #[.int .i64 S, .bool H]) (by simp [results, Try.results14, go_sem]) rfl ⟨rfl, rfl⟩
set_option maxHeartbeats 400000 in
theorem eqStand_any (a t : Int) (w : World) : Calls Try.prog 16 #[.agg #[.int .i64 a, .int .i64 t], .agg #[.int .i64 a, .int .i64 t]] w fun e w' => e = .returned (.bool true) ∧ Below w.heap.size w w' := by
  go_enter Try.func16, Try.ntmps16
  go_wp2
  go_ret
  exact ⟨rfl, (by repeat (first | with_reducible exact Below.refl _ _ | with_reducible refine Below.setCell ?_ (by first | omega | (simp; done) | (simp; omega)) _ | with_reducible refine bDrewN ?_ _ | with_reducible refine Below.drew ?_ | with_reducible refine Below.alloc ?_ (by first | omega | (simp; done) | (simp; omega)) _))⟩
/-- At a place lies a stand that is 0, which may be written. -/
def PzAt (p : Nat) (W : World) : Prop := p < W.heap.size ∧ W.cell? ⟨p, 0, none⟩ = some (.int .i64 0) ∧ W.cell? ⟨p, 1, none⟩ = some (.int .i64 0) ∧ W.frozen? ⟨p, 0, none⟩ = false ∧ W.frozen? ⟨p, 1, none⟩ = false
theorem PzAt.below {p : Nat} {W W' : World} (h : PzAt p W) (hb : Below W.heap.size W W') : PzAt p W' :=
  ⟨Nat.lt_of_lt_of_le h.1 hb.size, (hb.cell (p := ⟨p, 0, none⟩) h.1).trans h.2.1, (hb.cell (p := ⟨p, 1, none⟩) h.1).trans h.2.2.1, (hb.frozen (p := ⟨p, 0, none⟩) h.1).trans h.2.2.2.1, (hb.frozen (p := ⟨p, 1, none⟩) h.1).trans h.2.2.2.2⟩
theorem PzAt.alloc {p : Nat} {W : World} (h : PzAt p W) (o : Obj) : PzAt p (W.alloc o) := h.below (Below.alloc (Below.refl _ _) (Nat.le_refl _) o)
theorem PzAt.drew {p : Nat} {W : World} (h : PzAt p W) : PzAt p W.drew := h.below (Below.drew (Below.refl _ _))
theorem PzAt.new {p : Nat} {W : World} {t : TypeId} (h : p = W.heap.size) : PzAt p (W.alloc (.cells #[.int .i64 0, .int .i64 0] t)) := by
  subst h
  refine ⟨by simp, ?_, ?_, ?_, ?_⟩ <;> simp [go_sem]
theorem PzAt.al3 {p : Nat} {W : World} {a b c : Obj} (h : PzAt p W) : PzAt p (((W.alloc a).alloc b).alloc c) := ((h.alloc a).alloc b).alloc c
theorem PzAt.al6 {p : Nat} {W : World} {a b c d e f : Obj} (h : PzAt p W) : PzAt p ((((((W.alloc a).alloc b).alloc c).alloc d).alloc e).alloc f) := (h.al3).al3
theorem PzAt.new0 {W : World} {t : TypeId} : PzAt W.heap.size (W.alloc (.cells #[.int .i64 0, .int .i64 0] t)) := PzAt.new rfl
theorem PzAt.new3 {W : World} {a b c : Obj} {t : TypeId} : PzAt (W.heap.size + 1 + 1 + 1) ((((W.alloc a).alloc b).alloc c).alloc (.cells #[.int .i64 0, .int .i64 0] t)) := PzAt.new (by simp)
theorem PzAt.new6 {W : World} {a b c d e f : Obj} {t : TypeId} : PzAt (W.heap.size + 1 + 1 + 1 + 1 + 1 + 1) (((((((W.alloc a).alloc b).alloc c).alloc d).alloc e).alloc f).alloc (.cells #[.int .i64 0, .int .i64 0] t)) := PzAt.new (by simp)
end Go.Proofs.Ytencmnjkkkhngaa
