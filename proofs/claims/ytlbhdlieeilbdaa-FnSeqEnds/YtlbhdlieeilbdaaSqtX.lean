/-
What is proved: what the law's own helpers do with a stand and a tick; a stand's place that is 0.
-/
import Derived.Test.YtlbhdlieeilbdaaOwn
namespace Go.Proofs.Ytlbhdlieeilbdaa
set_option maxRecDepth 40000
open Go.RowKit
set_option linter.unusedVariables false
set_option linter.unusedSimpArgs false

/-- At a place lies a stand that is 0, which may be written. -/
def PzAt (p : Nat) (W : World) : Prop := p < W.heap.size ∧ W.cell? ⟨p, 0, none⟩ = some (.int .i64 0) ∧ W.cell? ⟨p, 1, none⟩ = some (.int .i64 0) ∧ W.frozen? ⟨p, 0, none⟩ = false ∧ W.frozen? ⟨p, 1, none⟩ = false
theorem PzAt.below {p : Nat} {W W' : World} (h : PzAt p W) (hb : Below W.heap.size W W') : PzAt p W' :=
  ⟨Nat.lt_of_lt_of_le h.1 hb.size, (hb.cell (p := ⟨p, 0, none⟩) h.1).trans h.2.1, (hb.cell (p := ⟨p, 1, none⟩) h.1).trans h.2.2.1, (hb.frozen (p := ⟨p, 0, none⟩) h.1).trans h.2.2.2.1, (hb.frozen (p := ⟨p, 1, none⟩) h.1).trans h.2.2.2.2⟩
theorem PzAt.alloc {p : Nat} {W : World} (h : PzAt p W) (o : Obj) : PzAt p (W.alloc o) := h.below (Below.alloc (Below.refl _ _) (Nat.le_refl _) o)
theorem PzAt.drew {p : Nat} {W : World} (h : PzAt p W) : PzAt p W.drew := h.below (Below.drew (Below.refl _ _))
theorem PzAt.new {p : Nat} {W : World} {t : TypeId} (h : p = W.heap.size) : PzAt p (W.alloc (.cells #[.int .i64 0, .int .i64 0] t)) := by
  subst h
  refine ⟨by simp, ?_, ?_, ?_, ?_⟩ <;> simp [go_sem]
theorem PzAt.al3 {p : Nat} {W : World} {a b c : Obj} (h : PzAt p W) : PzAt p (((W.alloc a).alloc b).alloc c) := ((h.alloc a).alloc b).alloc c
theorem PzAt.al6 {p : Nat} {W : World} {a b c d e f : Obj} (h : PzAt p W) : PzAt p ((((((W.alloc a).alloc b).alloc c).alloc d).alloc e).alloc f) := (h.al3).al3
theorem PzAt.new0 {W : World} {t : TypeId} : PzAt W.heap.size (W.alloc (.cells #[.int .i64 0, .int .i64 0] t)) := PzAt.new rfl
theorem PzAt.new3 {W : World} {a b c : Obj} {t : TypeId} : PzAt (W.heap.size + 1 + 1 + 1) ((((W.alloc a).alloc b).alloc c).alloc (.cells #[.int .i64 0, .int .i64 0] t)) := PzAt.new (by simp)
theorem PzAt.new6 {W : World} {a b c d e f : Obj} {t : TypeId} : PzAt (W.heap.size + 1 + 1 + 1 + 1 + 1 + 1) (((((((W.alloc a).alloc b).alloc c).alloc d).alloc e).alloc f).alloc (.cells #[.int .i64 0, .int .i64 0] t)) := PzAt.new (by simp)
end Go.Proofs.Ytlbhdlieeilbdaa
