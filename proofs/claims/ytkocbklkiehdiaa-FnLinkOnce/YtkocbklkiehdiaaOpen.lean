/-
What is proved: what a well-typed value of a struct type is, field by field; and two closed facts of the program.
-/
import Derived.Test.YtkocbklkiehdiaaRows
import Derived.WalkKit
import Derived.WalkSpells
import Derived.WalkLawsBesides
import Derived.BigQuiet
import Derived.Deep.QuietTactic
import Derived.Deep.RegionWith
import Derived.ProofKit
import Derived.OpenShut
import Derived.ShutString
import Derived.ChangeOld
import Derived.Below
namespace Go.Proofs.Ytkocbklkiehdiaa
set_option maxRecDepth 40000
open Go.ChangeShapes Go.WideShapes Go.ChangeAt Go.RowKit

theorem own : ownKnob Try.prog.godebug = none := by kernel_rfl
theorem laidOut : laidOutB Try.prog = true := by kernel_rfl

theorem bDrewN {B : Nat} {a w : World} (h : Below B a w) (n : Nat) : Below B a (w.drewN n) := h.trans ⟨rfl, rfl, rfl, Nat.le_refl _, fun _ _ => rfl⟩
theorem below0 (w : World) (o : Obj) : Below w.heap.size w (w.alloc o) := (Below.refl _ _).alloc (Nat.le_refl _) _
theorem bcell {W w1 : World} (hb : Below W.heap.size W w1) : (∀ b o, b < W.heap.size → w1.cell? ⟨b, o, none⟩ = W.cell? ⟨b, o, none⟩) ∧ (∀ b o, b < W.heap.size → w1.frozen? ⟨b, o, none⟩ = W.frozen? ⟨b, o, none⟩) :=
  ⟨fun b o h => hb.cell (p := ⟨b, o, none⟩) h, fun b o h => hb.frozen (p := ⟨b, o, none⟩) h⟩
theorem ret_int {k : IntKind} {a b : Int} (h : a = b) : Ending.returned (.int k a) = .returned (.int k b) := by rw [h]
theorem ret_bool {a b : Bool} (h : a = b) : Ending.returned (.bool a) = .returned (.bool b) := by rw [h]

/-- The cells of a row are well typed, one by one. -/
def CellsOk (w : World) (b0 : Nat) : List TypeId → List Value → Prop
  | [], [] => True
  | t :: ts, v :: vs => Cell.okWide Try.prog w .any b0 t v ∧ CellsOk w b0 ts vs
  | _, _ => False

theorem cellsOk_cons {w : World} {b0 : Nat} {t : TypeId} {ts : List TypeId} {vs : List Value} (h : CellsOk w b0 (t :: ts) vs) : ∃ c cs, vs = c :: cs ∧ Cell.okWide Try.prog w .any b0 t c ∧ CellsOk w b0 ts cs := by
  cases vs with
  | nil => exact h.elim
  | cons c cs => exact ⟨c, cs, rfl, h.1, h.2⟩
theorem cellsOk_nil {w : World} {b0 : Nat} {vs : List Value} (h : CellsOk w b0 [] vs) : vs = [] := by
  cases vs with
  | nil => rfl
  | cons c cs => exact h.elim

theorem cellsOk_of {w : World} {b0 : Nat} : ∀ (ts : List TypeId) (vs : List Value), vs.length = ts.length → (∀ (i : Nat) v, vs[i]? = some v → ∃ u, ts[i]? = some u ∧ Cell.okWide Try.prog w .any b0 u v) → CellsOk w b0 ts vs
  | [], [], _, _ => trivial
  | [], _ :: _, h, _ => by simp at h
  | _ :: _, [], h, _ => by simp at h
  | t :: ts, v :: vs, h, k => by
    refine ⟨?_, cellsOk_of ts vs (by simpa using h) fun i u hu => ?_⟩
    · obtain ⟨u, hu, hc⟩ := k 0 v rfl
      simp only [List.getElem?_cons_zero, Option.some.injEq] at hu
      subst hu; exact hc
    · obtain ⟨x, hx, hc⟩ := k (i + 1) u (by simpa using hu)
      exact ⟨x, by simpa using hx, hc⟩

/-- A STRUCT BY VALUE, OPENED: its cells, each of its own type. -/
theorem open_cells {w : World} {b0 : Nat} {t : TypeId} {fs : Array Field} {ts : List TypeId} {v : Value} (hs : Try.prog.underlying t = some (.struct fs)) (hts : Try.prog.cellTypes Try.prog.depth t = some ts) (hC : Try.prog.cellsOf t = ts.length)
    (hv : Value.okWide Try.prog w .any b0 t v) : ∃ vs, v = .agg vs.toArray ∧ CellsOk w b0 ts vs := by
  simp only [Value.okWide, hs] at hv
  obtain ⟨cs, rfl, hsz, ts', hts', _, hall⟩ := hv
  rw [hts] at hts'
  cases hts'
  refine ⟨cs.toList, by simp, cellsOk_of ts cs.toList (by simp [hsz, hC]) fun i v hi => ?_⟩
  have hlt : i < cs.size := by
    rcases Nat.lt_or_ge i cs.size with g | g
    · exact g
    · rw [List.getElem?_eq_none (by simpa using g)] at hi; cases hi
  obtain ⟨u, hu, hc⟩ := hall i v (by simpa using hi)
  rw [Nat.mod_eq_of_lt (by omega)] at hu
  exact ⟨u, hu, hc⟩

theorem cell_int {w : World} {b0 : Nat} {t : TypeId} {k : IntKind} {c : Value} (ht : Try.prog.underlying t = some (.int k)) (h : Cell.okWide Try.prog w .any b0 t c) : ∃ n, c = .int k n ∧ (Lit.int k n).wf = true := by
  simp only [Cell.okWide, ht] at h
  cases c <;> simp_all [Cell.ok]
  simp [Lit.wf, h.2.1, h.2.2]
theorem cell_bool {w : World} {b0 : Nat} {t : TypeId} {c : Value} (ht : Try.prog.underlying t = some .bool) (h : Cell.okWide Try.prog w .any b0 t c) : ∃ x, c = .bool x := by
  simp only [Cell.okWide, ht] at h
  cases c <;> simp_all [Cell.ok]
theorem cell_float {w : World} {b0 : Nat} {t : TypeId} {k : FloatKind} {c : Value} (ht : Try.prog.underlying t = some (.float k)) (h : Cell.okWide Try.prog w .any b0 t c) : ∃ n, c = .float k n ∧ (Lit.float k n).wf = true := by
  simp only [Cell.okWide, ht] at h
  cases c <;> simp_all [Cell.ok]
  cases k <;> simp_all [FloatKind.has, Lit.wf]
end Go.Proofs.Ytkocbklkiehdiaa
