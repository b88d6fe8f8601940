/-
What is proved: lists of notes, how they are kept; a copy in new memory by the law's own helper.
-/
import Derived.Test.YtmoeoepinlcmdaaDoorOwn
import Derived.Test.YtmoeoepinlcmdaaDoorBeside
import Derived.Deep.OwnRows
import Derived.Deep.RegionHeld3
import Derived.Deep.DeepCutAuto
namespace Go.Proofs.YtmoeoepinlcmdaaDoor
set_option maxRecDepth 40000
open Go.ChangeShapes Go.WideShapes Go.ChangeAt Go.RowKit
set_option linter.unusedVariables false
set_option linter.unusedSimpArgs false

theorem cell_apartNote {w : World} {b i j : Nat} {v : Value} (h : j ≠ i) : (w.setCell ⟨b, i, none⟩ v).cell? ⟨b, j, none⟩ = w.cell? ⟨b, j, none⟩ := World.cell?_setCell_other _ _ _ _ (by intro e; cases e; exact h rfl)
/-- A list of n notes at a place. -/
def RowNote (w : World) (s : Option Addr) (n : Nat) (V : Nat → Int × Int) : Prop := ∀ j, j < n → ∃ b o, s = some ⟨b, o, none⟩ ∧ b < w.heap.size ∧ w.cell? ⟨b, o + j * 2, none⟩ = some (.int .i64 ((V j).1)) ∧ w.cell? ⟨b, o + j * 2 + 1, none⟩ = some (.int .i64 ((V j).2))
theorem RowNote.below {w w' : World} {s : Option Addr} {n : Nat} {V : Nat → Int × Int} (h : RowNote w s n V) (hb : Below w.heap.size w w') : RowNote w' s n V := fun j hj => by
  obtain ⟨b, o, e, hl, c0, c1⟩ := h j hj
  exact ⟨b, o, e, Nat.lt_of_lt_of_le hl hb.size, (hb.cell (p := ⟨b, o + j * 2, none⟩) hl).trans c0, (hb.cell (p := ⟨b, o + j * 2 + 1, none⟩) hl).trans c1⟩
/-- A list of n notes in a block from base on, which may be written. -/
def OwnNote (base : Nat) (w : World) (s : Option Addr) (n : Nat) (V : Nat → Int × Int) : Prop := ∀ j, j < n → ∃ b, s = some ⟨b, 0, none⟩ ∧ base ≤ b ∧ b < w.heap.size ∧ (∀ o, w.frozen? ⟨b, o, none⟩ = false) ∧ w.cell? ⟨b, j * 2, none⟩ = some (.int .i64 ((V j).1)) ∧ w.cell? ⟨b, j * 2 + 1, none⟩ = some (.int .i64 ((V j).2))
theorem OwnNote.row {base : Nat} {w : World} {s : Option Addr} {n : Nat} {V : Nat → Int × Int} (h : OwnNote base w s n V) : RowNote w s n V := fun j hj => by
  obtain ⟨b, e, _, hl, _, c0, c1⟩ := h j hj
  exact ⟨b, 0, e, hl, by simpa using c0, by simpa using c1⟩
theorem OwnNote.below {base : Nat} {w w' : World} {s : Option Addr} {n : Nat} {V : Nat → Int × Int} (h : OwnNote base w s n V) (hb : Below w.heap.size w w') : OwnNote base w' s n V := fun j hj => by
  obtain ⟨b, e, hB, hl, hf, c0, c1⟩ := h j hj
  exact ⟨b, e, hB, Nat.lt_of_lt_of_le hl hb.size, fun o => (hb.frozen (p := ⟨b, o, none⟩) hl).trans (hf o), (hb.cell (p := ⟨b, j * 2, none⟩) hl).trans c0, (hb.cell (p := ⟨b, j * 2 + 1, none⟩) hl).trans c1⟩
theorem OwnNote.mono {base base' : Nat} {w : World} {s : Option Addr} {n : Nat} {V : Nat → Int × Int} (h : OwnNote base w s n V) (hb : base' ≤ base) : OwnNote base' w s n V := fun j hj => by
  obtain ⟨b, e, hB, r⟩ := h j hj
  exact ⟨b, e, by omega, r⟩
theorem OwnNote.beside {base r : Nat} {w w' : World} {s : Option Addr} {n : Nat} {V : Nat → Int × Int} (h : OwnNote base w s n V) (hb : Beside r w w') (hr : r < base) : OwnNote base w' s n V := fun j hj => by
  obtain ⟨b, e, hB, hl, hf, c0, c1⟩ := h j hj
  exact ⟨b, e, hB, Nat.lt_of_lt_of_le hl hb.2.2.2.1, fun o => (hb.frozen (p := ⟨b, o, none⟩) hl (by show b ≠ r; omega)).trans (hf o), (hb.cell (p := ⟨b, j * 2, none⟩) hl (by show b ≠ r; omega)).trans c0, (hb.cell (p := ⟨b, j * 2 + 1, none⟩) hl (by show b ≠ r; omega)).trans c1⟩
theorem make_Note (n : Nat) (hn : n ≤ 1048576) (w : World) : (Instr.makeSlice 30 (.int .i64 (n : Int)) (.int .i64 (n : Int))).run Tryd.prog w = .ok (.slice (some ⟨w.heap.size, 0, none⟩) n n) (w.alloc (.cells (madeCells #[.int .i64 0, .int .i64 0] (n * 2)) 36)) := by
  have hinfo : (Tryd.prog.info? 36).map (fun i => (i.zero, i.size, decide (i.bytes ≤ 80))) = some (some (.agg #[.int .i64 0, .int .i64 0]), 2, true) := by kernel_rfl
  obtain ⟨i, hi, hzz⟩ := Option.map_eq_some_iff.1 hinfo
  simp only [Prod.mk.injEq, decide_eq_true_eq] at hzz
  obtain ⟨hz, hs, hb⟩ := hzz
  have hl : n * i.bytes ≤ 1048576 * 80 := Nat.mul_le_mul hn hb
  have hr := run_make (P := Tryd.prog) w 30 36 i _ Tryd.underlying30 hi hz .i64 .i64 n n (by omega) (Int.le_refl _) (by rw [← Int.natCast_mul]; have := Nat.mul_comm n i.bytes; omega) (by omega)
  simp only [Int.toNat_natCast, hs] at hr
  exact hr
/-- A copy on its way: k of n are there, in the block at the end of w. -/
def NoteRow (w wr : World) (n k : Nat) (V : Nat → Int × Int) : Prop := Below w.heap.size w wr ∧ w.heap.size < wr.heap.size ∧ (∀ o, wr.frozen? ⟨w.heap.size, o, none⟩ = false) ∧ ∀ j, j < n → wr.cell? ⟨w.heap.size, j * 2, none⟩ = some (.int .i64 (if j < k then (V j).1 else 0)) ∧ wr.cell? ⟨w.heap.size, j * 2 + 1, none⟩ = some (.int .i64 (if j < k then (V j).2 else 0))
theorem rowNote_start (w : World) (n : Nat) (V : Nat → Int × Int) (t : TypeId) : NoteRow w (w.alloc (.cells (madeCells #[.int .i64 0, .int .i64 0] (n * 2)) t)) n 0 V := by
  refine ⟨below0 _ _, by simp, fun o => by simp [go_sem], fun j hj => ?_⟩
  have m0 : (madeCells #[.int .i64 0, .int .i64 0] (n * 2))[j * 2]? = some (.int .i64 0) := by
    have hj : j * 2 < n * 2 := by omega
    simp only [madeCells, Array.getElem?_map, Array.getElem?_range, hj, if_true, Option.map_some]
    have h : (j * 2) % 2 = 0 := by omega
    show some ((#[Value.int .i64 0, Value.int .i64 0] : Array Value)[(j * 2) % 2]!) = _
    rw [h]; rfl
  have m1 : (madeCells #[.int .i64 0, .int .i64 0] (n * 2))[j * 2 + 1]? = some (.int .i64 0) := by
    have hj : j * 2 + 1 < n * 2 := by omega
    simp only [madeCells, Array.getElem?_map, Array.getElem?_range, hj, if_true, Option.map_some]
    have h : (j * 2 + 1) % 2 = 1 := by omega
    show some ((#[Value.int .i64 0, Value.int .i64 0] : Array Value)[(j * 2 + 1) % 2]!) = _
    rw [h]; rfl
  rw [if_neg (by omega), if_neg (by omega)]
  refine ⟨?_, ?_⟩
  · simpa [go_sem] using m0
  · simpa [go_sem] using m1
theorem rowNote_on {w wr w3 : World} {n k : Nat} {V : Nat → Int × Int} (hk : k < n) (h : NoteRow w wr n k V) (h3 : Below wr.heap.size wr w3) : NoteRow w ((w3.setCell ⟨w.heap.size, k * 2, none⟩ (.int .i64 ((V k).1))).setCell ⟨w.heap.size, k * 2 + 1, none⟩ (.int .i64 ((V k).2))) n (k + 1) V := by
  obtain ⟨hB, hz, hf, hc⟩ := h
  have z3 : w.heap.size < w3.heap.size := Nat.lt_of_lt_of_le hz h3.size
  have B3 : Below w.heap.size w w3 := hB.trans (h3.mono (by omega))
  have fz : ∀ o, w3.frozen? ⟨w.heap.size, o, none⟩ = false := fun o => (h3.frozen (p := ⟨w.heap.size, o, none⟩) hz).trans (hf o)
  refine ⟨(by repeat (first | with_reducible exact Below.refl _ _ | with_reducible exact B3 | with_reducible refine Below.setCell ?_ (by first | omega | (simp; done) | (simp; omega)) _ | with_reducible refine bDrewN ?_ _ | with_reducible refine Below.drew ?_ | with_reducible refine Below.alloc ?_ (by first | omega | (simp; done) | (simp; omega)) _)), by simpa using z3, fun o => by simp [go_sem, fz], fun j hj => ?_⟩
  obtain ⟨c0, c1⟩ := hc j hj
  replace c0 := (h3.cell (p := ⟨w.heap.size, j * 2, none⟩) hz).trans c0
  replace c1 := (h3.cell (p := ⟨w.heap.size, j * 2 + 1, none⟩) hz).trans c1
  by_cases e : j = k
  · subst e
    simp only [if_neg (Nat.lt_irrefl j)] at c0
    simp only [if_neg (Nat.lt_irrefl j)] at c1
    simp only [if_pos (Nat.lt_succ_self j)]
    refine ⟨?_, ?_⟩
    all_goals simp [go_sem, c0, c1]
  · have ne : ∀ a b : Nat, a < 2 → b < 2 → j * 2 + a ≠ k * 2 + b := by intro a b ha hb; omega
    have q : (j < k + 1) = (j < k) := propext ⟨fun _ => by omega, fun _ => by omega⟩
    simp only [q]
    have n0_0 : ¬ j * 2 = k * 2 := by omega
    have n0_1 : ¬ j * 2 = k * 2 + 1 := by omega
    have n1_0 : ¬ j * 2 + 1 = k * 2 := by omega
    have n1_1 : ¬ j * 2 + 1 = k * 2 + 1 := by omega
    refine ⟨?_, ?_⟩
    · rw [cell_apartNote (by omega), cell_apartNote (by omega)]; exact c0
    · rw [cell_apartNote (by omega), cell_apartNote (by omega)]; exact c1
end Go.Proofs.YtmoeoepinlcmdaaDoor
