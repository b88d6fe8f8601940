/-
What is proved: what the law's own helpers do with a list of int64s: a copy in new memory, comparing, marking, what is held.
-/
import Derived.Test.YtikcfpjfcpbfcaaZcA
import Derived.Deep.OwnRows
import Derived.Deep.RegionHeld3
import Derived.Deep.DeepCutAuto
namespace Go.Proofs.Ytikcfpjfcpbfcaa
set_option maxRecDepth 40000
open Go.RowKit
set_option linter.unusedVariables false
set_option linter.unusedSimpArgs false

theorem OwnI.beside {base r : Nat} {w w' : World} {s : Option Addr} {m : Nat} {V : Nat → Int} (h : OwnI base w s m V) (hb : Beside r w w') (hr : r < base) : OwnI base w' s m V := fun j hj => by
  obtain ⟨b, e, hB, hl, hc, hf⟩ := h j hj
  exact ⟨b, e, hB, Nat.lt_of_lt_of_le hl hb.2.2.2.1, (hb.cell (p := ⟨b, j, none⟩) hl (by simp only; omega)).trans hc, (hb.frozen (p := ⟨b, j, none⟩) hl (by simp only; omega)).trans hf⟩
theorem make_i64 (n : Nat) (hn : n ≤ 1048576) (w : World) : (Instr.makeSlice 23 (.int .i64 (n : Int)) (.int .i64 (n : Int))).run Try.prog w = .ok (.slice (some ⟨w.heap.size, 0, none⟩) n n) (w.alloc (.cells (madeCells #[.int .i64 0] n) 2)) := by
  have hinfo : (Try.prog.info? 2).map (fun i => (i.zero, i.size, i.bytes)) = some (some (.int .i64 0), 1, 8) := by kernel_rfl
  obtain ⟨i, hi, hzz⟩ := Option.map_eq_some_iff.1 hinfo
  simp only [Prod.mk.injEq] at hzz
  obtain ⟨hz, hs, hb⟩ := hzz
  have hr := run_make (P := Try.prog) w 23 2 i _ Try.underlying23 hi hz .i64 .i64 n n (by omega) (Int.le_refl _) (by rw [hb]; omega) (by omega)
  simp only [Int.toNat_natCast, hs, Nat.mul_one] at hr
  exact hr
/-- A row on its way: of n cells the first k are V, the others 0, in the block at the end of w. -/
def RowTo (w wr : World) (n k : Nat) (V : Nat → Int) : Prop := Below w.heap.size w wr ∧ w.heap.size < wr.heap.size ∧ (∀ o, wr.frozen? ⟨w.heap.size, o, none⟩ = false) ∧ ∀ j, j < n → wr.cell? ⟨w.heap.size, j, none⟩ = some (.int .i64 (if j < k then V j else 0))
theorem rowTo_start (w : World) (n : Nat) (V : Nat → Int) (t : TypeId) : RowTo w (w.alloc (.cells (madeCells #[.int .i64 0] n) t)) n 0 V := by
  refine ⟨below0 _ _, by simp, fun o => by simp [go_sem], fun j hj => ?_⟩
  have hm : (madeCells #[.int .i64 0] n)[j]? = some (.int .i64 0) := by
    simp only [madeCells, Array.getElem?_map, Array.getElem?_range, hj, if_true, Option.map_some]
    show some ((#[Value.int .i64 0] : Array Value)[j % 1]!) = _
    rw [Nat.mod_one]; rfl
  rw [if_neg (by omega)]
  simpa [go_sem] using hm
theorem rowTo_on {w wr w3 : World} {n k : Nat} {V : Nat → Int} (h : RowTo w wr n k V) (h3 : Below wr.heap.size wr w3) : RowTo w (w3.setCell ⟨w.heap.size, k, none⟩ (.int .i64 (V k))) n (k + 1) V := by
  obtain ⟨hB, hz, hf, hc⟩ := h
  have z3 : w.heap.size < w3.heap.size := Nat.lt_of_lt_of_le hz h3.size
  have B3 : Below w.heap.size w w3 := hB.trans (h3.mono (by omega))
  have fz : ∀ o, w3.frozen? ⟨w.heap.size, o, none⟩ = false := fun o => (h3.frozen (p := ⟨w.heap.size, o, none⟩) hz).trans (hf o)
  refine ⟨(by repeat (first | with_reducible exact Below.refl _ _ | with_reducible exact B3 | with_reducible refine Below.setCell ?_ (by first | omega | (simp; done) | (simp; omega)) _ | with_reducible refine bDrewN ?_ _ | with_reducible refine Below.drew ?_ | with_reducible refine Below.alloc ?_ (by first | omega | (simp; done) | (simp; omega)) _)), by simpa using z3, fun o => by simp [go_sem, fz], fun j hj => ?_⟩
  have c3 : w3.cell? ⟨w.heap.size, j, none⟩ = some (.int .i64 (if j < k then V j else 0)) := (h3.cell (p := ⟨w.heap.size, j, none⟩) hz).trans (hc j hj)
  by_cases b : j = k
  · subst b
    rw [if_pos (by omega)]
    simp [go_sem, c3]
  · have e : (if j < k + 1 then V j else 0) = (if j < k then V j else 0) := by
      by_cases q : j < k
      · rw [if_pos q, if_pos (by omega)]
      · rw [if_neg q, if_neg (by omega)]
    rw [e]
    simp [go_sem, c3, b]
theorem rowTo_own {w wr : World} {n : Nat} {V : Nat → Int} (h : RowTo w wr n n V) : OwnI w.heap.size wr (some ⟨w.heap.size, 0, none⟩) n V := fun j hj => by
  obtain ⟨hB, hz, hf, hc⟩ := h
  exact ⟨_, rfl, Nat.le_refl _, hz, by rw [hc j hj, if_pos hj], hf j⟩

end Go.Proofs.Ytikcfpjfcpbfcaa
