/-
What is proved: what a row of int64 cells is that a call has made itself, by append or by make; how it is kept.
-/
import Derived.Test.YtkocbklkiehdiaaRowI
import Derived.Test.YtkocbklkiehdiaaBeside
import Derived.Deep.AppendLies
import Derived.Laws.OwnMore
namespace Go.Proofs.Ytkocbklkiehdiaa
set_option maxRecDepth 40000
open Go.RowKit

/-- The first m numbers, as cells. -/
def vals (U : Nat → Int) (m : Nat) : List Value := (List.range m).map fun j => .int .i64 (U j)
theorem vals_length (U : Nat → Int) (m : Nat) : (vals U m).length = m := by simp [vals]
theorem vals_succ (U : Nat → Int) (m : Nat) : vals U (m + 1) = vals U m ++ [.int .i64 (U m)] := by simp [vals, List.range_succ]
theorem vals_two (U : Nat → Int) (m : Nat) : vals U (m + 2) = vals U m ++ [.int .i64 (U m), .int .i64 (U (m + 1))] := by
  rw [show m + 2 = m + 1 + 1 from rfl, vals_succ, vals_succ, List.append_assoc]; rfl
theorem vals_at (U : Nat → Int) {m j : Nat} (h : j < m) : (vals U m)[j]? = some (.int .i64 (U j)) := by simp [vals, h]
theorem vals_congr {U V : Nat → Int} {m : Nat} (h : ∀ j, j < m → U j = V j) : vals U m = vals V m := by
  unfold vals
  refine List.map_congr_left fun j hj => ?_
  rw [h j (List.mem_range.1 hj)]
/-- A row of m int64 cells in blocks from base on, which may be written. -/
def OwnI (base : Nat) (w : World) (s : Option Addr) (m : Nat) (V : Nat → Int) : Prop := ∀ j, j < m → ∃ b, s = some ⟨b, 0, none⟩ ∧ base ≤ b ∧ b < w.heap.size ∧ w.cell? ⟨b, j, none⟩ = some (.int .i64 (V j)) ∧ w.frozen? ⟨b, j, none⟩ = false
theorem OwnI.row {base : Nat} {w : World} {s : Option Addr} {m : Nat} {V : Nat → Int} (h : OwnI base w s m V) : RowI w s m V := fun j hj => by
  obtain ⟨b, e, _, hl, hc, _⟩ := h j hj
  exact ⟨b, 0, e, hl, by rw [Nat.zero_add]; exact hc⟩
theorem OwnI.below {base : Nat} {w w' : World} {s : Option Addr} {m : Nat} {V : Nat → Int} (h : OwnI base w s m V) (hb : Below w.heap.size w w') : OwnI base w' s m V := fun j hj => by
  obtain ⟨b, e, hB, hl, hc, hf⟩ := h j hj
  exact ⟨b, e, hB, Nat.lt_of_lt_of_le hl hb.size, (hb.cell (p := ⟨b, j, none⟩) hl).trans hc, (hb.frozen (p := ⟨b, j, none⟩) hl).trans hf⟩
theorem OwnI.mono {base base' : Nat} {w : World} {s : Option Addr} {m : Nat} {V : Nat → Int} (h : OwnI base w s m V) (hb : base' ≤ base) : OwnI base' w s m V := fun j hj => by
  obtain ⟨b, e, hB, r⟩ := h j hj
  exact ⟨b, e, by omega, r⟩
theorem OwnI.congr {base : Nat} {w : World} {s : Option Addr} {m : Nat} {V U : Nat → Int} (h : OwnI base w s m V) (e : ∀ j, j < m → V j = U j) : OwnI base w s m U := fun j hj => by
  obtain ⟨b, e1, hB, hl, hc, hf⟩ := h j hj
  exact ⟨b, e1, hB, hl, by rw [← e j hj]; exact hc, hf⟩
theorem RowI.congr {w : World} {s : Option Addr} {m : Nat} {V U : Nat → Int} (h : RowI w s m V) (e : ∀ j, j < m → V j = U j) : RowI w s m U := fun j hj => by
  obtain ⟨b, o, e1, hl, hc⟩ := h j hj
  exact ⟨b, o, e1, hl, by rw [← e j hj]; exact hc⟩
theorem own_OwnI {w : World} {base : Nat} {e : TypeId} {size n : Nat} {v : Value} {U : Nat → Int} (h : w.ownsRow base e size v n (vals U (n * size))) : ∃ s cap, v = .slice s n cap ∧ OwnI base w s (n * size) U := by
  rcases h.2 with ⟨rfl, rfl⟩ | ⟨g, cap, cur, rfl, hb, hg, _, _, _, _⟩
  · exact ⟨none, 0, rfl, fun j hj => by omega⟩
  · refine ⟨some ⟨g, 0, none⟩, cap, rfl, fun j hj => ⟨g, rfl, hb, (Array.getElem?_eq_some_iff.1 hg).1, ?_, h.frozenAt j⟩⟩
    rw [h.cellAt j hj, vals_at U hj]
theorem grown_below {w w' : World} {row : Option Nat} (h : w.grownBy w' row) {B : Nat} (hB : B ≤ w.heap.size) (hr : ∀ r, row = some r → B ≤ r) : Below B w w' :=
  ⟨h.os, h.tape, h.output, h.size, fun k hk => h.block k (by omega) (fun e => by have := hr k e.symm; omega)⟩
theorem grown_new {w w' : World} {o : Obj} {row : Option Nat} (h : (w.alloc o).grownBy w' row) : w.grownBy w' row :=
  ⟨h.os, h.tape, h.output, Nat.le_trans (by simp) h.size, fun k hk hn => (h.block k (by simp; omega) hn).trans (heap_alloc_old w o hk)⟩
theorem own_block {w : World} {base : Nat} {e : TypeId} {size n : Nat} {v : Value} {xs : List Value} (h : w.ownsRow base e size v n xs) : ∀ r, v.ownBlock = some r → base ≤ r := fun r hr => (h.lt r hr).1
theorem newsOne (W : World) (a : Value) (t : TypeId) : ∀ j u, [a][j]? = some u → (W.alloc (.cells #[a] t)).cell? ((⟨W.heap.size, 0, none⟩ : Addr).add j) = some u := World.news_of_block (cs := #[a]) (heap_alloc_new W _)
theorem newsTwo (W : World) (a b : Value) (t : TypeId) : ∀ j u, [a, b][j]? = some u → (W.alloc (.cells #[a, b] t)).cell? ((⟨W.heap.size, 0, none⟩ : Addr).add j) = some u := World.news_of_block (cs := #[a, b]) (heap_alloc_new W _)
end Go.Proofs.Ytkocbklkiehdiaa
