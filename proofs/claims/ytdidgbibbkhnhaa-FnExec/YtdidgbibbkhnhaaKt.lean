/-
What is proved: the program's table of blocks, laid in memory.
-/
import Derived.Test.YtdidgbibbkhnhaaRowI
import Derived.Test.YtdidgbibbkhnhaaBeside
import Derived.Test.YtdidgbibbkhnhaaOpen
namespace Go.Proofs.Ytdidgbibbkhnhaa
set_option maxRecDepth 40000
open Go.RowKit
set_option linter.unusedVariables false
set_option linter.unusedSimpArgs false

def tabA (q : Nat) : Array Value := #[.int .i64 1, .string ⟨#[]⟩, .slice none 0 0, .int .i64 0, .nilIface, .int .i64 2, .string ⟨#[]⟩, .slice none 0 0, .int .i64 1, .nilIface, .int .i64 3, .string ⟨#[]⟩, .slice none 0 0, .int .i64 0, .nilIface, .int .i64 4, .string ⟨#[]⟩, .slice none 0 0, .int .i64 1, .nilIface, .int .i64 5, .string ⟨#[97, 110, 100]⟩, .slice (some ⟨q + 1 + 1, 0, none⟩) 2 2, .int .i64 0, .iface 93 (.agg #[]), .int .i64 6, .string ⟨#[111, 114]⟩, .slice (some ⟨q + 1 + 1, 0, none⟩) 2 2, .int .i64 0, .iface 94 (.agg #[]), .int .i64 7, .string ⟨#[120, 111, 114]⟩, .slice (some ⟨q + 1 + 1, 0, none⟩) 2 2, .int .i64 0, .iface 95 (.agg #[]), .int .i64 8, .string ⟨#[110, 111, 116]⟩, .slice (some ⟨q, 0, none⟩) 1 1, .int .i64 0, .iface 96 (.agg #[]), .int .i64 9, .string ⟨#[97, 100, 100]⟩, .slice (some ⟨q + 1 + 1 + 1, 0, none⟩) 2 2, .int .i64 1, .iface 97 (.agg #[]), .int .i64 10, .string ⟨#[115, 117, 98]⟩, .slice (some ⟨q + 1 + 1 + 1, 0, none⟩) 2 2, .int .i64 1, .iface 98 (.agg #[]), .int .i64 11, .string ⟨#[109, 105, 110]⟩, .slice (some ⟨q + 1 + 1 + 1, 0, none⟩) 2 2, .int .i64 1, .iface 99 (.agg #[]), .int .i64 12, .string ⟨#[109, 97, 120]⟩, .slice (some ⟨q + 1 + 1 + 1, 0, none⟩) 2 2, .int .i64 1, .iface 94 (.agg #[]), .int .i64 13, .string ⟨#[103, 116]⟩, .slice (some ⟨q + 1 + 1 + 1, 0, none⟩) 2 2, .int .i64 0, .iface 100 (.agg #[]), .int .i64 14, .string ⟨#[103, 101]⟩, .slice (some ⟨q + 1 + 1 + 1, 0, none⟩) 2 2, .int .i64 0, .iface 101 (.agg #[]), .int .i64 15, .string ⟨#[101, 113]⟩, .slice (some ⟨q + 1 + 1 + 1, 0, none⟩) 2 2, .int .i64 0, .iface 102 (.agg #[]), .int .i64 16, .string ⟨#[112, 105, 99, 107]⟩, .slice (some ⟨q + 1 + 1 + 1 + 1, 0, none⟩) 3 3, .int .i64 1, .iface 103 (.agg #[]), .int .i64 17, .string ⟨#[104, 111, 108, 100]⟩, .slice (some ⟨q + 1 + 1, 0, none⟩) 2 2, .int .i64 0, .iface 105 (.agg #[.int .i64 0]), .int .i64 18, .string ⟨#[99, 111, 117, 110, 116]⟩, .slice (some ⟨q, 0, none⟩) 1 1, .int .i64 1, .iface 106 (.agg #[.int .i64 0]), .int .i64 19, .string ⟨#[114, 105, 115, 101]⟩, .slice (some ⟨q, 0, none⟩) 1 1, .int .i64 0, .iface 108 (.agg #[.int .i64 0]), .int .i64 20, .string ⟨#[108, 97, 115, 116, 98, 111, 111, 108]⟩, .slice (some ⟨q, 0, none⟩) 1 1, .int .i64 0, .iface 109 (.agg #[.int .i64 0]), .int .i64 21, .string ⟨#[108, 97, 115, 116, 105, 110, 116]⟩, .slice (some ⟨q + 1, 0, none⟩) 1 1, .int .i64 1, .iface 109 (.agg #[.int .i64 0])]
def tkL : Nat → List Int
  | 0 => []
  | 1 => []
  | 2 => []
  | 3 => []
  | 4 => [0, 0]
  | 5 => [0, 0]
  | 6 => [0, 0]
  | 7 => [0]
  | 8 => [1, 1]
  | 9 => [1, 1]
  | 10 => [1, 1]
  | 11 => [1, 1]
  | 12 => [1, 1]
  | 13 => [1, 1]
  | 14 => [1, 1]
  | 15 => [0, 1, 1]
  | 16 => [0, 0]
  | 17 => [0]
  | 18 => [0]
  | 19 => [0]
  | 20 => [1]
  | _ => []
def wdB : Nat → ByteArray
  | 0 => ⟨#[]⟩
  | 1 => ⟨#[]⟩
  | 2 => ⟨#[]⟩
  | 3 => ⟨#[]⟩
  | 4 => ⟨#[97, 110, 100]⟩
  | 5 => ⟨#[111, 114]⟩
  | 6 => ⟨#[120, 111, 114]⟩
  | 7 => ⟨#[110, 111, 116]⟩
  | 8 => ⟨#[97, 100, 100]⟩
  | 9 => ⟨#[115, 117, 98]⟩
  | 10 => ⟨#[109, 105, 110]⟩
  | 11 => ⟨#[109, 97, 120]⟩
  | 12 => ⟨#[103, 116]⟩
  | 13 => ⟨#[103, 101]⟩
  | 14 => ⟨#[101, 113]⟩
  | 15 => ⟨#[112, 105, 99, 107]⟩
  | 16 => ⟨#[104, 111, 108, 100]⟩
  | 17 => ⟨#[99, 111, 117, 110, 116]⟩
  | 18 => ⟨#[114, 105, 115, 101]⟩
  | 19 => ⟨#[108, 97, 115, 116, 98, 111, 111, 108]⟩
  | 20 => ⟨#[108, 97, 115, 116, 105, 110, 116]⟩
  | _ => ⟨#[]⟩
def gvI : Nat → Int
  | 0 => 0
  | 1 => 1
  | 2 => 0
  | 3 => 1
  | 4 => 0
  | 5 => 0
  | 6 => 0
  | 7 => 0
  | 8 => 1
  | 9 => 1
  | 10 => 1
  | 11 => 1
  | 12 => 0
  | 13 => 0
  | 14 => 0
  | 15 => 1
  | 16 => 0
  | 17 => 1
  | 18 => 0
  | 19 => 0
  | 20 => 1
  | _ => 0
def wkV : Nat → Value
  | 0 => .nilIface
  | 1 => .nilIface
  | 2 => .nilIface
  | 3 => .nilIface
  | 4 => .iface 93 (.agg #[])
  | 5 => .iface 94 (.agg #[])
  | 6 => .iface 95 (.agg #[])
  | 7 => .iface 96 (.agg #[])
  | 8 => .iface 97 (.agg #[])
  | 9 => .iface 98 (.agg #[])
  | 10 => .iface 99 (.agg #[])
  | 11 => .iface 94 (.agg #[])
  | 12 => .iface 100 (.agg #[])
  | 13 => .iface 101 (.agg #[])
  | 14 => .iface 102 (.agg #[])
  | 15 => .iface 103 (.agg #[])
  | 16 => .iface 105 (.agg #[.int .i64 0])
  | 17 => .iface 106 (.agg #[.int .i64 0])
  | 18 => .iface 108 (.agg #[.int .i64 0])
  | 19 => .iface 109 (.agg #[.int .i64 0])
  | 20 => .iface 109 (.agg #[.int .i64 0])
  | _ => .nilIface
def tgA (q : Nat) : Nat → Option Addr
  | 0 => none
  | 1 => none
  | 2 => none
  | 3 => none
  | 4 => some ⟨q + 1 + 1, 0, none⟩
  | 5 => some ⟨q + 1 + 1, 0, none⟩
  | 6 => some ⟨q + 1 + 1, 0, none⟩
  | 7 => some ⟨q, 0, none⟩
  | 8 => some ⟨q + 1 + 1 + 1, 0, none⟩
  | 9 => some ⟨q + 1 + 1 + 1, 0, none⟩
  | 10 => some ⟨q + 1 + 1 + 1, 0, none⟩
  | 11 => some ⟨q + 1 + 1 + 1, 0, none⟩
  | 12 => some ⟨q + 1 + 1 + 1, 0, none⟩
  | 13 => some ⟨q + 1 + 1 + 1, 0, none⟩
  | 14 => some ⟨q + 1 + 1 + 1, 0, none⟩
  | 15 => some ⟨q + 1 + 1 + 1 + 1, 0, none⟩
  | 16 => some ⟨q + 1 + 1, 0, none⟩
  | 17 => some ⟨q, 0, none⟩
  | 18 => some ⟨q, 0, none⟩
  | 19 => some ⟨q, 0, none⟩
  | 20 => some ⟨q + 1, 0, none⟩
  | _ => none
/-- The table at a block. -/
def KtAt (W : World) (lo b : Nat) : Prop := lo ≤ b ∧ b < W.heap.size ∧ ∀ i, i < 21 → W.cell? ⟨b, i * 5, none⟩ = some (.int .i64 ((i : Int) + 1)) ∧ W.cell? ⟨b, i * 5 + 1, none⟩ = some (.string (wdB i)) ∧ (∃ g, W.cell? ⟨b, i * 5 + 2, none⟩ = some (.slice g (tkL i).length (tkL i).length) ∧ RowI W g (tkL i).length (fun j => (tkL i)[j]!) ∧ ∀ y, g = some y → lo ≤ y.block ∧ y.block ≤ b) ∧ W.cell? ⟨b, i * 5 + 3, none⟩ = some (.int .i64 (gvI i)) ∧ W.cell? ⟨b, i * 5 + 4, none⟩ = some (wkV i)
theorem KtAt.below {W W' : World} {lo b : Nat} (h : KtAt W lo b) (hb : Below W.heap.size W W') : KtAt W' lo b := by
  obtain ⟨ho, hl, h⟩ := h
  refine ⟨ho, Nat.lt_of_lt_of_le hl hb.size, fun i hi => ?_⟩
  obtain ⟨h0, h1, ⟨g, h2, h2r, h2b⟩, h3, h4⟩ := h i hi
  exact ⟨(hb.cell (p := ⟨b, i * 5, none⟩) hl).trans h0, (hb.cell (p := ⟨b, i * 5 + 1, none⟩) hl).trans h1, ⟨g, (hb.cell (p := ⟨b, i * 5 + 2, none⟩) hl).trans h2, h2r.below hb, h2b⟩, (hb.cell (p := ⟨b, i * 5 + 3, none⟩) hl).trans h3, (hb.cell (p := ⟨b, i * 5 + 4, none⟩) hl).trans h4⟩
theorem KtAt.beside {W W' : World} {lo b r : Nat} (h : KtAt W lo b) (hb : Beside r W W') (hr : r < lo ∨ b < r) : KtAt W' lo b := by
  obtain ⟨ho, hl, h⟩ := h
  have nb : b ≠ r := by omega
  refine ⟨ho, Nat.lt_of_lt_of_le hl hb.2.2.2.1, fun i hi => ?_⟩
  obtain ⟨h0, h1, ⟨g, h2, h2r, h2b⟩, h3, h4⟩ := h i hi
  refine ⟨(hb.cell (p := ⟨b, i * 5, none⟩) hl nb).trans h0, (hb.cell (p := ⟨b, i * 5 + 1, none⟩) hl nb).trans h1, ⟨g, (hb.cell (p := ⟨b, i * 5 + 2, none⟩) hl nb).trans h2, fun j hj => ?_, h2b⟩, (hb.cell (p := ⟨b, i * 5 + 3, none⟩) hl nb).trans h3, (hb.cell (p := ⟨b, i * 5 + 4, none⟩) hl nb).trans h4⟩
  obtain ⟨y, o, e, hy, hc⟩ := h2r j hj
  have := h2b _ e
  simp only at this
  exact ⟨y, o, e, Nat.lt_of_lt_of_le hy hb.2.2.2.1, (hb.cell (p := ⟨y, o + j, none⟩) hy (by show y ≠ r; omega)).trans hc⟩
theorem cell_top (W : World) (A : Array Value) (t : TypeId) (j : Nat) : (W.alloc (.cells A t)).cell? ⟨W.heap.size, j, none⟩ = A[j]? := by simp [go_sem]
theorem row_top (W : World) (A : Array Value) (t : TypeId) (U : Nat → Int) (m : Nat) (h : ∀ j, j < m → A[j]? = some (.int .i64 (U j))) : RowI (W.alloc (.cells A t)) (some ⟨W.heap.size, 0, none⟩) m U := fun j hj => ⟨_, 0, rfl, by simp, by rw [Nat.zero_add, cell_top]; exact h j hj⟩
def ktW (w : World) (t T : TypeId) : World := ((((((w.alloc (.cells #[.int .i64 0] t)).alloc (.cells #[.int .i64 1] t)).alloc (.cells #[.int .i64 0, .int .i64 0] t)).alloc (.cells #[.int .i64 1, .int .i64 1] t)).alloc (.cells #[.int .i64 0, .int .i64 1, .int .i64 1] t)).alloc (.cells (tabA w.heap.size) T))
set_option maxRecDepth 20000 in
set_option maxHeartbeats 4000000 in
theorem kt_at (w : World) (t T : TypeId) : KtAt (ktW w t T) w.heap.size (w.heap.size + 1 + 1 + 1 + 1 + 1) := by
  unfold ktW
  have zz : ((((((w.alloc (.cells #[.int .i64 0] t)).alloc (.cells #[.int .i64 1] t)).alloc (.cells #[.int .i64 0, .int .i64 0] t)).alloc (.cells #[.int .i64 1, .int .i64 1] t)).alloc (.cells #[.int .i64 0, .int .i64 1, .int .i64 1] t))).heap.size = w.heap.size + 1 + 1 + 1 + 1 + 1 := by simp
  have ct : ∀ j, (((((((w.alloc (.cells #[.int .i64 0] t)).alloc (.cells #[.int .i64 1] t)).alloc (.cells #[.int .i64 0, .int .i64 0] t)).alloc (.cells #[.int .i64 1, .int .i64 1] t)).alloc (.cells #[.int .i64 0, .int .i64 1, .int .i64 1] t)).alloc (.cells (tabA w.heap.size) T))).cell? ⟨w.heap.size + 1 + 1 + 1 + 1 + 1, j, none⟩ = (tabA w.heap.size)[j]? := fun j => zz ▸ cell_top (((((w.alloc (.cells #[.int .i64 0] t)).alloc (.cells #[.int .i64 1] t)).alloc (.cells #[.int .i64 0, .int .i64 0] t)).alloc (.cells #[.int .i64 1, .int .i64 1] t)).alloc (.cells #[.int .i64 0, .int .i64 1, .int .i64 1] t)) (tabA w.heap.size) T j
  have r0 : RowI ((((((w.alloc (.cells #[.int .i64 0] t)).alloc (.cells #[.int .i64 1] t)).alloc (.cells #[.int .i64 0, .int .i64 0] t)).alloc (.cells #[.int .i64 1, .int .i64 1] t)).alloc (.cells #[.int .i64 0, .int .i64 1, .int .i64 1] t)).alloc (.cells (tabA w.heap.size) T)) (some ⟨w.heap.size, 0, none⟩) 1 (fun j => ([0] : List Int)[j]!) := by
    have hz : (w).heap.size = w.heap.size := by simp
    have h := row_top w #[.int .i64 0] t (fun j => ([0] : List Int)[j]!) 1 (by intro j hj; rcases (show j = 0 by omega) with rfl <;> rfl)
    rw [hz] at h
    exact h.below (by repeat (first | with_reducible exact Below.refl _ _ | with_reducible refine Below.setCell ?_ (by first | omega | (simp; done) | (simp; omega)) _ | with_reducible refine bDrewN ?_ _ | with_reducible refine Below.drew ?_ | with_reducible refine Below.alloc ?_ (by first | omega | (simp; done) | (simp; omega)) _))
  have r1 : RowI ((((((w.alloc (.cells #[.int .i64 0] t)).alloc (.cells #[.int .i64 1] t)).alloc (.cells #[.int .i64 0, .int .i64 0] t)).alloc (.cells #[.int .i64 1, .int .i64 1] t)).alloc (.cells #[.int .i64 0, .int .i64 1, .int .i64 1] t)).alloc (.cells (tabA w.heap.size) T)) (some ⟨w.heap.size + 1, 0, none⟩) 1 (fun j => ([1] : List Int)[j]!) := by
    have hz : ((w.alloc (.cells #[.int .i64 0] t))).heap.size = w.heap.size + 1 := by simp
    have h := row_top (w.alloc (.cells #[.int .i64 0] t)) #[.int .i64 1] t (fun j => ([1] : List Int)[j]!) 1 (by intro j hj; rcases (show j = 0 by omega) with rfl <;> rfl)
    rw [hz] at h
    exact h.below (by repeat (first | with_reducible exact Below.refl _ _ | with_reducible refine Below.setCell ?_ (by first | omega | (simp; done) | (simp; omega)) _ | with_reducible refine bDrewN ?_ _ | with_reducible refine Below.drew ?_ | with_reducible refine Below.alloc ?_ (by first | omega | (simp; done) | (simp; omega)) _))
  have r2 : RowI ((((((w.alloc (.cells #[.int .i64 0] t)).alloc (.cells #[.int .i64 1] t)).alloc (.cells #[.int .i64 0, .int .i64 0] t)).alloc (.cells #[.int .i64 1, .int .i64 1] t)).alloc (.cells #[.int .i64 0, .int .i64 1, .int .i64 1] t)).alloc (.cells (tabA w.heap.size) T)) (some ⟨w.heap.size + 1 + 1, 0, none⟩) 2 (fun j => ([0, 0] : List Int)[j]!) := by
    have hz : (((w.alloc (.cells #[.int .i64 0] t)).alloc (.cells #[.int .i64 1] t))).heap.size = w.heap.size + 1 + 1 := by simp
    have h := row_top ((w.alloc (.cells #[.int .i64 0] t)).alloc (.cells #[.int .i64 1] t)) #[.int .i64 0, .int .i64 0] t (fun j => ([0, 0] : List Int)[j]!) 2 (by intro j hj; rcases (show j = 0 ∨ j = 1 by omega) with rfl | rfl <;> rfl)
    rw [hz] at h
    exact h.below (by repeat (first | with_reducible exact Below.refl _ _ | with_reducible refine Below.setCell ?_ (by first | omega | (simp; done) | (simp; omega)) _ | with_reducible refine bDrewN ?_ _ | with_reducible refine Below.drew ?_ | with_reducible refine Below.alloc ?_ (by first | omega | (simp; done) | (simp; omega)) _))
  have r3 : RowI ((((((w.alloc (.cells #[.int .i64 0] t)).alloc (.cells #[.int .i64 1] t)).alloc (.cells #[.int .i64 0, .int .i64 0] t)).alloc (.cells #[.int .i64 1, .int .i64 1] t)).alloc (.cells #[.int .i64 0, .int .i64 1, .int .i64 1] t)).alloc (.cells (tabA w.heap.size) T)) (some ⟨w.heap.size + 1 + 1 + 1, 0, none⟩) 2 (fun j => ([1, 1] : List Int)[j]!) := by
    have hz : ((((w.alloc (.cells #[.int .i64 0] t)).alloc (.cells #[.int .i64 1] t)).alloc (.cells #[.int .i64 0, .int .i64 0] t))).heap.size = w.heap.size + 1 + 1 + 1 := by simp
    have h := row_top (((w.alloc (.cells #[.int .i64 0] t)).alloc (.cells #[.int .i64 1] t)).alloc (.cells #[.int .i64 0, .int .i64 0] t)) #[.int .i64 1, .int .i64 1] t (fun j => ([1, 1] : List Int)[j]!) 2 (by intro j hj; rcases (show j = 0 ∨ j = 1 by omega) with rfl | rfl <;> rfl)
    rw [hz] at h
    exact h.below (by repeat (first | with_reducible exact Below.refl _ _ | with_reducible refine Below.setCell ?_ (by first | omega | (simp; done) | (simp; omega)) _ | with_reducible refine bDrewN ?_ _ | with_reducible refine Below.drew ?_ | with_reducible refine Below.alloc ?_ (by first | omega | (simp; done) | (simp; omega)) _))
  have r4 : RowI ((((((w.alloc (.cells #[.int .i64 0] t)).alloc (.cells #[.int .i64 1] t)).alloc (.cells #[.int .i64 0, .int .i64 0] t)).alloc (.cells #[.int .i64 1, .int .i64 1] t)).alloc (.cells #[.int .i64 0, .int .i64 1, .int .i64 1] t)).alloc (.cells (tabA w.heap.size) T)) (some ⟨w.heap.size + 1 + 1 + 1 + 1, 0, none⟩) 3 (fun j => ([0, 1, 1] : List Int)[j]!) := by
    have hz : (((((w.alloc (.cells #[.int .i64 0] t)).alloc (.cells #[.int .i64 1] t)).alloc (.cells #[.int .i64 0, .int .i64 0] t)).alloc (.cells #[.int .i64 1, .int .i64 1] t))).heap.size = w.heap.size + 1 + 1 + 1 + 1 := by simp
    have h := row_top ((((w.alloc (.cells #[.int .i64 0] t)).alloc (.cells #[.int .i64 1] t)).alloc (.cells #[.int .i64 0, .int .i64 0] t)).alloc (.cells #[.int .i64 1, .int .i64 1] t)) #[.int .i64 0, .int .i64 1, .int .i64 1] t (fun j => ([0, 1, 1] : List Int)[j]!) 3 (by intro j hj; rcases (show j = 0 ∨ j = 1 ∨ j = 2 by omega) with rfl | rfl | rfl <;> rfl)
    rw [hz] at h
    exact h.below (by repeat (first | with_reducible exact Below.refl _ _ | with_reducible refine Below.setCell ?_ (by first | omega | (simp; done) | (simp; omega)) _ | with_reducible refine bDrewN ?_ _ | with_reducible refine Below.drew ?_ | with_reducible refine Below.alloc ?_ (by first | omega | (simp; done) | (simp; omega)) _))
  refine ⟨by omega, by simp, fun i hi => ?_⟩
  have hc : i = 0 ∨ i = 1 ∨ i = 2 ∨ i = 3 ∨ i = 4 ∨ i = 5 ∨ i = 6 ∨ i = 7 ∨ i = 8 ∨ i = 9 ∨ i = 10 ∨ i = 11 ∨ i = 12 ∨ i = 13 ∨ i = 14 ∨ i = 15 ∨ i = 16 ∨ i = 17 ∨ i = 18 ∨ i = 19 ∨ i = 20 := by omega
  rcases hc with rfl | rfl | rfl | rfl | rfl | rfl | rfl | rfl | rfl | rfl | rfl | rfl | rfl | rfl | rfl | rfl | rfl | rfl | rfl | rfl | rfl
  · exact ⟨ct _, ct _, ⟨none, ct _, fun j hj => absurd hj (Nat.not_lt_zero j), fun y hy => by cases hy⟩, ct _, ct _⟩
  · exact ⟨ct _, ct _, ⟨none, ct _, fun j hj => absurd hj (Nat.not_lt_zero j), fun y hy => by cases hy⟩, ct _, ct _⟩
  · exact ⟨ct _, ct _, ⟨none, ct _, fun j hj => absurd hj (Nat.not_lt_zero j), fun y hy => by cases hy⟩, ct _, ct _⟩
  · exact ⟨ct _, ct _, ⟨none, ct _, fun j hj => absurd hj (Nat.not_lt_zero j), fun y hy => by cases hy⟩, ct _, ct _⟩
  · exact ⟨ct _, ct _, ⟨_, ct _, r2, fun y hy => by cases hy; exact ⟨by simp only; omega, by simp only; omega⟩⟩, ct _, ct _⟩
  · exact ⟨ct _, ct _, ⟨_, ct _, r2, fun y hy => by cases hy; exact ⟨by simp only; omega, by simp only; omega⟩⟩, ct _, ct _⟩
  · exact ⟨ct _, ct _, ⟨_, ct _, r2, fun y hy => by cases hy; exact ⟨by simp only; omega, by simp only; omega⟩⟩, ct _, ct _⟩
  · exact ⟨ct _, ct _, ⟨_, ct _, r0, fun y hy => by cases hy; exact ⟨by simp only; omega, by simp only; omega⟩⟩, ct _, ct _⟩
  · exact ⟨ct _, ct _, ⟨_, ct _, r3, fun y hy => by cases hy; exact ⟨by simp only; omega, by simp only; omega⟩⟩, ct _, ct _⟩
  · exact ⟨ct _, ct _, ⟨_, ct _, r3, fun y hy => by cases hy; exact ⟨by simp only; omega, by simp only; omega⟩⟩, ct _, ct _⟩
  · exact ⟨ct _, ct _, ⟨_, ct _, r3, fun y hy => by cases hy; exact ⟨by simp only; omega, by simp only; omega⟩⟩, ct _, ct _⟩
  · exact ⟨ct _, ct _, ⟨_, ct _, r3, fun y hy => by cases hy; exact ⟨by simp only; omega, by simp only; omega⟩⟩, ct _, ct _⟩
  · exact ⟨ct _, ct _, ⟨_, ct _, r3, fun y hy => by cases hy; exact ⟨by simp only; omega, by simp only; omega⟩⟩, ct _, ct _⟩
  · exact ⟨ct _, ct _, ⟨_, ct _, r3, fun y hy => by cases hy; exact ⟨by simp only; omega, by simp only; omega⟩⟩, ct _, ct _⟩
  · exact ⟨ct _, ct _, ⟨_, ct _, r3, fun y hy => by cases hy; exact ⟨by simp only; omega, by simp only; omega⟩⟩, ct _, ct _⟩
  · exact ⟨ct _, ct _, ⟨_, ct _, r4, fun y hy => by cases hy; exact ⟨by simp only; omega, by simp only; omega⟩⟩, ct _, ct _⟩
  · exact ⟨ct _, ct _, ⟨_, ct _, r2, fun y hy => by cases hy; exact ⟨by simp only; omega, by simp only; omega⟩⟩, ct _, ct _⟩
  · exact ⟨ct _, ct _, ⟨_, ct _, r0, fun y hy => by cases hy; exact ⟨by simp only; omega, by simp only; omega⟩⟩, ct _, ct _⟩
  · exact ⟨ct _, ct _, ⟨_, ct _, r0, fun y hy => by cases hy; exact ⟨by simp only; omega, by simp only; omega⟩⟩, ct _, ct _⟩
  · exact ⟨ct _, ct _, ⟨_, ct _, r0, fun y hy => by cases hy; exact ⟨by simp only; omega, by simp only; omega⟩⟩, ct _, ct _⟩
  · exact ⟨ct _, ct _, ⟨_, ct _, r1, fun y hy => by cases hy; exact ⟨by simp only; omega, by simp only; omega⟩⟩, ct _, ct _⟩
set_option maxRecDepth 40000 in
set_option maxHeartbeats 8000000 in
theorem blockTable_any (w : World) : Calls Try.prog 31 #[] w fun e w' => ∃ b, e = .returned (.slice (some ⟨b, 0, none⟩) 21 21) ∧ KtAt w' w.heap.size b ∧ Below w.heap.size w w' := by
  go_enter Try.func31, Try.ntmps31
  go_wp2
  go_ret
  exact ⟨_, rfl, kt_at w 86 91, (by repeat (first | with_reducible exact Below.refl _ _ | with_reducible refine Below.setCell ?_ (by first | omega | (simp; done) | (simp; omega)) _ | with_reducible refine bDrewN ?_ _ | with_reducible refine Below.drew ?_ | with_reducible refine Below.alloc ?_ (by first | omega | (simp; done) | (simp; omega)) _))⟩
end Go.Proofs.Ytdidgbibbkhnhaa
