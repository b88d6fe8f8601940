/-
What is proved: lists of lists of int64s, how they are kept; a copy in new memory by the law's own helper.
-/
import Derived.Test.YtlbbdifmjdpfiaaZdB
import Derived.Test.YtlbbdifmjdpfiaaZdA
import Derived.Deep.RegionHeld3
import Derived.Deep.DeepCutAuto
namespace Go.Proofs.Ytlbbdifmjdpfiaa
set_option maxRecDepth 40000
open Go.RowKit
set_option linter.unusedVariables false
set_option linter.unusedSimpArgs false

/-- A list of n lists at a place. -/
def RowLL (w : World) (s : Option Addr) (n : Nat) (K : Nat → Nat) (V : Nat → Nat → Int) : Prop := ∀ i, i < n → ∃ b o a c, s = some ⟨b, o, none⟩ ∧ b < w.heap.size ∧ w.cell? ⟨b, o + i, none⟩ = some (.slice a (K i) c) ∧ RowI w a (K i) (V i)
theorem RowLL.below {w w' : World} {s : Option Addr} {n : Nat} {K : Nat → Nat} {V : Nat → Nat → Int} (h : RowLL w s n K V) (hb : Below w.heap.size w w') : RowLL w' s n K V := fun i hi => by
  obtain ⟨b, o, a, c, e, hl, hc, hr⟩ := h i hi
  exact ⟨b, o, a, c, e, Nat.lt_of_lt_of_le hl hb.size, (hb.cell (p := ⟨b, o + i, none⟩) hl).trans hc, hr.below hb⟩
/-- A list of n lists in blocks from base on, each its own, which may be written. -/
def OwnLL (S : Nat → Prop) (w : World) (s : Option Addr) (n : Nat) (K : Nat → Nat) (V : Nat → Nat → Int) : Prop := ∃ A : Nat → Nat, (∀ i, i < n → ∃ b a c, s = some ⟨b, 0, none⟩ ∧ S b ∧ b < w.heap.size ∧ (∀ o, w.frozen? ⟨b, o, none⟩ = false) ∧ w.cell? ⟨b, i, none⟩ = some (.slice a (K i) c) ∧ (0 < K i → a = some ⟨A i, 0, none⟩ ∧ A i ≠ b ∧ S (A i) ∧ A i < w.heap.size ∧ ∀ j, j < K i → w.cell? ⟨A i, j, none⟩ = some (.int .i64 (V i j)) ∧ w.frozen? ⟨A i, j, none⟩ = false)) ∧ ∀ i i', i < n → i' < n → 0 < K i → 0 < K i' → A i = A i' → i = i'
theorem OwnLL.row {S : Nat → Prop} {w : World} {s : Option Addr} {n : Nat} {K : Nat → Nat} {V : Nat → Nat → Int} (h : OwnLL S w s n K V) : RowLL w s n K V := fun i hi => by
  obtain ⟨A, h, -⟩ := h
  obtain ⟨b, a, c, e, _, hl, _, hc, hr⟩ := h i hi
  refine ⟨b, 0, a, c, e, by omega, by rw [Nat.zero_add]; exact hc, fun j hj => ?_⟩
  obtain ⟨ea, _, _, hA, hv⟩ := hr (by omega)
  exact ⟨A i, 0, ea, by omega, by rw [Nat.zero_add]; exact (hv j hj).1⟩
theorem OwnLL.keep {S : Nat → Prop} {w w' : World} {s : Option Addr} {n : Nat} {K : Nat → Nat} {V : Nat → Nat → Int} (h : OwnLL S w s n K V) (hs : w.heap.size ≤ w'.heap.size) (hb : ∀ k, S k → k < w.heap.size → w'.heap[k]? = w.heap[k]?) : OwnLL S w' s n K V := by
  obtain ⟨A, h, hi⟩ := h
  refine ⟨A, fun i q => ?_, hi⟩
  obtain ⟨b, a, c, e, h1, hl, hf, hc, hr⟩ := h i q
  have eb := hb b h1 hl
  refine ⟨b, a, c, e, h1, Nat.lt_of_lt_of_le hl hs, fun o => (World.frozen?_of_block (w := w) (a := ⟨b, o, none⟩) eb).trans (hf o), (World.cell?_of_block (w := w) (a := ⟨b, i, none⟩) eb).trans hc, fun k => ?_⟩
  obtain ⟨ea, n1, n2, hA, hv⟩ := hr k
  have eA := hb (A i) n2 hA
  exact ⟨ea, n1, n2, Nat.lt_of_lt_of_le hA hs, fun j hj => ⟨(World.cell?_of_block (w := w) (a := ⟨A i, j, none⟩) eA).trans (hv j hj).1, (World.frozen?_of_block (w := w) (a := ⟨A i, j, none⟩) eA).trans (hv j hj).2⟩⟩
theorem OwnLL.below {S : Nat → Prop} {w w' : World} {s : Option Addr} {n : Nat} {K : Nat → Nat} {V : Nat → Nat → Int} (h : OwnLL S w s n K V) (hb : Below w.heap.size w w') : OwnLL S w' s n K V := h.keep hb.size fun k _ hk => hb.block k hk
theorem make_ll (n : Nat) (hn : n ≤ 1048576) (w : World) : (Instr.makeSlice 30 (.int .i64 (n : Int)) (.int .i64 (n : Int))).run Try.prog w = .ok (.slice (some ⟨w.heap.size, 0, none⟩) n n) (w.alloc (.cells (madeCells #[.slice none 0 0] n) 33)) := by
  have hinfo : (Try.prog.info? 33).map (fun i => (i.zero, i.size, decide (i.bytes ≤ 80))) = some (some (.slice none 0 0), 1, true) := by kernel_rfl
  obtain ⟨i, hi, hzz⟩ := Option.map_eq_some_iff.1 hinfo
  simp only [Prod.mk.injEq, decide_eq_true_eq] at hzz
  obtain ⟨hz, hs, hb⟩ := hzz
  have hl : n * i.bytes ≤ 1048576 * 80 := Nat.mul_le_mul hn hb
  have hr := run_make (P := Try.prog) w 30 33 i _ Try.underlying30 hi hz .i64 .i64 n n (by omega) (Int.le_refl _) (by rw [← Int.natCast_mul]; have := Nat.mul_comm n i.bytes; omega) (by omega)
  simp only [Int.toNat_natCast, hs, Nat.mul_one] at hr
  exact hr
theorem store_ll : ∀ (W : World) (a : Addr) (s : Option Addr) (n c : Nat), (W.cell? a).isSome = true → W.frozen? a = false → (store a (.slice s n c)).run Try.prog W = .ok () (W.setCell a (.slice s n c)) := fun W a s n c h hf => by
  obtain ⟨u, hu⟩ := Option.isSome_iff_exists.1 h
  rw [run_store Try.prog W a _ _ rfl, hu]
  simp [hf]
/-- A copy on its way: k of n are there, the outer list in the block at the end of w. -/
def LLTo (w wr : World) (n k : Nat) (K : Nat → Nat) (V : Nat → Nat → Int) : Prop := Below w.heap.size w wr ∧ w.heap.size < wr.heap.size ∧ (∀ o, wr.frozen? ⟨w.heap.size, o, none⟩ = false) ∧ (∀ i, k ≤ i → i < n → wr.cell? ⟨w.heap.size, i, none⟩ = some (.slice none 0 0)) ∧ ∃ A : Nat → Nat, (∀ i, i < k → wr.cell? ⟨w.heap.size, i, none⟩ = some (.slice (some ⟨A i, 0, none⟩) (K i) (K i)) ∧ w.heap.size < A i ∧ A i < wr.heap.size ∧ ∀ j, j < K i → wr.cell? ⟨A i, j, none⟩ = some (.int .i64 (V i j)) ∧ wr.frozen? ⟨A i, j, none⟩ = false) ∧ ∀ i i', i < i' → i' < k → A i < A i'
theorem ll_start (w : World) (n : Nat) (K : Nat → Nat) (V : Nat → Nat → Int) (t : TypeId) : LLTo w (w.alloc (.cells (madeCells #[.slice none 0 0] n) t)) n 0 K V := by
  refine ⟨below0 _ _, by simp, fun o => by simp [go_sem], fun i _ hi => ?_, fun _ => 0, fun i hi => absurd hi (Nat.not_lt_zero i), fun i i' h hi => absurd hi (Nat.not_lt_zero i')⟩
  have hm0 : (madeCells #[.slice none 0 0] n)[i]? = some (.slice none 0 0) := by
    simp only [madeCells, Array.getElem?_map, Array.getElem?_range, hi, if_true, Option.map_some]
    show some ((#[Value.slice none 0 0] : Array Value)[i % 1]!) = _
    rw [Nat.mod_one]; rfl
  simpa [go_sem] using hm0
theorem ll_on {w wr w3 : World} {n k : Nat} {K : Nat → Nat} {V : Nat → Nat → Int} (hk : k < n) (h : LLTo w wr n k K V) (hz3 : wr.heap.size < w3.heap.size) (ho : OwnI wr.heap.size w3 (some ⟨wr.heap.size, 0, none⟩) (K k) (V k)) (h3 : Below wr.heap.size wr w3) : LLTo w (w3.setCell ⟨w.heap.size, k, none⟩ (.slice (some ⟨wr.heap.size, 0, none⟩) (K k) (K k))) n (k + 1) K V := by
  obtain ⟨hB, hz, hf, hn, A, hA, hm⟩ := h
  have bs := Beside.setCell w.heap.size w3 k (.slice (some ⟨wr.heap.size, 0, none⟩) (K k) (K k))
  have z3 := Nat.lt_of_lt_of_le hz h3.size
  have c3 : ∀ i, w3.cell? ⟨w.heap.size, i, none⟩ = wr.cell? ⟨w.heap.size, i, none⟩ := fun i => h3.cell (p := ⟨w.heap.size, i, none⟩) hz
  refine ⟨(hB.trans (h3.mono (by omega))).trans (bs.below (Nat.le_refl _) (by omega)), by simpa using z3, fun o => by simp [go_sem, (h3.frozen (p := ⟨w.heap.size, o, none⟩) hz).trans (hf o)], fun i h1 h2 => ?_, fun i => if i = k then wr.heap.size else A i, fun i hi => ?_, fun i i' h1 h2 => ?_⟩
  · rw [World.cell?_setCell_other _ _ _ _ (by intro q; cases q; omega), c3]
    exact hn i (by omega) h2
  · by_cases e : i = k
    · subst e
      simp only [if_pos (rfl : i = i)]
      refine ⟨World.cell?_setCell_same' _ _ _ (by rw [c3, hn i (Nat.le_refl _) hk]; rfl), hz, by simpa using hz3, fun j hj => ?_⟩
      obtain ⟨b, eb, _, hb, hc, hfz⟩ := ho j hj
      cases eb
      have ne : wr.heap.size ≠ w.heap.size := by omega
      exact ⟨(bs.cell (p := ⟨wr.heap.size, j, none⟩) hz3 ne).trans hc, (bs.frozen (p := ⟨wr.heap.size, j, none⟩) hz3 ne).trans hfz⟩
    · simp only [if_neg e]
      obtain ⟨q1, q2, q3, q4⟩ := hA i (by omega)
      refine ⟨by rw [World.cell?_setCell_other _ _ _ _ (by intro q; cases q; exact e rfl), c3]; exact q1, q2, by have := h3.size; simp; omega, fun j hj => ?_⟩
      have ne : A i ≠ w.heap.size := by omega
      have zA := Nat.lt_of_lt_of_le q3 h3.size
      exact ⟨(bs.cell (p := ⟨A i, j, none⟩) zA ne).trans ((h3.cell (p := ⟨A i, j, none⟩) q3).trans (q4 j hj).1), (bs.frozen (p := ⟨A i, j, none⟩) zA ne).trans ((h3.frozen (p := ⟨A i, j, none⟩) q3).trans (q4 j hj).2)⟩
  · have : i < k := by omega
    show (if i = k then wr.heap.size else A i) < (if i' = k then wr.heap.size else A i')
    rw [if_neg (by omega)]
    by_cases e : i' = k
    · rw [if_pos e]; exact (hA i this).2.2.1
    · rw [if_neg e]; exact hm i i' h1 (by omega)
end Go.Proofs.Ytlbbdifmjdpfiaa
