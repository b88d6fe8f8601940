/-
What is proved: lists of shelves, how they are kept; a copy in new memory by the law's own helper.
-/
import Derived.Test.YtlbbdifmjdpfiaaZdA
import Derived.Deep.OwnRows
import Derived.Deep.RegionHeld3
import Derived.Deep.DeepCutAuto
import Derived.Deep.Slices
namespace Go.Proofs.Ytlbbdifmjdpfiaa
set_option maxRecDepth 40000
open Go.ChangeShapes Go.WideShapes Go.ChangeAt Go.RowKit
set_option linter.unusedVariables false
set_option linter.unusedSimpArgs false

theorem cell_apartShelf {w : World} {b i j : Nat} {v : Value} (h : j ≠ i) : (w.setCell ⟨b, i, none⟩ v).cell? ⟨b, j, none⟩ = w.cell? ⟨b, j, none⟩ := World.cell?_setCell_other _ _ _ _ (by intro e; cases e; exact h rfl)
/-- A list of n shelves at a place. -/
def RowShelf (w : World) (s : Option Addr) (n : Nat) (V : Nat → Int × Int) : Prop := ∀ j, j < n → ∃ b o, s = some ⟨b, o, none⟩ ∧ b < w.heap.size ∧ w.cell? ⟨b, o + j * 2, none⟩ = some (.int .i64 ((V j).1)) ∧ w.cell? ⟨b, o + j * 2 + 1, none⟩ = some (.int .i64 ((V j).2))
theorem RowShelf.below {w w' : World} {s : Option Addr} {n : Nat} {V : Nat → Int × Int} (h : RowShelf w s n V) (hb : Below w.heap.size w w') : RowShelf w' s n V := fun j hj => by
  obtain ⟨b, o, e, hl, c0, c1⟩ := h j hj
  exact ⟨b, o, e, Nat.lt_of_lt_of_le hl hb.size, (hb.cell (p := ⟨b, o + j * 2, none⟩) hl).trans c0, (hb.cell (p := ⟨b, o + j * 2 + 1, none⟩) hl).trans c1⟩
/-- A list of n shelves in a block from base on, which may be written. -/
def OwnShelf (base : Nat) (w : World) (s : Option Addr) (n : Nat) (V : Nat → Int × Int) : Prop := ∀ j, j < n → ∃ b, s = some ⟨b, 0, none⟩ ∧ base ≤ b ∧ b < w.heap.size ∧ (∀ o, w.frozen? ⟨b, o, none⟩ = false) ∧ w.cell? ⟨b, j * 2, none⟩ = some (.int .i64 ((V j).1)) ∧ w.cell? ⟨b, j * 2 + 1, none⟩ = some (.int .i64 ((V j).2))
theorem OwnShelf.row {base : Nat} {w : World} {s : Option Addr} {n : Nat} {V : Nat → Int × Int} (h : OwnShelf base w s n V) : RowShelf w s n V := fun j hj => by
  obtain ⟨b, e, _, hl, _, c0, c1⟩ := h j hj
  exact ⟨b, 0, e, hl, by simpa using c0, by simpa using c1⟩
theorem OwnShelf.below {base : Nat} {w w' : World} {s : Option Addr} {n : Nat} {V : Nat → Int × Int} (h : OwnShelf base w s n V) (hb : Below w.heap.size w w') : OwnShelf base w' s n V := fun j hj => by
  obtain ⟨b, e, hB, hl, hf, c0, c1⟩ := h j hj
  exact ⟨b, e, hB, Nat.lt_of_lt_of_le hl hb.size, fun o => (hb.frozen (p := ⟨b, o, none⟩) hl).trans (hf o), (hb.cell (p := ⟨b, j * 2, none⟩) hl).trans c0, (hb.cell (p := ⟨b, j * 2 + 1, none⟩) hl).trans c1⟩
theorem OwnShelf.mono {base base' : Nat} {w : World} {s : Option Addr} {n : Nat} {V : Nat → Int × Int} (h : OwnShelf base w s n V) (hb : base' ≤ base) : OwnShelf base' w s n V := fun j hj => by
  obtain ⟨b, e, hB, r⟩ := h j hj
  exact ⟨b, e, by omega, r⟩
theorem OwnShelf.beside {base r : Nat} {w w' : World} {s : Option Addr} {n : Nat} {V : Nat → Int × Int} (h : OwnShelf base w s n V) (hb : Beside r w w') (hr : r < base) : OwnShelf base w' s n V := fun j hj => by
  obtain ⟨b, e, hB, hl, hf, c0, c1⟩ := h j hj
  exact ⟨b, e, hB, Nat.lt_of_lt_of_le hl hb.2.2.2.1, fun o => (hb.frozen (p := ⟨b, o, none⟩) hl (by show b ≠ r; omega)).trans (hf o), (hb.cell (p := ⟨b, j * 2, none⟩) hl (by show b ≠ r; omega)).trans c0, (hb.cell (p := ⟨b, j * 2 + 1, none⟩) hl (by show b ≠ r; omega)).trans c1⟩
set_option maxHeartbeats 400000 in
theorem toShelf_any (x0 : Int) (x1 : Int) (w : World) : Calls Try.prog 86 #[.agg #[.int .i64 x0, .int .i64 x1]] w fun r w' => r = .returned (.agg #[.int .i64 x0, .int .i64 x1]) ∧ Below w.heap.size w w' := by
  go_enter Try.func86, Try.ntmps86
  go_wp2
  exact bodyPost_ret (v := .agg #[.int .i64 x0, .int .i64 x1]) (by simp [results, Try.results86, go_sem]) rfl ⟨rfl, (by repeat (first | with_reducible exact Below.refl _ _ | with_reducible refine Below.setCell ?_ (by first | omega | (simp; done) | (simp; omega)) _ | with_reducible refine bDrewN ?_ _ | with_reducible refine Below.drew ?_ | with_reducible refine Below.alloc ?_ (by first | omega | (simp; done) | (simp; omega)) _))⟩
theorem make_Shelf (n : Nat) (hn : n ≤ 1048576) (w : World) : (Instr.makeSlice 37 (.int .i64 (n : Int)) (.int .i64 (n : Int))).run Try.prog w = .ok (.slice (some ⟨w.heap.size, 0, none⟩) n n) (w.alloc (.cells (madeCells #[.int .i64 0, .int .i64 0] (n * 2)) 94)) := by
  have hinfo : (Try.prog.info? 94).map (fun i => (i.zero, i.size, decide (i.bytes ≤ 80))) = some (some (.agg #[.int .i64 0, .int .i64 0]), 2, true) := by kernel_rfl
  obtain ⟨i, hi, hzz⟩ := Option.map_eq_some_iff.1 hinfo
  simp only [Prod.mk.injEq, decide_eq_true_eq] at hzz
  obtain ⟨hz, hs, hb⟩ := hzz
  have hl : n * i.bytes ≤ 1048576 * 80 := Nat.mul_le_mul hn hb
  have hr := run_make (P := Try.prog) w 37 94 i _ Try.underlying37 hi hz .i64 .i64 n n (by omega) (Int.le_refl _) (by rw [← Int.natCast_mul]; have := Nat.mul_comm n i.bytes; omega) (by omega)
  simp only [Int.toNat_natCast, hs] at hr
  exact hr
/-- A copy on its way: k of n are there, in the block at the end of w. -/
def ShelfRow (w wr : World) (n k : Nat) (V : Nat → Int × Int) : Prop := Below w.heap.size w wr ∧ w.heap.size < wr.heap.size ∧ (∀ o, wr.frozen? ⟨w.heap.size, o, none⟩ = false) ∧ ∀ j, j < n → wr.cell? ⟨w.heap.size, j * 2, none⟩ = some (.int .i64 (if j < k then (V j).1 else 0)) ∧ wr.cell? ⟨w.heap.size, j * 2 + 1, none⟩ = some (.int .i64 (if j < k then (V j).2 else 0))
theorem rowShelf_start (w : World) (n : Nat) (V : Nat → Int × Int) (t : TypeId) : ShelfRow w (w.alloc (.cells (madeCells #[.int .i64 0, .int .i64 0] (n * 2)) t)) n 0 V := by
  refine ⟨below0 _ _, by simp, fun o => by simp [go_sem], fun j hj => ?_⟩
  have m0 : (madeCells #[.int .i64 0, .int .i64 0] (n * 2))[j * 2]? = some (.int .i64 0) := by
    have hj : j * 2 < n * 2 := by omega
    simp only [madeCells, Array.getElem?_map, Array.getElem?_range, hj, if_true, Option.map_some]
    have h : (j * 2) % 2 = 0 := by omega
    show some ((#[Value.int .i64 0, Value.int .i64 0] : Array Value)[(j * 2) % 2]!) = _
    rw [h]; rfl
  have m1 : (madeCells #[.int .i64 0, .int .i64 0] (n * 2))[j * 2 + 1]? = some (.int .i64 0) := by
    have hj : j * 2 + 1 < n * 2 := by omega
    simp only [madeCells, Array.getElem?_map, Array.getElem?_range, hj, if_true, Option.map_some]
    have h : (j * 2 + 1) % 2 = 1 := by omega
    show some ((#[Value.int .i64 0, Value.int .i64 0] : Array Value)[(j * 2 + 1) % 2]!) = _
    rw [h]; rfl
  rw [if_neg (by omega), if_neg (by omega)]
  refine ⟨?_, ?_⟩
  · simpa [go_sem] using m0
  · simpa [go_sem] using m1
theorem rowShelf_on {w wr w3 : World} {n k : Nat} {V : Nat → Int × Int} (hk : k < n) (h : ShelfRow w wr n k V) (h3 : Below wr.heap.size wr w3) : ShelfRow w ((w3.setCell ⟨w.heap.size, k * 2, none⟩ (.int .i64 ((V k).1))).setCell ⟨w.heap.size, k * 2 + 1, none⟩ (.int .i64 ((V k).2))) n (k + 1) V := by
  obtain ⟨hB, hz, hf, hc⟩ := h
  have z3 : w.heap.size < w3.heap.size := Nat.lt_of_lt_of_le hz h3.size
  have B3 : Below w.heap.size w w3 := hB.trans (h3.mono (by omega))
  have fz : ∀ o, w3.frozen? ⟨w.heap.size, o, none⟩ = false := fun o => (h3.frozen (p := ⟨w.heap.size, o, none⟩) hz).trans (hf o)
  refine ⟨(by repeat (first | with_reducible exact Below.refl _ _ | with_reducible exact B3 | with_reducible refine Below.setCell ?_ (by first | omega | (simp; done) | (simp; omega)) _ | with_reducible refine bDrewN ?_ _ | with_reducible refine Below.drew ?_ | with_reducible refine Below.alloc ?_ (by first | omega | (simp; done) | (simp; omega)) _)), by simpa using z3, fun o => by simp [go_sem, fz], fun j hj => ?_⟩
  obtain ⟨c0, c1⟩ := hc j hj
  replace c0 := (h3.cell (p := ⟨w.heap.size, j * 2, none⟩) hz).trans c0
  replace c1 := (h3.cell (p := ⟨w.heap.size, j * 2 + 1, none⟩) hz).trans c1
  by_cases e : j = k
  · subst e
    simp only [if_neg (Nat.lt_irrefl j)] at c0
    simp only [if_neg (Nat.lt_irrefl j)] at c1
    simp only [if_pos (Nat.lt_succ_self j)]
    refine ⟨?_, ?_⟩
    all_goals simp [go_sem, c0, c1]
  · have ne : ∀ a b : Nat, a < 2 → b < 2 → j * 2 + a ≠ k * 2 + b := by intro a b ha hb; omega
    have q : (j < k + 1) = (j < k) := propext ⟨fun _ => by omega, fun _ => by omega⟩
    simp only [q]
    have n0_0 : ¬ j * 2 = k * 2 := by omega
    have n0_1 : ¬ j * 2 = k * 2 + 1 := by omega
    have n1_0 : ¬ j * 2 + 1 = k * 2 := by omega
    have n1_1 : ¬ j * 2 + 1 = k * 2 + 1 := by omega
    refine ⟨?_, ?_⟩
    · rw [cell_apartShelf (by omega), cell_apartShelf (by omega)]; exact c0
    · rw [cell_apartShelf (by omega), cell_apartShelf (by omega)]; exact c1
set_option maxRecDepth 20000 in
set_option maxHeartbeats 2000000 in
theorem toShelfS_any (s : Option Addr) (n c : Nat) (V : Nat → Int × Int) (w : World) (hn : (n : Int) ≤ 1048576) (HR : Hid (RowShelf w s n V)) :
    Calls Try.prog 68 #[.slice s n c] w fun e w' => e = .returned (.slice (some ⟨w.heap.size, 0, none⟩) n n) ∧ w.heap.size < w'.heap.size ∧ OwnShelf w.heap.size w' (some ⟨w.heap.size, 0, none⟩) n V ∧ Below w.heap.size w w' := by
  have hmk := make_Shelf n (by omega)
  go_enter Try.func68, Try.ntmps68
  go_wp2_with fail
  go_loopw [4] (fun i wr => ∃ k : Nat, k ≤ n ∧ i = .int .i64 k ∧ ShelfRow w wr n k V) (fun i _ => n - (intOf i).toNat)
  case atStart => exact ⟨0, Nat.zero_le _, rfl, rowShelf_start w n V 94⟩
  case round =>
    obtain ⟨k, hk, rfl, hR⟩ := hrel
    have HK : Hid (ShelfRow w wr n k V) := hR
    obtain ⟨hB, hz, hf, hc⟩ := hR
    by_cases h1 : k < n
    · obtain ⟨g, o, rfl, hg, c0, c1⟩ := HR.out k h1
      have d0 := (hB.cell (p := ⟨g, o + k * 2, none⟩) hg).trans c0
      have d1 := (hB.cell (p := ⟨g, o + k * 2 + 1, none⟩) hg).trans c1
      obtain ⟨e0, e1⟩ := hc k h1
      simp only [if_neg (Nat.lt_irrefl k)] at e0 e1
      have k1 : (k : Int) < (n : Int) := by omega
      have zg : g < wr.heap.size := Nat.lt_of_lt_of_le hg hB.size
      clear hc hB c0 c1 hg
      go_wp2_with fail
      refine (toShelf_any _ _ _).mono ?_
      rintro r w3 ⟨rfl, h3⟩
      have f0 := (h3.cell (p := ⟨w.heap.size, k * 2, none⟩) hz).trans e0
      have f1 := (h3.cell (p := ⟨w.heap.size, k * 2 + 1, none⟩) hz).trans e1
      have fz : ∀ o, w3.frozen? ⟨w.heap.size, o, none⟩ = false := fun o => (h3.frozen (p := ⟨w.heap.size, o, none⟩) hz).trans (hf o)
      have z3 : w.heap.size < w3.heap.size := Nat.lt_of_lt_of_le hz h3.size
      have H3 : Hid (Below wr.heap.size wr w3) := h3
      clear e0 e1 hf h3 d0 d1
      go_wp2
      go_round
      case rel => exact ⟨k + 1, by omega, by go_num, rowShelf_on h1 HK.out H3.out⟩
      case measure => simp [intOf]; omega
    · obtain rfl : k = n := by omega
      go_wp2
      go_ret
      exact ⟨rfl, hz, fun j hj => ⟨_, rfl, Nat.le_refl _, hz, hf, by have := hc j hj; simpa only [if_pos hj] using this⟩, hB⟩

open Go.ChangeShapes Go.WideShapes Go.ChangeAt Go.RowKit
set_option linter.unusedVariables false

theorem addr_add (b o k : Nat) : (⟨b, o, none⟩ : Addr).add k = ⟨b, o + k, none⟩ := by
  unfold Addr.add
  split
  · rename_i h; subst h; rfl
  · rfl
theorem slice_spot {w : World} {b0 : Nat} {t e : TypeId} {a : Addr} {n c : Nat} (ht : Try.prog.underlying t = some (.slice e)) (hv : Value.okWide Try.prog w .any b0 t (.slice (some a) n c)) : a.spot = none := by
  simp only [Value.okWide, ht, Cell.okWide, Cell.ok] at hv
  exact hv.2.2.2.1
theorem cell_lt {w : World} {p : Addr} {v : Value} (h : w.cell? p = some v) : p.block < w.heap.size := by
  rcases Nat.lt_or_ge p.block w.heap.size with z | z
  · exact z
  · exfalso
    simp [World.cell?, Array.getElem?_eq_none z] at h

open Go.ChangeShapes Go.WideShapes Go.ChangeAt Go.RowKit
set_option linter.unusedVariables false
set_option linter.unusedSimpArgs false

set_option maxHeartbeats 400000 in
theorem szShelfS_on (s : Option Addr) (n c : Nat) (l : Int) (w : World) (h0 : 0 ≤ l) (h1 : l ≤ 1048576) (hn : (n : Int) ≤ l) : Calls Try.prog 63 #[.slice s n c, .int .i64 l] w fun e w' => e = .returned (.int .i64 (l - (n : Int))) ∧ w' = w := by
  go_enter Try.func63, Try.ntmps63
  go_wp2
  go_ret
  exact ⟨ret_int rfl, rfl⟩
set_option maxHeartbeats 400000 in
theorem szShelfS_off (s : Option Addr) (n c : Nat) (l : Int) (w : World) (h0 : 0 ≤ l) (h1 : l ≤ 1048576) (hn : l < (n : Int)) (hn2 : (n : Int) ≤ 9223372036854775807) : Calls Try.prog 63 #[.slice s n c, .int .i64 l] w fun e w' => e = .returned (.int .i64 (-1)) ∧ w' = w := by
  go_enter Try.func63, Try.ntmps63
  go_wp2
  go_ret
  exact ⟨ret_int rfl, rfl⟩
set_option maxHeartbeats 400000 in
theorem eqShelf_any (x0 : Int) (x1 : Int) (w : World) : Calls Try.prog 87 #[.agg #[.int .i64 x0, .int .i64 x1], .agg #[.int .i64 x0, .int .i64 x1]] w fun r w' => r = .returned (.bool true) ∧ Below w.heap.size w w' := by
  (
    go_enter Try.func87, Try.ntmps87
    go_wp2
    go_ret
    exact ⟨rfl, (by repeat (first | with_reducible exact Below.refl _ _ | with_reducible refine Below.setCell ?_ (by first | omega | (simp; done) | (simp; omega)) _ | with_reducible refine bDrewN ?_ _ | with_reducible refine Below.drew ?_ | with_reducible refine Below.alloc ?_ (by first | omega | (simp; done) | (simp; omega)) _))⟩)
theorem keepShelf {W W' : World} {p q i0 j0 i1 j1 : Nat} {a0 b0 a1 b1 : Value} (h0 : W.cell? ⟨p, i0, none⟩ = some a0) (h1 : W.cell? ⟨p, i1, none⟩ = some a1) (g0 : W.cell? ⟨q, j0, none⟩ = some b0) (g1 : W.cell? ⟨q, j1, none⟩ = some b1) (hp : p < W.heap.size) (hq : q < W.heap.size) (hb : Below W.heap.size W W') :
    W'.cell? ⟨p, i0, none⟩ = some a0 ∧ W'.cell? ⟨p, i1, none⟩ = some a1 ∧ W'.cell? ⟨q, j0, none⟩ = some b0 ∧ W'.cell? ⟨q, j1, none⟩ = some b1 :=
  ⟨(hb.cell (p := ⟨p, i0, none⟩) hp).trans h0, (hb.cell (p := ⟨p, i1, none⟩) hp).trans h1, (hb.cell (p := ⟨q, j0, none⟩) hq).trans g0, (hb.cell (p := ⟨q, j1, none⟩) hq).trans g1⟩
set_option maxRecDepth 20000 in
set_option maxHeartbeats 2000000 in
theorem eqShelfS_any (s t : Option Addr) (n c d : Nat) (V : Nat → Int × Int) (w : World) (hn : (n : Int) ≤ 1048576) (HR : Hid (RowShelf w s n V)) (HT : Hid (RowShelf w t n V)) :
    Calls Try.prog 70 #[.slice s n c, .slice t n d] w fun e w' => e = .returned (.bool true) ∧ Below w.heap.size w w' := by
  go_enter Try.func70, Try.ntmps70
  go_wp2_with fail
  go_loopw [5] (fun i wr => ∃ k : Nat, k ≤ n ∧ i = .int .i64 k ∧ Below w.heap.size w wr) (fun i _ => n - (intOf i).toNat)
  case atStart => exact ⟨0, Nat.zero_le _, rfl, Below.refl _ _⟩
  case round =>
    obtain ⟨k, hk, rfl, hB⟩ := hrel
    by_cases h1 : k < n
    · obtain ⟨g, o, rfl, hg, c0, c1⟩ := HR.out k h1
      obtain ⟨p, q, rfl, hp, d0, d1⟩ := HT.out k h1
      have u0 := (hB.cell (p := ⟨g, o + k * 2, none⟩) hg).trans c0
      have u1 := (hB.cell (p := ⟨g, o + k * 2 + 1, none⟩) hg).trans c1
      have v0 := (hB.cell (p := ⟨p, q + k * 2, none⟩) hp).trans d0
      have v1 := (hB.cell (p := ⟨p, q + k * 2 + 1, none⟩) hp).trans d1
      have k1 : (k : Int) < (n : Int) := by omega
      have zg : g < wr.heap.size := Nat.lt_of_lt_of_le hg hB.size
      have zp : p < wr.heap.size := Nat.lt_of_lt_of_le hp hB.size
      have HB : Hid (Below w.heap.size w wr) := hB
      clear hB c0 d0 c1 d1 hg hp
      go_wp2_with fail
      go_region_held3 (fun w' => w'.cell? ⟨g, o + k * 2, none⟩ = some (.int .i64 ((V k).1)) ∧ w'.cell? ⟨g, o + k * 2 + 1, none⟩ = some (.int .i64 ((V k).2)) ∧ w'.cell? ⟨p, q + k * 2, none⟩ = some (.int .i64 ((V k).1)) ∧ w'.cell? ⟨p, q + k * 2 + 1, none⟩ = some (.int .i64 ((V k).2))) (first | (refine keepShelf u0 u1 v0 v1 zg zp ?_; exact (by repeat (first | with_reducible exact Below.refl _ _ | with_reducible exact B3 | with_reducible refine Below.setCell ?_ (by first | omega | (simp; done) | (simp; omega)) _ | with_reducible refine bDrewN ?_ _ | with_reducible refine Below.drew ?_ | with_reducible refine Below.alloc ?_ (by first | omega | (simp; done) | (simp; omega)) _)))) (first
        | (go_at_call 87; refine (eqShelf_any _ _ _).mono ?_; rintro r w3 ⟨rfl, h3⟩; have B3 : Below wr.heap.size wr w3 := Below.trans (by repeat (first | with_reducible exact Below.refl _ _ | with_reducible refine Below.setCell ?_ (by first | omega | (simp; done) | (simp; omega)) _ | with_reducible refine bDrewN ?_ _ | with_reducible refine Below.drew ?_ | with_reducible refine Below.alloc ?_ (by first | omega | (simp; done) | (simp; omega)) _)) (h3.mono (by first | omega | (simp; done) | (simp; omega)))))
      all_goals
        have B4 : Below w.heap.size w w3 := HB.out.trans (B3.mono HB.out.size)
        go_wp2
        go_round
        case rel => exact ⟨k + 1, by omega, by go_num, (by repeat (first | with_reducible exact Below.refl _ _ | with_reducible exact B4 | with_reducible refine Below.setCell ?_ (by first | omega | (simp; done) | (simp; omega)) _ | with_reducible refine bDrewN ?_ _ | with_reducible refine Below.drew ?_ | with_reducible refine Below.alloc ?_ (by first | omega | (simp; done) | (simp; omega)) _))⟩
        case measure => simp [intOf]; omega
    · obtain rfl : k = n := by omega
      go_wp2
      go_ret
      exact ⟨rfl, (by repeat (first | with_reducible exact Below.refl _ _ | with_reducible exact hB | with_reducible refine Below.setCell ?_ (by first | omega | (simp; done) | (simp; omega)) _ | with_reducible refine bDrewN ?_ _ | with_reducible refine Below.drew ?_ | with_reducible refine Below.alloc ?_ (by first | omega | (simp; done) | (simp; omega)) _))⟩

/-- THE LIST OPENED. -/
theorem open_ShelfS {H : Type} {enc : TypeId × Value → H} {w : World} {b0 : Nat} {t e : TypeId} {f0 f1 : Field} {v : Value} {d : DataW H} {ps : List MemPlace} {sp : Nat → Bool} {held : Bool} (ht : Try.prog.underlying t = some (.slice e)) (he : Try.prog.underlying e = some (.struct #[f0, f1]))
    (ce : Try.prog.cellsOf e = 2) (o0 : f0.offset = 0) (o1 : f1.offset = 1) (c0 : Try.prog.cellsOf f0.type = 1) (c1 : Try.prog.cellsOf f1.type = 1) (i0 : Try.prog.underlying f0.type = some (.int .i64)) (i1 : Try.prog.underlying f1.type = some (.int .i64))
    (hv : Value.okWide Try.prog w .any b0 t v) (h : DataW.Trod enc Try.prog w 0 sp held t v d ps) : ∃ s n c V, v = .slice s n c ∧ n ≤ 9223372036854775807 ∧ RowShelf w s n V := by
  have hsl : ∃ s n c, v = .slice s n c := by
    simp only [Value.okWide, ht, Cell.okWide] at hv
    cases v <;> simp_all [Cell.ok]
  obtain ⟨s, n, c, rfl⟩ := hsl
  obtain ⟨fuel, hf⟩ := h
  have hf' : DataW.trod enc Try.prog w 0 sp held fuel t [.slice s n c] = some (d, ps) := hf
  rcases Go.Deep.open_slice ht hf' with ⟨e1, _⟩ | ⟨a, len, cap, m, k, D, Pl, e1, _, hl, hm, hmm, _, hx⟩
  · simp only [List.cons.injEq, and_true, Value.slice.injEq] at e1
    obtain ⟨rfl, rfl, rfl⟩ := e1
    exact ⟨none, 0, 0, fun _ => (0, 0), rfl, by omega, fun j hj => by omega⟩
  · simp only [List.cons.injEq, and_true, Value.slice.injEq] at e1
    obtain ⟨rfl, rfl, rfl⟩ := e1
    have hsp := slice_spot ht hv
    obtain ⟨b, o, spot⟩ := a
    simp only at hsp
    subst hsp
    have hle : n ≤ m := by rw [hmm]; split <;> omega
    have each : ∀ i, i < n → ∃ z : Int × Int, w.cell? ⟨b, o + i * 2, none⟩ = some (.int .i64 (z.1)) ∧ w.cell? ⟨b, o + (i * 2 + 1), none⟩ = some (.int .i64 (z.2)) := by
      intro i hi
      obtain ⟨cs', h1, h2⟩ := hx i (by omega)
      rw [ce] at h1
      obtain ⟨_, hlen, hcell⟩ := World.cells?_some h1
      obtain ⟨xs, k', hk, hxy, _, hxl, hf⟩ := DataW.trod_struct he h2
      match xs, hxl, cs', hlen with
      | [y0, y1], _, [v0, v1], _ =>
        have g0 := hf 0 f0 rfl
        have g1 := hf 1 f1 rfl
        simp [o0, c0, o1, c1] at g0 g1
        have e0 := hcell 0 (by omega)
        have e1 := hcell 1 (by omega)
        rw [Go.Deep.add_add, addr_add] at e0 e1
        obtain ⟨z0, q0, _, _⟩ := DataW.trod_int i0 g0
        obtain ⟨z1, q1, _, _⟩ := DataW.trod_int i1 g1
        simp only [List.cons.injEq, and_true] at q0 q1
        subst q0 q1
        exact ⟨(z0, z1), by simpa using e0, by simpa using e1⟩
    obtain ⟨f, hfn⟩ := Go.Deep.choose_lt each
    refine ⟨some ⟨b, o, none⟩, n, c, f, rfl, ?_, fun j hj => ?_⟩
    · have : maxLen = 9223372036854775807 := by decide
      omega
    · obtain ⟨h0, h1⟩ := hfn j hj
      exact ⟨b, o, rfl, cell_lt h0, by simpa [Nat.add_assoc] using h0, by simpa [Nat.add_assoc] using h1⟩

open Go.ChangeShapes Go.WideShapes Go.ChangeAt Go.RowKit
set_option linter.unusedVariables false
set_option linter.unusedSimpArgs false

/-- A list in the block b, on its way: nothing else has turned. -/
def ShelfAt (b n : Nat) (w wr : World) : Prop := Beside b w wr ∧ b < wr.heap.size ∧ (∀ o, wr.frozen? ⟨b, o, none⟩ = false) ∧ ∃ U : Nat → Int × Int, ∀ j, j < n → wr.cell? ⟨b, j * 2, none⟩ = some (.int .i64 ((U j).1)) ∧ wr.cell? ⟨b, j * 2 + 1, none⟩ = some (.int .i64 ((U j).2))
theorem ShelfAt.on {b n j : Nat} {w wr : World} (h : ShelfAt b n w wr) (hj : j < n) (x0 : Int) (x1 : Int) : ShelfAt b n w ((wr.setCell ⟨b, j * 2, none⟩ (.int .i64 x0)).setCell ⟨b, j * 2 + 1, none⟩ (.int .i64 x1)) := by
  obtain ⟨h1, h2, h3, U, h4⟩ := h
  refine ⟨?_, by simpa using h2, fun o => by simp [go_sem, h3], fun i => if i = j then (x0, x1) else U i, fun i hi => ?_⟩
  · exact ((h1.trans (Beside.setCell b _ _ _)).trans (Beside.setCell b _ _ _))
  · obtain ⟨c0, c1⟩ := h4 i hi
    by_cases e : i = j
    · subst e
      simp only [if_pos (rfl : i = i)]
      refine ⟨?_, ?_⟩
      all_goals simp [go_sem, c0, c1]
    · simp only [if_neg e]
      refine ⟨?_, ?_⟩
      · rw [cell_apartShelf (by omega), cell_apartShelf (by omega)]; exact c0
      · rw [cell_apartShelf (by omega), cell_apartShelf (by omega)]; exact c1
set_option maxRecDepth 20000 in
set_option maxHeartbeats 4000000 in
theorem markShelfS_at (b n c : Nat) (k : Int) (V : Nat → Int × Int) (w : World) (hn : (n : Int) ≤ 1048576) (k0 : 0 ≤ k) (k1 : k ≤ 100000000) (hb : ShelfAt b n w w) :
    Calls Try.prog 59 #[.slice (some ⟨b, 0, none⟩) n c, .int .i64 k] w fun e w' => e = .returned (.int .i64 (k + (n * 2 : Nat))) ∧ ShelfAt b n w w' := by
  go_enter Try.func59, Try.ntmps59
  go_wp2_with fail
  go_loopw [1, 5] (fun q i wr => ∃ j : Nat, j ≤ n ∧ i = .int .i64 j ∧ q = .int .i64 (k + (j * 2 : Nat)) ∧ ShelfAt b n w wr) (fun _ i _ => n - (intOf i).toNat)
  case atStart => exact ⟨0, Nat.zero_le _, rfl, by simp, hb⟩
  case round =>
    obtain ⟨j, hj, rfl, rfl, hR⟩ := hrel
    have HT : Hid (ShelfAt b n w wr) := hR
    obtain ⟨hB, hz, hf, U, hc⟩ := hR
    by_cases h1 : j < n
    · obtain ⟨e0, e1⟩ := hc j h1
      have kk : (j : Int) < (n : Int) := by omega
      simp only [Int.natCast_mul, Int.cast_ofNat_Int] at ⊢
      clear hc hB
      go_wp2
      go_roundw
      case rel => exact ⟨j + 1, by omega, by go_num, by first | go_num | (congr 1; omega), ShelfAt.on HT.out h1 _ _⟩
      case measure => simp [intOf]; omega
    · obtain rfl : j = n := by omega
      go_wp2
      go_ret
      exact ⟨rfl, HT.out⟩
set_option maxHeartbeats 1000000 in
theorem markShelfS_nil (s : Option Addr) (c : Nat) (k : Int) (w : World) :
    Calls Try.prog 59 #[.slice s 0 c, .int .i64 k] w fun e w' => e = .returned (.int .i64 k) ∧ w' = w := by
  go_enter Try.func59, Try.ntmps59
  go_wp2_with fail
  go_loop [1, 5] (fun q i => i = .int .i64 0 ∧ q = .int .i64 k) (fun _ i => 0)
  case atStart => exact ⟨rfl, rfl⟩
  case round =>
    obtain ⟨rfl, rfl⟩ := hrel
    go_wp2
    go_ret
    exact ⟨rfl, rfl⟩
theorem markShelfS_own (base : Nat) (s : Option Addr) (n c : Nat) (k : Int) (V : Nat → Int × Int) (w : World) (hn : (n : Int) ≤ 1048576) (k0 : 0 ≤ k) (k1 : k ≤ 100000000) (hb : base ≤ w.heap.size) (HR : OwnShelf base w s n V) :
    Calls Try.prog 59 #[.slice s n c, .int .i64 k] w fun e w' => e = .returned (.int .i64 (k + (n * 2 : Nat))) ∧ (∃ U, OwnShelf base w' s n U) ∧ Below base w w' ∧ ∀ b, s = some ⟨b, 0, none⟩ → Beside b w w' := by
  by_cases h : n = 0
  · subst h
    refine (markShelfS_nil s c k w).mono ?_
    rintro e w' ⟨rfl, rfl⟩
    exact ⟨by simp, ⟨V, HR⟩, Below.refl _ _, fun b _ => Beside.of (Below.refl _ _)⟩
  · obtain ⟨b, rfl, hB, hl, hf, _⟩ := HR 0 (by omega)
    have HA : ShelfAt b n w w := ⟨Beside.of (Below.refl _ _), hl, hf, V, fun j hj => by
      obtain ⟨b', e', _, _, _, r⟩ := HR j hj
      cases e'
      exact r⟩
    refine (markShelfS_at b n c k V w hn k0 k1 HA).mono ?_
    rintro e w' ⟨rfl, h1, h2, h3, U, h4⟩
    exact ⟨rfl, ⟨U, fun j hj => ⟨b, rfl, hB, h2, h3, h4 j hj⟩⟩, h1.below hB hb, fun b' e => by cases e; exact h1⟩

open Go.ChangeShapes Go.WideShapes Go.ChangeAt Go.RowKit
set_option linter.unusedVariables false
set_option linter.unusedSimpArgs false

def ShelfR (S : Nat → Prop) (w : World) (s : Option Addr) (n : Nat) (V : Nat → Int × Int) : Prop := OwnShelf 0 w s n V ∧ (0 < n → ∀ b, s = some ⟨b, 0, none⟩ → S b)
theorem ShelfR.row {S : Nat → Prop} {w : World} {s : Option Addr} {n : Nat} {V : Nat → Int × Int} (h : ShelfR S w s n V) : RowShelf w s n V := h.1.row
theorem ShelfR.keep {S : Nat → Prop} {w w' : World} {s : Option Addr} {n : Nat} {V : Nat → Int × Int} (h : ShelfR S w s n V) (hs : w.heap.size ≤ w'.heap.size) (hb : ∀ k, S k → k < w.heap.size → w'.heap[k]? = w.heap[k]?) : ShelfR S w' s n V := ⟨fun j hj => by
  obtain ⟨b, e, hB, hl, hf, c0, c1⟩ := h.1 j hj
  have eb := hb b (h.2 (by omega) b e) hl
  exact ⟨b, e, hB, Nat.lt_of_lt_of_le hl hs, fun o => (World.frozen?_of_block (w := w) (a := ⟨b, o, none⟩) eb).trans (hf o), (World.cell?_of_block (w := w) (a := ⟨b, j * 2, none⟩) eb).trans c0, (World.cell?_of_block (w := w) (a := ⟨b, j * 2 + 1, none⟩) eb).trans c1⟩, h.2⟩
theorem ShelfR.below {S : Nat → Prop} {w w' : World} {s : Option Addr} {n : Nat} {V : Nat → Int × Int} (h : ShelfR S w s n V) (hb : Below w.heap.size w w') : ShelfR S w' s n V := h.keep hb.size fun k _ hk => hb.block k hk
theorem ShelfR.set {S : Nat → Prop} {w : World} {s : Option Addr} {n : Nat} {V : Nat → Int × Int} {r o : Nat} {u : Value} (h : ShelfR S w s n V) (hr : ¬ S r) : ShelfR S (w.setCell ⟨r, o, none⟩ u) s n V := h.keep (by simp) fun k hk hl => set_block hl (fun e => hr (e ▸ hk))
theorem ShelfR.widen {S S' : Nat → Prop} {w : World} {s : Option Addr} {n : Nat} {V : Nat → Int × Int} (h : ShelfR S w s n V) (hs : ∀ k, S k → S' k) : ShelfR S' w s n V := ⟨h.1, fun a b c => hs b (h.2 a b c)⟩
theorem ShelfR.of {base : Nat} {w : World} {s : Option Addr} {n : Nat} {V : Nat → Int × Int} (h : OwnShelf base w s n V) : ShelfR (fun k => base ≤ k ∧ k < w.heap.size) w s n V := ⟨h.mono (Nat.zero_le _), fun hn b e => by
  obtain ⟨b', e', h1, h2, _⟩ := h 0 hn
  rw [e] at e'
  cases e'
  exact ⟨h1, h2⟩⟩
theorem toShelfS_r (s : Option Addr) (n c : Nat) (V : Nat → Int × Int) (w : World) (hn : (n : Int) ≤ 1048576) (HR : Hid (RowShelf w s n V)) :
    Calls Try.prog 68 #[.slice s n c] w fun e w' => ∃ (s' : Option Addr) (S : Nat → Prop), e = .returned (.slice s' n n) ∧ (∀ k, S k → w.heap.size ≤ k ∧ k < w'.heap.size) ∧ ShelfR S w' s' n V ∧ Below w.heap.size w w' :=
  (toShelfS_any s n c V w hn HR).mono fun e w' ⟨h1, h2, h3, h4⟩ => ⟨_, _, h1, fun k hk => hk, ShelfR.of h3, h4⟩
theorem markShelfS_r (S : Nat → Prop) (s : Option Addr) (n c : Nat) (k : Int) (V : Nat → Int × Int) (w : World) (hn : (n : Int) ≤ 1048576) (k0 : 0 ≤ k) (k1 : k ≤ 100000000) (HR : ShelfR S w s n V) :
    Calls Try.prog 59 #[.slice s n c, .int .i64 k] w fun e w' => e = .returned (.int .i64 (k + (n * 2 : Nat))) ∧ (∃ U, ShelfR S w' s n U) ∧ Turn S w w' := by
  by_cases h : n = 0
  · subst h
    refine (markShelfS_nil s c k w).mono ?_
    rintro e w' ⟨rfl, rfl⟩
    exact ⟨by simp, ⟨V, HR⟩, Turn.refl _ _⟩
  · obtain ⟨b, eb, _⟩ := HR.1 0 (by omega)
    have hb := HR.2 (by omega) b eb
    refine (markShelfS_own 0 s n c k V w hn k0 k1 (Nat.zero_le _) HR.1).mono ?_
    rintro e w' ⟨rfl, ⟨U, O⟩, -, hB⟩
    exact ⟨rfl, ⟨U, O, HR.2⟩, Turn.of (hB b eb) hb⟩

open Go.RowKit
set_option linter.unusedVariables false

theorem szInt64S_on (s : Option Addr) (n c : Nat) (l : Int) (w : World) (h0 : 0 ≤ l) (h1 : l ≤ 1048576) (hn : (n : Int) ≤ l) : Calls Try.prog 62 #[.slice s n c, .int .i64 l] w fun e w' => e = .returned (.int .i64 (l - n)) ∧ w' = w := by
  go_enter Try.func62, Try.ntmps62
  go_wp2
  go_ret
  exact ⟨rfl, rfl⟩
theorem szInt64S_off (s : Option Addr) (n c : Nat) (l : Int) (w : World) (h0 : 0 ≤ l) (h1 : l ≤ 1048576) (hn : l < (n : Int)) (hn' : (n : Int) ≤ 9223372036854775807) : Calls Try.prog 62 #[.slice s n c, .int .i64 l] w fun e w' => e = .returned (.int .i64 (-1)) ∧ w' = w := by
  go_enter Try.func62, Try.ntmps62
  go_wp2
  go_ret
  exact ⟨rfl, rfl⟩

open Go.RowKit
set_option linter.unusedVariables false

theorem szBoolS_on (s : Option Addr) (n c : Nat) (l : Int) (w : World) (h0 : 0 ≤ l) (h1 : l ≤ 1048576) (hn : (n : Int) ≤ l) : Calls Try.prog 61 #[.slice s n c, .int .i64 l] w fun e w' => e = .returned (.int .i64 (l - n)) ∧ w' = w := by
  go_enter Try.func61, Try.ntmps61
  go_wp2
  go_ret
  exact ⟨rfl, rfl⟩
theorem szBoolS_off (s : Option Addr) (n c : Nat) (l : Int) (w : World) (h0 : 0 ≤ l) (h1 : l ≤ 1048576) (hn : l < (n : Int)) (hn' : (n : Int) ≤ 9223372036854775807) : Calls Try.prog 61 #[.slice s n c, .int .i64 l] w fun e w' => e = .returned (.int .i64 (-1)) ∧ w' = w := by
  go_enter Try.func61, Try.ntmps61
  go_wp2
  go_ret
  exact ⟨rfl, rfl⟩

end Go.Proofs.Ytlbbdifmjdpfiaa
