/-
What is proved: lists of clocks, how they are kept; a copy in new memory by the law's own helper.
-/
import Derived.Test.YtmoeoepinlcmdaaDoorOwn
import Derived.Test.YtmoeoepinlcmdaaDoorBeside
import Derived.Deep.OwnRows
import Derived.Deep.RegionHeld3
import Derived.Deep.DeepCutAuto
namespace Go.Proofs.YtmoeoepinlcmdaaDoor
set_option maxRecDepth 40000
open Go.ChangeShapes Go.WideShapes Go.ChangeAt Go.RowKit
set_option linter.unusedVariables false
set_option linter.unusedSimpArgs false

theorem cell_apartClock {w : World} {b i j : Nat} {v : Value} (h : j ≠ i) : (w.setCell ⟨b, i, none⟩ v).cell? ⟨b, j, none⟩ = w.cell? ⟨b, j, none⟩ := World.cell?_setCell_other _ _ _ _ (by intro e; cases e; exact h rfl)
/-- A list of n clocks at a place. -/
def RowClock (w : World) (s : Option Addr) (n : Nat) (V : Nat → Int × Bool) : Prop := ∀ j, j < n → ∃ b o, s = some ⟨b, o, none⟩ ∧ b < w.heap.size ∧ w.cell? ⟨b, o + j * 2, none⟩ = some (.int .i64 ((V j).1)) ∧ w.cell? ⟨b, o + j * 2 + 1, none⟩ = some (.bool ((V j).2))
theorem RowClock.below {w w' : World} {s : Option Addr} {n : Nat} {V : Nat → Int × Bool} (h : RowClock w s n V) (hb : Below w.heap.size w w') : RowClock w' s n V := fun j hj => by
  obtain ⟨b, o, e, hl, c0, c1⟩ := h j hj
  exact ⟨b, o, e, Nat.lt_of_lt_of_le hl hb.size, (hb.cell (p := ⟨b, o + j * 2, none⟩) hl).trans c0, (hb.cell (p := ⟨b, o + j * 2 + 1, none⟩) hl).trans c1⟩
/-- A list of n clocks in a block from base on, which may be written. -/
def OwnClock (base : Nat) (w : World) (s : Option Addr) (n : Nat) (V : Nat → Int × Bool) : Prop := ∀ j, j < n → ∃ b, s = some ⟨b, 0, none⟩ ∧ base ≤ b ∧ b < w.heap.size ∧ (∀ o, w.frozen? ⟨b, o, none⟩ = false) ∧ w.cell? ⟨b, j * 2, none⟩ = some (.int .i64 ((V j).1)) ∧ w.cell? ⟨b, j * 2 + 1, none⟩ = some (.bool ((V j).2))
theorem OwnClock.row {base : Nat} {w : World} {s : Option Addr} {n : Nat} {V : Nat → Int × Bool} (h : OwnClock base w s n V) : RowClock w s n V := fun j hj => by
  obtain ⟨b, e, _, hl, _, c0, c1⟩ := h j hj
  exact ⟨b, 0, e, hl, by simpa using c0, by simpa using c1⟩
theorem OwnClock.below {base : Nat} {w w' : World} {s : Option Addr} {n : Nat} {V : Nat → Int × Bool} (h : OwnClock base w s n V) (hb : Below w.heap.size w w') : OwnClock base w' s n V := fun j hj => by
  obtain ⟨b, e, hB, hl, hf, c0, c1⟩ := h j hj
  exact ⟨b, e, hB, Nat.lt_of_lt_of_le hl hb.size, fun o => (hb.frozen (p := ⟨b, o, none⟩) hl).trans (hf o), (hb.cell (p := ⟨b, j * 2, none⟩) hl).trans c0, (hb.cell (p := ⟨b, j * 2 + 1, none⟩) hl).trans c1⟩
theorem OwnClock.mono {base base' : Nat} {w : World} {s : Option Addr} {n : Nat} {V : Nat → Int × Bool} (h : OwnClock base w s n V) (hb : base' ≤ base) : OwnClock base' w s n V := fun j hj => by
  obtain ⟨b, e, hB, r⟩ := h j hj
  exact ⟨b, e, by omega, r⟩
theorem OwnClock.beside {base r : Nat} {w w' : World} {s : Option Addr} {n : Nat} {V : Nat → Int × Bool} (h : OwnClock base w s n V) (hb : Beside r w w') (hr : r < base) : OwnClock base w' s n V := fun j hj => by
  obtain ⟨b, e, hB, hl, hf, c0, c1⟩ := h j hj
  exact ⟨b, e, hB, Nat.lt_of_lt_of_le hl hb.2.2.2.1, fun o => (hb.frozen (p := ⟨b, o, none⟩) hl (by show b ≠ r; omega)).trans (hf o), (hb.cell (p := ⟨b, j * 2, none⟩) hl (by show b ≠ r; omega)).trans c0, (hb.cell (p := ⟨b, j * 2 + 1, none⟩) hl (by show b ≠ r; omega)).trans c1⟩
set_option maxHeartbeats 400000 in
theorem toClock_any (x0 : Int) (x1 : Bool) (w : World) : Calls Tryd.prog 37 #[.agg #[.int .i64 x0, .bool x1]] w fun r w' => r = .returned (.agg #[.int .i64 x0, .bool x1]) ∧ Below w.heap.size w w' := by
  go_enter Tryd.func37, Tryd.ntmps37
  go_wp2
  exact bodyPost_ret (v := .agg #[.int .i64 x0, .bool x1]) (by simp [results, Tryd.results37, go_sem]) rfl ⟨rfl, (by repeat (first | with_reducible exact Below.refl _ _ | with_reducible refine Below.setCell ?_ (by first | omega | (simp; done) | (simp; omega)) _ | with_reducible refine bDrewN ?_ _ | with_reducible refine Below.drew ?_ | with_reducible refine Below.alloc ?_ (by first | omega | (simp; done) | (simp; omega)) _))⟩
theorem make_Clock (n : Nat) (hn : n ≤ 1048576) (w : World) : (Instr.makeSlice 25 (.int .i64 (n : Int)) (.int .i64 (n : Int))).run Tryd.prog w = .ok (.slice (some ⟨w.heap.size, 0, none⟩) n n) (w.alloc (.cells (madeCells #[.int .i64 0, .bool false] (n * 2)) 29)) := by
  have hinfo : (Tryd.prog.info? 29).map (fun i => (i.zero, i.size, decide (i.bytes ≤ 80))) = some (some (.agg #[.int .i64 0, .bool false]), 2, true) := by kernel_rfl
  obtain ⟨i, hi, hzz⟩ := Option.map_eq_some_iff.1 hinfo
  simp only [Prod.mk.injEq, decide_eq_true_eq] at hzz
  obtain ⟨hz, hs, hb⟩ := hzz
  have hl : n * i.bytes ≤ 1048576 * 80 := Nat.mul_le_mul hn hb
  have hr := run_make (P := Tryd.prog) w 25 29 i _ Tryd.underlying25 hi hz .i64 .i64 n n (by omega) (Int.le_refl _) (by rw [← Int.natCast_mul]; have := Nat.mul_comm n i.bytes; omega) (by omega)
  simp only [Int.toNat_natCast, hs] at hr
  exact hr
/-- A copy on its way: k of n are there, in the block at the end of w. -/
def ClockRow (w wr : World) (n k : Nat) (V : Nat → Int × Bool) : Prop := Below w.heap.size w wr ∧ w.heap.size < wr.heap.size ∧ (∀ o, wr.frozen? ⟨w.heap.size, o, none⟩ = false) ∧ ∀ j, j < n → wr.cell? ⟨w.heap.size, j * 2, none⟩ = some (.int .i64 (if j < k then (V j).1 else 0)) ∧ wr.cell? ⟨w.heap.size, j * 2 + 1, none⟩ = some (.bool (if j < k then (V j).2 else false))
theorem rowClock_start (w : World) (n : Nat) (V : Nat → Int × Bool) (t : TypeId) : ClockRow w (w.alloc (.cells (madeCells #[.int .i64 0, .bool false] (n * 2)) t)) n 0 V := by
  refine ⟨below0 _ _, by simp, fun o => by simp [go_sem], fun j hj => ?_⟩
  have m0 : (madeCells #[.int .i64 0, .bool false] (n * 2))[j * 2]? = some (.int .i64 0) := by
    have hj : j * 2 < n * 2 := by omega
    simp only [madeCells, Array.getElem?_map, Array.getElem?_range, hj, if_true, Option.map_some]
    have h : (j * 2) % 2 = 0 := by omega
    show some ((#[Value.int .i64 0, Value.bool false] : Array Value)[(j * 2) % 2]!) = _
    rw [h]; rfl
  have m1 : (madeCells #[.int .i64 0, .bool false] (n * 2))[j * 2 + 1]? = some (.bool false) := by
    have hj : j * 2 + 1 < n * 2 := by omega
    simp only [madeCells, Array.getElem?_map, Array.getElem?_range, hj, if_true, Option.map_some]
    have h : (j * 2 + 1) % 2 = 1 := by omega
    show some ((#[Value.int .i64 0, Value.bool false] : Array Value)[(j * 2 + 1) % 2]!) = _
    rw [h]; rfl
  rw [if_neg (by omega), if_neg (by omega)]
  refine ⟨?_, ?_⟩
  · simpa [go_sem] using m0
  · simpa [go_sem] using m1
theorem rowClock_on {w wr w3 : World} {n k : Nat} {V : Nat → Int × Bool} (hk : k < n) (h : ClockRow w wr n k V) (h3 : Below wr.heap.size wr w3) : ClockRow w ((w3.setCell ⟨w.heap.size, k * 2, none⟩ (.int .i64 ((V k).1))).setCell ⟨w.heap.size, k * 2 + 1, none⟩ (.bool ((V k).2))) n (k + 1) V := by
  obtain ⟨hB, hz, hf, hc⟩ := h
  have z3 : w.heap.size < w3.heap.size := Nat.lt_of_lt_of_le hz h3.size
  have B3 : Below w.heap.size w w3 := hB.trans (h3.mono (by omega))
  have fz : ∀ o, w3.frozen? ⟨w.heap.size, o, none⟩ = false := fun o => (h3.frozen (p := ⟨w.heap.size, o, none⟩) hz).trans (hf o)
  refine ⟨(by repeat (first | with_reducible exact Below.refl _ _ | with_reducible exact B3 | with_reducible refine Below.setCell ?_ (by first | omega | (simp; done) | (simp; omega)) _ | with_reducible refine bDrewN ?_ _ | with_reducible refine Below.drew ?_ | with_reducible refine Below.alloc ?_ (by first | omega | (simp; done) | (simp; omega)) _)), by simpa using z3, fun o => by simp [go_sem, fz], fun j hj => ?_⟩
  obtain ⟨c0, c1⟩ := hc j hj
  replace c0 := (h3.cell (p := ⟨w.heap.size, j * 2, none⟩) hz).trans c0
  replace c1 := (h3.cell (p := ⟨w.heap.size, j * 2 + 1, none⟩) hz).trans c1
  by_cases e : j = k
  · subst e
    simp only [if_neg (Nat.lt_irrefl j)] at c0
    simp only [if_neg (Nat.lt_irrefl j)] at c1
    simp only [if_pos (Nat.lt_succ_self j)]
    refine ⟨?_, ?_⟩
    all_goals simp [go_sem, c0, c1]
  · have ne : ∀ a b : Nat, a < 2 → b < 2 → j * 2 + a ≠ k * 2 + b := by intro a b ha hb; omega
    have q : (j < k + 1) = (j < k) := propext ⟨fun _ => by omega, fun _ => by omega⟩
    simp only [q]
    have n0_0 : ¬ j * 2 = k * 2 := by omega
    have n0_1 : ¬ j * 2 = k * 2 + 1 := by omega
    have n1_0 : ¬ j * 2 + 1 = k * 2 := by omega
    have n1_1 : ¬ j * 2 + 1 = k * 2 + 1 := by omega
    refine ⟨?_, ?_⟩
    · rw [cell_apartClock (by omega), cell_apartClock (by omega)]; exact c0
    · rw [cell_apartClock (by omega), cell_apartClock (by omega)]; exact c1
set_option maxRecDepth 20000 in
set_option maxHeartbeats 2000000 in
theorem toClockS_any (s : Option Addr) (n c : Nat) (V : Nat → Int × Bool) (w : World) (hn : (n : Int) ≤ 1048576) (HR : Hid (RowClock w s n V)) :
    Calls Tryd.prog 13 #[.slice s n c] w fun e w' => e = .returned (.slice (some ⟨w.heap.size, 0, none⟩) n n) ∧ w.heap.size < w'.heap.size ∧ OwnClock w.heap.size w' (some ⟨w.heap.size, 0, none⟩) n V ∧ Below w.heap.size w w' := by
  have hmk := make_Clock n (by omega)
  go_enter Tryd.func13, Tryd.ntmps13
  go_wp2_with fail
  go_loopw [4] (fun i wr => ∃ k : Nat, k ≤ n ∧ i = .int .i64 k ∧ ClockRow w wr n k V) (fun i _ => n - (intOf i).toNat)
  case atStart => exact ⟨0, Nat.zero_le _, rfl, rowClock_start w n V 29⟩
  case round =>
    obtain ⟨k, hk, rfl, hR⟩ := hrel
    have HK : Hid (ClockRow w wr n k V) := hR
    obtain ⟨hB, hz, hf, hc⟩ := hR
    by_cases h1 : k < n
    · obtain ⟨g, o, rfl, hg, c0, c1⟩ := HR.out k h1
      have d0 := (hB.cell (p := ⟨g, o + k * 2, none⟩) hg).trans c0
      have d1 := (hB.cell (p := ⟨g, o + k * 2 + 1, none⟩) hg).trans c1
      obtain ⟨e0, e1⟩ := hc k h1
      simp only [if_neg (Nat.lt_irrefl k)] at e0 e1
      have k1 : (k : Int) < (n : Int) := by omega
      have zg : g < wr.heap.size := Nat.lt_of_lt_of_le hg hB.size
      clear hc hB c0 c1 hg
      go_wp2_with fail
      refine (toClock_any _ _ _).mono ?_
      rintro r w3 ⟨rfl, h3⟩
      have f0 := (h3.cell (p := ⟨w.heap.size, k * 2, none⟩) hz).trans e0
      have f1 := (h3.cell (p := ⟨w.heap.size, k * 2 + 1, none⟩) hz).trans e1
      have fz : ∀ o, w3.frozen? ⟨w.heap.size, o, none⟩ = false := fun o => (h3.frozen (p := ⟨w.heap.size, o, none⟩) hz).trans (hf o)
      have z3 : w.heap.size < w3.heap.size := Nat.lt_of_lt_of_le hz h3.size
      have H3 : Hid (Below wr.heap.size wr w3) := h3
      clear e0 e1 hf h3 d0 d1
      go_wp2
      go_round
      case rel => exact ⟨k + 1, by omega, by go_num, rowClock_on h1 HK.out H3.out⟩
      case measure => simp [intOf]; omega
    · obtain rfl : k = n := by omega
      go_wp2
      go_ret
      exact ⟨rfl, hz, fun j hj => ⟨_, rfl, Nat.le_refl _, hz, hf, by have := hc j hj; simpa only [if_pos hj] using this⟩, hB⟩
end Go.Proofs.YtmoeoepinlcmdaaDoor
