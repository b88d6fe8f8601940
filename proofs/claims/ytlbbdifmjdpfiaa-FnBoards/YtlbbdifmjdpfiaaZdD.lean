/-
What is proved: lists of alarms, how they are kept; a copy in new memory by the law's own helper.
-/
import Derived.Test.YtlbbdifmjdpfiaaZdA
import Derived.Deep.OwnRows
import Derived.Deep.RegionHeld3
import Derived.Deep.DeepCutAuto
import Derived.Deep.Slices
import Derived.Test.YtlbbdifmjdpfiaaZdC
namespace Go.Proofs.Ytlbbdifmjdpfiaa
set_option maxRecDepth 40000
open Go.ChangeShapes Go.WideShapes Go.ChangeAt Go.RowKit
set_option linter.unusedVariables false
set_option linter.unusedSimpArgs false

theorem cell_apartAlarm {w : World} {b i j : Nat} {v : Value} (h : j ≠ i) : (w.setCell ⟨b, i, none⟩ v).cell? ⟨b, j, none⟩ = w.cell? ⟨b, j, none⟩ := World.cell?_setCell_other _ _ _ _ (by intro e; cases e; exact h rfl)
/-- A list of n alarms at a place. -/
def RowAlarm (w : World) (s : Option Addr) (n : Nat) (V : Nat → Int × Int × Int × Bool × Int) : Prop := ∀ j, j < n → ∃ b o, s = some ⟨b, o, none⟩ ∧ b < w.heap.size ∧ w.cell? ⟨b, o + j * 5, none⟩ = some (.int .i64 ((V j).1)) ∧ w.cell? ⟨b, o + j * 5 + 1, none⟩ = some (.int .i64 ((V j).2.1)) ∧ w.cell? ⟨b, o + j * 5 + 2, none⟩ = some (.int .i64 ((V j).2.2.1)) ∧ w.cell? ⟨b, o + j * 5 + 3, none⟩ = some (.bool ((V j).2.2.2.1)) ∧ w.cell? ⟨b, o + j * 5 + 4, none⟩ = some (.int .i64 ((V j).2.2.2.2))
theorem RowAlarm.below {w w' : World} {s : Option Addr} {n : Nat} {V : Nat → Int × Int × Int × Bool × Int} (h : RowAlarm w s n V) (hb : Below w.heap.size w w') : RowAlarm w' s n V := fun j hj => by
  obtain ⟨b, o, e, hl, c0, c1, c2, c3, c4⟩ := h j hj
  exact ⟨b, o, e, Nat.lt_of_lt_of_le hl hb.size, (hb.cell (p := ⟨b, o + j * 5, none⟩) hl).trans c0, (hb.cell (p := ⟨b, o + j * 5 + 1, none⟩) hl).trans c1, (hb.cell (p := ⟨b, o + j * 5 + 2, none⟩) hl).trans c2, (hb.cell (p := ⟨b, o + j * 5 + 3, none⟩) hl).trans c3, (hb.cell (p := ⟨b, o + j * 5 + 4, none⟩) hl).trans c4⟩
/-- A list of n alarms in a block from base on, which may be written. -/
def OwnAlarm (base : Nat) (w : World) (s : Option Addr) (n : Nat) (V : Nat → Int × Int × Int × Bool × Int) : Prop := ∀ j, j < n → ∃ b, s = some ⟨b, 0, none⟩ ∧ base ≤ b ∧ b < w.heap.size ∧ (∀ o, w.frozen? ⟨b, o, none⟩ = false) ∧ w.cell? ⟨b, j * 5, none⟩ = some (.int .i64 ((V j).1)) ∧ w.cell? ⟨b, j * 5 + 1, none⟩ = some (.int .i64 ((V j).2.1)) ∧ w.cell? ⟨b, j * 5 + 2, none⟩ = some (.int .i64 ((V j).2.2.1)) ∧ w.cell? ⟨b, j * 5 + 3, none⟩ = some (.bool ((V j).2.2.2.1)) ∧ w.cell? ⟨b, j * 5 + 4, none⟩ = some (.int .i64 ((V j).2.2.2.2))
theorem OwnAlarm.row {base : Nat} {w : World} {s : Option Addr} {n : Nat} {V : Nat → Int × Int × Int × Bool × Int} (h : OwnAlarm base w s n V) : RowAlarm w s n V := fun j hj => by
  obtain ⟨b, e, _, hl, _, c0, c1, c2, c3, c4⟩ := h j hj
  exact ⟨b, 0, e, hl, by simpa using c0, by simpa using c1, by simpa using c2, by simpa using c3, by simpa using c4⟩
theorem OwnAlarm.below {base : Nat} {w w' : World} {s : Option Addr} {n : Nat} {V : Nat → Int × Int × Int × Bool × Int} (h : OwnAlarm base w s n V) (hb : Below w.heap.size w w') : OwnAlarm base w' s n V := fun j hj => by
  obtain ⟨b, e, hB, hl, hf, c0, c1, c2, c3, c4⟩ := h j hj
  exact ⟨b, e, hB, Nat.lt_of_lt_of_le hl hb.size, fun o => (hb.frozen (p := ⟨b, o, none⟩) hl).trans (hf o), (hb.cell (p := ⟨b, j * 5, none⟩) hl).trans c0, (hb.cell (p := ⟨b, j * 5 + 1, none⟩) hl).trans c1, (hb.cell (p := ⟨b, j * 5 + 2, none⟩) hl).trans c2, (hb.cell (p := ⟨b, j * 5 + 3, none⟩) hl).trans c3, (hb.cell (p := ⟨b, j * 5 + 4, none⟩) hl).trans c4⟩
theorem OwnAlarm.mono {base base' : Nat} {w : World} {s : Option Addr} {n : Nat} {V : Nat → Int × Int × Int × Bool × Int} (h : OwnAlarm base w s n V) (hb : base' ≤ base) : OwnAlarm base' w s n V := fun j hj => by
  obtain ⟨b, e, hB, r⟩ := h j hj
  exact ⟨b, e, by omega, r⟩
theorem OwnAlarm.beside {base r : Nat} {w w' : World} {s : Option Addr} {n : Nat} {V : Nat → Int × Int × Int × Bool × Int} (h : OwnAlarm base w s n V) (hb : Beside r w w') (hr : r < base) : OwnAlarm base w' s n V := fun j hj => by
  obtain ⟨b, e, hB, hl, hf, c0, c1, c2, c3, c4⟩ := h j hj
  exact ⟨b, e, hB, Nat.lt_of_lt_of_le hl hb.2.2.2.1, fun o => (hb.frozen (p := ⟨b, o, none⟩) hl (by show b ≠ r; omega)).trans (hf o), (hb.cell (p := ⟨b, j * 5, none⟩) hl (by show b ≠ r; omega)).trans c0, (hb.cell (p := ⟨b, j * 5 + 1, none⟩) hl (by show b ≠ r; omega)).trans c1, (hb.cell (p := ⟨b, j * 5 + 2, none⟩) hl (by show b ≠ r; omega)).trans c2, (hb.cell (p := ⟨b, j * 5 + 3, none⟩) hl (by show b ≠ r; omega)).trans c3, (hb.cell (p := ⟨b, j * 5 + 4, none⟩) hl (by show b ≠ r; omega)).trans c4⟩
set_option maxHeartbeats 400000 in
theorem toAlarm_any (x0 : Int) (x1 : Int) (x2 : Int) (x3 : Bool) (x4 : Int) (w : World) : Calls Try.prog 84 #[.agg #[.int .i64 x0, .int .i64 x1, .int .i64 x2, .bool x3, .int .i64 x4]] w fun r w' => r = .returned (.agg #[.int .i64 x0, .int .i64 x1, .int .i64 x2, .bool x3, .int .i64 x4]) ∧ Below w.heap.size w w' := by
  go_enter Try.func84, Try.ntmps84
  go_wp2
  exact bodyPost_ret (v := .agg #[.int .i64 x0, .int .i64 x1, .int .i64 x2, .bool x3, .int .i64 x4]) (by simp [results, Try.results84, go_sem]) rfl ⟨rfl, (by repeat (first | with_reducible exact Below.refl _ _ | with_reducible refine Below.setCell ?_ (by first | omega | (simp; done) | (simp; omega)) _ | with_reducible refine bDrewN ?_ _ | with_reducible refine Below.drew ?_ | with_reducible refine Below.alloc ?_ (by first | omega | (simp; done) | (simp; omega)) _))⟩
theorem make_Alarm (n : Nat) (hn : n ≤ 1048576) (w : World) : (Instr.makeSlice 24 (.int .i64 (n : Int)) (.int .i64 (n : Int))).run Try.prog w = .ok (.slice (some ⟨w.heap.size, 0, none⟩) n n) (w.alloc (.cells (madeCells #[.int .i64 0, .int .i64 0, .int .i64 0, .bool false, .int .i64 0] (n * 5)) 43)) := by
  have hinfo : (Try.prog.info? 43).map (fun i => (i.zero, i.size, decide (i.bytes ≤ 80))) = some (some (.agg #[.int .i64 0, .int .i64 0, .int .i64 0, .bool false, .int .i64 0]), 5, true) := by kernel_rfl
  obtain ⟨i, hi, hzz⟩ := Option.map_eq_some_iff.1 hinfo
  simp only [Prod.mk.injEq, decide_eq_true_eq] at hzz
  obtain ⟨hz, hs, hb⟩ := hzz
  have hl : n * i.bytes ≤ 1048576 * 80 := Nat.mul_le_mul hn hb
  have hr := run_make (P := Try.prog) w 24 43 i _ Try.underlying24 hi hz .i64 .i64 n n (by omega) (Int.le_refl _) (by rw [← Int.natCast_mul]; have := Nat.mul_comm n i.bytes; omega) (by omega)
  simp only [Int.toNat_natCast, hs] at hr
  exact hr
/-- A copy on its way: k of n are there, in the block at the end of w. -/
def AlarmRow (w wr : World) (n k : Nat) (V : Nat → Int × Int × Int × Bool × Int) : Prop := Below w.heap.size w wr ∧ w.heap.size < wr.heap.size ∧ (∀ o, wr.frozen? ⟨w.heap.size, o, none⟩ = false) ∧ ∀ j, j < n → wr.cell? ⟨w.heap.size, j * 5, none⟩ = some (.int .i64 (if j < k then (V j).1 else 0)) ∧ wr.cell? ⟨w.heap.size, j * 5 + 1, none⟩ = some (.int .i64 (if j < k then (V j).2.1 else 0)) ∧ wr.cell? ⟨w.heap.size, j * 5 + 2, none⟩ = some (.int .i64 (if j < k then (V j).2.2.1 else 0)) ∧ wr.cell? ⟨w.heap.size, j * 5 + 3, none⟩ = some (.bool (if j < k then (V j).2.2.2.1 else false)) ∧ wr.cell? ⟨w.heap.size, j * 5 + 4, none⟩ = some (.int .i64 (if j < k then (V j).2.2.2.2 else 0))
theorem rowAlarm_start (w : World) (n : Nat) (V : Nat → Int × Int × Int × Bool × Int) (t : TypeId) : AlarmRow w (w.alloc (.cells (madeCells #[.int .i64 0, .int .i64 0, .int .i64 0, .bool false, .int .i64 0] (n * 5)) t)) n 0 V := by
  refine ⟨below0 _ _, by simp, fun o => by simp [go_sem], fun j hj => ?_⟩
  have m0 : (madeCells #[.int .i64 0, .int .i64 0, .int .i64 0, .bool false, .int .i64 0] (n * 5))[j * 5]? = some (.int .i64 0) := by
    have hj : j * 5 < n * 5 := by omega
    simp only [madeCells, Array.getElem?_map, Array.getElem?_range, hj, if_true, Option.map_some]
    have h : (j * 5) % 5 = 0 := by omega
    show some ((#[Value.int .i64 0, Value.int .i64 0, Value.int .i64 0, Value.bool false, Value.int .i64 0] : Array Value)[(j * 5) % 5]!) = _
    rw [h]; rfl
  have m1 : (madeCells #[.int .i64 0, .int .i64 0, .int .i64 0, .bool false, .int .i64 0] (n * 5))[j * 5 + 1]? = some (.int .i64 0) := by
    have hj : j * 5 + 1 < n * 5 := by omega
    simp only [madeCells, Array.getElem?_map, Array.getElem?_range, hj, if_true, Option.map_some]
    have h : (j * 5 + 1) % 5 = 1 := by omega
    show some ((#[Value.int .i64 0, Value.int .i64 0, Value.int .i64 0, Value.bool false, Value.int .i64 0] : Array Value)[(j * 5 + 1) % 5]!) = _
    rw [h]; rfl
  have m2 : (madeCells #[.int .i64 0, .int .i64 0, .int .i64 0, .bool false, .int .i64 0] (n * 5))[j * 5 + 2]? = some (.int .i64 0) := by
    have hj : j * 5 + 2 < n * 5 := by omega
    simp only [madeCells, Array.getElem?_map, Array.getElem?_range, hj, if_true, Option.map_some]
    have h : (j * 5 + 2) % 5 = 2 := by omega
    show some ((#[Value.int .i64 0, Value.int .i64 0, Value.int .i64 0, Value.bool false, Value.int .i64 0] : Array Value)[(j * 5 + 2) % 5]!) = _
    rw [h]; rfl
  have m3 : (madeCells #[.int .i64 0, .int .i64 0, .int .i64 0, .bool false, .int .i64 0] (n * 5))[j * 5 + 3]? = some (.bool false) := by
    have hj : j * 5 + 3 < n * 5 := by omega
    simp only [madeCells, Array.getElem?_map, Array.getElem?_range, hj, if_true, Option.map_some]
    have h : (j * 5 + 3) % 5 = 3 := by omega
    show some ((#[Value.int .i64 0, Value.int .i64 0, Value.int .i64 0, Value.bool false, Value.int .i64 0] : Array Value)[(j * 5 + 3) % 5]!) = _
    rw [h]; rfl
  have m4 : (madeCells #[.int .i64 0, .int .i64 0, .int .i64 0, .bool false, .int .i64 0] (n * 5))[j * 5 + 4]? = some (.int .i64 0) := by
    have hj : j * 5 + 4 < n * 5 := by omega
    simp only [madeCells, Array.getElem?_map, Array.getElem?_range, hj, if_true, Option.map_some]
    have h : (j * 5 + 4) % 5 = 4 := by omega
    show some ((#[Value.int .i64 0, Value.int .i64 0, Value.int .i64 0, Value.bool false, Value.int .i64 0] : Array Value)[(j * 5 + 4) % 5]!) = _
    rw [h]; rfl
  rw [if_neg (by omega), if_neg (by omega), if_neg (by omega), if_neg (by omega), if_neg (by omega)]
  refine ⟨?_, ?_, ?_, ?_, ?_⟩
  · simpa [go_sem] using m0
  · simpa [go_sem] using m1
  · simpa [go_sem] using m2
  · simpa [go_sem] using m3
  · simpa [go_sem] using m4
theorem rowAlarm_on {w wr w3 : World} {n k : Nat} {V : Nat → Int × Int × Int × Bool × Int} (hk : k < n) (h : AlarmRow w wr n k V) (h3 : Below wr.heap.size wr w3) : AlarmRow w (((((w3.setCell ⟨w.heap.size, k * 5, none⟩ (.int .i64 ((V k).1))).setCell ⟨w.heap.size, k * 5 + 1, none⟩ (.int .i64 ((V k).2.1))).setCell ⟨w.heap.size, k * 5 + 2, none⟩ (.int .i64 ((V k).2.2.1))).setCell ⟨w.heap.size, k * 5 + 3, none⟩ (.bool ((V k).2.2.2.1))).setCell ⟨w.heap.size, k * 5 + 4, none⟩ (.int .i64 ((V k).2.2.2.2))) n (k + 1) V := by
  obtain ⟨hB, hz, hf, hc⟩ := h
  have z3 : w.heap.size < w3.heap.size := Nat.lt_of_lt_of_le hz h3.size
  have B3 : Below w.heap.size w w3 := hB.trans (h3.mono (by omega))
  have fz : ∀ o, w3.frozen? ⟨w.heap.size, o, none⟩ = false := fun o => (h3.frozen (p := ⟨w.heap.size, o, none⟩) hz).trans (hf o)
  refine ⟨(by repeat (first | with_reducible exact Below.refl _ _ | with_reducible exact B3 | with_reducible refine Below.setCell ?_ (by first | omega | (simp; done) | (simp; omega)) _ | with_reducible refine bDrewN ?_ _ | with_reducible refine Below.drew ?_ | with_reducible refine Below.alloc ?_ (by first | omega | (simp; done) | (simp; omega)) _)), by simpa using z3, fun o => by simp [go_sem, fz], fun j hj => ?_⟩
  obtain ⟨c0, c1, c2, c3, c4⟩ := hc j hj
  replace c0 := (h3.cell (p := ⟨w.heap.size, j * 5, none⟩) hz).trans c0
  replace c1 := (h3.cell (p := ⟨w.heap.size, j * 5 + 1, none⟩) hz).trans c1
  replace c2 := (h3.cell (p := ⟨w.heap.size, j * 5 + 2, none⟩) hz).trans c2
  replace c3 := (h3.cell (p := ⟨w.heap.size, j * 5 + 3, none⟩) hz).trans c3
  replace c4 := (h3.cell (p := ⟨w.heap.size, j * 5 + 4, none⟩) hz).trans c4
  by_cases e : j = k
  · subst e
    simp only [if_neg (Nat.lt_irrefl j)] at c0
    simp only [if_neg (Nat.lt_irrefl j)] at c1
    simp only [if_neg (Nat.lt_irrefl j)] at c2
    simp only [if_neg (Nat.lt_irrefl j)] at c3
    simp only [if_neg (Nat.lt_irrefl j)] at c4
    simp only [if_pos (Nat.lt_succ_self j)]
    refine ⟨?_, ?_, ?_, ?_, ?_⟩
    all_goals simp [go_sem, c0, c1, c2, c3, c4]
  · have ne : ∀ a b : Nat, a < 5 → b < 5 → j * 5 + a ≠ k * 5 + b := by intro a b ha hb; omega
    have q : (j < k + 1) = (j < k) := propext ⟨fun _ => by omega, fun _ => by omega⟩
    simp only [q]
    have n0_0 : ¬ j * 5 = k * 5 := by omega
    have n0_1 : ¬ j * 5 = k * 5 + 1 := by omega
    have n0_2 : ¬ j * 5 = k * 5 + 2 := by omega
    have n0_3 : ¬ j * 5 = k * 5 + 3 := by omega
    have n0_4 : ¬ j * 5 = k * 5 + 4 := by omega
    have n1_0 : ¬ j * 5 + 1 = k * 5 := by omega
    have n1_1 : ¬ j * 5 + 1 = k * 5 + 1 := by omega
    have n1_2 : ¬ j * 5 + 1 = k * 5 + 2 := by omega
    have n1_3 : ¬ j * 5 + 1 = k * 5 + 3 := by omega
    have n1_4 : ¬ j * 5 + 1 = k * 5 + 4 := by omega
    have n2_0 : ¬ j * 5 + 2 = k * 5 := by omega
    have n2_1 : ¬ j * 5 + 2 = k * 5 + 1 := by omega
    have n2_2 : ¬ j * 5 + 2 = k * 5 + 2 := by omega
    have n2_3 : ¬ j * 5 + 2 = k * 5 + 3 := by omega
    have n2_4 : ¬ j * 5 + 2 = k * 5 + 4 := by omega
    have n3_0 : ¬ j * 5 + 3 = k * 5 := by omega
    have n3_1 : ¬ j * 5 + 3 = k * 5 + 1 := by omega
    have n3_2 : ¬ j * 5 + 3 = k * 5 + 2 := by omega
    have n3_3 : ¬ j * 5 + 3 = k * 5 + 3 := by omega
    have n3_4 : ¬ j * 5 + 3 = k * 5 + 4 := by omega
    have n4_0 : ¬ j * 5 + 4 = k * 5 := by omega
    have n4_1 : ¬ j * 5 + 4 = k * 5 + 1 := by omega
    have n4_2 : ¬ j * 5 + 4 = k * 5 + 2 := by omega
    have n4_3 : ¬ j * 5 + 4 = k * 5 + 3 := by omega
    have n4_4 : ¬ j * 5 + 4 = k * 5 + 4 := by omega
    refine ⟨?_, ?_, ?_, ?_, ?_⟩
    · rw [cell_apartAlarm (by omega), cell_apartAlarm (by omega), cell_apartAlarm (by omega), cell_apartAlarm (by omega), cell_apartAlarm (by omega)]; exact c0
    · rw [cell_apartAlarm (by omega), cell_apartAlarm (by omega), cell_apartAlarm (by omega), cell_apartAlarm (by omega), cell_apartAlarm (by omega)]; exact c1
    · rw [cell_apartAlarm (by omega), cell_apartAlarm (by omega), cell_apartAlarm (by omega), cell_apartAlarm (by omega), cell_apartAlarm (by omega)]; exact c2
    · rw [cell_apartAlarm (by omega), cell_apartAlarm (by omega), cell_apartAlarm (by omega), cell_apartAlarm (by omega), cell_apartAlarm (by omega)]; exact c3
    · rw [cell_apartAlarm (by omega), cell_apartAlarm (by omega), cell_apartAlarm (by omega), cell_apartAlarm (by omega), cell_apartAlarm (by omega)]; exact c4
set_option maxRecDepth 20000 in
set_option maxHeartbeats 2000000 in
theorem toAlarmS_any (s : Option Addr) (n c : Nat) (V : Nat → Int × Int × Int × Bool × Int) (w : World) (hn : (n : Int) ≤ 1048576) (HR : Hid (RowAlarm w s n V)) :
    Calls Try.prog 55 #[.slice s n c] w fun e w' => e = .returned (.slice (some ⟨w.heap.size, 0, none⟩) n n) ∧ w.heap.size < w'.heap.size ∧ OwnAlarm w.heap.size w' (some ⟨w.heap.size, 0, none⟩) n V ∧ Below w.heap.size w w' := by
  have hmk := make_Alarm n (by omega)
  go_enter Try.func55, Try.ntmps55
  go_wp2_with fail
  go_loopw [4] (fun i wr => ∃ k : Nat, k ≤ n ∧ i = .int .i64 k ∧ AlarmRow w wr n k V) (fun i _ => n - (intOf i).toNat)
  case atStart => exact ⟨0, Nat.zero_le _, rfl, rowAlarm_start w n V 43⟩
  case round =>
    obtain ⟨k, hk, rfl, hR⟩ := hrel
    have HK : Hid (AlarmRow w wr n k V) := hR
    obtain ⟨hB, hz, hf, hc⟩ := hR
    by_cases h1 : k < n
    · obtain ⟨g, o, rfl, hg, c0, c1, c2, c3, c4⟩ := HR.out k h1
      have d0 := (hB.cell (p := ⟨g, o + k * 5, none⟩) hg).trans c0
      have d1 := (hB.cell (p := ⟨g, o + k * 5 + 1, none⟩) hg).trans c1
      have d2 := (hB.cell (p := ⟨g, o + k * 5 + 2, none⟩) hg).trans c2
      have d3 := (hB.cell (p := ⟨g, o + k * 5 + 3, none⟩) hg).trans c3
      have d4 := (hB.cell (p := ⟨g, o + k * 5 + 4, none⟩) hg).trans c4
      obtain ⟨e0, e1, e2, e3, e4⟩ := hc k h1
      simp only [if_neg (Nat.lt_irrefl k)] at e0 e1 e2 e3 e4
      have k1 : (k : Int) < (n : Int) := by omega
      have zg : g < wr.heap.size := Nat.lt_of_lt_of_le hg hB.size
      clear hc hB c0 c1 c2 c3 c4 hg
      go_wp2_with fail
      refine (toAlarm_any _ _ _ _ _ _).mono ?_
      rintro r w3 ⟨rfl, h3⟩
      have f0 := (h3.cell (p := ⟨w.heap.size, k * 5, none⟩) hz).trans e0
      have f1 := (h3.cell (p := ⟨w.heap.size, k * 5 + 1, none⟩) hz).trans e1
      have f2 := (h3.cell (p := ⟨w.heap.size, k * 5 + 2, none⟩) hz).trans e2
      have f3 := (h3.cell (p := ⟨w.heap.size, k * 5 + 3, none⟩) hz).trans e3
      have f4 := (h3.cell (p := ⟨w.heap.size, k * 5 + 4, none⟩) hz).trans e4
      have fz : ∀ o, w3.frozen? ⟨w.heap.size, o, none⟩ = false := fun o => (h3.frozen (p := ⟨w.heap.size, o, none⟩) hz).trans (hf o)
      have z3 : w.heap.size < w3.heap.size := Nat.lt_of_lt_of_le hz h3.size
      have H3 : Hid (Below wr.heap.size wr w3) := h3
      clear e0 e1 e2 e3 e4 hf h3 d0 d1 d2 d3 d4
      go_wp2
      go_round
      case rel => exact ⟨k + 1, by omega, by go_num, rowAlarm_on h1 HK.out H3.out⟩
      case measure => simp [intOf]; omega
    · obtain rfl : k = n := by omega
      go_wp2
      go_ret
      exact ⟨rfl, hz, fun j hj => ⟨_, rfl, Nat.le_refl _, hz, hf, by have := hc j hj; simpa only [if_pos hj] using this⟩, hB⟩

open Go.ChangeShapes Go.WideShapes Go.ChangeAt Go.RowKit
set_option linter.unusedVariables false
set_option linter.unusedSimpArgs false

set_option maxHeartbeats 400000 in
theorem szAlarmS_on (s : Option Addr) (n c : Nat) (l : Int) (w : World) (h0 : 0 ≤ l) (h1 : l ≤ 1048576) (hn : (n : Int) ≤ l) : Calls Try.prog 54 #[.slice s n c, .int .i64 l] w fun e w' => e = .returned (.int .i64 (l - (n : Int))) ∧ w' = w := by
  go_enter Try.func54, Try.ntmps54
  go_wp2
  go_ret
  exact ⟨ret_int rfl, rfl⟩
set_option maxHeartbeats 400000 in
theorem szAlarmS_off (s : Option Addr) (n c : Nat) (l : Int) (w : World) (h0 : 0 ≤ l) (h1 : l ≤ 1048576) (hn : l < (n : Int)) (hn2 : (n : Int) ≤ 9223372036854775807) : Calls Try.prog 54 #[.slice s n c, .int .i64 l] w fun e w' => e = .returned (.int .i64 (-1)) ∧ w' = w := by
  go_enter Try.func54, Try.ntmps54
  go_wp2
  go_ret
  exact ⟨ret_int rfl, rfl⟩
set_option maxHeartbeats 400000 in
theorem eqAlarm_any (x0 : Int) (x1 : Int) (x2 : Int) (x3 : Bool) (x4 : Int) (w : World) : Calls Try.prog 85 #[.agg #[.int .i64 x0, .int .i64 x1, .int .i64 x2, .bool x3, .int .i64 x4], .agg #[.int .i64 x0, .int .i64 x1, .int .i64 x2, .bool x3, .int .i64 x4]] w fun r w' => r = .returned (.bool true) ∧ Below w.heap.size w w' := by
  cases x3 <;> (
    go_enter Try.func85, Try.ntmps85
    go_wp2
    go_ret
    exact ⟨rfl, (by repeat (first | with_reducible exact Below.refl _ _ | with_reducible refine Below.setCell ?_ (by first | omega | (simp; done) | (simp; omega)) _ | with_reducible refine bDrewN ?_ _ | with_reducible refine Below.drew ?_ | with_reducible refine Below.alloc ?_ (by first | omega | (simp; done) | (simp; omega)) _))⟩)
theorem keepAlarm {W W' : World} {p q i0 j0 i1 j1 i2 j2 i3 j3 i4 j4 : Nat} {a0 b0 a1 b1 a2 b2 a3 b3 a4 b4 : Value} (h0 : W.cell? ⟨p, i0, none⟩ = some a0) (h1 : W.cell? ⟨p, i1, none⟩ = some a1) (h2 : W.cell? ⟨p, i2, none⟩ = some a2) (h3 : W.cell? ⟨p, i3, none⟩ = some a3) (h4 : W.cell? ⟨p, i4, none⟩ = some a4) (g0 : W.cell? ⟨q, j0, none⟩ = some b0) (g1 : W.cell? ⟨q, j1, none⟩ = some b1) (g2 : W.cell? ⟨q, j2, none⟩ = some b2) (g3 : W.cell? ⟨q, j3, none⟩ = some b3) (g4 : W.cell? ⟨q, j4, none⟩ = some b4) (hp : p < W.heap.size) (hq : q < W.heap.size) (hb : Below W.heap.size W W') :
    W'.cell? ⟨p, i0, none⟩ = some a0 ∧ W'.cell? ⟨p, i1, none⟩ = some a1 ∧ W'.cell? ⟨p, i2, none⟩ = some a2 ∧ W'.cell? ⟨p, i3, none⟩ = some a3 ∧ W'.cell? ⟨p, i4, none⟩ = some a4 ∧ W'.cell? ⟨q, j0, none⟩ = some b0 ∧ W'.cell? ⟨q, j1, none⟩ = some b1 ∧ W'.cell? ⟨q, j2, none⟩ = some b2 ∧ W'.cell? ⟨q, j3, none⟩ = some b3 ∧ W'.cell? ⟨q, j4, none⟩ = some b4 :=
  ⟨(hb.cell (p := ⟨p, i0, none⟩) hp).trans h0, (hb.cell (p := ⟨p, i1, none⟩) hp).trans h1, (hb.cell (p := ⟨p, i2, none⟩) hp).trans h2, (hb.cell (p := ⟨p, i3, none⟩) hp).trans h3, (hb.cell (p := ⟨p, i4, none⟩) hp).trans h4, (hb.cell (p := ⟨q, j0, none⟩) hq).trans g0, (hb.cell (p := ⟨q, j1, none⟩) hq).trans g1, (hb.cell (p := ⟨q, j2, none⟩) hq).trans g2, (hb.cell (p := ⟨q, j3, none⟩) hq).trans g3, (hb.cell (p := ⟨q, j4, none⟩) hq).trans g4⟩
set_option maxRecDepth 20000 in
set_option maxHeartbeats 2000000 in
theorem eqAlarmS_any (s t : Option Addr) (n c d : Nat) (V : Nat → Int × Int × Int × Bool × Int) (w : World) (hn : (n : Int) ≤ 1048576) (HR : Hid (RowAlarm w s n V)) (HT : Hid (RowAlarm w t n V)) :
    Calls Try.prog 56 #[.slice s n c, .slice t n d] w fun e w' => e = .returned (.bool true) ∧ Below w.heap.size w w' := by
  go_enter Try.func56, Try.ntmps56
  go_wp2_with fail
  go_loopw [5] (fun i wr => ∃ k : Nat, k ≤ n ∧ i = .int .i64 k ∧ Below w.heap.size w wr) (fun i _ => n - (intOf i).toNat)
  case atStart => exact ⟨0, Nat.zero_le _, rfl, Below.refl _ _⟩
  case round =>
    obtain ⟨k, hk, rfl, hB⟩ := hrel
    by_cases h1 : k < n
    · obtain ⟨g, o, rfl, hg, c0, c1, c2, c3, c4⟩ := HR.out k h1
      obtain ⟨p, q, rfl, hp, d0, d1, d2, d3, d4⟩ := HT.out k h1
      have u0 := (hB.cell (p := ⟨g, o + k * 5, none⟩) hg).trans c0
      have u1 := (hB.cell (p := ⟨g, o + k * 5 + 1, none⟩) hg).trans c1
      have u2 := (hB.cell (p := ⟨g, o + k * 5 + 2, none⟩) hg).trans c2
      have u3 := (hB.cell (p := ⟨g, o + k * 5 + 3, none⟩) hg).trans c3
      have u4 := (hB.cell (p := ⟨g, o + k * 5 + 4, none⟩) hg).trans c4
      have v0 := (hB.cell (p := ⟨p, q + k * 5, none⟩) hp).trans d0
      have v1 := (hB.cell (p := ⟨p, q + k * 5 + 1, none⟩) hp).trans d1
      have v2 := (hB.cell (p := ⟨p, q + k * 5 + 2, none⟩) hp).trans d2
      have v3 := (hB.cell (p := ⟨p, q + k * 5 + 3, none⟩) hp).trans d3
      have v4 := (hB.cell (p := ⟨p, q + k * 5 + 4, none⟩) hp).trans d4
      have k1 : (k : Int) < (n : Int) := by omega
      have zg : g < wr.heap.size := Nat.lt_of_lt_of_le hg hB.size
      have zp : p < wr.heap.size := Nat.lt_of_lt_of_le hp hB.size
      have HB : Hid (Below w.heap.size w wr) := hB
      clear hB c0 d0 c1 d1 c2 d2 c3 d3 c4 d4 hg hp
      go_wp2_with fail
      go_region_held3 (fun w' => w'.cell? ⟨g, o + k * 5, none⟩ = some (.int .i64 ((V k).1)) ∧ w'.cell? ⟨g, o + k * 5 + 1, none⟩ = some (.int .i64 ((V k).2.1)) ∧ w'.cell? ⟨g, o + k * 5 + 2, none⟩ = some (.int .i64 ((V k).2.2.1)) ∧ w'.cell? ⟨g, o + k * 5 + 3, none⟩ = some (.bool ((V k).2.2.2.1)) ∧ w'.cell? ⟨g, o + k * 5 + 4, none⟩ = some (.int .i64 ((V k).2.2.2.2)) ∧ w'.cell? ⟨p, q + k * 5, none⟩ = some (.int .i64 ((V k).1)) ∧ w'.cell? ⟨p, q + k * 5 + 1, none⟩ = some (.int .i64 ((V k).2.1)) ∧ w'.cell? ⟨p, q + k * 5 + 2, none⟩ = some (.int .i64 ((V k).2.2.1)) ∧ w'.cell? ⟨p, q + k * 5 + 3, none⟩ = some (.bool ((V k).2.2.2.1)) ∧ w'.cell? ⟨p, q + k * 5 + 4, none⟩ = some (.int .i64 ((V k).2.2.2.2))) (first | (refine keepAlarm u0 u1 u2 u3 u4 v0 v1 v2 v3 v4 zg zp ?_; exact (by repeat (first | with_reducible exact Below.refl _ _ | with_reducible exact B3 | with_reducible refine Below.setCell ?_ (by first | omega | (simp; done) | (simp; omega)) _ | with_reducible refine bDrewN ?_ _ | with_reducible refine Below.drew ?_ | with_reducible refine Below.alloc ?_ (by first | omega | (simp; done) | (simp; omega)) _)))) (first
        | (go_at_call 85; refine (eqAlarm_any _ _ _ _ _ _).mono ?_; rintro r w3 ⟨rfl, h3⟩; have B3 : Below wr.heap.size wr w3 := Below.trans (by repeat (first | with_reducible exact Below.refl _ _ | with_reducible refine Below.setCell ?_ (by first | omega | (simp; done) | (simp; omega)) _ | with_reducible refine bDrewN ?_ _ | with_reducible refine Below.drew ?_ | with_reducible refine Below.alloc ?_ (by first | omega | (simp; done) | (simp; omega)) _)) (h3.mono (by first | omega | (simp; done) | (simp; omega)))))
      all_goals
        have B4 : Below w.heap.size w w3 := HB.out.trans (B3.mono HB.out.size)
        go_wp2
        go_round
        case rel => exact ⟨k + 1, by omega, by go_num, (by repeat (first | with_reducible exact Below.refl _ _ | with_reducible exact B4 | with_reducible refine Below.setCell ?_ (by first | omega | (simp; done) | (simp; omega)) _ | with_reducible refine bDrewN ?_ _ | with_reducible refine Below.drew ?_ | with_reducible refine Below.alloc ?_ (by first | omega | (simp; done) | (simp; omega)) _))⟩
        case measure => simp [intOf]; omega
    · obtain rfl : k = n := by omega
      go_wp2
      go_ret
      exact ⟨rfl, (by repeat (first | with_reducible exact Below.refl _ _ | with_reducible exact hB | with_reducible refine Below.setCell ?_ (by first | omega | (simp; done) | (simp; omega)) _ | with_reducible refine bDrewN ?_ _ | with_reducible refine Below.drew ?_ | with_reducible refine Below.alloc ?_ (by first | omega | (simp; done) | (simp; omega)) _))⟩

/-- THE LIST OPENED. -/
theorem open_AlarmS {H : Type} {enc : TypeId × Value → H} {w : World} {b0 : Nat} {t e : TypeId} {f0 f1 f2 f3 f4 : Field} {v : Value} {d : DataW H} {ps : List MemPlace} {sp : Nat → Bool} {held : Bool} (ht : Try.prog.underlying t = some (.slice e)) (he : Try.prog.underlying e = some (.struct #[f0, f1, f2, f3, f4]))
    (ce : Try.prog.cellsOf e = 5) (o0 : f0.offset = 0) (o1 : f1.offset = 1) (o2 : f2.offset = 2) (o3 : f3.offset = 3) (o4 : f4.offset = 4) (c0 : Try.prog.cellsOf f0.type = 1) (c1 : Try.prog.cellsOf f1.type = 1) (c2 : Try.prog.cellsOf f2.type = 1) (c3 : Try.prog.cellsOf f3.type = 1) (c4 : Try.prog.cellsOf f4.type = 1) (i0 : Try.prog.underlying f0.type = some (.int .i64)) (i1 : Try.prog.underlying f1.type = some (.int .i64)) (i2 : Try.prog.underlying f2.type = some (.int .i64)) (i3 : Try.prog.underlying f3.type = some (.bool)) (i4 : Try.prog.underlying f4.type = some (.int .i64))
    (hv : Value.okWide Try.prog w .any b0 t v) (h : DataW.Trod enc Try.prog w 0 sp held t v d ps) : ∃ s n c V, v = .slice s n c ∧ n ≤ 9223372036854775807 ∧ RowAlarm w s n V := by
  have hsl : ∃ s n c, v = .slice s n c := by
    simp only [Value.okWide, ht, Cell.okWide] at hv
    cases v <;> simp_all [Cell.ok]
  obtain ⟨s, n, c, rfl⟩ := hsl
  obtain ⟨fuel, hf⟩ := h
  have hf' : DataW.trod enc Try.prog w 0 sp held fuel t [.slice s n c] = some (d, ps) := hf
  rcases Go.Deep.open_slice ht hf' with ⟨e1, _⟩ | ⟨a, len, cap, m, k, D, Pl, e1, _, hl, hm, hmm, _, hx⟩
  · simp only [List.cons.injEq, and_true, Value.slice.injEq] at e1
    obtain ⟨rfl, rfl, rfl⟩ := e1
    exact ⟨none, 0, 0, fun _ => (0, 0, 0, false, 0), rfl, by omega, fun j hj => by omega⟩
  · simp only [List.cons.injEq, and_true, Value.slice.injEq] at e1
    obtain ⟨rfl, rfl, rfl⟩ := e1
    have hsp := slice_spot ht hv
    obtain ⟨b, o, spot⟩ := a
    simp only at hsp
    subst hsp
    have hle : n ≤ m := by rw [hmm]; split <;> omega
    have each : ∀ i, i < n → ∃ z : Int × Int × Int × Bool × Int, w.cell? ⟨b, o + i * 5, none⟩ = some (.int .i64 (z.1)) ∧ w.cell? ⟨b, o + (i * 5 + 1), none⟩ = some (.int .i64 (z.2.1)) ∧ w.cell? ⟨b, o + (i * 5 + 2), none⟩ = some (.int .i64 (z.2.2.1)) ∧ w.cell? ⟨b, o + (i * 5 + 3), none⟩ = some (.bool (z.2.2.2.1)) ∧ w.cell? ⟨b, o + (i * 5 + 4), none⟩ = some (.int .i64 (z.2.2.2.2)) := by
      intro i hi
      obtain ⟨cs', h1, h2⟩ := hx i (by omega)
      rw [ce] at h1
      obtain ⟨_, hlen, hcell⟩ := World.cells?_some h1
      obtain ⟨xs, k', hk, hxy, _, hxl, hf⟩ := DataW.trod_struct he h2
      match xs, hxl, cs', hlen with
      | [y0, y1, y2, y3, y4], _, [v0, v1, v2, v3, v4], _ =>
        have g0 := hf 0 f0 rfl
        have g1 := hf 1 f1 rfl
        have g2 := hf 2 f2 rfl
        have g3 := hf 3 f3 rfl
        have g4 := hf 4 f4 rfl
        simp [o0, c0, o1, c1, o2, c2, o3, c3, o4, c4] at g0 g1 g2 g3 g4
        have e0 := hcell 0 (by omega)
        have e1 := hcell 1 (by omega)
        have e2 := hcell 2 (by omega)
        have e3 := hcell 3 (by omega)
        have e4 := hcell 4 (by omega)
        rw [Go.Deep.add_add, addr_add] at e0 e1 e2 e3 e4
        obtain ⟨z0, q0, _, _⟩ := DataW.trod_int i0 g0
        obtain ⟨z1, q1, _, _⟩ := DataW.trod_int i1 g1
        obtain ⟨z2, q2, _, _⟩ := DataW.trod_int i2 g2
        obtain ⟨z3, q3, _, _⟩ := DataW.trod_bool i3 g3
        obtain ⟨z4, q4, _, _⟩ := DataW.trod_int i4 g4
        simp only [List.cons.injEq, and_true] at q0 q1 q2 q3 q4
        subst q0 q1 q2 q3 q4
        exact ⟨(z0, z1, z2, z3, z4), by simpa using e0, by simpa using e1, by simpa using e2, by simpa using e3, by simpa using e4⟩
    obtain ⟨f, hfn⟩ := Go.Deep.choose_lt each
    refine ⟨some ⟨b, o, none⟩, n, c, f, rfl, ?_, fun j hj => ?_⟩
    · have : maxLen = 9223372036854775807 := by decide
      omega
    · obtain ⟨h0, h1, h2, h3, h4⟩ := hfn j hj
      exact ⟨b, o, rfl, cell_lt h0, by simpa [Nat.add_assoc] using h0, by simpa [Nat.add_assoc] using h1, by simpa [Nat.add_assoc] using h2, by simpa [Nat.add_assoc] using h3, by simpa [Nat.add_assoc] using h4⟩

open Go.ChangeShapes Go.WideShapes Go.ChangeAt Go.RowKit
set_option linter.unusedVariables false
set_option linter.unusedSimpArgs false

/-- A list in the block b, on its way: nothing else has turned. -/
def AlarmAt (b n : Nat) (w wr : World) : Prop := Beside b w wr ∧ b < wr.heap.size ∧ (∀ o, wr.frozen? ⟨b, o, none⟩ = false) ∧ ∃ U : Nat → Int × Int × Int × Bool × Int, ∀ j, j < n → wr.cell? ⟨b, j * 5, none⟩ = some (.int .i64 ((U j).1)) ∧ wr.cell? ⟨b, j * 5 + 1, none⟩ = some (.int .i64 ((U j).2.1)) ∧ wr.cell? ⟨b, j * 5 + 2, none⟩ = some (.int .i64 ((U j).2.2.1)) ∧ wr.cell? ⟨b, j * 5 + 3, none⟩ = some (.bool ((U j).2.2.2.1)) ∧ wr.cell? ⟨b, j * 5 + 4, none⟩ = some (.int .i64 ((U j).2.2.2.2))
theorem AlarmAt.on {b n j : Nat} {w wr : World} (h : AlarmAt b n w wr) (hj : j < n) (x0 : Int) (x1 : Int) (x2 : Int) (x3 : Bool) (x4 : Int) : AlarmAt b n w (((((wr.setCell ⟨b, j * 5, none⟩ (.int .i64 x0)).setCell ⟨b, j * 5 + 1, none⟩ (.int .i64 x1)).setCell ⟨b, j * 5 + 2, none⟩ (.int .i64 x2)).setCell ⟨b, j * 5 + 3, none⟩ (.bool x3)).setCell ⟨b, j * 5 + 4, none⟩ (.int .i64 x4)) := by
  obtain ⟨h1, h2, h3, U, h4⟩ := h
  refine ⟨?_, by simpa using h2, fun o => by simp [go_sem, h3], fun i => if i = j then (x0, x1, x2, x3, x4) else U i, fun i hi => ?_⟩
  · exact (((((h1.trans (Beside.setCell b _ _ _)).trans (Beside.setCell b _ _ _)).trans (Beside.setCell b _ _ _)).trans (Beside.setCell b _ _ _)).trans (Beside.setCell b _ _ _))
  · obtain ⟨c0, c1, c2, c3, c4⟩ := h4 i hi
    by_cases e : i = j
    · subst e
      simp only [if_pos (rfl : i = i)]
      refine ⟨?_, ?_, ?_, ?_, ?_⟩
      all_goals simp [go_sem, c0, c1, c2, c3, c4]
    · simp only [if_neg e]
      refine ⟨?_, ?_, ?_, ?_, ?_⟩
      · rw [cell_apartAlarm (by omega), cell_apartAlarm (by omega), cell_apartAlarm (by omega), cell_apartAlarm (by omega), cell_apartAlarm (by omega)]; exact c0
      · rw [cell_apartAlarm (by omega), cell_apartAlarm (by omega), cell_apartAlarm (by omega), cell_apartAlarm (by omega), cell_apartAlarm (by omega)]; exact c1
      · rw [cell_apartAlarm (by omega), cell_apartAlarm (by omega), cell_apartAlarm (by omega), cell_apartAlarm (by omega), cell_apartAlarm (by omega)]; exact c2
      · rw [cell_apartAlarm (by omega), cell_apartAlarm (by omega), cell_apartAlarm (by omega), cell_apartAlarm (by omega), cell_apartAlarm (by omega)]; exact c3
      · rw [cell_apartAlarm (by omega), cell_apartAlarm (by omega), cell_apartAlarm (by omega), cell_apartAlarm (by omega), cell_apartAlarm (by omega)]; exact c4
set_option maxRecDepth 20000 in
set_option maxHeartbeats 4000000 in
theorem markAlarmS_at (b n c : Nat) (k : Int) (V : Nat → Int × Int × Int × Bool × Int) (w : World) (hn : (n : Int) ≤ 1048576) (k0 : 0 ≤ k) (k1 : k ≤ 100000000) (hb : AlarmAt b n w w) :
    Calls Try.prog 57 #[.slice (some ⟨b, 0, none⟩) n c, .int .i64 k] w fun e w' => e = .returned (.int .i64 (k + (n * 5 : Nat))) ∧ AlarmAt b n w w' := by
  go_enter Try.func57, Try.ntmps57
  go_wp2_with fail
  go_loopw [1, 5] (fun q i wr => ∃ j : Nat, j ≤ n ∧ i = .int .i64 j ∧ q = .int .i64 (k + (j * 5 : Nat)) ∧ AlarmAt b n w wr) (fun _ i _ => n - (intOf i).toNat)
  case atStart => exact ⟨0, Nat.zero_le _, rfl, by simp, hb⟩
  case round =>
    obtain ⟨j, hj, rfl, rfl, hR⟩ := hrel
    have HT : Hid (AlarmAt b n w wr) := hR
    obtain ⟨hB, hz, hf, U, hc⟩ := hR
    by_cases h1 : j < n
    · obtain ⟨e0, e1, e2, e3, e4⟩ := hc j h1
      have kk : (j : Int) < (n : Int) := by omega
      simp only [Int.natCast_mul, Int.cast_ofNat_Int] at ⊢
      clear hc hB
      go_wp2
      go_roundw
      case rel => exact ⟨j + 1, by omega, by go_num, by first | go_num | (congr 1; omega), AlarmAt.on HT.out h1 _ _ _ _ _⟩
      case measure => simp [intOf]; omega
    · obtain rfl : j = n := by omega
      go_wp2
      go_ret
      exact ⟨rfl, HT.out⟩
set_option maxHeartbeats 1000000 in
theorem markAlarmS_nil (s : Option Addr) (c : Nat) (k : Int) (w : World) :
    Calls Try.prog 57 #[.slice s 0 c, .int .i64 k] w fun e w' => e = .returned (.int .i64 k) ∧ w' = w := by
  go_enter Try.func57, Try.ntmps57
  go_wp2_with fail
  go_loop [1, 5] (fun q i => i = .int .i64 0 ∧ q = .int .i64 k) (fun _ i => 0)
  case atStart => exact ⟨rfl, rfl⟩
  case round =>
    obtain ⟨rfl, rfl⟩ := hrel
    go_wp2
    go_ret
    exact ⟨rfl, rfl⟩
theorem markAlarmS_own (base : Nat) (s : Option Addr) (n c : Nat) (k : Int) (V : Nat → Int × Int × Int × Bool × Int) (w : World) (hn : (n : Int) ≤ 1048576) (k0 : 0 ≤ k) (k1 : k ≤ 100000000) (hb : base ≤ w.heap.size) (HR : OwnAlarm base w s n V) :
    Calls Try.prog 57 #[.slice s n c, .int .i64 k] w fun e w' => e = .returned (.int .i64 (k + (n * 5 : Nat))) ∧ (∃ U, OwnAlarm base w' s n U) ∧ Below base w w' ∧ ∀ b, s = some ⟨b, 0, none⟩ → Beside b w w' := by
  by_cases h : n = 0
  · subst h
    refine (markAlarmS_nil s c k w).mono ?_
    rintro e w' ⟨rfl, rfl⟩
    exact ⟨by simp, ⟨V, HR⟩, Below.refl _ _, fun b _ => Beside.of (Below.refl _ _)⟩
  · obtain ⟨b, rfl, hB, hl, hf, _⟩ := HR 0 (by omega)
    have HA : AlarmAt b n w w := ⟨Beside.of (Below.refl _ _), hl, hf, V, fun j hj => by
      obtain ⟨b', e', _, _, _, r⟩ := HR j hj
      cases e'
      exact r⟩
    refine (markAlarmS_at b n c k V w hn k0 k1 HA).mono ?_
    rintro e w' ⟨rfl, h1, h2, h3, U, h4⟩
    exact ⟨rfl, ⟨U, fun j hj => ⟨b, rfl, hB, h2, h3, h4 j hj⟩⟩, h1.below hB hb, fun b' e => by cases e; exact h1⟩

open Go.ChangeShapes Go.WideShapes Go.ChangeAt Go.RowKit
set_option linter.unusedVariables false
set_option linter.unusedSimpArgs false

def AlarmR (S : Nat → Prop) (w : World) (s : Option Addr) (n : Nat) (V : Nat → Int × Int × Int × Bool × Int) : Prop := OwnAlarm 0 w s n V ∧ (0 < n → ∀ b, s = some ⟨b, 0, none⟩ → S b)
theorem AlarmR.row {S : Nat → Prop} {w : World} {s : Option Addr} {n : Nat} {V : Nat → Int × Int × Int × Bool × Int} (h : AlarmR S w s n V) : RowAlarm w s n V := h.1.row
theorem AlarmR.keep {S : Nat → Prop} {w w' : World} {s : Option Addr} {n : Nat} {V : Nat → Int × Int × Int × Bool × Int} (h : AlarmR S w s n V) (hs : w.heap.size ≤ w'.heap.size) (hb : ∀ k, S k → k < w.heap.size → w'.heap[k]? = w.heap[k]?) : AlarmR S w' s n V := ⟨fun j hj => by
  obtain ⟨b, e, hB, hl, hf, c0, c1, c2, c3, c4⟩ := h.1 j hj
  have eb := hb b (h.2 (by omega) b e) hl
  exact ⟨b, e, hB, Nat.lt_of_lt_of_le hl hs, fun o => (World.frozen?_of_block (w := w) (a := ⟨b, o, none⟩) eb).trans (hf o), (World.cell?_of_block (w := w) (a := ⟨b, j * 5, none⟩) eb).trans c0, (World.cell?_of_block (w := w) (a := ⟨b, j * 5 + 1, none⟩) eb).trans c1, (World.cell?_of_block (w := w) (a := ⟨b, j * 5 + 2, none⟩) eb).trans c2, (World.cell?_of_block (w := w) (a := ⟨b, j * 5 + 3, none⟩) eb).trans c3, (World.cell?_of_block (w := w) (a := ⟨b, j * 5 + 4, none⟩) eb).trans c4⟩, h.2⟩
theorem AlarmR.below {S : Nat → Prop} {w w' : World} {s : Option Addr} {n : Nat} {V : Nat → Int × Int × Int × Bool × Int} (h : AlarmR S w s n V) (hb : Below w.heap.size w w') : AlarmR S w' s n V := h.keep hb.size fun k _ hk => hb.block k hk
theorem AlarmR.set {S : Nat → Prop} {w : World} {s : Option Addr} {n : Nat} {V : Nat → Int × Int × Int × Bool × Int} {r o : Nat} {u : Value} (h : AlarmR S w s n V) (hr : ¬ S r) : AlarmR S (w.setCell ⟨r, o, none⟩ u) s n V := h.keep (by simp) fun k hk hl => set_block hl (fun e => hr (e ▸ hk))
theorem AlarmR.widen {S S' : Nat → Prop} {w : World} {s : Option Addr} {n : Nat} {V : Nat → Int × Int × Int × Bool × Int} (h : AlarmR S w s n V) (hs : ∀ k, S k → S' k) : AlarmR S' w s n V := ⟨h.1, fun a b c => hs b (h.2 a b c)⟩
theorem AlarmR.of {base : Nat} {w : World} {s : Option Addr} {n : Nat} {V : Nat → Int × Int × Int × Bool × Int} (h : OwnAlarm base w s n V) : AlarmR (fun k => base ≤ k ∧ k < w.heap.size) w s n V := ⟨h.mono (Nat.zero_le _), fun hn b e => by
  obtain ⟨b', e', h1, h2, _⟩ := h 0 hn
  rw [e] at e'
  cases e'
  exact ⟨h1, h2⟩⟩
theorem toAlarmS_r (s : Option Addr) (n c : Nat) (V : Nat → Int × Int × Int × Bool × Int) (w : World) (hn : (n : Int) ≤ 1048576) (HR : Hid (RowAlarm w s n V)) :
    Calls Try.prog 55 #[.slice s n c] w fun e w' => ∃ (s' : Option Addr) (S : Nat → Prop), e = .returned (.slice s' n n) ∧ (∀ k, S k → w.heap.size ≤ k ∧ k < w'.heap.size) ∧ AlarmR S w' s' n V ∧ Below w.heap.size w w' :=
  (toAlarmS_any s n c V w hn HR).mono fun e w' ⟨h1, h2, h3, h4⟩ => ⟨_, _, h1, fun k hk => hk, AlarmR.of h3, h4⟩
theorem markAlarmS_r (S : Nat → Prop) (s : Option Addr) (n c : Nat) (k : Int) (V : Nat → Int × Int × Int × Bool × Int) (w : World) (hn : (n : Int) ≤ 1048576) (k0 : 0 ≤ k) (k1 : k ≤ 100000000) (HR : AlarmR S w s n V) :
    Calls Try.prog 57 #[.slice s n c, .int .i64 k] w fun e w' => e = .returned (.int .i64 (k + (n * 5 : Nat))) ∧ (∃ U, AlarmR S w' s n U) ∧ Turn S w w' := by
  by_cases h : n = 0
  · subst h
    refine (markAlarmS_nil s c k w).mono ?_
    rintro e w' ⟨rfl, rfl⟩
    exact ⟨by simp, ⟨V, HR⟩, Turn.refl _ _⟩
  · obtain ⟨b, eb, _⟩ := HR.1 0 (by omega)
    have hb := HR.2 (by omega) b eb
    refine (markAlarmS_own 0 s n c k V w hn k0 k1 (Nat.zero_le _) HR.1).mono ?_
    rintro e w' ⟨rfl, ⟨U, O⟩, -, hB⟩
    exact ⟨rfl, ⟨U, O, HR.2⟩, Turn.of (hB b eb) hb⟩

open Go.ChangeShapes Go.WideShapes Go.ChangeAt Go.RowKit
set_option linter.unusedVariables false
set_option linter.unusedSimpArgs false

def RowBoard (w : World) (s1 : Option Addr) (n1 : Nat) (V1 : Nat → Int × Int × Int × Bool × Int) : Prop := RowAlarm w s1 n1 V1
theorem RowBoard.below {w w' : World} {s1 : Option Addr} {n1 : Nat} {V1 : Nat → Int × Int × Int × Bool × Int} (h : RowBoard w s1 n1 V1) (hb : Below w.heap.size w w') : RowBoard w' s1 n1 V1 := RowAlarm.below h hb
def BoardR (S : Nat → Prop) (w : World) (s1 : Option Addr) (n1 : Nat) (V1 : Nat → Int × Int × Int × Bool × Int) : Prop := AlarmR S w s1 n1 V1
theorem BoardR.row {S : Nat → Prop} {w : World} {s1 : Option Addr} {n1 : Nat} {V1 : Nat → Int × Int × Int × Bool × Int} (h : BoardR S w s1 n1 V1) : RowBoard w s1 n1 V1 := AlarmR.row h
theorem BoardR.keep {S : Nat → Prop} {w w' : World} {s1 : Option Addr} {n1 : Nat} {V1 : Nat → Int × Int × Int × Bool × Int} (h : BoardR S w s1 n1 V1) (hs : w.heap.size ≤ w'.heap.size) (hb : ∀ k, S k → k < w.heap.size → w'.heap[k]? = w.heap[k]?) : BoardR S w' s1 n1 V1 := AlarmR.keep h hs hb
theorem BoardR.below {S : Nat → Prop} {w w' : World} {s1 : Option Addr} {n1 : Nat} {V1 : Nat → Int × Int × Int × Bool × Int} (h : BoardR S w s1 n1 V1) (hb : Below w.heap.size w w') : BoardR S w' s1 n1 V1 := h.keep hb.size fun k _ hk => hb.block k hk
set_option maxHeartbeats 800000 in
theorem szBoard_on (x0 : Int) (n1 : Nat) (V1 : Nat → Int × Int × Int × Bool × Int) (s1 : Option Addr) (c1 : Nat) (k : Int) (w : World) (h0 : 0 ≤ k) (h1 : k ≤ 1048576) (g1 : (n1 : Int) ≤ k) : Calls Try.prog 17 #[.agg #[.int .i64 x0, .slice s1 n1 c1], .int .i64 k] w fun e w' => e = .returned (.int .i64 (k - n1)) ∧ Below w.heap.size w w' := by
  go_enter Try.func17, Try.ntmps17
  go_wp2_with fail
  refine (szAlarmS_on _ n1 _ _ _ (by omega) (by omega) g1).mono ?_
  rintro e w1 ⟨rfl, rfl⟩
  go_wp2
  go_ret
  exact ⟨rfl, (by repeat (first | with_reducible exact Below.refl _ _ | with_reducible refine Below.setCell ?_ (by first | omega | (simp; done) | (simp; omega)) _ | with_reducible refine bDrewN ?_ _ | with_reducible refine Below.drew ?_ | with_reducible refine Below.alloc ?_ (by first | omega | (simp; done) | (simp; omega)) _))⟩
set_option maxHeartbeats 800000 in
theorem szBoard_off1 (x0 : Int) (n1 : Nat) (V1 : Nat → Int × Int × Int × Bool × Int) (s1 : Option Addr) (c1 : Nat) (k : Int) (w : World) (h0 : 0 ≤ k) (h1 : k ≤ 1048576) (g1 : k < (n1 : Int)) (gg1 : (n1 : Int) ≤ 9223372036854775807) : Calls Try.prog 17 #[.agg #[.int .i64 x0, .slice s1 n1 c1], .int .i64 k] w fun e w' => e = .returned (.int .i64 (-1)) ∧ Below w.heap.size w w' := by
  go_enter Try.func17, Try.ntmps17
  go_wp2_with fail
  refine (szAlarmS_off _ n1 _ _ _ (by omega) (by omega) g1 gg1).mono ?_
  rintro e w1 ⟨rfl, rfl⟩
  go_wp2
  go_ret
  exact ⟨rfl, (by repeat (first | with_reducible exact Below.refl _ _ | with_reducible refine Below.setCell ?_ (by first | omega | (simp; done) | (simp; omega)) _ | with_reducible refine bDrewN ?_ _ | with_reducible refine Below.drew ?_ | with_reducible refine Below.alloc ?_ (by first | omega | (simp; done) | (simp; omega)) _))⟩
set_option maxHeartbeats 2000000 in
theorem eqBoard_r (x0 : Int) (n1 : Nat) (V1 : Nat → Int × Int × Int × Bool × Int) (s1 : Option Addr) (c1 : Nat) (t1 : Option Addr) (e1 : Nat) (w : World) (hn1 : (n1 : Int) ≤ 1048576) (H1 : Hid (RowBoard w s1 n1 V1)) (H2 : Hid (RowBoard w t1 n1 V1)) :
    Calls Try.prog 22 #[.agg #[.int .i64 x0, .slice s1 n1 c1], .agg #[.int .i64 x0, .slice t1 n1 e1]] w fun e w' => e = .returned (.bool true) ∧ Below w.heap.size w w' := by
  go_enter Try.func22, Try.ntmps22
  go_wp2_with fail
  obtain ⟨wa, hwa⟩ : ∃ x, x = (w.alloc (.cells #[.int .i64 x0, .slice s1 n1 c1] 26)).alloc (.cells #[.int .i64 x0, .slice t1 n1 e1] 26) := ⟨_, rfl⟩
  rw [← hwa]
  have B0 : Below w.heap.size w wa := by rw [hwa]; exact (by repeat (first | with_reducible exact Below.refl _ _ | with_reducible refine Below.setCell ?_ (by first | omega | (simp; done) | (simp; omega)) _ | with_reducible refine bDrewN ?_ _ | with_reducible refine Below.drew ?_ | with_reducible refine Below.alloc ?_ (by first | omega | (simp; done) | (simp; omega)) _))
  have p1 : wa.cell? ⟨w.heap.size, 1, none⟩ = some (.slice s1 n1 c1) := by rw [hwa]; simp [go_sem]
  have q1 : wa.cell? ⟨w.heap.size + 1, 1, none⟩ = some (.slice t1 n1 e1) := by rw [hwa]; simp [go_sem]
  have z : w.heap.size + 1 < wa.heap.size := by rw [hwa]; simp
  have z0 : w.heap.size < wa.heap.size := by omega
  clear hwa
  refine (eqAlarmS_any s1 t1 n1 c1 e1 V1 _ hn1 ((show RowAlarm w s1 n1 V1 from H1.out).below B0) ((show RowAlarm w t1 n1 V1 from H2.out).below B0)).mono ?_
  rintro e w0 ⟨rfl, h⟩
  replace z := Nat.lt_of_lt_of_le z h.size
  replace z0 := Nat.lt_of_lt_of_le z0 h.size
  replace B0 : Below w.heap.size w w0 := B0.trans (h.mono B0.size)
  clear h
  go_wp2
  go_ret
  exact ⟨rfl, (by repeat (first | with_reducible exact Below.refl _ _ | with_reducible exact B0 | with_reducible refine Below.setCell ?_ (by first | omega | (simp; done) | (simp; omega)) _ | with_reducible refine bDrewN ?_ _ | with_reducible refine Below.drew ?_ | with_reducible refine Below.alloc ?_ (by first | omega | (simp; done) | (simp; omega)) _))⟩
set_option maxHeartbeats 4000000 in
theorem toBoard_r (x0 : Int) (n1 : Nat) (V1 : Nat → Int × Int × Int × Bool × Int) (s1 : Option Addr) (c1 : Nat) (w : World) (hn1 : (n1 : Int) ≤ 1048576) (HR : Hid (RowBoard w s1 n1 V1)) :
    Calls Try.prog 19 #[.agg #[.int .i64 x0, .slice s1 n1 c1]] w fun e w' => ∃ (s1' : Option Addr) (S : Nat → Prop), e = .returned (.agg #[.int .i64 x0, .slice s1' n1 n1]) ∧ (∀ k, S k → w.heap.size ≤ k ∧ k < w'.heap.size) ∧ BoardR S w' s1' n1 V1 ∧ Below w.heap.size w w' := by
  have sto := store_slT
  go_enter Try.func19, Try.ntmps19
  go_wp2_with fail
  obtain ⟨wa, hwa⟩ : ∃ x, x = ((w.alloc (.cells #[.int .i64 x0, .slice s1 n1 c1] 47)).alloc (.cells #[.int .i64 0, .slice none 0 0] 26)).alloc (.cells #[.int .i64 x0, .slice none 0 0] 26) := ⟨_, rfl⟩
  rw [← hwa]
  have B0 : Below w.heap.size w wa := by rw [hwa]; exact (by repeat (first | with_reducible exact Below.refl _ _ | with_reducible refine Below.setCell ?_ (by first | omega | (simp; done) | (simp; omega)) _ | with_reducible refine bDrewN ?_ _ | with_reducible refine Below.drew ?_ | with_reducible refine Below.alloc ?_ (by first | omega | (simp; done) | (simp; omega)) _))
  have p0 : wa.cell? ⟨w.heap.size, 0, none⟩ = some (.int .i64 x0) := by rw [hwa]; simp [go_sem]
  have r0 : wa.cell? ⟨w.heap.size + 1, 0, none⟩ = some (.int .i64 0) := by rw [hwa]; simp [go_sem]
  have d0 : wa.cell? ⟨w.heap.size + 1 + 1, 0, none⟩ = some (.int .i64 x0) := by rw [hwa]; simp [go_sem]
  have p1 : wa.cell? ⟨w.heap.size, 1, none⟩ = some (.slice s1 n1 c1) := by rw [hwa]; simp [go_sem]
  have r1 : wa.cell? ⟨w.heap.size + 1, 1, none⟩ = some (.slice none 0 0) := by rw [hwa]; simp [go_sem]
  have d1 : wa.cell? ⟨w.heap.size + 1 + 1, 1, none⟩ = some (.slice none 0 0) := by rw [hwa]; simp [go_sem]
  have fr : ∀ o, wa.frozen? ⟨w.heap.size + 1, o, none⟩ = false := by intro o; rw [hwa]; simp [go_sem]
  have fd : ∀ o, wa.frozen? ⟨w.heap.size + 1 + 1, o, none⟩ = false := by intro o; rw [hwa]; simp [go_sem]
  have z2 : w.heap.size + 1 + 1 < wa.heap.size := by rw [hwa]; simp
  have z1 : w.heap.size + 1 < wa.heap.size := by omega
  have z0 : w.heap.size < wa.heap.size := by omega
  clear hwa
  refine (toAlarmS_r s1 n1 c1 V1 _ hn1 ((show RowAlarm w s1 n1 V1 from HR.out).below B0)).mono ?_
  rintro e wc0 ⟨s1', S1, rfl, Q, O, h⟩
  have l0 : wa.heap.size ≤ wc0.heap.size := h.size
  have lo0 : w.heap.size + 1 + 1 + 1 ≤ wa.heap.size := z2
  replace p0 := (h.cell (p := ⟨w.heap.size, 0, none⟩) z0).trans p0
  replace r0 := (h.cell (p := ⟨w.heap.size + 1, 0, none⟩) z1).trans r0
  replace d0 := (h.cell (p := ⟨w.heap.size + 1 + 1, 0, none⟩) z2).trans d0
  replace p1 := (h.cell (p := ⟨w.heap.size, 1, none⟩) z0).trans p1
  replace r1 := (h.cell (p := ⟨w.heap.size + 1, 1, none⟩) z1).trans r1
  replace d1 := (h.cell (p := ⟨w.heap.size + 1 + 1, 1, none⟩) z2).trans d1
  replace fr : ∀ o, wc0.frozen? ⟨w.heap.size + 1, o, none⟩ = false := fun o => (h.frozen (p := ⟨w.heap.size + 1, o, none⟩) z1).trans (fr o)
  replace fd : ∀ o, wc0.frozen? ⟨w.heap.size + 1 + 1, o, none⟩ = false := fun o => (h.frozen (p := ⟨w.heap.size + 1 + 1, o, none⟩) z2).trans (fd o)
  replace z2 := Nat.lt_of_lt_of_le z2 h.size
  replace z1 := Nat.lt_of_lt_of_le z1 h.size
  replace z0 := Nat.lt_of_lt_of_le z0 h.size
  replace B0 : Below w.heap.size w wc0 := B0.trans (h.mono B0.size)
  have O1 : Hid (AlarmR S1 wc0 s1' n1 V1) := O
  have Q1 : Hid (∀ k, S1 k → wa.heap.size ≤ k ∧ k < wc0.heap.size) := Q
  clear h O Q
  go_wp2
  exact bodyPost_ret (v := .agg #[.int .i64 x0, .slice s1' n1 n1]) (by simp [results, Try.results19, go_sem, r0, d0, r1, d1]) rfl ⟨s1', S1, rfl, fun k hk => by have := Q1.out k hk; simp; omega, (show BoardR _ _ s1' n1 V1 from (((O1.out.set (fun q => by have := Q1.out _ q; omega)).set (fun q => by have := Q1.out _ q; omega)).set (fun q => by have := Q1.out _ q; omega))), (by repeat (first | with_reducible exact Below.refl _ _ | with_reducible exact B0 | with_reducible refine Below.setCell ?_ (by first | omega | (simp; done) | (simp; omega)) _ | with_reducible refine bDrewN ?_ _ | with_reducible refine Below.drew ?_ | with_reducible refine Below.alloc ?_ (by first | omega | (simp; done) | (simp; omega)) _))⟩
set_option maxHeartbeats 2000000 in
theorem markBoard_r (x0 : Int) (n1 : Nat) (V1 : Nat → Int × Int × Int × Bool × Int) (s1 : Option Addr) (c1 : Nat) (S : Nat → Prop) (k : Int) (w : World) (hn1 : (n1 : Int) ≤ 1048576) (k0 : 0 ≤ k) (k1 : k ≤ 40000000) (hS : ∀ q, S q → q < w.heap.size) (HR : Hid (BoardR S w s1 n1 V1)) :
    Calls Try.prog 24 #[.agg #[.int .i64 x0, .slice s1 n1 c1], .int .i64 k] w fun e w' => e = .returned (.int .i64 (k + (n1 * 5 : Nat))) ∧ Turn S w w' := by
  have O1 : Hid (AlarmR S w s1 n1 V1) := HR
  have u1 : Hid (∀ k, S k → S k) := fun _ h => h
  replace hS : Hid (∀ q, S q → q < w.heap.size) := hS
  go_enter Try.func24, Try.ntmps24
  go_wp2_with fail
  obtain ⟨wa, hwa⟩ : ∃ x, x = w.alloc (.cells #[.int .i64 x0, .slice s1 n1 c1] 26) := ⟨_, rfl⟩
  rw [← hwa]
  have B0 : Turn S w wa := by rw [hwa]; exact Turn.grown (by repeat (first | with_reducible exact Below.refl _ _ | with_reducible refine Below.setCell ?_ (by first | omega | (simp; done) | (simp; omega)) _ | with_reducible refine bDrewN ?_ _ | with_reducible refine Below.drew ?_ | with_reducible refine Below.alloc ?_ (by first | omega | (simp; done) | (simp; omega)) _))
  have z0 : w.heap.size < wa.heap.size := by rw [hwa]; simp
  have p1 : wa.cell? ⟨w.heap.size, 1, none⟩ = some (.slice s1 n1 c1) := by rw [hwa]; simp [go_sem]
  replace O1 : Hid (AlarmR S wa s1 n1 V1) := by rw [hwa]; exact O1.out.below (by repeat (first | with_reducible exact Below.refl _ _ | with_reducible refine Below.setCell ?_ (by first | omega | (simp; done) | (simp; omega)) _ | with_reducible refine bDrewN ?_ _ | with_reducible refine Below.drew ?_ | with_reducible refine Below.alloc ?_ (by first | omega | (simp; done) | (simp; omega)) _))
  clear hwa
  refine (markAlarmS_r S s1 n1 c1 (k) V1 _ hn1 (by omega) (by omega) O1.out).mono ?_
  rintro e w0 ⟨rfl, -, T⟩
  replace z0 := Nat.lt_of_lt_of_le z0 T.size
  replace B0 : Turn S w w0 := B0.trans (T.mono u1.out)
  clear T
  go_wp2
  go_ret
  exact ⟨rfl, B0⟩

end Go.Proofs.Ytlbbdifmjdpfiaa
