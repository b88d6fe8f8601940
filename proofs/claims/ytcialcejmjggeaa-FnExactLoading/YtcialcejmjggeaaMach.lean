/-
What is proved: what the law's own helper does with a list of machines: a copy in new memory, cell for cell.
-/
import Derived.Test.YtcialcejmjggeaaOwn
import Derived.Deep.OwnRows
import Derived.Deep.RegionHeld3
import Derived.Deep.DeepCutAuto
namespace Go.Proofs.Ytcialcejmjggeaa
set_option maxRecDepth 40000
open Go.RowKit
set_option linter.unusedVariables false

set_option maxHeartbeats 400000 in
theorem toMachine_any (x0 x1 x2 x3 : Int) (w : World) : Calls Try.prog 28 #[.agg #[.int .i64 x0, .int .i64 x1, .int .i64 x2, .int .i64 x3]] w fun r w' => r = .returned (.agg #[.int .i64 x0, .int .i64 x1, .int .i64 x2, .int .i64 x3]) ∧ Below w.heap.size w w' := by
  go_enter Try.func28, Try.ntmps28
  go_wp2
  exact bodyPost_ret (v := .agg #[.int .i64 x0, .int .i64 x1, .int .i64 x2, .int .i64 x3]) (by simp [results, Try.results28, go_sem]) rfl ⟨rfl, (by repeat (first | with_reducible exact Below.refl _ _ | with_reducible refine Below.setCell ?_ (by first | omega | (simp; done) | (simp; omega)) _ | with_reducible refine bDrewN ?_ _ | with_reducible refine Below.drew ?_ | with_reducible refine Below.alloc ?_ (by first | omega | (simp; done) | (simp; omega)) _))⟩

theorem make_Machine (n : Nat) (hn : n ≤ 1048576) (w : World) : (Instr.makeSlice 26 (.int .i64 (n : Int)) (.int .i64 (n : Int))).run Try.prog w = .ok (.slice (some ⟨w.heap.size, 0, none⟩) n n) (w.alloc (.cells (madeCells #[.int .i64 0, .int .i64 0, .int .i64 0, .int .i64 0] (n * 4)) 41)) := by
  have hinfo : (Try.prog.info? 41).map (fun i => (i.zero, i.size, i.bytes)) = some (some (.agg #[.int .i64 0, .int .i64 0, .int .i64 0, .int .i64 0]), 4, 32) := by kernel_rfl
  obtain ⟨i, hi, hzz⟩ := Option.map_eq_some_iff.1 hinfo
  simp only [Prod.mk.injEq] at hzz
  obtain ⟨hz, hs, hb⟩ := hzz
  have hr := run_make (P := Try.prog) w 26 41 i _ Try.underlying26 hi hz .i64 .i64 n n (by omega) (Int.le_refl _) (by rw [hb]; omega) (by omega)
  simp only [Int.toNat_natCast, hs] at hr
  exact hr

/-- A copy on its way: k of n are there, in the block at the end of w. -/
def MachineRow (w wr : World) (n k : Nat) (V : Nat → Int) : Prop := Below w.heap.size w wr ∧ w.heap.size < wr.heap.size ∧ (∀ o, wr.frozen? ⟨w.heap.size, o, none⟩ = false) ∧ ∀ j, j < n * 4 → wr.cell? ⟨w.heap.size, j, none⟩ = some (.int .i64 (if j < k * 4 then V j else 0))
theorem rowMachine_start (w : World) (n : Nat) (V : Nat → Int) (t : TypeId) : MachineRow w (w.alloc (.cells (madeCells #[.int .i64 0, .int .i64 0, .int .i64 0, .int .i64 0] (n * 4)) t)) n 0 V := by
  refine ⟨below0 _ _, by simp, fun o => by simp [go_sem], fun j hj => ?_⟩
  have hm : (madeCells #[.int .i64 0, .int .i64 0, .int .i64 0, .int .i64 0] (n * 4))[j]? = some (.int .i64 0) := by
    simp only [madeCells, Array.getElem?_map, Array.getElem?_range, hj, if_true, Option.map_some]
    have : j % 4 = 0 ∨ j % 4 = 1 ∨ j % 4 = 2 ∨ j % 4 = 3 := by omega
    rcases this with h | h | h | h
    all_goals
      show some ((#[Value.int .i64 0, Value.int .i64 0, Value.int .i64 0, Value.int .i64 0] : Array Value)[j % 4]!) = _
      rw [h]; rfl
  rw [if_neg (by omega)]
  simpa [go_sem] using hm

theorem rowMachine_on {w wr w3 : World} {n k : Nat} {V : Nat → Int} (hB : Below w.heap.size w wr) (hz : w.heap.size < wr.heap.size) (hc : ∀ j, j < n * 4 → wr.cell? ⟨w.heap.size, j, none⟩ = some (.int .i64 (if j < k * 4 then V j else 0))) (h3 : Below wr.heap.size wr w3) (fz : ∀ o, w3.frozen? ⟨w.heap.size, o, none⟩ = false) :
    MachineRow w ((((w3.setCell ⟨w.heap.size, k * 4, none⟩ (.int .i64 (V (k * 4)))).setCell ⟨w.heap.size, k * 4 + 1, none⟩ (.int .i64 (V (k * 4 + 1)))).setCell ⟨w.heap.size, k * 4 + 2, none⟩ (.int .i64 (V (k * 4 + 2)))).setCell ⟨w.heap.size, k * 4 + 3, none⟩ (.int .i64 (V (k * 4 + 3)))) n (k + 1) V := by
  have z3 : w.heap.size < w3.heap.size := Nat.lt_of_lt_of_le hz h3.size
  have B3 : Below w.heap.size w w3 := hB.trans (h3.mono (by omega))
  refine ⟨(by repeat (first | with_reducible exact Below.refl _ _ | with_reducible exact B3 | with_reducible refine Below.setCell ?_ (by first | omega | (simp; done) | (simp; omega)) _ | with_reducible refine bDrewN ?_ _ | with_reducible refine Below.drew ?_ | with_reducible refine Below.alloc ?_ (by first | omega | (simp; done) | (simp; omega)) _)), by simpa using z3, fun o => by simp [go_sem, fz], fun j hj => ?_⟩
  have c3 : w3.cell? ⟨w.heap.size, j, none⟩ = some (.int .i64 (if j < k * 4 then V j else 0)) := (h3.cell (p := ⟨w.heap.size, j, none⟩) hz).trans (hc j hj)
  by_cases a3 : j = k * 4 + 3
  · subst a3
    rw [if_pos (by omega)]
    simp [go_sem, c3]
  by_cases a2 : j = k * 4 + 2
  · subst a2
    rw [if_pos (by omega)]
    simp [go_sem, c3]
  by_cases a1 : j = k * 4 + 1
  · subst a1
    rw [if_pos (by omega)]
    simp [go_sem, c3]
  by_cases a0 : j = k * 4
  · subst a0
    rw [if_pos (by omega)]
    simp [go_sem, c3]
  have e : (if j < (k + 1) * 4 then V j else 0) = (if j < k * 4 then V j else 0) := by
    by_cases q : j < k * 4
    · rw [if_pos q, if_pos (by omega)]
    · rw [if_neg q, if_neg (by omega)]
  rw [e]
  simp [go_sem, c3]

set_option maxRecDepth 20000 in
set_option maxHeartbeats 2000000 in
theorem toMachineS_any (s : Option Addr) (n c : Nat) (V : Nat → Int) (w : World) (hn : (n : Int) ≤ 1048576) (HR : Hid (RowI w s (n * 4) V)) :
    Calls Try.prog 10 #[.slice s n c] w fun e w' => e = .returned (.slice (some ⟨w.heap.size, 0, none⟩) n n) ∧ w.heap.size < w'.heap.size ∧ OwnI w.heap.size w' (some ⟨w.heap.size, 0, none⟩) (n * 4) V ∧ Below w.heap.size w w' := by
  have hmk := make_Machine n (by omega)
  go_enter Try.func10, Try.ntmps10
  go_wp2_with fail
  go_loopw [4] (fun i wr => ∃ k : Nat, k ≤ n ∧ i = .int .i64 k ∧ MachineRow w wr n k V) (fun i _ => n - (intOf i).toNat)
  case atStart => exact ⟨0, Nat.zero_le _, rfl, rowMachine_start w n V 41⟩
  case round =>
    obtain ⟨k, hk, rfl, hB, hz, hf, hc⟩ := hrel
    by_cases h1 : k < n
    · obtain ⟨g, o, rfl, hg, c0⟩ := HR.out (k * 4) (by omega)
      obtain ⟨g', o', e', hg1, c1⟩ := HR.out (k * 4 + 1) (by omega)
      cases e'
      obtain ⟨g', o', e', hg2, c2⟩ := HR.out (k * 4 + 2) (by omega)
      cases e'
      obtain ⟨g', o', e', hg3, c3⟩ := HR.out (k * 4 + 3) (by omega)
      cases e'
      have d0 : wr.cell? ⟨g, o + k * 4, none⟩ = some (.int .i64 (V (k * 4))) := (hB.cell (p := ⟨g, o + k * 4, none⟩) hg).trans c0
      have d1 : wr.cell? ⟨g, o + k * 4 + 1, none⟩ = some (.int .i64 (V (k * 4 + 1))) := (hB.cell (p := ⟨g, o + (k * 4 + 1), none⟩) hg).trans c1
      have d2 : wr.cell? ⟨g, o + k * 4 + 2, none⟩ = some (.int .i64 (V (k * 4 + 2))) := (hB.cell (p := ⟨g, o + (k * 4 + 2), none⟩) hg).trans c2
      have d3 : wr.cell? ⟨g, o + k * 4 + 3, none⟩ = some (.int .i64 (V (k * 4 + 3))) := (hB.cell (p := ⟨g, o + (k * 4 + 3), none⟩) hg).trans c3
      have e0 := hc (k * 4) (by omega)
      have e1 := hc (k * 4 + 1) (by omega)
      have e2 := hc (k * 4 + 2) (by omega)
      have e3 := hc (k * 4 + 3) (by omega)
      have k1 : (k : Int) < (n : Int) := by omega
      have zg : g < wr.heap.size := Nat.lt_of_lt_of_le hg hB.size
      have hc' : Hid (∀ j, j < n * 4 → wr.cell? ⟨w.heap.size, j, none⟩ = some (.int .i64 (if j < k * 4 then V j else 0))) := hc
      have HB : Hid (Below w.heap.size w wr) := hB
      clear hc hB c0 c1 c2 c3 hg hg1 hg2 hg3
      go_wp2_with fail
      refine (toMachine_any _ _ _ _ _).mono ?_
      rintro r w3 ⟨rfl, h3⟩
      have f0 : w3.cell? ⟨w.heap.size, k * 4, none⟩ = _ := (h3.cell (p := ⟨w.heap.size, k * 4, none⟩) hz).trans e0
      have f1 : w3.cell? ⟨w.heap.size, k * 4 + 1, none⟩ = _ := (h3.cell (p := ⟨w.heap.size, k * 4 + 1, none⟩) hz).trans e1
      have f2 : w3.cell? ⟨w.heap.size, k * 4 + 2, none⟩ = _ := (h3.cell (p := ⟨w.heap.size, k * 4 + 2, none⟩) hz).trans e2
      have f3 : w3.cell? ⟨w.heap.size, k * 4 + 3, none⟩ = _ := (h3.cell (p := ⟨w.heap.size, k * 4 + 3, none⟩) hz).trans e3
      have fz : ∀ o, w3.frozen? ⟨w.heap.size, o, none⟩ = false := fun o => (h3.frozen (p := ⟨w.heap.size, o, none⟩) hz).trans (hf o)
      have z3 : w.heap.size < w3.heap.size := Nat.lt_of_lt_of_le hz h3.size
      have H3 : Hid (Below wr.heap.size wr w3) := h3
      clear e0 e1 e2 e3 hf h3 d0 d1 d2 d3
      go_wp2
      go_round
      case rel => exact ⟨k + 1, by omega, by go_num, rowMachine_on HB.out hz hc'.out H3.out fz⟩
      case measure => simp [intOf]; omega
    · obtain rfl : k = n := by omega
      go_wp2
      go_ret
      exact ⟨rfl, hz, fun j hj => ⟨_, rfl, Nat.le_refl _, hz, by rw [hc j hj, if_pos hj], hf j⟩, hB⟩
end Go.Proofs.Ytcialcejmjggeaa
