/-
What is proved: what the law's own helpers do with a list of knots: a copy in new memory, cell for cell; its count.
-/
import Derived.Test.YtbabedfbadlhjaaRowI
import Derived.Deep.OwnRows
import Derived.Deep.RegionHeld3
import Derived.Deep.DeepCutAuto
namespace Go.Proofs.Ytbabedfbadlhjaa
set_option maxRecDepth 40000
open Go.RowKit
set_option linter.unusedVariables false

set_option maxHeartbeats 400000 in
theorem toKnot_any (x y : Int) (w : World) : Calls Try.prog 64 #[.agg #[.int .i64 x, .int .i64 y]] w fun r w' => r = .returned (.agg #[.int .i64 x, .int .i64 y]) ∧ Below w.heap.size w w' := by
  go_enter Try.func64, Try.ntmps64
  go_wp2
  exact bodyPost_ret (v := .agg #[.int .i64 x, .int .i64 y]) (by simp [results, Try.results64, go_sem]) rfl ⟨rfl, (by repeat (first | with_reducible exact Below.refl _ _ | with_reducible refine Below.setCell ?_ (by first | omega | (simp; done) | (simp; omega)) _ | with_reducible refine bDrewN ?_ _ | with_reducible refine Below.drew ?_ | with_reducible refine Below.alloc ?_ (by first | omega | (simp; done) | (simp; omega)) _))⟩

theorem make_knots (n : Nat) (hn : n ≤ 1048576) (w : World) : (Instr.makeSlice 27 (.int .i64 (n : Int)) (.int .i64 (n : Int))).run Try.prog w = .ok (.slice (some ⟨w.heap.size, 0, none⟩) n n) (w.alloc (.cells (madeCells #[.int .i64 0, .int .i64 0] (n * 2)) 33)) := by
  have hinfo : (Try.prog.info? 33).map (fun i => (i.zero, i.size, i.bytes)) = some (some (.agg #[.int .i64 0, .int .i64 0]), 2, 16) := by kernel_rfl
  obtain ⟨i, hi, hzz⟩ := Option.map_eq_some_iff.1 hinfo
  simp only [Prod.mk.injEq] at hzz
  obtain ⟨hz, hs, hb⟩ := hzz
  have hr := run_make (P := Try.prog) w 27 33 i _ Try.underlying27 hi hz .i64 .i64 n n (by omega) (Int.le_refl _) (by rw [hb]; omega) (by omega)
  simp only [Int.toNat_natCast, hs] at hr
  exact hr

/-- A copy on its way: k of n are there, in the block at the end of w. -/
def KnotRow (w wr : World) (n k : Nat) (V : Nat → Int) : Prop := Below w.heap.size w wr ∧ w.heap.size < wr.heap.size ∧ (∀ o, wr.frozen? ⟨w.heap.size, o, none⟩ = false) ∧ ∀ j, j < n * 2 → wr.cell? ⟨w.heap.size, j, none⟩ = some (.int .i64 (if j < k * 2 then V j else 0))
theorem knotRow_start (w : World) (n : Nat) (V : Nat → Int) (t : TypeId) : KnotRow w (w.alloc (.cells (madeCells #[.int .i64 0, .int .i64 0] (n * 2)) t)) n 0 V := by
  refine ⟨below0 _ _, by simp, fun o => by simp [go_sem], fun j hj => ?_⟩
  have hm : (madeCells #[.int .i64 0, .int .i64 0] (n * 2))[j]? = some (.int .i64 0) := by
    simp only [madeCells, Array.getElem?_map, Array.getElem?_range, hj, if_true, Option.map_some]
    have : j % 2 = 0 ∨ j % 2 = 1 := by omega
    rcases this with h | h
    · show some ((#[Value.int .i64 0, Value.int .i64 0] : Array Value)[j % 2]!) = _
      rw [h]; rfl
    · show some ((#[Value.int .i64 0, Value.int .i64 0] : Array Value)[j % 2]!) = _
      rw [h]; rfl
  rw [if_neg (by omega)]
  simpa [go_sem] using hm

theorem knotRow_on {w wr w3 : World} {n k : Nat} {V : Nat → Int} (hB : Below w.heap.size w wr) (hz : w.heap.size < wr.heap.size) (hc : ∀ j, j < n * 2 → wr.cell? ⟨w.heap.size, j, none⟩ = some (.int .i64 (if j < k * 2 then V j else 0))) (h3 : Below wr.heap.size wr w3) (fz : ∀ o, w3.frozen? ⟨w.heap.size, o, none⟩ = false) :
    KnotRow w ((w3.setCell ⟨w.heap.size, k * 2, none⟩ (.int .i64 (V (k * 2)))).setCell ⟨w.heap.size, k * 2 + 1, none⟩ (.int .i64 (V (k * 2 + 1)))) n (k + 1) V := by
  have z3 : w.heap.size < w3.heap.size := Nat.lt_of_lt_of_le hz h3.size
  have B3 : Below w.heap.size w w3 := hB.trans (h3.mono (by omega))
  refine ⟨(by repeat (first | with_reducible exact Below.refl _ _ | with_reducible exact B3 | with_reducible refine Below.setCell ?_ (by first | omega | (simp; done) | (simp; omega)) _ | with_reducible refine bDrewN ?_ _ | with_reducible refine Below.drew ?_ | with_reducible refine Below.alloc ?_ (by first | omega | (simp; done) | (simp; omega)) _)), by simpa using z3, fun o => by simp [go_sem, fz], fun j hj => ?_⟩
  have c3 : w3.cell? ⟨w.heap.size, j, none⟩ = some (.int .i64 (if j < k * 2 then V j else 0)) := (h3.cell (p := ⟨w.heap.size, j, none⟩) hz).trans (hc j hj)
  by_cases a : j = k * 2 + 1
  · subst a
    rw [if_pos (by omega)]
    simp [go_sem, c3]
  · by_cases b : j = k * 2
    · subst b
      rw [if_pos (by omega)]
      simp [go_sem, c3]
    · have e : (if j < (k + 1) * 2 then V j else 0) = (if j < k * 2 then V j else 0) := by
        by_cases q : j < k * 2
        · rw [if_pos q, if_pos (by omega)]
        · rw [if_neg q, if_neg (by omega)]
      rw [e]
      simp [go_sem, c3]

set_option maxRecDepth 20000 in
set_option maxHeartbeats 2000000 in
theorem toKnotS_any (s : Option Addr) (n c : Nat) (V : Nat → Int) (w : World) (hn : (n : Int) ≤ 1048576) (HR : Hid (RowI w s (n * 2) V)) :
    Calls Try.prog 59 #[.slice s n c] w fun e w' => ∃ b, e = .returned (.slice (some ⟨b, 0, none⟩) n n) ∧ w.heap.size ≤ b ∧ b < w'.heap.size ∧ RowI w' (some ⟨b, 0, none⟩) (n * 2) V ∧ Below w.heap.size w w' := by
  have hmk := make_knots n (by omega)
  go_enter Try.func59, Try.ntmps59
  go_wp2_with fail
  go_loopw [4] (fun i wr => ∃ k : Nat, k ≤ n ∧ i = .int .i64 k ∧ KnotRow w wr n k V) (fun i _ => n - (intOf i).toNat)
  case atStart => exact ⟨0, Nat.zero_le _, rfl, knotRow_start w n V 33⟩
  case round =>
    obtain ⟨k, hk, rfl, hB, hz, hf, hc⟩ := hrel
    by_cases h1 : k < n
    · obtain ⟨g, o, rfl, hg, c0⟩ := HR.out (k * 2) (by omega)
      obtain ⟨g', o', e', hg', c1⟩ := HR.out (k * 2 + 1) (by omega)
      cases e'
      have d0 : wr.cell? ⟨g, o + k * 2, none⟩ = some (.int .i64 (V (k * 2))) := (hB.cell (p := ⟨g, o + k * 2, none⟩) hg).trans c0
      have d1 : wr.cell? ⟨g, o + k * 2 + 1, none⟩ = some (.int .i64 (V (k * 2 + 1))) := (hB.cell (p := ⟨g, o + (k * 2 + 1), none⟩) hg).trans c1
      have e0 := hc (k * 2) (by omega)
      have e1 := hc (k * 2 + 1) (by omega)
      have k1 : (k : Int) < (n : Int) := by omega
      have zg : g < wr.heap.size := Nat.lt_of_lt_of_le hg hB.size
      have hc' : Hid (∀ j, j < n * 2 → wr.cell? ⟨w.heap.size, j, none⟩ = some (.int .i64 (if j < k * 2 then V j else 0))) := hc
      have HB : Hid (Below w.heap.size w wr) := hB
      clear hc hB c0 c1 hg hg'
      go_wp2_with fail
      refine (toKnot_any _ _ _).mono ?_
      rintro r w3 ⟨rfl, h3⟩
      have f0 : w3.cell? ⟨w.heap.size, k * 2, none⟩ = _ := (h3.cell (p := ⟨w.heap.size, k * 2, none⟩) hz).trans e0
      have f1 : w3.cell? ⟨w.heap.size, k * 2 + 1, none⟩ = _ := (h3.cell (p := ⟨w.heap.size, k * 2 + 1, none⟩) hz).trans e1
      have fz : ∀ o, w3.frozen? ⟨w.heap.size, o, none⟩ = false := fun o => (h3.frozen (p := ⟨w.heap.size, o, none⟩) hz).trans (hf o)
      have z3 : w.heap.size < w3.heap.size := Nat.lt_of_lt_of_le hz h3.size
      have H3 : Hid (Below wr.heap.size wr w3) := h3
      clear e0 e1 hf h3 d0 d1
      go_wp2
      go_round
      case rel => exact ⟨k + 1, by omega, by go_num, knotRow_on HB.out hz hc'.out H3.out fz⟩
      case measure => simp [intOf]; omega
    · obtain rfl : k = n := by omega
      go_wp2
      go_ret
      exact ⟨w.heap.size, rfl, Nat.le_refl _, hz, fun j hj => ⟨_, 0, rfl, hz, by rw [Nat.zero_add, hc j hj, if_pos hj]⟩, hB⟩
end Go.Proofs.Ytbabedfbadlhjaa
