/-
What is proved: the program's table of the three curves.
-/
import Derived.Test.YtkppgnpedbkbnaaSteamS
import Derived.Test.YtkppgnpedbkbnaaAlongF
import Derived.Deep.RegionHeld3
import Derived.Laws.Tables
namespace Go.Proofs.Ytkppgnpedbkbnaa
set_option maxRecDepth 40000
open Go.RowKit
set_option linter.unusedVariables false
set_option linter.unusedSimpArgs false

def zc (Y : Nat → Int) (k j : Nat) : Value := .int .i64 (if j < k * 2 then curveV Y j else 0)
def mkA (Y : Nat → Int) (k : Nat) : Array Value := #[zc Y k 0, zc Y k 1, zc Y k 2, zc Y k 3, zc Y k 4, zc Y k 5, zc Y k 6, zc Y k 7, zc Y k 8, zc Y k 9, zc Y k 10, zc Y k 11]
/-- A table on its way: k of its six rows are there, in the second new block behind the answer's. -/
def RowsAt (w wr : World) (k : Nat) (Y : Nat → Int) : Prop := Below w.heap.size w wr ∧ w.heap.size + 1 + 1 + 1 ≤ wr.heap.size ∧ wr.heap[w.heap.size + 1 + 1]? = some (.cells (mkA Y k) 83 (0, 0)) ∧ wr.heap[w.heap.size]? = some (.cells (mkA Y 0) 83 (0, 0))
theorem rows_on {w wr w3 : World} {k : Nat} {Y : Nat → Int} (hk : k < 6) (h : RowsAt w wr k Y) (h3 : Below wr.heap.size wr w3) : RowsAt w ((w3.setCell ⟨w.heap.size + 1 + 1, k * 2, none⟩ (.int .i64 (xsV k))).setCell ⟨w.heap.size + 1 + 1, k * 2 + 1, none⟩ (.int .i64 (Y k))) (k + 1) Y := by
  obtain ⟨h1, h2, h4, h5⟩ := h
  have z3 := h3.size
  have B3 : Below w.heap.size w w3 := h1.trans (h3.mono h1.size)
  have g4 : w3.heap[w.heap.size + 1 + 1]? = some (.cells (mkA Y k) 83 (0, 0)) := (h3.block _ (by omega)).trans h4
  have g5 : w3.heap[w.heap.size]? = some (.cells (mkA Y 0) 83 (0, 0)) := (h3.block _ (by omega)).trans h5
  refine ⟨(by repeat (first | with_reducible exact Below.refl _ _ | with_reducible exact B3 | with_reducible refine Below.setCell ?_ (by first | omega | (simp; done) | (simp; omega)) _ | with_reducible refine bDrewN ?_ _ | with_reducible refine Below.drew ?_ | with_reducible refine Below.alloc ?_ (by first | omega | (simp; done) | (simp; omega)) _)), by simp; omega, ?_, ?_⟩
  · rw [setCell_eq_setRow _ _ _ _ _ _ _ g4]
    have g6 := setRow_heap _ _ _ ((mkA Y k).setIfInBounds (k * 2) (.int .i64 (xsV k))) _ _ g4
    rw [setCell_eq_setRow _ _ _ _ _ _ _ g6, setRow_setRow, setRow_heap _ _ _ _ _ _ g4]
    have : k = 0 ∨ k = 1 ∨ k = 2 ∨ k = 3 ∨ k = 4 ∨ k = 5 := by omega
    rcases this with rfl | rfl | rfl | rfl | rfl | rfl <;> rfl
  · rw [Below.heap_setCell _ _ _ _ (by simp only; omega), Below.heap_setCell _ _ _ _ (by simp only; omega)]
    exact g5
theorem rows_start (w : World) (Y : Nat → Int) (o : Obj) : RowsAt w (((w.alloc (.cells #[.int .i64 0, .int .i64 0, .int .i64 0, .int .i64 0, .int .i64 0, .int .i64 0, .int .i64 0, .int .i64 0, .int .i64 0, .int .i64 0, .int .i64 0, .int .i64 0] 83)).alloc o).alloc (.cells #[.int .i64 0, .int .i64 0, .int .i64 0, .int .i64 0, .int .i64 0, .int .i64 0, .int .i64 0, .int .i64 0, .int .i64 0, .int .i64 0, .int .i64 0, .int .i64 0] 83)) 0 Y := by
  refine ⟨((below0 w _).alloc (by simp) _).alloc (by simp; omega) _, by simp, ?_, ?_⟩
  · have := heap_alloc_new ((w.alloc (.cells #[.int .i64 0, .int .i64 0, .int .i64 0, .int .i64 0, .int .i64 0, .int .i64 0, .int .i64 0, .int .i64 0, .int .i64 0, .int .i64 0, .int .i64 0, .int .i64 0] 83)).alloc o) (.cells #[.int .i64 0, .int .i64 0, .int .i64 0, .int .i64 0, .int .i64 0, .int .i64 0, .int .i64 0, .int .i64 0, .int .i64 0, .int .i64 0, .int .i64 0, .int .i64 0] 83)
    rw [show w.heap.size + 1 + 1 = ((w.alloc (.cells #[.int .i64 0, .int .i64 0, .int .i64 0, .int .i64 0, .int .i64 0, .int .i64 0, .int .i64 0, .int .i64 0, .int .i64 0, .int .i64 0, .int .i64 0, .int .i64 0] 83)).alloc o).heap.size by simp]
    exact this
  · rw [heap_alloc_old _ _ (by simp; omega), heap_alloc_old _ _ (by simp)]
    exact heap_alloc_new w _
theorem keepN {W W' : World} {p i j : Nat} {a b : Value} (h0 : W.cell? ⟨p, i, none⟩ = some a) (h1 : W.cell? ⟨p, j, none⟩ = some b) (hp : p < W.heap.size) (hb : Below W.heap.size W W') : W'.cell? ⟨p, i, none⟩ = some a ∧ W'.cell? ⟨p, j, none⟩ = some b :=
  ⟨(hb.cell (p := ⟨p, i, none⟩) hp).trans h0, (hb.cell (p := ⟨p, j, none⟩) hp).trans h1⟩

def bigC : Array Value := #[.int .i64 10, .int .i64 458, .int .i64 1918, .int .i64 25846, .int .i64 100, .int .i64 996, .int .i64 4175, .int .i64 26755, .int .i64 1000, .int .i64 1799, .int .i64 7628, .int .i64 27781, .int .i64 5000, .int .i64 2639, .int .i64 11542, .int .i64 27942, .int .i64 10000, .int .i64 3110, .int .i64 14076, .int .i64 27247, .int .i64 20000, .int .i64 3657, .int .i64 18268, .int .i64 24105]
theorem build_rows (w : World) : (Instr.build 89 #[(0, .agg #[.int .i64 10, .int .i64 458, .int .i64 1918, .int .i64 25846]), (1, .agg #[.int .i64 100, .int .i64 996, .int .i64 4175, .int .i64 26755]), (2, .agg #[.int .i64 1000, .int .i64 1799, .int .i64 7628, .int .i64 27781]), (3, .agg #[.int .i64 5000, .int .i64 2639, .int .i64 11542, .int .i64 27942]), (4, .agg #[.int .i64 10000, .int .i64 3110, .int .i64 14076, .int .i64 27247]), (5, .agg #[.int .i64 20000, .int .i64 3657, .int .i64 18268, .int .i64 24105])]).run Try.prog w = .ok (.agg bigC) w := by
  refine run_build w _ _ _ ?_
  kernel_rfl
theorem idx_rows (k : Nat) (hk : k < 6) (w : World) : (Instr.index 89 (.agg bigC) (.int .i64 (k : Int))).run Try.prog w = .ok (.agg #[.int .i64 (xsV k), .int .i64 (yB k), .int .i64 (yL k), .int .i64 (yV k)]) w := by
  have : k = 0 ∨ k = 1 ∨ k = 2 ∨ k = 3 ∨ k = 4 ∨ k = 5 := by omega
  rcases this with rfl | rfl | rfl | rfl | rfl | rfl
  all_goals (show Sem.run _ _ _ = _; kernel_rfl)
theorem mkA_at (Y : Nat → Int) (k i : Nat) (hi : i < 12) : (mkA Y k)[i]? = some (zc Y k i) := by
  have : i = 0 ∨ i = 1 ∨ i = 2 ∨ i = 3 ∨ i = 4 ∨ i = 5 ∨ i = 6 ∨ i = 7 ∨ i = 8 ∨ i = 9 ∨ i = 10 ∨ i = 11 := by omega
  rcases this with rfl | rfl | rfl | rfl | rfl | rfl | rfl | rfl | rfl | rfl | rfl | rfl <;> rfl
theorem big_info : (Try.prog.info? 89).map (·.size) = some bigC.size := by kernel_rfl
theorem row_info (Y : Nat → Int) (k : Nat) : (Try.prog.info? 83).map (·.size) = some (mkA Y k).size := by
  show _ = some 12
  kernel_rfl
theorem big_one : bigC.all (·.oneCell') = true := by kernel_rfl

theorem built_rows : Try.prog.built 89 [(0, .agg #[.int .i64 10, .int .i64 458, .int .i64 1918, .int .i64 25846]), (1, .agg #[.int .i64 100, .int .i64 996, .int .i64 4175, .int .i64 26755]), (2, .agg #[.int .i64 1000, .int .i64 1799, .int .i64 7628, .int .i64 27781]), (3, .agg #[.int .i64 5000, .int .i64 2639, .int .i64 11542, .int .i64 27942]), (4, .agg #[.int .i64 10000, .int .i64 3110, .int .i64 14076, .int .i64 27247]), (5, .agg #[.int .i64 20000, .int .i64 3657, .int .i64 18268, .int .i64 24105])] = some bigC := by kernel_rfl
theorem list_rows {ops : Array Oper} {rest : List Oper} {o : Oper} {a : Act} {w : World} {Q : Exit → Act → World → Prop} (hg : o.guard = none) (ho : o.op = .build 89 #[(0, .tmp 7), (1, .tmp 8), (2, .tmp 9), (3, .tmp 10), (4, .tmp 11), (5, .tmp 12)])
    (h7 : a.eval (.tmp 7) = .agg #[.int .i64 10, .int .i64 458, .int .i64 1918, .int .i64 25846]) (h8 : a.eval (.tmp 8) = .agg #[.int .i64 100, .int .i64 996, .int .i64 4175, .int .i64 26755]) (h9 : a.eval (.tmp 9) = .agg #[.int .i64 1000, .int .i64 1799, .int .i64 7628, .int .i64 27781]) (h10 : a.eval (.tmp 10) = .agg #[.int .i64 5000, .int .i64 2639, .int .i64 11542, .int .i64 27942]) (h11 : a.eval (.tmp 11) = .agg #[.int .i64 10000, .int .i64 3110, .int .i64 14076, .int .i64 27247]) (h12 : a.eval (.tmp 12) = .agg #[.int .i64 20000, .int .i64 3657, .int .i64 18268, .int .i64 24105])
    (h : wpList Try.prog ops Q rest (a.put o.dst (.agg bigC)) w) : wpList Try.prog ops Q (o :: rest) a w := by
  have e : Try.prog.built 89 ((#[(0, Operand.tmp 7), (1, .tmp 8), (2, .tmp 9), (3, .tmp 10), (4, .tmp 11), (5, .tmp 12)] : Array (Nat × Operand)).map fun (i, x) => (i, a.eval x)).toList = some bigC := by
    rw [← built_rows]
    simp only [List.map_toArray, List.map_cons, List.map_nil, h7, h8, h9, h10, h11, h12]
  refine wpList_build hg _ _ ho (by rw [e]; rfl) ?_
  rw [e]
  exact h
theorem heap_two (w : World) (a b : Obj) : ((w.alloc a).alloc b).heap[w.heap.size + 1]? = some b := by
  have := heap_alloc_new (w.alloc a) b
  simpa using this
theorem heap_three (w : World) (a b : Obj) (cs : Array Value) (t : TypeId) (old : Array Value) (hb : b = .cells old t) (c : Obj) : ((((w.alloc a).alloc b).setRow (w.heap.size + 1) cs).alloc c).heap[w.heap.size + 1]? = some (.cells cs t (0, 0)) := by
  subst hb
  rw [heap_alloc_old _ _ (by simp)]
  exact setRow_heap _ _ _ _ _ _ (heap_two w a _)

theorem rows_start2 (w : World) (Y : Nat → Int) (b : Obj) (cs : Array Value) : RowsAt w ((((w.alloc (.cells #[.int .i64 0, .int .i64 0, .int .i64 0, .int .i64 0, .int .i64 0, .int .i64 0, .int .i64 0, .int .i64 0, .int .i64 0, .int .i64 0, .int .i64 0, .int .i64 0] 83)).alloc b).setRow (w.heap.size + 1) cs).alloc (.cells #[.int .i64 0, .int .i64 0, .int .i64 0, .int .i64 0, .int .i64 0, .int .i64 0, .int .i64 0, .int .i64 0, .int .i64 0, .int .i64 0, .int .i64 0, .int .i64 0] 83)) 0 Y := by
  have h0 : Below w.heap.size w ((w.alloc (.cells #[.int .i64 0, .int .i64 0, .int .i64 0, .int .i64 0, .int .i64 0, .int .i64 0, .int .i64 0, .int .i64 0, .int .i64 0, .int .i64 0, .int .i64 0, .int .i64 0] 83)).alloc b) := (below0 w _).alloc (by simp) _
  have h1 : Below w.heap.size w (((w.alloc (.cells #[.int .i64 0, .int .i64 0, .int .i64 0, .int .i64 0, .int .i64 0, .int .i64 0, .int .i64 0, .int .i64 0, .int .i64 0, .int .i64 0, .int .i64 0, .int .i64 0] 83)).alloc b).setRow (w.heap.size + 1) cs) := ⟨h0.os, h0.tape, h0.output, by rw [setRow_size]; exact h0.size, fun k hk => by rw [setRow_other _ _ _ _ (by omega)]; exact h0.block k hk⟩
  refine ⟨h1.alloc (by simp; omega) _, by simp, ?_, ?_⟩
  · have := heap_alloc_new (((w.alloc (.cells #[.int .i64 0, .int .i64 0, .int .i64 0, .int .i64 0, .int .i64 0, .int .i64 0, .int .i64 0, .int .i64 0, .int .i64 0, .int .i64 0, .int .i64 0, .int .i64 0] 83)).alloc b).setRow (w.heap.size + 1) cs) (.cells #[.int .i64 0, .int .i64 0, .int .i64 0, .int .i64 0, .int .i64 0, .int .i64 0, .int .i64 0, .int .i64 0, .int .i64 0, .int .i64 0, .int .i64 0, .int .i64 0] 83)
    rw [show w.heap.size + 1 + 1 = (((w.alloc (.cells #[.int .i64 0, .int .i64 0, .int .i64 0, .int .i64 0, .int .i64 0, .int .i64 0, .int .i64 0, .int .i64 0, .int .i64 0, .int .i64 0, .int .i64 0, .int .i64 0] 83)).alloc b).setRow (w.heap.size + 1) cs).heap.size by simp]
    exact this
  · rw [heap_alloc_old _ _ (by simp; omega), setRow_other _ _ _ _ (by omega), heap_alloc_old _ _ (by simp)]
    exact heap_alloc_new w _

theorem rows_keep {w wr w3 : World} {k : Nat} {Y : Nat → Int} (h : RowsAt w wr k Y) (h3 : Below wr.heap.size wr w3) : RowsAt w w3 k Y := by
  obtain ⟨h1, h2, h4, h5⟩ := h
  have z3 := h3.size
  exact ⟨h1.trans (h3.mono h1.size), by omega, (h3.block _ (by omega)).trans h4, (h3.block _ (by omega)).trans h5⟩
theorem mkA_one (Y : Nat → Int) (k : Nat) : (mkA Y k).all (·.oneCell') = true := by simp [mkA, zc, Value.oneCell']
def cell4 (k : Nat) : Array Value := #[.int .i64 (xsV k), .int .i64 (yB k), .int .i64 (yL k), .int .i64 (yV k)]

set_option maxRecDepth 20000 in
set_option maxHeartbeats 8000000 in
theorem boilingRow_any (kd : Nat) (hkd : (kd : Int) < 3) (Y : Nat → Int) (hY : ∀ k, (cell4 k)[1 + kd]? = some (.int .i64 (Y k))) (w : World) :
    Calls Try.prog 54 #[.int .i64 (kd : Int)] w fun e w' => e = .returned (.agg (mkA Y 6)) ∧ Below w.heap.size w w' := by
  have HY : Hid (∀ k, (cell4 k)[1 + kd]? = some (.int .i64 (Y k))) := hY
  clear hY
  go_enter Try.func54, Try.ntmps54
  go_wp2_with (first
    | refine list_rows (by rfl) (by rfl) (by rfl) (by rfl) (by rfl) (by rfl) (by rfl) (by rfl) ?_
    | refine wpList_store_row (by rfl) 89 (.tmp 3) (.tmp 13) (by rfl) (w.heap.size + 1) bigC (by rfl) (by rfl) _ _ (by exact heap_two _ _ _) (by exact big_info) (by rfl) (by exact big_one) ?_
    | refine wpList_load_row (by rfl) 89 (.tmp 3) (by rfl) (w.heap.size + 1) (by rfl) _ bigC _ _ (by exact heap_three _ _ _ _ _ _ rfl _) (by exact Try.underlying89) (by rfl) (by exact big_info) ?_)
  go_loopw [15] (fun i wr => ∃ k : Nat, k ≤ 6 ∧ i = .int .i64 k ∧ RowsAt w wr k Y) (fun i _ => 6 - (intOf i).toNat)
  case atStart => exact ⟨0, Nat.zero_le _, rfl, rows_start2 w Y _ _⟩
  case round =>
    obtain ⟨k, hk, rfl, hC⟩ := hrel
    have HC : Hid (RowsAt w wr k Y) := hC
    obtain ⟨hB, hz, hm, ha⟩ := hC
    have f2 : ∀ o, wr.frozen? ⟨w.heap.size + 1 + 1, o, none⟩ = false := fun o => by simp [World.frozen?, hm]
    by_cases h1 : k < 6
    · have e0 : wr.cell? ⟨w.heap.size + 1 + 1, k * 2, none⟩ = some (zc Y k (k * 2)) := by
        rw [cell_of_row wr _ _ _ _ _ hm]; exact mkA_at _ _ _ (by omega)
      have e1 : wr.cell? ⟨w.heap.size + 1 + 1, k * 2 + 1, none⟩ = some (zc Y k (k * 2 + 1)) := by
        rw [cell_of_row wr _ _ _ _ _ hm]; exact mkA_at _ _ _ (by omega)
      have hix := idx_rows k h1
      have k1 : (k : Int) < 6 := by omega
      have ne : ¬ wr.heap.size = w.heap.size + 1 + 1 := by omega
      have zl : w.heap.size + 1 + 1 < wr.heap.size := by omega
      have wk : IntKind.i64.wrap (1 + (kd : Int)) = 1 + (kd : Int) := by rw [IntKind.wrap_i64]; omega
      have b1 : (0 : Int) ≤ 1 + (kd : Int) := by omega
      have b2 : 1 + (kd : Int) < 4 := by omega
      have cY : ∀ W : World, W.heap.size = wr.heap.size → (W.alloc (.cells #[.int .i64 (xsV k), .int .i64 (yB k), .int .i64 (yL k), .int .i64 (yV k)] 88)).cell? ⟨wr.heap.size, (1 + (kd : Int)).toNat, none⟩ = some (.int .i64 (Y k)) := fun W hW => by rw [← hW, World.cell?_alloc_at _ _ _ _ rfl, show (1 + (kd : Int)).toNat = 1 + kd by omega]; exact HY.out k
      clear hm ha hB
      go_wp2_with fail
      go_region_held3 (fun w' => w'.cell? ⟨wr.heap.size, 0, none⟩ = some (.int .i64 (xsV k)) ∧ w'.cell? ⟨wr.heap.size, (1 + (kd : Int)).toNat, none⟩ = some (.int .i64 (Y k))) (first | (simp [go_sem, cY]; done) | (simp [go_sem, ne, Ne.symm ne, cY]; done) | go_keep) (fail)
      all_goals
        go_wp2
        go_roundw
        case rel => exact ⟨k + 1, by omega, by go_num, rows_keep (rows_on h1 HC.out (Below.refl _ _)) (by repeat (first | with_reducible exact Below.refl _ _ | with_reducible refine Below.setCell ?_ (by first | omega | (simp; done) | (simp; omega)) _ | with_reducible refine bDrewN ?_ _ | with_reducible refine Below.drew ?_ | with_reducible refine Below.alloc ?_ (by first | omega | (simp; done) | (simp; omega)) _))⟩
        case measure => simp [intOf]; omega
    · obtain rfl : k = 6 := by omega
      have hh := setRow_heap wr w.heap.size _ (mkA Y 6) _ _ ha
      have Bz : Below w.heap.size w (wr.setRow w.heap.size (mkA Y 6)) := ⟨hB.os, hB.tape, hB.output, by rw [setRow_size]; exact hB.size, fun k hk => by rw [setRow_other _ _ _ _ (by omega)]; exact hB.block k hk⟩
      have HZ : Hid (Below w.heap.size w (wr.setRow w.heap.size (mkA Y 6)) ∧ (wr.setRow w.heap.size (mkA Y 6)).heap[w.heap.size]? = some (.cells (mkA Y 6) 83 (0, 0))) := ⟨Bz, hh⟩
      clear hh Bz hB
      go_wp2_with (first
        | refine wpList_load_row (by rfl) 83 (.tmp 4) (by rfl) (w.heap.size + 1 + 1) (by rfl) _ _ _ _ (by exact hm) (by exact Try.underlying83) (by rfl) (by exact row_info _ _) ?_
        | refine wpList_store_row (by rfl) 83 (.tmp 2) (.tmp 29) (by rfl) w.heap.size (mkA Y 6) (by rfl) (by rfl) _ _ (by exact ha) (by exact row_info _ _) (by rfl) (by exact mkA_one _ _) ?_)
      have hl := run_loadVar_row (P := Try.prog) _ _ _ 83 _ _ _ HZ.out.2 Try.underlying83 rfl (row_info _ _)
      exact bodyPost_ret (v := .agg (mkA Y 6)) (by simp [results, Try.results54, Act.put, hl, asAddr]) rfl ⟨rfl, HZ.out.1⟩
end Go.Proofs.Ytkppgnpedbkbnaa
