/-
What is proved: a board copied by the program.
-/
import Derived.Test.YtlbbdifmjdpfiaaBsMz
import Derived.Test.YtlbbdifmjdpfiaaZdC
import Derived.Laws.CopyRow
import Derived.Deep.WholeRow
import Derived.Lib.SlBuf
namespace Go.Proofs.Ytlbbdifmjdpfiaa
set_option maxRecDepth 40000
open Go.ChangeShapes Go.WideShapes Go.ChangeAt Go.RowKit
set_option linter.unusedVariables false
set_option linter.unusedSimpArgs false

def alC (V : Nat → Int × Int × Int × Bool × Int) : Nat → List Value
  | 0 => []
  | k + 1 => alC V k ++ [.int .i64 (V k).1, .int .i64 (V k).2.1, .int .i64 (V k).2.2.1, .bool (V k).2.2.2.1, .int .i64 (V k).2.2.2.2]
theorem alC_len (V : Nat → Int × Int × Int × Bool × Int) (k : Nat) : (alC V k).length = k * 5 := by
  induction k with
  | zero => rfl
  | succ k ih => simp [alC, ih]; omega
theorem alC_at (V : Nat → Int × Int × Int × Bool × Int) {k j i : Nat} (hj : j < k) (hi : i < 5) : (alC V k)[j * 5 + i]? = ([.int .i64 (V j).1, .int .i64 (V j).2.1, .int .i64 (V j).2.2.1, .bool (V j).2.2.2.1, .int .i64 (V j).2.2.2.2] : List Value)[i]? := by
  induction k with
  | zero => omega
  | succ k ih =>
    rw [alC]
    by_cases e : j = k
    · subst e
      rw [List.getElem?_append_right (by rw [alC_len]; omega), alC_len, show j * 5 + i - j * 5 = i by omega]
    · rw [List.getElem?_append_left (by rw [alC_len]; omega)]
      exact ih (by omega)
theorem alC_one (V : Nat → Int × Int × Int × Bool × Int) (k : Nat) : ∀ v ∈ alC V k, v.oneCell' = true := by
  induction k with
  | zero => intro v hv; cases hv
  | succ k ih =>
    intro v hv
    rw [alC, List.mem_append] at hv
    rcases hv with h | h
    · exact ih v h
    · simp at h
      rcases h with rfl | rfl | rfl | rfl | rfl <;> rfl
theorem alM_alloc (w : World) (n : Nat) (V : Nat → Int × Int × Int × Bool × Int) (t : TypeId) : AlM w.heap.size (w.alloc (.cells (alC V n).toArray t)) n V := by
  refine ⟨by simp, fun o => by simp [go_sem], fun j hj => ?_⟩
  have h := fun i hi => alC_at V hj (i := i) hi
  refine ⟨?_, ?_, ?_, ?_, ?_⟩
  · have := h 0 (by omega); simpa [go_sem] using this
  · have := h 1 (by omega); simpa [go_sem] using this
  · have := h 2 (by omega); simpa [go_sem] using this
  · have := h 3 (by omega); simpa [go_sem] using this
  · have := h 4 (by omega); simpa [go_sem] using this
theorem src_at {w : World} {b o n : Nat} {V : Nat → Int × Int × Int × Bool × Int} (h : RowAlarm w (some ⟨b, o, none⟩) n V) : ∀ j v, (alC V n)[j]? = some v → w.cell? ((⟨b, o, none⟩ : Addr).add j) = some v := fun j v hv => by
  have hl : j < n * 5 := by
    rcases Nat.lt_or_ge j (n * 5) with z | z
    · exact z
    · rw [List.getElem?_eq_none (by rw [alC_len]; exact z)] at hv; cases hv
  have e1 : j = j / 5 * 5 + j % 5 := by omega
  have hk : j / 5 < n := by omega
  have hi : j % 5 < 5 := Nat.mod_lt _ (by omega)
  obtain ⟨b', o', e, _, c0, c1, c2, c3, c4⟩ := h (j / 5) hk
  cases e
  rw [e1, alC_at V hk hi] at hv
  rw [addr_add]
  have hc : j % 5 = 0 ∨ j % 5 = 1 ∨ j % 5 = 2 ∨ j % 5 = 3 ∨ j % 5 = 4 := by omega
  rcases hc with q | q | q | q | q
  · rw [q] at hv e1; rw [show o + j = o + j / 5 * 5 by omega, c0]; simpa using hv
  · rw [q] at hv e1; rw [show o + j = o + j / 5 * 5 + 1 by omega, c1]; simpa using hv
  · rw [q] at hv e1; rw [show o + j = o + j / 5 * 5 + 2 by omega, c2]; simpa using hv
  · rw [q] at hv e1; rw [show o + j = o + j / 5 * 5 + 3 by omega, c3]; simpa using hv
  · rw [q] at hv e1; rw [show o + j = o + j / 5 * 5 + 4 by omega, c4]; simpa using hv
theorem copy_alarms (w : World) (n c : Nat) (V : Nat → Int × Int × Int × Bool × Int) (s : Option Addr) (cur : Array Value) (ty t : TypeId) (hc : cur.size = n * 5) (hn : n = 0 → True) (HR : RowAlarm w s n V) : ∃ v, (Builtin.copy_ #[24, 24] ty #[.slice (some ⟨w.heap.size, 0, none⟩) n n, .slice s n c]).run Try.prog (w.alloc (.cells cur t)) = .ok v (w.alloc (.cells (alC V n).toArray t)) := by
  have hinfo : (Try.prog.info? 43).map (fun i => i.size) = some 5 := by kernel_rfl
  obtain ⟨i, hi, hs⟩ := Option.map_eq_some_iff.1 hinfo
  rcases Nat.eq_zero_or_pos n with z | z
  · subst z
    obtain rfl : cur = #[] := by simpa using hc
    cases s with
    | none => exact ⟨goInt 0, by simp [Builtin.copy_, run_underlying Try.underlying24, Builtin.lenOf, Builtin.firstCells, sizeOf, typeInfo, hi, hs, storeCells, alC]⟩
    | some a => exact ⟨goInt 0, by simp [Builtin.copy_, run_underlying Try.underlying24, Builtin.lenOf, Builtin.firstCells, sizeOf, typeInfo, hi, hs, storeCells, alC, loadCells, loadCellsFrom]⟩
  · obtain ⟨b, o, rfl, _⟩ := HR 0 z
    have HR' : RowAlarm (w.alloc (.cells cur t)) (some ⟨b, o, none⟩) n V := HR.below (below0 _ _)
    have hl := run_loadCells_list (P := Try.prog) (w.alloc (.cells cur t)) ⟨b, o, none⟩ (alC V n) (src_at HR')
    have hst := run_storeCells_at Try.prog w.heap.size 0 t (alC V n) 0 cur (w.alloc (.cells cur t)) (heap_alloc_new w _) (by rw [alC_len]; omega) (alC_one V n)
    rw [alC_len] at hl
    have e : (List.take (0 + 0) cur.toList ++ alC V n ++ List.drop (0 + 0 + (alC V n).length) cur.toList).toArray = (alC V n).toArray := by
      rw [alC_len, List.drop_eq_nil_of_le (by simp [hc])]; simp
    rw [e, World.setRow_alloc_new] at hst
    refine ⟨goInt n, ?_⟩
    simp [Builtin.copy_, run_underlying Try.underlying24, Builtin.lenOf, Builtin.firstCells, sizeOf, typeInfo, hi, hs, hl, hst]
set_option maxHeartbeats 4000000 in
theorem copied_any (x : Int) (s : Option Addr) (n c : Nat) (V : Nat → Int × Int × Int × Bool × Int) (w : World) (hn : (n : Int) ≤ 60) (HR : Hid (RowAlarm w s n V)) :
    Calls Try.prog 47 #[.agg #[.int .i64 x, .slice s n c]] w fun e w' => ∃ b, e = .returned (.agg #[.int .i64 x, .slice (some ⟨b, 0, none⟩) n n]) ∧ w.heap.size ≤ b ∧ AlM b w' n V ∧ Below w.heap.size w w' := by
  have hmk := make_Alarm n (by omega)
  go_enter Try.func47, Try.ntmps47
  go_upto_region 2 with fail
  obtain ⟨wa, hwa⟩ : ∃ wa, wa = (w.alloc (.cells #[.int .i64 x, .slice s n c] 26)).alloc (.cells #[.int .i64 0, .slice none 0 0] 26) := ⟨_, rfl⟩
  have hs : w.heap.size + 1 + 1 = wa.heap.size := by rw [hwa]; simp
  rw [← hwa, hs]
  have p0 : wa.cell? ⟨w.heap.size, 0, none⟩ = some (.int .i64 x) := by rw [hwa]; simp [go_sem]
  have p1 : wa.cell? ⟨w.heap.size, 1, none⟩ = some (.slice s n c) := by rw [hwa]; simp [go_sem]
  have r0 : wa.cell? ⟨w.heap.size + 1, 0, none⟩ = some (.int .i64 0) := by rw [hwa]; simp [go_sem]
  have r1 : wa.cell? ⟨w.heap.size + 1, 1, none⟩ = some (.slice none 0 0) := by rw [hwa]; simp [go_sem]
  have fr : ∀ o, wa.frozen? ⟨w.heap.size + 1, o, none⟩ = false := by intro o; rw [hwa]; simp [go_sem]
  have B0 : Below w.heap.size w wa := by rw [hwa]; exact (by repeat (first | with_reducible exact Below.refl _ _ | with_reducible refine Below.setCell ?_ (by first | omega | (simp; done) | (simp; omega)) _ | with_reducible refine bDrewN ?_ _ | with_reducible refine Below.drew ?_ | with_reducible refine Below.alloc ?_ (by first | omega | (simp; done) | (simp; omega)) _))
  have z1 : w.heap.size + 1 < wa.heap.size := by omega
  have z0 : w.heap.size < wa.heap.size := by omega
  clear hwa hs
  obtain ⟨cur, hcur⟩ : ∃ cur, madeCells #[.int .i64 0, .int .i64 0, .int .i64 0, .bool false, .int .i64 0] (n * 5) = cur := ⟨_, rfl⟩
  rw [hcur]
  obtain ⟨v, hv⟩ := copy_alarms wa n c V s cur 3 43 (by rw [← hcur]; simp [madeCells]) (fun _ => trivial) (HR.out.below B0)
  have q1 : (wa.alloc (.cells cur 43)).cell? ⟨w.heap.size, 1, none⟩ = some (.slice s n c) := ((below0 wa _).cell (p := ⟨w.heap.size, 1, none⟩) z0).trans p1
  clear hcur
  go_upto_region 3 with (at_builtin; refine Lib.wpList_copy_run _ (by rfl) (.tmp 8) (.tmp 10) 24 24 (by rfl) _ _ (by rfl) (by rfl) hv ?_)
  obtain ⟨wb, hwb⟩ : ∃ wb, wb = wa.alloc (.cells (alC V n).toArray 43) := ⟨_, rfl⟩
  rw [← hwb]
  have hb : Below wa.heap.size wa wb := by rw [hwb]; exact below0 _ _
  have HM : Hid (AlM wa.heap.size wb n V) := by rw [hwb]; exact alM_alloc wa n V _
  replace p0 := (hb.cell (p := ⟨w.heap.size, 0, none⟩) z0).trans p0
  replace r0 := (hb.cell (p := ⟨w.heap.size + 1, 0, none⟩) z1).trans r0
  replace r1 := (hb.cell (p := ⟨w.heap.size + 1, 1, none⟩) z1).trans r1
  replace fr : ∀ o, wb.frozen? ⟨w.heap.size + 1, o, none⟩ = false := fun o => (hb.frozen (p := ⟨w.heap.size + 1, o, none⟩) z1).trans (fr o)
  have B1 : Below w.heap.size w wb := B0.trans (hb.mono B0.size)
  have sto := store_slT
  have zb := hb.size
  clear hwb hb hv p1 q1
  go_wp2
  exact bodyPost_ret (v := .agg #[.int .i64 x, .slice (some ⟨wa.heap.size, 0, none⟩) n n]) (by simp [results, Try.results47, go_sem, r0, r1]) rfl ⟨wa.heap.size, rfl, by omega, ((HM.out.beside (Beside.setCell (w.heap.size + 1) _ _ _) (by omega)).beside (Beside.setCell (w.heap.size + 1) _ _ _) (by omega)), (by repeat (first | with_reducible exact Below.refl _ _ | with_reducible exact B1 | with_reducible refine Below.setCell ?_ (by first | omega | (simp; done) | (simp; omega)) _ | with_reducible refine bDrewN ?_ _ | with_reducible refine Below.drew ?_ | with_reducible refine Below.alloc ?_ (by first | omega | (simp; done) | (simp; omega)) _))⟩
end Go.Proofs.Ytlbbdifmjdpfiaa
