/-
What is proved: a polynomial's value at a pair, as the program works it out: its coefficients made pairs, taken one by one through an interface.
-/
import Derived.Test.YtamcmhlliplphaaPo
import Derived.Test.YtamcmhlliplphaaIAddPairQ
import Derived.Test.YtamcmhlliplphaaIMulPairQ
import Derived.Test.YtamcmhlliplphaaDivPairQ
import Derived.Deep.OwnRows
import Derived.Deep.RegionHeld3
import Derived.Deep.DeepCutAuto
namespace Go.Proofs.Ytamcmhlliplphaa
set_option maxRecDepth 40000
open Go.RowKit
set_option linter.unusedVariables false
set_option linter.unusedSimpArgs false

set_option maxHeartbeats 1000000 in
theorem times_any {x y z u : Nat} {a b c d : Option Nat} (hx : Fl x a) (hy : Fl y b) (hz : Fl z c) (hu : Fl u d) (w : World) : Calls Try.prog 59 #[.agg #[.float .f64 x, .float .f64 y], .agg #[.float .f64 z, .float .f64 u]] w fun e w' => ∃ r i, e = .returned (.agg #[.float .f64 r, .float .f64 i]) ∧ Fl r (mulRe a b c d) ∧ Fl i (mulIm a b c d) ∧ Below w.heap.size w w' := by
  have st := store_fp
  go_enter Try.func59, Try.ntmps59
  go_wp2_with fail
  refine (implMulPair_any hx hy hz hu _).mono ?_
  rintro e w1 ⟨r, i, rfl, hr, hi, h1⟩
  have B1 : Below w.heap.size w w1 := Below.trans (by repeat (first | with_reducible exact Below.refl _ _ | with_reducible refine Below.setCell ?_ (by first | omega | (simp; done) | (simp; omega)) _ | with_reducible refine bDrewN ?_ _ | with_reducible refine Below.drew ?_ | with_reducible refine Below.alloc ?_ (by first | omega | (simp; done) | (simp; omega)) _)) (h1.mono (by first | omega | (simp; done) | (simp; omega)))
  obtain ⟨hc, hf⟩ := bcell h1
  have s1 := h1.size
  simp at s1
  have c0 := hc (w.heap.size + 1 + 1) 0 (by first | omega | (simp; done) | (simp; omega))
  have c1 := hc (w.heap.size + 1 + 1) 1 (by first | omega | (simp; done) | (simp; omega))
  have f0 := hf (w.heap.size + 1 + 1) 0 (by first | omega | (simp; done) | (simp; omega))
  have f1 := hf (w.heap.size + 1 + 1) 1 (by first | omega | (simp; done) | (simp; omega))
  simp [go_sem] at c0 c1 f0 f1
  have z1 : w.heap.size + 1 + 1 < w1.heap.size := by omega
  clear hc hf h1
  go_wp2
  exact bodyPost_ret (v := .agg #[.float .f64 r, .float .f64 i]) (by simp [results, Try.results59, go_sem, c0, c1]) rfl ⟨r, i, rfl, hr, hi, (by repeat (first | with_reducible exact Below.refl _ _ | with_reducible exact B1 | with_reducible refine Below.setCell ?_ (by first | omega | (simp; done) | (simp; omega)) _ | with_reducible refine bDrewN ?_ _ | with_reducible refine Below.drew ?_ | with_reducible refine Below.alloc ?_ (by first | omega | (simp; done) | (simp; omega)) _))⟩
set_option maxHeartbeats 1000000 in
theorem plus_any {x y z u : Nat} {a b c d : Option Nat} (hx : Fl x a) (hy : Fl y b) (hz : Fl z c) (hu : Fl u d) (w : World) : Calls Try.prog 58 #[.agg #[.float .f64 x, .float .f64 y], .agg #[.float .f64 z, .float .f64 u]] w fun e w' => ∃ r i, e = .returned (.agg #[.float .f64 r, .float .f64 i]) ∧ Fl r (opO .add a c) ∧ Fl i (opO .add b d) ∧ Below w.heap.size w w' := by
  have st := store_fp
  go_enter Try.func58, Try.ntmps58
  go_wp2_with fail
  refine (implAddPair_any hx hy hz hu _).mono ?_
  rintro e w1 ⟨r, i, rfl, hr, hi, h1⟩
  have B1 : Below w.heap.size w w1 := Below.trans (by repeat (first | with_reducible exact Below.refl _ _ | with_reducible refine Below.setCell ?_ (by first | omega | (simp; done) | (simp; omega)) _ | with_reducible refine bDrewN ?_ _ | with_reducible refine Below.drew ?_ | with_reducible refine Below.alloc ?_ (by first | omega | (simp; done) | (simp; omega)) _)) (h1.mono (by first | omega | (simp; done) | (simp; omega)))
  obtain ⟨hc, hf⟩ := bcell h1
  have s1 := h1.size
  simp at s1
  have c0 := hc (w.heap.size + 1 + 1) 0 (by first | omega | (simp; done) | (simp; omega))
  have c1 := hc (w.heap.size + 1 + 1) 1 (by first | omega | (simp; done) | (simp; omega))
  have f0 := hf (w.heap.size + 1 + 1) 0 (by first | omega | (simp; done) | (simp; omega))
  have f1 := hf (w.heap.size + 1 + 1) 1 (by first | omega | (simp; done) | (simp; omega))
  simp [go_sem] at c0 c1 f0 f1
  have z1 : w.heap.size + 1 + 1 < w1.heap.size := by omega
  clear hc hf h1
  go_wp2
  exact bodyPost_ret (v := .agg #[.float .f64 r, .float .f64 i]) (by simp [results, Try.results58, go_sem, c0, c1]) rfl ⟨r, i, rfl, hr, hi, (by repeat (first | with_reducible exact Below.refl _ _ | with_reducible exact B1 | with_reducible refine Below.setCell ?_ (by first | omega | (simp; done) | (simp; omega)) _ | with_reducible refine bDrewN ?_ _ | with_reducible refine Below.drew ?_ | with_reducible refine Below.alloc ?_ (by first | omega | (simp; done) | (simp; omega)) _))⟩
set_option maxHeartbeats 1000000 in
theorem realPair_any (k : Int) (w : World) : Calls Try.prog 20 #[.int .i64 k] w fun e w' => e = .returned (.agg #[.float .f64 (itf k), .float .f64 0]) ∧ w' = w.alloc (.cells #[.float .f64 (itf k), .float .f64 0] 26) := by
  have st := store_fp
  have cv := conv64
  go_enter Try.func20, Try.ntmps20
  go_wp2
  exact bodyPost_ret (v := .agg #[.float .f64 (itf k), .float .f64 0]) (by simp [results, Try.results20, go_sem]) rfl ⟨rfl, rfl⟩
theorem make_pairs (n : Nat) (hn : n ≤ 1048576) (w : World) : (Instr.makeSlice 40 (.int .i64 (n : Int)) (.int .i64 (n : Int))).run Try.prog w = .ok (.slice (some ⟨w.heap.size, 0, none⟩) n n) (w.alloc (.cells (madeCells #[.float .f64 0, .float .f64 0] (n * 2)) 26)) := by
  have hinfo : (Try.prog.info? 26).map (fun i => (i.zero, i.size, i.bytes)) = some (some (.agg #[.float .f64 0, .float .f64 0]), 2, 16) := by kernel_rfl
  obtain ⟨i, hi, hzz⟩ := Option.map_eq_some_iff.1 hinfo
  simp only [Prod.mk.injEq] at hzz
  obtain ⟨hz, hs, hb⟩ := hzz
  have hr := run_make (P := Try.prog) w 40 26 i _ Try.underlying40 hi hz .i64 .i64 n n (by omega) (Int.le_refl _) (by rw [hb]; omega) (by omega)
  simp only [Int.toNat_natCast, hs] at hr
  exact hr
def coefV (V : Nat → Int) (k j : Nat) : Nat := if j % 2 = 0 then (if j / 2 < k then itf (V (j / 2)) else 0) else 0
/-- Coefficients on their way of being made pairs: k of n are there. -/
def PolyRow (w wr : World) (n k : Nat) (V : Nat → Int) : Prop := Below w.heap.size w wr ∧ w.heap.size < wr.heap.size ∧ (∀ o, wr.frozen? ⟨w.heap.size, o, none⟩ = false) ∧ ∀ j, j < n * 2 → wr.cell? ⟨w.heap.size, j, none⟩ = some (.float .f64 (coefV V k j))
theorem polyRow_start (w : World) (n : Nat) (V : Nat → Int) (t : TypeId) : PolyRow w (w.alloc (.cells (madeCells #[.float .f64 0, .float .f64 0] (n * 2)) t)) n 0 V := by
  refine ⟨below0 _ _, by simp, fun o => by simp [go_sem], fun j hj => ?_⟩
  have hm : (madeCells #[.float .f64 0, .float .f64 0] (n * 2))[j]? = some (.float .f64 0) := by
    simp only [madeCells, Array.getElem?_map, Array.getElem?_range, hj, if_true, Option.map_some]
    have : j % 2 = 0 ∨ j % 2 = 1 := by omega
    rcases this with h | h
    · show some ((#[Value.float .f64 0, Value.float .f64 0] : Array Value)[j % 2]!) = _
      rw [h]; rfl
    · show some ((#[Value.float .f64 0, Value.float .f64 0] : Array Value)[j % 2]!) = _
      rw [h]; rfl
  have e : coefV V 0 j = 0 := by unfold coefV; split <;> simp
  rw [e]
  simpa [go_sem] using hm
theorem coef_on {V : Nat → Int} {k j : Nat} (h : j ≠ k * 2) : coefV V (k + 1) j = coefV V k j := by
  unfold coefV
  split
  · by_cases q : j / 2 < k
    · rw [if_pos q, if_pos (by omega)]
    · rw [if_neg q, if_neg (by omega)]
  · rfl
theorem coef_at (V : Nat → Int) (k : Nat) : coefV V (k + 1) (k * 2) = itf (V k) := by
  unfold coefV
  rw [if_pos (by omega), if_pos (by omega), show k * 2 / 2 = k by omega]
theorem coef_odd (V : Nat → Int) (k j : Nat) : coefV V k (j * 2 + 1) = 0 := by
  unfold coefV
  rw [if_neg (by omega)]
theorem polyRow_on {w wr w3 : World} {n k : Nat} {V : Nat → Int} (h : PolyRow w wr n k V) (h3 : Below wr.heap.size wr w3) :
    PolyRow w ((w3.setCell ⟨w.heap.size, k * 2, none⟩ (.float .f64 (itf (V k)))).setCell ⟨w.heap.size, k * 2 + 1, none⟩ (.float .f64 0)) n (k + 1) V := by
  obtain ⟨hB, hz, hf, hc⟩ := h
  have z3 : w.heap.size < w3.heap.size := Nat.lt_of_lt_of_le hz h3.size
  have B3 : Below w.heap.size w w3 := hB.trans (h3.mono (by omega))
  have fz : ∀ o, w3.frozen? ⟨w.heap.size, o, none⟩ = false := fun o => (h3.frozen (p := ⟨w.heap.size, o, none⟩) hz).trans (hf o)
  refine ⟨(by repeat (first | with_reducible exact Below.refl _ _ | with_reducible exact B3 | with_reducible refine Below.setCell ?_ (by first | omega | (simp; done) | (simp; omega)) _ | with_reducible refine bDrewN ?_ _ | with_reducible refine Below.drew ?_ | with_reducible refine Below.alloc ?_ (by first | omega | (simp; done) | (simp; omega)) _)), by simpa using z3, fun o => by simp [go_sem, fz], fun j hj => ?_⟩
  have c3 : w3.cell? ⟨w.heap.size, j, none⟩ = some (.float .f64 (coefV V k j)) := (h3.cell (p := ⟨w.heap.size, j, none⟩) hz).trans (hc j hj)
  by_cases a : j = k * 2 + 1
  · subst a
    rw [coef_odd]
    simp [go_sem, c3]
  · by_cases b : j = k * 2
    · subst b
      rw [coef_at]
      simp [go_sem, c3]
    · rw [coef_on b]
      simp [go_sem, c3]
set_option maxRecDepth 20000 in
set_option maxHeartbeats 2000000 in
theorem polyOf_any (s : Option Addr) (n c : Nat) (V : Nat → Int) (w : World) (hn : (n : Int) ≤ 1048576) (HR : Hid (RowI w s n V)) :
    Calls Try.prog 19 #[.slice s n c, .func (.func 20) #[] #[]] w fun e w' => ∃ b, e = .returned (.slice (some ⟨b, 0, none⟩) n n) ∧ w.heap.size ≤ b ∧ b < w'.heap.size ∧ Hid (∀ j, j < n → w'.cell? ⟨b, j * 2, none⟩ = some (.float .f64 (itf (V j))) ∧ w'.cell? ⟨b, j * 2 + 1, none⟩ = some (.float .f64 0)) ∧ Below w.heap.size w w' := by
  have st := store_fp
  have hmk := make_pairs n (by omega)
  go_enter Try.func19, Try.ntmps19
  go_wp2_with fail
  go_loopw [13] (fun i wr => ∃ k : Nat, k ≤ n ∧ i = .int .i64 k ∧ PolyRow w wr n k V) (fun i _ => n - (intOf i).toNat)
  case atStart => exact ⟨0, Nat.zero_le _, rfl, polyRow_start w n V 26⟩
  case round =>
    obtain ⟨k, hk, rfl, hR⟩ := hrel
    have HT : Hid (PolyRow w wr n k V) := hR
    obtain ⟨hB, hz, hf, hc⟩ := hR
    by_cases h1 : k < n
    · obtain ⟨g, o, rfl, hg, c0⟩ := HR.out k h1
      have d0 : wr.cell? ⟨g, o + k, none⟩ = some (.int .i64 (V k)) := (hB.cell (p := ⟨g, o + k, none⟩) hg).trans c0
      have e0 := hc (k * 2) (by omega)
      have e1 := hc (k * 2 + 1) (by omega)
      have g0 := hf (k * 2)
      have g1 := hf (k * 2 + 1)
      have k1 : (k : Int) < (n : Int) := by omega
      have zg : g < wr.heap.size := Nat.lt_of_lt_of_le hg hB.size
      clear hc hB c0 hg hf
      go_wp2_with fail
      refine (realPair_any _ _).mono ?_
      rintro e w3 ⟨rfl, h3e⟩
      have h3 : Below wr.heap.size wr w3 := by rw [h3e]; exact below0 _ _
      clear h3e
      have i0 := (h3.cell (p := ⟨w.heap.size, k * 2, none⟩) hz).trans e0
      have i1 := (h3.cell (p := ⟨w.heap.size, k * 2 + 1, none⟩) hz).trans e1
      have j0 := (h3.frozen (p := ⟨w.heap.size, k * 2, none⟩) hz).trans g0
      have j1 := (h3.frozen (p := ⟨w.heap.size, k * 2 + 1, none⟩) hz).trans g1
      have z3 : w.heap.size < w3.heap.size := Nat.lt_of_lt_of_le hz h3.size
      have H3 : Hid (Below wr.heap.size wr w3) := h3
      clear h3 e0 e1 g0 g1 d0 zg
      go_wp2
      go_roundw
      case rel => exact ⟨k + 1, by omega, by go_num, polyRow_on HT.out H3.out⟩
      case measure => simp [intOf]; omega
    · obtain rfl : k = n := by omega
      have HC : Hid (∀ j, j < k → wr.cell? ⟨w.heap.size, j * 2, none⟩ = some (.float .f64 (itf (V j))) ∧ wr.cell? ⟨w.heap.size, j * 2 + 1, none⟩ = some (.float .f64 0)) := fun j hj => by
        have a := hc (j * 2) (by omega)
        have b := hc (j * 2 + 1) (by omega)
        rw [coef_odd] at b
        have e : coefV V k (j * 2) = itf (V j) := by unfold coefV; rw [if_pos (by omega), show j * 2 / 2 = j by omega, if_pos hj]
        rw [e] at a
        exact ⟨a, b⟩
      go_wp2
      go_ret
      exact ⟨w.heap.size, rfl, Nat.le_refl _, hz, HC, hB⟩
end Go.Proofs.Ytamcmhlliplphaa
