/-
What is proved: a list of float64s copied by the law's own helper.
-/
import Derived.Test.YtffbpidldnbgaaaOwnF
namespace Go.Proofs.Ytffbpidldnbgaaa
set_option maxRecDepth 40000
open Go.RowKit
set_option linter.unusedVariables false
set_option linter.unusedSimpArgs false

theorem store_fr : ∀ (W : World) (a : Addr) (x : Nat), (W.cell? a).isSome = true → W.frozen? a = false → (store a (.float .f64 x)).run Try.prog W = .ok () (W.setCell a (.float .f64 x)) := fun W a x h hf => by
  obtain ⟨u, hu⟩ := Option.isSome_iff_exists.1 h
  rw [run_store Try.prog W a _ _ rfl, hu]
  simp [hf]
/-- A row of float64s on its way: of n cells the first k are V, the others some number, in the block at the end of w. -/
def RowFTo (w wr : World) (n k : Nat) (V : Nat → Option Nat) : Prop := Below w.heap.size w wr ∧ w.heap.size < wr.heap.size ∧ (∀ o, wr.frozen? ⟨w.heap.size, o, none⟩ = false) ∧ ∀ j, j < n → ∃ x, wr.cell? ⟨w.heap.size, j, none⟩ = some (.float .f64 x) ∧ (j < k → Fl x (V j))
theorem rowFTo_start {w : World} {n m : Nat} {z : Array Value} {t : TypeId} {V : Nat → Option Nat} (hz : ∀ j, j < n → (madeCells z m)[j]? = some (.float .f64 0)) : RowFTo w (w.alloc (.cells (madeCells z m) t)) n 0 V :=
  ⟨below0 _ _, by simp, fun o => by simp [go_sem], fun j hj => ⟨0, by simpa [go_sem] using hz j hj, fun h => by omega⟩⟩
theorem rowFTo_keep {w wr w3 : World} {n k : Nat} {V : Nat → Option Nat} (h : RowFTo w wr n k V) (h3 : Below wr.heap.size wr w3) : RowFTo w w3 n k V := by
  obtain ⟨hB, hz, hf, hc⟩ := h
  refine ⟨hB.trans (h3.mono (by omega)), Nat.lt_of_lt_of_le hz h3.size, fun o => (h3.frozen (p := ⟨w.heap.size, o, none⟩) hz).trans (hf o), fun j hj => ?_⟩
  obtain ⟨x, c, hx⟩ := hc j hj
  exact ⟨x, (h3.cell (p := ⟨w.heap.size, j, none⟩) hz).trans c, hx⟩
theorem rowFTo_set {w wr : World} {n k : Nat} {V : Nat → Option Nat} {x : Nat} (h : RowFTo w wr n k V) (hx : Fl x (V k)) : RowFTo w (wr.setCell ⟨w.heap.size, k, none⟩ (.float .f64 x)) n (k + 1) V := by
  obtain ⟨hB, hz, hf, hc⟩ := h
  refine ⟨(by repeat (first | with_reducible exact Below.refl _ _ | with_reducible exact hB | with_reducible refine Below.setCell ?_ (by first | omega | (simp; done) | (simp; omega)) _ | with_reducible refine bDrewN ?_ _ | with_reducible refine Below.drew ?_ | with_reducible refine Below.alloc ?_ (by first | omega | (simp; done) | (simp; omega)) _)), by simpa using hz, fun o => by simp [go_sem, hf], fun j hj => ?_⟩
  obtain ⟨y, c, hy⟩ := hc j hj
  by_cases b : j = k
  · subst b
    exact ⟨x, by simp [go_sem, c], fun _ => hx⟩
  · exact ⟨y, by simp [go_sem, c, b], fun h => hy (by omega)⟩
theorem rowFTo_own {w wr : World} {n : Nat} {V : Nat → Option Nat} (h : RowFTo w wr n n V) : OwnF w.heap.size wr (some ⟨w.heap.size, 0, none⟩) n V := fun j hj => by
  obtain ⟨hB, hz, hf, hc⟩ := h
  obtain ⟨x, c, hx⟩ := hc j hj
  exact ⟨_, x, rfl, Nat.le_refl _, hz, c, hx hj, hf j⟩
theorem make_f64 (n : Nat) (hn : n ≤ 1048576) (w : World) : (Instr.makeSlice 24 (.int .i64 (n : Int)) (.int .i64 (n : Int))).run Try.prog w = .ok (.slice (some ⟨w.heap.size, 0, none⟩) n n) (w.alloc (.cells (madeCells #[.float .f64 0] n) 25)) := by
  have hinfo := info_f64
  obtain ⟨i, hi, hzz⟩ := Option.map_eq_some_iff.1 hinfo
  simp only [Prod.mk.injEq] at hzz
  obtain ⟨hz, hs, hb⟩ := hzz
  have hr := run_make (P := Try.prog) w 24 25 i _ Try.underlying24 hi hz .i64 .i64 n n (by omega) (Int.le_refl _) (by rw [hb]; omega) (by omega)
  simp only [Int.toNat_natCast, hs, Nat.mul_one] at hr
  exact hr
theorem made_one (n : Nat) : ∀ j, j < n → (madeCells #[.float .f64 0] n)[j]? = some (.float .f64 0) := fun j hj => by
  simp only [madeCells, Array.getElem?_map, Array.getElem?_range, hj, if_true, Option.map_some]
  show some ((#[Value.float .f64 0] : Array Value)[j % 1]!) = _
  rw [Nat.mod_one]; rfl


set_option maxRecDepth 20000 in
set_option maxHeartbeats 2000000 in
theorem toFloat64S_any (s : Option Addr) (n c : Nat) (V : Nat → Option Nat) (w : World) (hn : (n : Int) ≤ 1048576) (HR : Hid (RowF w s n V)) :
    Calls Try.prog 13 #[.slice s n c] w fun e w' => e = .returned (.slice (some ⟨w.heap.size, 0, none⟩) n n) ∧ w.heap.size < w'.heap.size ∧ OwnF w.heap.size w' (some ⟨w.heap.size, 0, none⟩) n V ∧ Below w.heap.size w w' := by
  have hmk := make_f64 n (by omega)
  have sto := store_fr
  go_enter Try.func13, Try.ntmps13
  go_wp2_with fail
  go_loopw [4] (fun i wr => ∃ k : Nat, k ≤ n ∧ i = .int .i64 k ∧ RowFTo w wr n k V) (fun i _ => n - (intOf i).toNat)
  case atStart => exact ⟨0, Nat.zero_le _, rfl, rowFTo_start (made_one n)⟩
  case round =>
    obtain ⟨k, hk, rfl, hR⟩ := hrel
    have HT : Hid (RowFTo w wr n k V) := hR
    obtain ⟨hB, hz, hf, hc⟩ := hR
    by_cases h1 : k < n
    · obtain ⟨g, o, x, rfl, hg, c0, hx⟩ := HR.out k h1
      have d0 : wr.cell? ⟨g, o + k, none⟩ = some (.float .f64 x) := (hB.cell (p := ⟨g, o + k, none⟩) hg).trans c0
      have k1 : (k : Int) < (n : Int) := by omega
      have HX : Hid (Fl x (V k)) := hx
      obtain ⟨u0, f0, -⟩ := hc k h1
      have f1 := hf k
      clear hc hB c0 hg hx hf
      go_wp2
      go_roundw
      case rel => exact ⟨k + 1, by omega, by go_num, rowFTo_set HT.out HX.out⟩
      case measure => simp [intOf]; omega
    · obtain rfl : k = n := by omega
      go_wp2
      go_ret
      exact ⟨rfl, hz, rowFTo_own HT.out, hB⟩
end Go.Proofs.Ytffbpidldnbgaaa
