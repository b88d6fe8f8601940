/-
What is proved: rows of float64s: how they are kept; what the law's own helpers do with a list of float64s: its count, a copy, comparing.
-/
import Derived.Test.YtebjeoljbbkakaaSameF
import Derived.Test.YtebjeoljbbkakaaBeside
import Derived.Deep.OwnRows
import Derived.Deep.RegionHeld3
import Derived.Deep.DeepCutAuto
namespace Go.Proofs.Ytebjeoljbbkakaa
set_option maxRecDepth 40000
open Go.RowKit
set_option linter.unusedVariables false
set_option linter.unusedSimpArgs false

/-- A row of m float64s at a place, each told up to a NaN's bits. -/
def RowF (w : World) (s : Option Addr) (m : Nat) (V : Nat → Option Nat) : Prop := ∀ j, j < m → ∃ b o x, s = some ⟨b, o, none⟩ ∧ b < w.heap.size ∧ w.cell? ⟨b, o + j, none⟩ = some (.float .f64 x) ∧ Fl x (V j)
/-- The same in blocks from base on, which may be written. -/
def OwnF (base : Nat) (w : World) (s : Option Addr) (m : Nat) (V : Nat → Option Nat) : Prop := ∀ j, j < m → ∃ b x, s = some ⟨b, 0, none⟩ ∧ base ≤ b ∧ b < w.heap.size ∧ w.cell? ⟨b, j, none⟩ = some (.float .f64 x) ∧ Fl x (V j) ∧ w.frozen? ⟨b, j, none⟩ = false
theorem RowF.below {w w' : World} {s : Option Addr} {m : Nat} {V : Nat → Option Nat} (h : RowF w s m V) (hb : Below w.heap.size w w') : RowF w' s m V := fun j hj => by
  obtain ⟨b, o, x, e, hl, hc, hx⟩ := h j hj
  exact ⟨b, o, x, e, Nat.lt_of_lt_of_le hl hb.size, (hb.cell (p := ⟨b, o + j, none⟩) hl).trans hc, hx⟩
theorem OwnF.row {base : Nat} {w : World} {s : Option Addr} {m : Nat} {V : Nat → Option Nat} (h : OwnF base w s m V) : RowF w s m V := fun j hj => by
  obtain ⟨b, x, e, _, hl, hc, hx, _⟩ := h j hj
  exact ⟨b, 0, x, e, hl, by rw [Nat.zero_add]; exact hc, hx⟩
theorem OwnF.below {base : Nat} {w w' : World} {s : Option Addr} {m : Nat} {V : Nat → Option Nat} (h : OwnF base w s m V) (hb : Below w.heap.size w w') : OwnF base w' s m V := fun j hj => by
  obtain ⟨b, x, e, hB, hl, hc, hx, hf⟩ := h j hj
  exact ⟨b, x, e, hB, Nat.lt_of_lt_of_le hl hb.size, (hb.cell (p := ⟨b, j, none⟩) hl).trans hc, hx, (hb.frozen (p := ⟨b, j, none⟩) hl).trans hf⟩
theorem OwnF.mono {base base' : Nat} {w : World} {s : Option Addr} {m : Nat} {V : Nat → Option Nat} (h : OwnF base w s m V) (hb : base' ≤ base) : OwnF base' w s m V := fun j hj => by
  obtain ⟨b, x, e, hB, r⟩ := h j hj
  exact ⟨b, x, e, by omega, r⟩
theorem OwnF.beside {base r : Nat} {w w' : World} {s : Option Addr} {m : Nat} {V : Nat → Option Nat} (h : OwnF base w s m V) (hb : Beside r w w') (hr : r < base) : OwnF base w' s m V := fun j hj => by
  obtain ⟨b, x, e, hB, hl, hc, hx, hf⟩ := h j hj
  exact ⟨b, x, e, hB, Nat.lt_of_lt_of_le hl hb.2.2.2.1, (hb.cell (p := ⟨b, j, none⟩) hl (by simp only; omega)).trans hc, hx, (hb.frozen (p := ⟨b, j, none⟩) hl (by simp only; omega)).trans hf⟩

theorem info_f64 : (Try.prog.info? 58).map (fun i => (i.zero, i.size, i.bytes)) = some (some (.float .f64 0), 1, 8) := by kernel_rfl
theorem store_fr : ∀ (W : World) (a : Addr) (x : Nat), (W.cell? a).isSome = true → W.frozen? a = false → (store a (.float .f64 x)).run Try.prog W = .ok () (W.setCell a (.float .f64 x)) := fun W a x h hf => by
  obtain ⟨u, hu⟩ := Option.isSome_iff_exists.1 h
  rw [run_store Try.prog W a _ _ rfl, hu]
  simp [hf]
set_option maxRecDepth 20000 in
set_option maxHeartbeats 1000000 in
theorem eqFloat64S_any (s t : Option Addr) (n c d : Nat) (V : Nat → Option Nat) (w : World) (hn : (n : Int) ≤ 1048576) (HR : Hid (RowF w s n V)) (HT : Hid (RowF w t n V)) :
    Calls Try.prog 29 #[.slice s n c, .slice t n d] w fun e w' => e = .returned (.bool true) ∧ Below w.heap.size w w' := by
  go_enter Try.func29, Try.ntmps29
  go_wp2_with fail
  go_loopw [5] (fun i wr => ∃ k : Nat, k ≤ n ∧ i = .int .i64 k ∧ Below w.heap.size w wr) (fun i _ => n - (intOf i).toNat)
  case atStart => exact ⟨0, Nat.zero_le _, rfl, Below.refl _ _⟩
  case round =>
    obtain ⟨k, hk, rfl, hB⟩ := hrel
    by_cases h1 : k < n
    · obtain ⟨g, o, x, rfl, hg, c0, hx⟩ := HR.out k h1
      obtain ⟨p, q, y, rfl, hp, d0, hy⟩ := HT.out k h1
      have u0 : wr.cell? ⟨g, o + k, none⟩ = some (.float .f64 x) := (hB.cell (p := ⟨g, o + k, none⟩) hg).trans c0
      have v0 : wr.cell? ⟨p, q + k, none⟩ = some (.float .f64 y) := (hB.cell (p := ⟨p, q + k, none⟩) hp).trans d0
      have k1 : (k : Int) < (n : Int) := by omega
      have HB : Hid (Below w.heap.size w wr) := hB
      have S : Hid (∀ w, Calls Try.prog 43 #[.float .f64 x, .float .f64 y] w fun e w' => e = .returned (.bool true) ∧ w' = w) := fun w => sameFloat_any hx hy w
      clear hB c0 d0 hg hp hx hy
      go_wp2_with fail
      go_quiet (first | (go_at_call 43; exact Calls.quiet_of_same (S.out _)))
      go_wp2
      go_roundw
      case rel => exact ⟨k + 1, by omega, by go_num, bDrewN HB.out _⟩
      case measure => simp [intOf]; omega
    · obtain rfl : k = n := by omega
      go_wp2
      go_ret
      exact ⟨rfl, (by repeat (first | with_reducible exact Below.refl _ _ | with_reducible exact hB | with_reducible refine Below.setCell ?_ (by first | omega | (simp; done) | (simp; omega)) _ | with_reducible refine bDrewN ?_ _ | with_reducible refine Below.drew ?_ | with_reducible refine Below.alloc ?_ (by first | omega | (simp; done) | (simp; omega)) _))⟩

/-- A row of float64s on its way: of n cells the first k are V, the others some number, in the block at the end of w. -/
def RowFTo (w wr : World) (n k : Nat) (V : Nat → Option Nat) : Prop := Below w.heap.size w wr ∧ w.heap.size < wr.heap.size ∧ (∀ o, wr.frozen? ⟨w.heap.size, o, none⟩ = false) ∧ ∀ j, j < n → ∃ x, wr.cell? ⟨w.heap.size, j, none⟩ = some (.float .f64 x) ∧ (j < k → Fl x (V j))
theorem rowFTo_start {w : World} {n m : Nat} {z : Array Value} {t : TypeId} {V : Nat → Option Nat} (hz : ∀ j, j < n → (madeCells z m)[j]? = some (.float .f64 0)) : RowFTo w (w.alloc (.cells (madeCells z m) t)) n 0 V :=
  ⟨below0 _ _, by simp, fun o => by simp [go_sem], fun j hj => ⟨0, by simpa [go_sem] using hz j hj, fun h => by omega⟩⟩
theorem rowFTo_keep {w wr w3 : World} {n k : Nat} {V : Nat → Option Nat} (h : RowFTo w wr n k V) (h3 : Below wr.heap.size wr w3) : RowFTo w w3 n k V := by
  obtain ⟨hB, hz, hf, hc⟩ := h
  refine ⟨hB.trans (h3.mono (by omega)), Nat.lt_of_lt_of_le hz h3.size, fun o => (h3.frozen (p := ⟨w.heap.size, o, none⟩) hz).trans (hf o), fun j hj => ?_⟩
  obtain ⟨x, c, hx⟩ := hc j hj
  exact ⟨x, (h3.cell (p := ⟨w.heap.size, j, none⟩) hz).trans c, hx⟩
theorem rowFTo_set {w wr : World} {n k : Nat} {V : Nat → Option Nat} {x : Nat} (h : RowFTo w wr n k V) (hx : Fl x (V k)) : RowFTo w (wr.setCell ⟨w.heap.size, k, none⟩ (.float .f64 x)) n (k + 1) V := by
  obtain ⟨hB, hz, hf, hc⟩ := h
  refine ⟨(by repeat (first | with_reducible exact Below.refl _ _ | with_reducible exact hB | with_reducible refine Below.setCell ?_ (by first | omega | (simp; done) | (simp; omega)) _ | with_reducible refine bDrewN ?_ _ | with_reducible refine Below.drew ?_ | with_reducible refine Below.alloc ?_ (by first | omega | (simp; done) | (simp; omega)) _)), by simpa using hz, fun o => by simp [go_sem, hf], fun j hj => ?_⟩
  obtain ⟨y, c, hy⟩ := hc j hj
  by_cases b : j = k
  · subst b
    exact ⟨x, by simp [go_sem, c], fun _ => hx⟩
  · exact ⟨y, by simp [go_sem, c, b], fun h => hy (by omega)⟩
theorem rowFTo_own {w wr : World} {n : Nat} {V : Nat → Option Nat} (h : RowFTo w wr n n V) : OwnF w.heap.size wr (some ⟨w.heap.size, 0, none⟩) n V := fun j hj => by
  obtain ⟨hB, hz, hf, hc⟩ := h
  obtain ⟨x, c, hx⟩ := hc j hj
  exact ⟨_, x, rfl, Nat.le_refl _, hz, c, hx hj, hf j⟩
theorem make_f64 (n : Nat) (hn : n ≤ 1048576) (w : World) : (Instr.makeSlice 22 (.int .i64 (n : Int)) (.int .i64 (n : Int))).run Try.prog w = .ok (.slice (some ⟨w.heap.size, 0, none⟩) n n) (w.alloc (.cells (madeCells #[.float .f64 0] n) 58)) := by
  have hinfo := info_f64
  obtain ⟨i, hi, hzz⟩ := Option.map_eq_some_iff.1 hinfo
  simp only [Prod.mk.injEq] at hzz
  obtain ⟨hz, hs, hb⟩ := hzz
  have hr := run_make (P := Try.prog) w 22 58 i _ Try.underlying22 hi hz .i64 .i64 n n (by omega) (Int.le_refl _) (by rw [hb]; omega) (by omega)
  simp only [Int.toNat_natCast, hs, Nat.mul_one] at hr
  exact hr
theorem made_one (n : Nat) : ∀ j, j < n → (madeCells #[.float .f64 0] n)[j]? = some (.float .f64 0) := fun j hj => by
  simp only [madeCells, Array.getElem?_map, Array.getElem?_range, hj, if_true, Option.map_some]
  show some ((#[Value.float .f64 0] : Array Value)[j % 1]!) = _
  rw [Nat.mod_one]; rfl


set_option maxRecDepth 20000 in
set_option maxHeartbeats 2000000 in
theorem toFloat64S_any (s : Option Addr) (n c : Nat) (V : Nat → Option Nat) (w : World) (hn : (n : Int) ≤ 1048576) (HR : Hid (RowF w s n V)) :
    Calls Try.prog 26 #[.slice s n c] w fun e w' => e = .returned (.slice (some ⟨w.heap.size, 0, none⟩) n n) ∧ w.heap.size < w'.heap.size ∧ OwnF w.heap.size w' (some ⟨w.heap.size, 0, none⟩) n V ∧ Below w.heap.size w w' := by
  have hmk := make_f64 n (by omega)
  have sto := store_fr
  go_enter Try.func26, Try.ntmps26
  go_wp2_with fail
  go_loopw [4] (fun i wr => ∃ k : Nat, k ≤ n ∧ i = .int .i64 k ∧ RowFTo w wr n k V) (fun i _ => n - (intOf i).toNat)
  case atStart => exact ⟨0, Nat.zero_le _, rfl, rowFTo_start (made_one n)⟩
  case round =>
    obtain ⟨k, hk, rfl, hR⟩ := hrel
    have HT : Hid (RowFTo w wr n k V) := hR
    obtain ⟨hB, hz, hf, hc⟩ := hR
    by_cases h1 : k < n
    · obtain ⟨g, o, x, rfl, hg, c0, hx⟩ := HR.out k h1
      have d0 : wr.cell? ⟨g, o + k, none⟩ = some (.float .f64 x) := (hB.cell (p := ⟨g, o + k, none⟩) hg).trans c0
      have k1 : (k : Int) < (n : Int) := by omega
      have HX : Hid (Fl x (V k)) := hx
      obtain ⟨u0, f0, -⟩ := hc k h1
      have f1 := hf k
      clear hc hB c0 hg hx hf
      go_wp2
      go_roundw
      case rel => exact ⟨k + 1, by omega, by go_num, rowFTo_set HT.out HX.out⟩
      case measure => simp [intOf]; omega
    · obtain rfl : k = n := by omega
      go_wp2
      go_ret
      exact ⟨rfl, hz, rowFTo_own HT.out, hB⟩
theorem szF_on (s : Option Addr) (n c : Nat) (l : Int) (w : World) (h0 : 0 ≤ l) (h1 : l ≤ 1048576) (hn : (n : Int) ≤ l) : Calls Try.prog 24 #[.slice s n c, .int .i64 l] w fun e w' => e = .returned (.int .i64 (l - (n : Int))) ∧ w' = w := by
  go_enter Try.func24, Try.ntmps24
  go_wp2
  go_ret
  exact ⟨rfl, rfl⟩
theorem szF_off (s : Option Addr) (n c : Nat) (l : Int) (w : World) (h0 : 0 ≤ l) (h1 : l ≤ 1048576) (hn : l < (n : Int)) (hn' : (n : Int) ≤ 9223372036854775807) : Calls Try.prog 24 #[.slice s n c, .int .i64 l] w fun e w' => e = .returned (.int .i64 (-1)) ∧ w' = w := by
  go_enter Try.func24, Try.ntmps24
  go_wp2
  go_ret
  exact ⟨rfl, rfl⟩
end Go.Proofs.Ytebjeoljbbkakaa
