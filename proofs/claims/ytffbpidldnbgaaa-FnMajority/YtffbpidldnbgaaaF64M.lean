/-
What is proved: rows of float64s: how they are kept; what the law's own helpers do with a list of float64s: comparing, marking, what is held.
-/
import Derived.Test.YtffbpidldnbgaaaSameF
import Derived.Test.YtffbpidldnbgaaaBeside
import Derived.Deep.OwnRows
import Derived.Deep.RegionHeld3
import Derived.Deep.DeepCutAuto
import Derived.Deep.AppendLies
import Derived.Laws.OwnMore
namespace Go.Proofs.Ytffbpidldnbgaaa
set_option maxRecDepth 40000
open Go.RowKit
set_option linter.unusedVariables false
set_option linter.unusedSimpArgs false

/-- A row of m float64s at a place, each told up to a NaN's bits. -/
def RowF (w : World) (s : Option Addr) (m : Nat) (V : Nat → Option Nat) : Prop := ∀ j, j < m → ∃ b o x, s = some ⟨b, o, none⟩ ∧ b < w.heap.size ∧ w.cell? ⟨b, o + j, none⟩ = some (.float .f64 x) ∧ Fl x (V j)
/-- The same in blocks from base on, which may be written. -/
def OwnF (base : Nat) (w : World) (s : Option Addr) (m : Nat) (V : Nat → Option Nat) : Prop := ∀ j, j < m → ∃ b x, s = some ⟨b, 0, none⟩ ∧ base ≤ b ∧ b < w.heap.size ∧ w.cell? ⟨b, j, none⟩ = some (.float .f64 x) ∧ Fl x (V j) ∧ w.frozen? ⟨b, j, none⟩ = false
theorem RowF.below {w w' : World} {s : Option Addr} {m : Nat} {V : Nat → Option Nat} (h : RowF w s m V) (hb : Below w.heap.size w w') : RowF w' s m V := fun j hj => by
  obtain ⟨b, o, x, e, hl, hc, hx⟩ := h j hj
  exact ⟨b, o, x, e, Nat.lt_of_lt_of_le hl hb.size, (hb.cell (p := ⟨b, o + j, none⟩) hl).trans hc, hx⟩
theorem OwnF.row {base : Nat} {w : World} {s : Option Addr} {m : Nat} {V : Nat → Option Nat} (h : OwnF base w s m V) : RowF w s m V := fun j hj => by
  obtain ⟨b, x, e, _, hl, hc, hx, _⟩ := h j hj
  exact ⟨b, 0, x, e, hl, by rw [Nat.zero_add]; exact hc, hx⟩
theorem OwnF.below {base : Nat} {w w' : World} {s : Option Addr} {m : Nat} {V : Nat → Option Nat} (h : OwnF base w s m V) (hb : Below w.heap.size w w') : OwnF base w' s m V := fun j hj => by
  obtain ⟨b, x, e, hB, hl, hc, hx, hf⟩ := h j hj
  exact ⟨b, x, e, hB, Nat.lt_of_lt_of_le hl hb.size, (hb.cell (p := ⟨b, j, none⟩) hl).trans hc, hx, (hb.frozen (p := ⟨b, j, none⟩) hl).trans hf⟩
theorem OwnF.mono {base base' : Nat} {w : World} {s : Option Addr} {m : Nat} {V : Nat → Option Nat} (h : OwnF base w s m V) (hb : base' ≤ base) : OwnF base' w s m V := fun j hj => by
  obtain ⟨b, x, e, hB, r⟩ := h j hj
  exact ⟨b, x, e, by omega, r⟩
theorem OwnF.beside {base r : Nat} {w w' : World} {s : Option Addr} {m : Nat} {V : Nat → Option Nat} (h : OwnF base w s m V) (hb : Beside r w w') (hr : r < base) : OwnF base w' s m V := fun j hj => by
  obtain ⟨b, x, e, hB, hl, hc, hx, hf⟩ := h j hj
  exact ⟨b, x, e, hB, Nat.lt_of_lt_of_le hl hb.2.2.2.1, (hb.cell (p := ⟨b, j, none⟩) hl (by simp only; omega)).trans hc, hx, (hb.frozen (p := ⟨b, j, none⟩) hl (by simp only; omega)).trans hf⟩

theorem store_f64 {w : World} {a : Addr} {u : Value} (x : Nat) (h : w.cell? a = some u) (hf : w.frozen? a = false) : (store a (.float .f64 x)).run Try.prog w = .ok () (w.setCell a (.float .f64 x)) := by
  rw [run_store Try.prog w a _ _ rfl, h]
  simp [hf]
/-- The float64 of an integer. -/
def itf (k : Int) : Nat := FloatKind.f64.nearest k
theorem itf_fl (k : Int) : Fl (itf k) (some (itf k)) := by
  have : rg (itf k) ≤ INF ∧ itf k < 18446744073709551616 := write_fin (.number (decide (k < 0)) k.natAbs 0) rfl
  exact ⟨this.2, .inl ⟨this.1, rfl⟩⟩
theorem itf_self (k : Int) : FloatKind.f64.format.order (itf k) (itf k) = some .eq := order_self (by rcases (itf_fl k).2 with h | h; exact h.1; cases h.2)
theorem conv_run (k : Int) (w : World) : (convert 3 25 (.int .i64 k)).run Try.prog w = .ok (.float .f64 (itf k)) w := by kernel_rfl

set_option maxRecDepth 20000 in
set_option maxHeartbeats 1000000 in
theorem eqFloat64S_any (s t : Option Addr) (n c d : Nat) (V : Nat → Option Nat) (w : World) (hn : (n : Int) ≤ 1048576) (HR : Hid (RowF w s n V)) (HT : Hid (RowF w t n V)) :
    Calls Try.prog 16 #[.slice s n c, .slice t n d] w fun e w' => e = .returned (.bool true) ∧ Below w.heap.size w w' := by
  go_enter Try.func16, Try.ntmps16
  go_wp2_with fail
  go_loopw [5] (fun i wr => ∃ k : Nat, k ≤ n ∧ i = .int .i64 k ∧ Below w.heap.size w wr) (fun i _ => n - (intOf i).toNat)
  case atStart => exact ⟨0, Nat.zero_le _, rfl, Below.refl _ _⟩
  case round =>
    obtain ⟨k, hk, rfl, hB⟩ := hrel
    by_cases h1 : k < n
    · obtain ⟨g, o, x, rfl, hg, c0, hx⟩ := HR.out k h1
      obtain ⟨p, q, y, rfl, hp, d0, hy⟩ := HT.out k h1
      have u0 : wr.cell? ⟨g, o + k, none⟩ = some (.float .f64 x) := (hB.cell (p := ⟨g, o + k, none⟩) hg).trans c0
      have v0 : wr.cell? ⟨p, q + k, none⟩ = some (.float .f64 y) := (hB.cell (p := ⟨p, q + k, none⟩) hp).trans d0
      have k1 : (k : Int) < (n : Int) := by omega
      have HB : Hid (Below w.heap.size w wr) := hB
      have S : Hid (∀ w, Calls Try.prog 14 #[.float .f64 x, .float .f64 y] w fun e w' => e = .returned (.bool true) ∧ w' = w) := fun w => sameFloat_any hx hy w
      clear hB c0 d0 hg hp hx hy
      go_wp2_with fail
      go_quiet (first | (go_at_call 14; exact Calls.quiet_of_same (S.out _)))
      go_wp2
      go_roundw
      case rel => exact ⟨k + 1, by omega, by go_num, bDrewN HB.out _⟩
      case measure => simp [intOf]; omega
    · obtain rfl : k = n := by omega
      go_wp2
      go_ret
      exact ⟨rfl, (by repeat (first | with_reducible exact Below.refl _ _ | with_reducible exact hB | with_reducible refine Below.setCell ?_ (by first | omega | (simp; done) | (simp; omega)) _ | with_reducible refine bDrewN ?_ _ | with_reducible refine Below.drew ?_ | with_reducible refine Below.alloc ?_ (by first | omega | (simp; done) | (simp; omega)) _))⟩

/-- The numbers that a list is marked with. -/
def markF (k : Int) (j : Nat) : Option Nat := some (itf (k + j))
/-- A row on its way of being marked: the first j are k, k + 1, .. -/
def MarkFTo (b : Nat) (w wr : World) (n j : Nat) (k : Int) (V : Nat → Option Nat) : Prop := Beside b w wr ∧ (∀ o, o < n → wr.frozen? ⟨b, o, none⟩ = false) ∧ ∀ i, i < n → ∃ x, wr.cell? ⟨b, i, none⟩ = some (.float .f64 x) ∧ Fl x (if i < j then markF k i else V i)
theorem markFTo_on {b : Nat} {w wr : World} {n j : Nat} {k : Int} {V : Nat → Option Nat} (hb : b < w.heap.size) (h : MarkFTo b w wr n j k V) : MarkFTo b w (wr.setCell ⟨b, j, none⟩ (.float .f64 (itf (k + j)))) n (j + 1) k V := by
  obtain ⟨hB, hf, hc⟩ := h
  refine ⟨hB.trans (Beside.setCell b wr j _), fun o ho => by simp [go_sem, hf o ho], fun i hi => ?_⟩
  obtain ⟨x, c3, hx⟩ := hc i hi
  by_cases e : i = j
  · subst e
    rw [if_pos (by omega)]
    exact ⟨_, by simp [go_sem, c3], itf_fl _⟩
  · have e2 : (if i < j + 1 then markF k i else V i) = (if i < j then markF k i else V i) := by
      by_cases q : i < j
      · rw [if_pos q, if_pos (by omega)]
      · rw [if_neg q, if_neg (by omega)]
    rw [e2]
    exact ⟨x, by simp [go_sem, c3, e], hx⟩

set_option maxRecDepth 20000 in
set_option maxHeartbeats 2000000 in
theorem markFloat64S_at (b n c : Nat) (k : Int) (V : Nat → Option Nat) (w : World) (hn : (n : Int) ≤ 1048576) (k0 : 0 ≤ k) (k1 : k ≤ 100000000) (hb : b < w.heap.size) (HR : Hid (∀ j, j < n → (∃ x, w.cell? ⟨b, j, none⟩ = some (.float .f64 x) ∧ Fl x (V j)) ∧ w.frozen? ⟨b, j, none⟩ = false)) :
    Calls Try.prog 17 #[.slice (some ⟨b, 0, none⟩) n c, .int .i64 k] w fun e w' => e = .returned (.int .i64 (k + n)) ∧ MarkFTo b w w' n n k V := by
  go_enter Try.func17, Try.ntmps17
  go_wp2_with fail
  go_loopw [1, 5] (fun q i wr => ∃ j : Nat, j ≤ n ∧ i = .int .i64 j ∧ q = .int .i64 (k + j) ∧ MarkFTo b w wr n j k V) (fun _ i _ => n - (intOf i).toNat)
  case atStart => exact ⟨0, Nat.zero_le _, rfl, by simp, (Beside.of (Below.refl _ _)), fun o ho => (HR.out o ho).2, fun i hi => by rw [if_neg (by omega)]; exact (HR.out i hi).1⟩
  case round =>
    obtain ⟨j, hj, rfl, rfl, hR⟩ := hrel
    have HT : Hid (MarkFTo b w wr n j k V) := hR
    obtain ⟨hB, hf, hc⟩ := hR
    by_cases h1 : j < n
    · obtain ⟨x, e0, _⟩ := hc j h1
      have f0 := hf j h1
      have k1 : (j : Int) < (n : Int) := by omega
      have cv := conv_run (k + j)
      have st := store_f64 (itf (k + j)) e0 f0
      clear hc hf hB
      go_wp2
      go_roundw
      case rel => exact ⟨j + 1, by omega, by go_num, by go_num, markFTo_on hb HT.out⟩
      case measure => simp [intOf]; omega
    · obtain rfl : j = n := by omega
      go_wp2
      go_ret
      exact ⟨rfl, HT.out⟩
set_option maxHeartbeats 1000000 in
theorem markFloat64S_nil (s : Option Addr) (c : Nat) (k : Int) (w : World) :
    Calls Try.prog 17 #[.slice s 0 c, .int .i64 k] w fun e w' => e = .returned (.int .i64 k) ∧ w' = w := by
  go_enter Try.func17, Try.ntmps17
  go_wp2_with fail
  go_loop [1, 5] (fun q i => i = .int .i64 0 ∧ q = .int .i64 k) (fun _ i => 0)
  case atStart => exact ⟨rfl, rfl⟩
  case round =>
    obtain ⟨rfl, rfl⟩ := hrel
    go_wp2
    go_ret
    exact ⟨rfl, rfl⟩
theorem markFloat64S_own (base : Nat) (s : Option Addr) (n c : Nat) (k : Int) (V : Nat → Option Nat) (w : World) (hn : (n : Int) ≤ 1048576) (k0 : 0 ≤ k) (k1 : k ≤ 100000000) (hb : base ≤ w.heap.size) (HR : OwnF base w s n V) :
    Calls Try.prog 17 #[.slice s n c, .int .i64 k] w fun e w' => e = .returned (.int .i64 (k + n)) ∧ OwnF base w' s n (markF k) ∧ Below base w w' ∧ ∀ b, s = some ⟨b, 0, none⟩ → Beside b w w' := by
  by_cases h : n = 0
  · subst h
    refine (markFloat64S_nil s c k w).mono ?_
    rintro e w' ⟨rfl, rfl⟩
    exact ⟨by simp, fun j hj => by omega, Below.refl _ _, fun b _ => Beside.of (Below.refl _ _)⟩
  · obtain ⟨b, _, rfl, hB, hl, _⟩ := HR 0 (by omega)
    have HH : Hid (∀ j, j < n → (∃ x, w.cell? ⟨b, j, none⟩ = some (.float .f64 x) ∧ Fl x (V j)) ∧ w.frozen? ⟨b, j, none⟩ = false) := fun j hj => by
      obtain ⟨b', x, e', _, _, h1, h2, h3⟩ := HR j hj
      cases e'
      exact ⟨⟨x, h1, h2⟩, h3⟩
    refine (markFloat64S_at b n c k V w hn k0 k1 hl HH).mono ?_
    rintro e w' ⟨rfl, hB', hf, hc⟩
    refine ⟨rfl, fun j hj => ?_, hB'.below hB hb, fun b' e => ?_⟩
    · obtain ⟨x, q1, q2⟩ := hc j hj
      rw [if_pos hj] at q2
      exact ⟨b, x, rfl, hB, Nat.lt_of_lt_of_le hl hB'.2.2.2.1, q1, q2, hf j hj⟩
    · cases e
      exact hB'

end Go.Proofs.Ytffbpidldnbgaaa
