/-
What is proved: rows of pairs: how they are kept; what the law's own helpers do with a list of pairs: comparing, marking, what is held.
-/
import Derived.Test.YtjahjhddokaopaaPairK
import Derived.Test.YtjahjhddokaopaaBeside
import Derived.Deep.OwnRows
import Derived.Deep.RegionHeld3
import Derived.Deep.DeepCutAuto
import Derived.Deep.AppendLies
import Derived.Laws.OwnMore
namespace Go.Proofs.Ytjahjhddokaopaa
set_option maxRecDepth 40000
open Go.RowKit
set_option linter.unusedVariables false
set_option linter.unusedSimpArgs false

/-- A row of m float64s at a place, each told up to a NaN's bits. -/
def RowF (w : World) (s : Option Addr) (m : Nat) (V : Nat → Option Nat) : Prop := ∀ j, j < m → ∃ b o x, s = some ⟨b, o, none⟩ ∧ b < w.heap.size ∧ w.cell? ⟨b, o + j, none⟩ = some (.float .f64 x) ∧ Fl x (V j)
/-- The same in blocks from base on, which may be written. -/
def OwnF (base : Nat) (w : World) (s : Option Addr) (m : Nat) (V : Nat → Option Nat) : Prop := ∀ j, j < m → ∃ b x, s = some ⟨b, 0, none⟩ ∧ base ≤ b ∧ b < w.heap.size ∧ w.cell? ⟨b, j, none⟩ = some (.float .f64 x) ∧ Fl x (V j) ∧ w.frozen? ⟨b, j, none⟩ = false
theorem RowF.below {w w' : World} {s : Option Addr} {m : Nat} {V : Nat → Option Nat} (h : RowF w s m V) (hb : Below w.heap.size w w') : RowF w' s m V := fun j hj => by
  obtain ⟨b, o, x, e, hl, hc, hx⟩ := h j hj
  exact ⟨b, o, x, e, Nat.lt_of_lt_of_le hl hb.size, (hb.cell (p := ⟨b, o + j, none⟩) hl).trans hc, hx⟩
theorem OwnF.row {base : Nat} {w : World} {s : Option Addr} {m : Nat} {V : Nat → Option Nat} (h : OwnF base w s m V) : RowF w s m V := fun j hj => by
  obtain ⟨b, x, e, _, hl, hc, hx, _⟩ := h j hj
  exact ⟨b, 0, x, e, hl, by rw [Nat.zero_add]; exact hc, hx⟩
theorem OwnF.below {base : Nat} {w w' : World} {s : Option Addr} {m : Nat} {V : Nat → Option Nat} (h : OwnF base w s m V) (hb : Below w.heap.size w w') : OwnF base w' s m V := fun j hj => by
  obtain ⟨b, x, e, hB, hl, hc, hx, hf⟩ := h j hj
  exact ⟨b, x, e, hB, Nat.lt_of_lt_of_le hl hb.size, (hb.cell (p := ⟨b, j, none⟩) hl).trans hc, hx, (hb.frozen (p := ⟨b, j, none⟩) hl).trans hf⟩
theorem OwnF.mono {base base' : Nat} {w : World} {s : Option Addr} {m : Nat} {V : Nat → Option Nat} (h : OwnF base w s m V) (hb : base' ≤ base) : OwnF base' w s m V := fun j hj => by
  obtain ⟨b, x, e, hB, r⟩ := h j hj
  exact ⟨b, x, e, by omega, r⟩
theorem OwnF.beside {base r : Nat} {w w' : World} {s : Option Addr} {m : Nat} {V : Nat → Option Nat} (h : OwnF base w s m V) (hb : Beside r w w') (hr : r < base) : OwnF base w' s m V := fun j hj => by
  obtain ⟨b, x, e, hB, hl, hc, hx, hf⟩ := h j hj
  exact ⟨b, x, e, hB, Nat.lt_of_lt_of_le hl hb.2.2.2.1, (hb.cell (p := ⟨b, j, none⟩) hl (by simp only; omega)).trans hc, hx, (hb.frozen (p := ⟨b, j, none⟩) hl (by simp only; omega)).trans hf⟩

theorem store_f64 {w : World} {a : Addr} {u : Value} (x : Nat) (h : w.cell? a = some u) (hf : w.frozen? a = false) : (store a (.float .f64 x)).run Try.prog w = .ok () (w.setCell a (.float .f64 x)) := by
  rw [run_store Try.prog w a _ _ rfl, h]
  simp [hf]
/-- The float64 of an integer. -/
def itf (k : Int) : Nat := FloatKind.f64.nearest k
theorem itf_fl (k : Int) : Fl (itf k) (some (itf k)) := by
  have : rg (itf k) ≤ INF ∧ itf k < 18446744073709551616 := write_fin (.number (decide (k < 0)) k.natAbs 0) rfl
  exact ⟨this.2, .inl ⟨this.1, rfl⟩⟩
theorem itf_self (k : Int) : FloatKind.f64.format.order (itf k) (itf k) = some .eq := order_self (by rcases (itf_fl k).2 with h | h; exact h.1; cases h.2)
theorem conv_run (k : Int) (w : World) : (convert 3 24 (.int .i64 k)).run Try.prog w = .ok (.float .f64 (itf k)) w := by kernel_rfl

/-- The numbers that a list is marked with. -/
def markF (k : Int) (j : Nat) : Option Nat := some (itf (k + j))
/-- A row on its way of being marked: the first j are k, k + 1, .. -/
def MarkFTo (b : Nat) (w wr : World) (n j : Nat) (k : Int) (V : Nat → Option Nat) : Prop := Beside b w wr ∧ (∀ o, o < n → wr.frozen? ⟨b, o, none⟩ = false) ∧ ∀ i, i < n → ∃ x, wr.cell? ⟨b, i, none⟩ = some (.float .f64 x) ∧ Fl x (if i < j then markF k i else V i)
theorem markFTo_on {b : Nat} {w wr : World} {n j : Nat} {k : Int} {V : Nat → Option Nat} (hb : b < w.heap.size) (h : MarkFTo b w wr n j k V) : MarkFTo b w (wr.setCell ⟨b, j, none⟩ (.float .f64 (itf (k + j)))) n (j + 1) k V := by
  obtain ⟨hB, hf, hc⟩ := h
  refine ⟨hB.trans (Beside.setCell b wr j _), fun o ho => by simp [go_sem, hf o ho], fun i hi => ?_⟩
  obtain ⟨x, c3, hx⟩ := hc i hi
  by_cases e : i = j
  · subst e
    rw [if_pos (by omega)]
    exact ⟨_, by simp [go_sem, c3], itf_fl _⟩
  · have e2 : (if i < j + 1 then markF k i else V i) = (if i < j then markF k i else V i) := by
      by_cases q : i < j
      · rw [if_pos q, if_pos (by omega)]
      · rw [if_neg q, if_neg (by omega)]
    rw [e2]
    exact ⟨x, by simp [go_sem, c3, e], hx⟩

theorem keepF {W W' : World} {p q i j k l : Nat} {a b c d : Value} (h0 : W.cell? ⟨p, i, none⟩ = some a) (h1 : W.cell? ⟨p, j, none⟩ = some b) (h2 : W.cell? ⟨q, k, none⟩ = some c) (h3 : W.cell? ⟨q, l, none⟩ = some d) (hp : p < W.heap.size) (hq : q < W.heap.size) (hb : Below W.heap.size W W') :
    W'.cell? ⟨p, i, none⟩ = some a ∧ W'.cell? ⟨p, j, none⟩ = some b ∧ W'.cell? ⟨q, k, none⟩ = some c ∧ W'.cell? ⟨q, l, none⟩ = some d :=
  ⟨(hb.cell (p := ⟨p, i, none⟩) hp).trans h0, (hb.cell (p := ⟨p, j, none⟩) hp).trans h1, (hb.cell (p := ⟨q, k, none⟩) hq).trans h2, (hb.cell (p := ⟨q, l, none⟩) hq).trans h3⟩
set_option maxRecDepth 20000 in
set_option maxHeartbeats 1000000 in
theorem eqPairS_any (s t : Option Addr) (n c d : Nat) (V : Nat → Option Nat) (w : World) (hn : (n : Int) ≤ 1048576) (HR : Hid (RowF w s (n * 2) V)) (HT : Hid (RowF w t (n * 2) V)) :
    Calls Try.prog 14 #[.slice s n c, .slice t n d] w fun e w' => e = .returned (.bool true) ∧ Below w.heap.size w w' := by
  go_enter Try.func14, Try.ntmps14
  go_wp2_with fail
  go_loopw [5] (fun i wr => ∃ k : Nat, k ≤ n ∧ i = .int .i64 k ∧ Below w.heap.size w wr) (fun i _ => n - (intOf i).toNat)
  case atStart => exact ⟨0, Nat.zero_le _, rfl, Below.refl _ _⟩
  case round =>
    obtain ⟨k, hk, rfl, hB⟩ := hrel
    by_cases h1 : k < n
    · obtain ⟨g, o, x, rfl, hg, c0, hx⟩ := HR.out (k * 2) (by omega)
      obtain ⟨g', o', y, e', hg', c1, hy⟩ := HR.out (k * 2 + 1) (by omega)
      cases e'
      obtain ⟨p, q, x', rfl, hp, d0, hx'⟩ := HT.out (k * 2) (by omega)
      obtain ⟨p', q', y', e', hp', d1, hy'⟩ := HT.out (k * 2 + 1) (by omega)
      cases e'
      have u0 : wr.cell? ⟨g, o + k * 2, none⟩ = some (.float .f64 x) := (hB.cell (p := ⟨g, o + k * 2, none⟩) hg).trans c0
      have u1 : wr.cell? ⟨g, o + k * 2 + 1, none⟩ = some (.float .f64 y) := (hB.cell (p := ⟨g, o + (k * 2 + 1), none⟩) hg).trans c1
      have v0 : wr.cell? ⟨p, q + k * 2, none⟩ = some (.float .f64 x') := (hB.cell (p := ⟨p, q + k * 2, none⟩) hp).trans d0
      have v1 : wr.cell? ⟨p, q + k * 2 + 1, none⟩ = some (.float .f64 y') := (hB.cell (p := ⟨p, q + (k * 2 + 1), none⟩) hp).trans d1
      have k1 : (k : Int) < (n : Int) := by omega
      have zg : g < wr.heap.size := Nat.lt_of_lt_of_le hg hB.size
      have zp : p < wr.heap.size := Nat.lt_of_lt_of_le hp hB.size
      have HB : Hid (Below w.heap.size w wr) := hB
      have ES : Hid (∀ w, Calls Try.prog 33 #[.agg #[.float .f64 x, .float .f64 y], .agg #[.float .f64 x', .float .f64 y']] w fun r w' => r = .returned (.bool true) ∧ Below w.heap.size w w') := fun w => eqPair_any hx hy hx' hy' w
      clear hB c0 c1 d0 d1 hg hg' hp hp' hx hx' hy hy'
      go_wp2_with fail
      go_region_held3 (fun w' => w'.cell? ⟨g, o + k * 2, none⟩ = some (.float .f64 x) ∧ w'.cell? ⟨g, o + k * 2 + 1, none⟩ = some (.float .f64 y) ∧ w'.cell? ⟨p, q + k * 2, none⟩ = some (.float .f64 x') ∧ w'.cell? ⟨p, q + k * 2 + 1, none⟩ = some (.float .f64 y')) (first | (refine keepF u0 u1 v0 v1 zg zp ?_; exact (by repeat (first | with_reducible exact Below.refl _ _ | with_reducible exact B3 | with_reducible refine Below.setCell ?_ (by first | omega | (simp; done) | (simp; omega)) _ | with_reducible refine bDrewN ?_ _ | with_reducible refine Below.drew ?_ | with_reducible refine Below.alloc ?_ (by first | omega | (simp; done) | (simp; omega)) _)))) (first
        | (go_at_call 33; refine (ES.out _).mono ?_; rintro r w3 ⟨rfl, h3⟩; have B3 : Below wr.heap.size wr w3 := Below.trans (by repeat (first | with_reducible exact Below.refl _ _ | with_reducible refine Below.setCell ?_ (by first | omega | (simp; done) | (simp; omega)) _ | with_reducible refine bDrewN ?_ _ | with_reducible refine Below.drew ?_ | with_reducible refine Below.alloc ?_ (by first | omega | (simp; done) | (simp; omega)) _)) (h3.mono (by first | omega | (simp; done) | (simp; omega)))))
      all_goals
        have B4 : Below w.heap.size w w3 := HB.out.trans (B3.mono HB.out.size)
        go_wp2
        go_roundw
        case rel => exact ⟨k + 1, by omega, by go_num, (by repeat (first | with_reducible exact Below.refl _ _ | with_reducible exact B4 | with_reducible refine Below.setCell ?_ (by first | omega | (simp; done) | (simp; omega)) _ | with_reducible refine bDrewN ?_ _ | with_reducible refine Below.drew ?_ | with_reducible refine Below.alloc ?_ (by first | omega | (simp; done) | (simp; omega)) _))⟩
        case measure => simp [intOf]; omega
    · obtain rfl : k = n := by omega
      go_wp2
      go_ret
      exact ⟨rfl, (by repeat (first | with_reducible exact Below.refl _ _ | with_reducible exact hB | with_reducible refine Below.setCell ?_ (by first | omega | (simp; done) | (simp; omega)) _ | with_reducible refine bDrewN ?_ _ | with_reducible refine Below.drew ?_ | with_reducible refine Below.alloc ?_ (by first | omega | (simp; done) | (simp; omega)) _))⟩

set_option maxRecDepth 20000 in
set_option maxHeartbeats 2000000 in
theorem markPairS_at (b n c : Nat) (k : Int) (V : Nat → Option Nat) (w : World) (hn : (n : Int) ≤ 1048576) (k0 : 0 ≤ k) (k1 : k ≤ 100000000) (hb : b < w.heap.size) (HR : Hid (∀ j, j < n * 2 → (∃ x, w.cell? ⟨b, j, none⟩ = some (.float .f64 x) ∧ Fl x (V j)) ∧ w.frozen? ⟨b, j, none⟩ = false)) :
    Calls Try.prog 15 #[.slice (some ⟨b, 0, none⟩) n c, .int .i64 k] w fun e w' => e = .returned (.int .i64 (k + (n * 2 : Nat))) ∧ MarkFTo b w w' (n * 2) (n * 2) k V := by
  have st := store_fp
  go_enter Try.func15, Try.ntmps15
  go_wp2_with fail
  go_loopw [1, 5] (fun q i wr => ∃ j : Nat, j ≤ n ∧ i = .int .i64 j ∧ q = .int .i64 (k + (j * 2 : Nat)) ∧ MarkFTo b w wr (n * 2) (j * 2) k V) (fun _ i _ => n - (intOf i).toNat)
  case atStart => exact ⟨0, Nat.zero_le _, rfl, by simp, (Beside.of (Below.refl _ _)), fun o ho => (HR.out o ho).2, fun i hi => by rw [if_neg (by omega)]; exact (HR.out i hi).1⟩
  case round =>
    obtain ⟨j, hj, rfl, rfl, hR⟩ := hrel
    have HT : Hid (MarkFTo b w wr (n * 2) (j * 2) k V) := hR
    obtain ⟨hB, hf, hc⟩ := hR
    by_cases h1 : j < n
    · obtain ⟨x, e0, _⟩ := hc (j * 2) (by omega)
      obtain ⟨y, e1, _⟩ := hc (j * 2 + 1) (by omega)
      have f0 := hf (j * 2) (by omega)
      have f1 := hf (j * 2 + 1) (by omega)
      have k1 : (j : Int) < (n : Int) := by omega
      have cv : ∀ k w, (convert 3 24 (.int .i64 k)).run Try.prog w = .ok (.float .f64 (itf k)) w := fun k w => conv_run k w
      have T2 : Hid (MarkFTo b w ((wr.setCell ⟨b, j * 2, none⟩ (.float .f64 (itf (k + (j * 2 : Nat))))).setCell ⟨b, j * 2 + 1, none⟩ (.float .f64 (itf (k + (j * 2 + 1 : Nat))))) (n * 2) (j * 2 + 1 + 1) k V) := markFTo_on hb (markFTo_on hb HT.out)
      simp only [Int.natCast_mul, Int.natCast_add, Int.cast_ofNat_Int, Int.natCast_one] at T2 ⊢
      clear hc hf hB
      go_wp2
      go_roundw
      case rel => exact ⟨j + 1, by omega, by go_num, by first | go_num | (congr 1; omega), by rw [show (j + 1) * 2 = j * 2 + 1 + 1 by omega]; have := T2.out; rw [← Int.add_assoc] at this; exact this⟩
      case measure => simp [intOf]; omega
    · obtain rfl : j = n := by omega
      go_wp2
      go_ret
      exact ⟨rfl, HT.out⟩
set_option maxHeartbeats 1000000 in
theorem markPairS_nil (s : Option Addr) (c : Nat) (k : Int) (w : World) :
    Calls Try.prog 15 #[.slice s 0 c, .int .i64 k] w fun e w' => e = .returned (.int .i64 k) ∧ w' = w := by
  go_enter Try.func15, Try.ntmps15
  go_wp2_with fail
  go_loop [1, 5] (fun q i => i = .int .i64 0 ∧ q = .int .i64 k) (fun _ i => 0)
  case atStart => exact ⟨rfl, rfl⟩
  case round =>
    obtain ⟨rfl, rfl⟩ := hrel
    go_wp2
    go_ret
    exact ⟨rfl, rfl⟩
theorem markPairS_own (base : Nat) (s : Option Addr) (n c : Nat) (k : Int) (V : Nat → Option Nat) (w : World) (hn : (n : Int) ≤ 1048576) (k0 : 0 ≤ k) (k1 : k ≤ 100000000) (hb : base ≤ w.heap.size) (HR : OwnF base w s (n * 2) V) :
    Calls Try.prog 15 #[.slice s n c, .int .i64 k] w fun e w' => e = .returned (.int .i64 (k + (n * 2 : Nat))) ∧ OwnF base w' s (n * 2) (markF k) ∧ Below base w w' ∧ ∀ b, s = some ⟨b, 0, none⟩ → Beside b w w' := by
  by_cases h : n = 0
  · subst h
    refine (markPairS_nil s c k w).mono ?_
    rintro e w' ⟨rfl, rfl⟩
    exact ⟨by simp, fun j hj => by omega, Below.refl _ _, fun b _ => Beside.of (Below.refl _ _)⟩
  · obtain ⟨b, _, rfl, hB, hl, _⟩ := HR 0 (by omega)
    have HH : Hid (∀ j, j < n * 2 → (∃ x, w.cell? ⟨b, j, none⟩ = some (.float .f64 x) ∧ Fl x (V j)) ∧ w.frozen? ⟨b, j, none⟩ = false) := fun j hj => by
      obtain ⟨b', x, e', _, _, h1, h2, h3⟩ := HR j hj
      cases e'
      exact ⟨⟨x, h1, h2⟩, h3⟩
    refine (markPairS_at b n c k V w hn k0 k1 hl HH).mono ?_
    rintro e w' ⟨rfl, hB', hf, hc⟩
    refine ⟨rfl, fun j hj => ?_, hB'.below hB hb, fun b' e => ?_⟩
    · obtain ⟨x, q1, q2⟩ := hc j hj
      rw [if_pos hj] at q2
      exact ⟨b, x, rfl, hB, Nat.lt_of_lt_of_le hl hB'.2.2.2.1, q1, q2, hf j hj⟩
    · cases e
      exact hB'

set_option maxRecDepth 20000 in
set_option maxHeartbeats 2000000 in
theorem heldPairS_any (s : Option Addr) (n c : Nat) (k : Int) (w : World) (hn : (n : Int) ≤ 1048576) (k0 : 0 ≤ k) (k1 : k ≤ 100000000) (HR : Hid (RowF w s (n * 2) (markF k))) :
    Calls Try.prog 16 #[.slice s n c, .int .i64 k] w fun e w' => e = .returned (.int .i64 (k + (n * 2 : Nat))) ∧ w' = w := by
  go_enter Try.func16, Try.ntmps16
  go_wp2_with fail
  go_loop [1, 5] (fun q i => ∃ j : Nat, j ≤ n ∧ i = .int .i64 j ∧ q = .int .i64 (k + (j * 2 : Nat))) (fun _ i => n - (intOf i).toNat)
  case atStart => exact ⟨0, Nat.zero_le _, rfl, by simp⟩
  case round =>
    obtain ⟨j, hj, rfl, rfl⟩ := hrel
    by_cases h1 : j < n
    · obtain ⟨g, o, x, rfl, hg, c0, hx⟩ := HR.out (j * 2) (by omega)
      obtain ⟨g', o', y, e', hg', c1, hy⟩ := HR.out (j * 2 + 1) (by omega)
      cases e'
      have ex : x = itf (k + (j : Int) * 2) := by rcases hx.2 with ⟨_, e⟩ | ⟨_, e⟩ <;> simp [markF] at e; exact e.symm
      have ey : y = itf (k + (j : Int) * 2 + 1) := by rcases hy.2 with ⟨_, e⟩ | ⟨_, e⟩ <;> simp [markF] at e; rw [← e, Int.add_assoc]
      subst ex ey
      have d1 : w.cell? ⟨g, o + j * 2 + 1, none⟩ = some (.float .f64 (itf (k + (j : Int) * 2 + 1))) := c1
      have k1 : (j : Int) < (n : Int) := by omega
      have cv : ∀ k w, (convert 3 24 (.int .i64 k)).run Try.prog w = .ok (.float .f64 (itf k)) w := fun k w => conv_run k w
      have os : ∀ k, FloatKind.f64.format.order (itf k) (itf k) = some .eq := itf_self
      simp only [Int.natCast_mul, Int.natCast_add, Int.cast_ofNat_Int, Int.natCast_one]
      clear hx hy c1
      go_wp2
      go_round
      case rel => exact ⟨j + 1, by omega, by go_num, by first | go_num | (congr 1; omega)⟩
      case measure => simp [intOf]; omega
    · obtain rfl : j = n := by omega
      go_wp2
      go_ret
      exact ⟨rfl, rfl⟩
end Go.Proofs.Ytjahjhddokaopaa
