/-
What is proved: tags in numbers, and as the specification counts them.
-/
import Derived.Test.YtikcfpjfcpbfcaaBoSz
import Derived.Test.YtikcfpjfcpbfcaaZcG
import Derived.Test.YtikcfpjfcpbfcaaZcA
import Derived.Test.YtikcfpjfcpbfcaaZcE
import Derived.Test.YtikcfpjfcpbfcaaI64R2z
import Derived.Deep.DeepCutAuto
namespace Go.Proofs.Ytikcfpjfcpbfcaa
set_option maxRecDepth 40000
open Go.ChangeShapes Go.WideShapes Go.ChangeAt Go.RowKit
set_option linter.unusedVariables false
set_option linter.unusedSimpArgs false

def cntP (K : Nat → Nat) (V : Nat → Nat → Int) : Nat → Nat → Int
  | 0, _ => 0
  | j + 1, v => cntP K V j v + (if hasB (V j) (K j) (v : Int) = true then 1 else 0)
theorem cntP_in (K : Nat → Nat) (V : Nat → Nat → Int) (j v : Nat) : 0 ≤ cntP K V j v ∧ cntP K V j v ≤ j := by
  induction j with
  | zero => exact ⟨Int.le_refl _, Int.le_refl _⟩
  | succ j ih => unfold cntP; split <;> omega
def tgI (K : Nat → Nat) (V : Nat → Nat → Int) (j r v : Nat) : Int := cntP K V j v + (if hasB (V j) r (v : Int) = true then 1 else 0)
theorem has_succ {U : Nat → Int} {r : Nat} {x : Int} (h : U r ≠ x) : hasB U (r + 1) x = hasB U r x := by
  unfold hasB
  have : (∃ j, j < r + 1 ∧ U j = x) ↔ ∃ j, j < r ∧ U j = x := ⟨fun ⟨j, h1, h2⟩ => ⟨j, by
    by_cases e : j = r
    · subst e; exact absurd h2 h
    · omega, h2⟩, fun ⟨j, h1, h2⟩ => ⟨j, by omega, h2⟩⟩
  simp only [this]
theorem tg_step {K : Nat → Nat} {V : Nat → Nat → Int} {j r x : Nat} {l : Nat} (hr : risB (V j) l = true) (hl : r < l) (hx : V j r = (x : Int)) (v : Nat) : tgI K V j (r + 1) v = (if v = x then tgI K V j r x + 1 else tgI K V j r v) := by
  unfold tgI
  by_cases e : v = x
  · subst e
    rw [if_pos rfl]
    have h1 : hasB (V j) (r + 1) (v : Int) = true := decide_eq_true ⟨r, by omega, hx⟩
    have h2 : hasB (V j) r (v : Int) = false := by rw [← hx]; exact ris_has hr hl
    rw [h1, h2]; simp
  · rw [if_neg e, has_succ (by rw [hx]; omega)]
theorem tg_start (K : Nat → Nat) (V : Nat → Nat → Int) (j v : Nat) : tgI K V j 0 v = cntP K V j v := by
  unfold tgI
  have : hasB (V j) 0 (v : Int) = false := decide_eq_false fun ⟨i, h, _⟩ => by omega
  rw [this]; simp
open Go.RowKit
set_option linter.unusedVariables false

/-- A READER of n bytes in block r, at the place p; its bytes lie in elder blocks. -/
def Rd (w : World) (r : Nat) (s : Option Addr) (n c : Nat) (p : Nat) : Prop :=
  r < w.heap.size ∧ (∀ o, w.frozen? ⟨r, o, none⟩ = false) ∧ w.cell? ⟨r, 0, none⟩ = some (.slice s n c) ∧ w.cell? ⟨r, 1, none⟩ = some (.int .i64 p) ∧ p ≤ n ∧ n ≤ 1048576 ∧
    ∀ i, i < n → ∃ g o k, s = some ⟨g, o, none⟩ ∧ g < r ∧ w.cell? ⟨g, o + i, none⟩ = some (.int .u8 k) ∧ 0 ≤ k ∧ k < 256
theorem Rd.below {w w' : World} {r : Nat} {s : Option Addr} {n c p : Nat} (h : Rd w r s n c p) (hb : Below w.heap.size w w') : Rd w' r s n c p := by
  obtain ⟨h1, h2, h3, h4, h5, h6, h7⟩ := h
  refine ⟨Nat.lt_of_lt_of_le h1 hb.size, fun o => (hb.frozen (p := ⟨r, o, none⟩) h1).trans (h2 o), (hb.cell (p := ⟨r, 0, none⟩) h1).trans h3, (hb.cell (p := ⟨r, 1, none⟩) h1).trans h4, h5, h6, fun i hi => ?_⟩
  obtain ⟨g, o, k, e, hg, hc, hk⟩ := h7 i hi
  exact ⟨g, o, k, e, hg, (hb.cell (p := ⟨g, o + i, none⟩) (Nat.lt_trans hg h1)).trans hc, hk⟩

set_option maxRecDepth 20000 in
set_option maxHeartbeats 1000000 in
theorem next_end (r n c : Nat) (s : Option Addr) (w : World) (h1 : r < w.heap.size) (h3 : w.cell? ⟨r, 0, none⟩ = some (.slice s n c)) (h4 : w.cell? ⟨r, 1, none⟩ = some (.int .i64 n)) :
    Calls Try.prog 105 #[.pointer (some ⟨r, 0, none⟩)] w fun e w' => e = .returned (.int .i64 0) ∧ Below w.heap.size w w' := by
  go_enter Try.func105, Try.ntmps105
  go_wp2
  go_quiet (fail)
  go_wp2
  go_ret
  exact ⟨rfl, (by repeat (first | with_reducible exact Below.refl _ _ | with_reducible refine Below.setCell ?_ (by first | omega | (simp; done) | (simp; omega)) _ | with_reducible refine bDrewN ?_ _ | with_reducible refine Below.drew ?_ | with_reducible refine Below.alloc ?_ (by first | omega | (simp; done) | (simp; omega)) _))⟩

set_option maxRecDepth 20000 in
set_option maxHeartbeats 1000000 in
theorem next_on (r n c g o p : Nat) (k : Int) (w : World) (h1 : r < w.heap.size) (hg : g < r) (hf : ∀ o, w.frozen? ⟨r, o, none⟩ = false) (h3 : w.cell? ⟨r, 0, none⟩ = some (.slice (some ⟨g, o, none⟩) n c)) (h4 : w.cell? ⟨r, 1, none⟩ = some (.int .i64 p))
    (hp0 : (0 : Int) ≤ (p : Int)) (hp : (p : Int) < (n : Int)) (hn : (n : Int) ≤ 1048576) (hc : w.cell? ⟨g, o + p, none⟩ = some (.int .u8 k)) (hk0 : 0 ≤ k) (hk : k < 256) :
    Calls Try.prog 105 #[.pointer (some ⟨r, 0, none⟩)] w fun e w' => e = .returned (.int .i64 k) ∧ ∃ d1 d2, w' = ((w.drewN d1).setCell ⟨r, 1, none⟩ (.int .i64 (p + 1))).drewN d2 := by
  go_enter Try.func105, Try.ntmps105
  go_wp2
  go_quiet (fail)
  go_wp2
  go_quiet (fail)
  go_wp2
  go_ret
  exact ⟨rfl, _, _, rfl⟩

/-- ONE BYTE READ: a number below 256; the reader stands as a reader, nothing else has turned. -/
theorem next_any {r : Nat} {s : Option Addr} {n c p : Nat} {w : World} (h : Rd w r s n c p) :
    Calls Try.prog 105 #[.pointer (some ⟨r, 0, none⟩)] w fun e w' => ∃ k p', e = .returned (.int .i64 k) ∧ 0 ≤ k ∧ k < 256 ∧ Rd w' r s n c p' ∧ Beside r w w' := by
  obtain ⟨h1, h2, h3, h4, h5, h6, h7⟩ := h
  rcases Nat.lt_or_ge p n with hp | hp
  · obtain ⟨g, o, k, rfl, hg, hc, hk0, hk⟩ := h7 p hp
    refine (next_on r n c g o p k w h1 hg h2 h3 h4 (by omega) (by omega) (by omega) hc hk0 hk).mono ?_
    rintro e w' ⟨rfl, d1, d2, rfl⟩
    have b1 : Below w.heap.size w (w.drewN d1) := bDrewN (Below.refl _ _) _
    have b2 : Beside r (w.drewN d1) ((w.drewN d1).setCell ⟨r, 1, none⟩ (.int .i64 (p + 1))) := Beside.setCell _ _ _ _
    have bb : Beside r w (((w.drewN d1).setCell ⟨r, 1, none⟩ (.int .i64 (p + 1))).drewN d2) := ((Beside.of b1).trans b2).trans (Beside.of (bDrewN (Below.refl _ _) _))
    have z : r < (((w.drewN d1).setCell ⟨r, 1, none⟩ (.int .i64 (p + 1))).drewN d2).heap.size := Nat.lt_of_lt_of_le h1 bb.2.2.2.1
    refine ⟨k, p + 1, rfl, hk0, hk, ⟨z, fun o => ?_, ?_, ?_, by omega, h6, fun i hi => ?_⟩, bb⟩
    · simp [go_sem, h2]
    · simp [go_sem, h3]
    · simp [go_sem, h4]
    · obtain ⟨g', o', k', e', hg', hc', hk'⟩ := h7 i hi
      exact ⟨g', o', k', e', hg', (bb.cell (p := ⟨g', o' + i, none⟩) (Nat.lt_trans hg' h1) (Nat.ne_of_lt hg')).trans hc', hk'⟩
  · obtain rfl : p = n := by omega
    refine (next_end r p c s w h1 h3 h4).mono ?_
    rintro e w' ⟨rfl, hb⟩
    exact ⟨0, p, rfl, by omega, by omega, Rd.below ⟨h1, h2, h3, h4, h5, h6, h7⟩ hb, Beside.of hb⟩

theorem emod_le_self {x m : Int} (hx : 0 ≤ x) (hm : 0 ≤ m) : x % m ≤ x := by
  have d := Int.mul_ediv_add_emod x m
  have e := Int.mul_nonneg hm (Int.ediv_nonneg hx hm)
  generalize m * (x / m) = q at d e
  omega

set_option maxHeartbeats 1000000 in
theorem below_any {r : Nat} {s : Option Addr} {n c p : Nat} {w : World} (m : Int) (h : Hid (Rd w r s n c p)) :
    Calls Try.prog 80 #[.pointer (some ⟨r, 0, none⟩), .int .i64 m] w fun e w' => ∃ k p', e = .returned (.int .i64 k) ∧ 0 ≤ k ∧ k < 65536 ∧ (k < m ∨ k = 0) ∧ Rd w' r s n c p' ∧ Beside r w w' := by
  by_cases hm : m ≤ 1
  · go_enter Try.func80, Try.ntmps80
    go_wp2
    go_ret
    have b : Below w.heap.size w w := Below.refl _ _
    exact ⟨0, p, rfl, by omega, by omega, .inr rfl, h.out, Beside.of b⟩
  · by_cases hm2 : m ≤ 256
    · have hm0 : 1 < m := by omega
      clear hm
      go_enter Try.func80, Try.ntmps80
      go_wp2_with fail
      refine (next_any h.out).mono ?_
      rintro e w1 ⟨k, p1, rfl, k0, k1, R1, b1⟩
      go_wp2
      go_ret
      have q1 := Int.emod_nonneg k (show m ≠ 0 by omega)
      have q2 := Int.emod_lt_of_pos k (show 0 < m by omega)
      exact ⟨k % m, p1, rfl, q1, by omega, .inl q2, R1, b1⟩
    · have hm0 : 256 < m := by omega
      clear hm hm2
      go_enter Try.func80, Try.ntmps80
      go_wp2_with fail
      refine (next_any h.out).mono ?_
      rintro e w1 ⟨k, p1, rfl, k0, k1, R1, b1⟩
      go_wp2_with fail
      refine (next_any R1).mono ?_
      rintro e w2 ⟨l, p2, rfl, l0, l1, R2, b2⟩
      go_wp2
      go_ret
      have q1 := Int.emod_nonneg (k * 256 + l) (show m ≠ 0 by omega)
      have q2 := Int.emod_lt_of_pos (k * 256 + l) (show 0 < m by omega)
      have q3 : (k * 256 + l) % m ≤ k * 256 + l := emod_le_self (by omega) (by omega)
      exact ⟨(k * 256 + l) % m, p2, rfl, q1, by omega, .inl q2, R2, b1.trans b2⟩

set_option maxHeartbeats 1000000 in
theorem once_any {r : Nat} {s : Option Addr} {n c p : Nat} {w : World} (m : Int) (hm : 0 ≤ m) (hm' : m ≤ 1000000) (h : Hid (Rd w r s n c p)) :
    Calls Try.prog 79 #[.pointer (some ⟨r, 0, none⟩), .int .i64 m] w fun e w' => ∃ b p', e = .returned (.bool b) ∧ Rd w' r s n c p' ∧ Beside r w w' := by
  go_enter Try.func79, Try.ntmps79
  go_wp2_with fail
  refine (below_any m h).mono ?_
  rintro e w1 ⟨k, p1, rfl, k0, k1, k2, R1, b1⟩
  go_wp2
  go_ret
  exact ⟨_, p1, rfl, R1, b1⟩

open Go.RowKit
set_option linter.unusedVariables false

theorem wrap64_id {n : Int} (h : -9223372036854775808 ≤ n) (h' : n ≤ 9223372036854775807) : wrap64 n = n := by unfold wrap64; omega
theorem wf_i64 {m : Int} (h : (Lit.int .i64 m).wf = true) : -9223372036854775808 ≤ m ∧ m ≤ 9223372036854775807 := by
  simp only [Lit.wf, Bool.and_eq_true, decide_eq_true_eq] at h
  exact h
theorem wf_u64 {m : Int} (h : (Lit.int .u64 m).wf = true) : 0 ≤ m ∧ m ≤ 18446744073709551615 := by
  simp only [Lit.wf, Bool.and_eq_true, decide_eq_true_eq] at h
  exact h

set_option maxHeartbeats 1000000 in
theorem word_any {r : Nat} {s : Option Addr} {n c p : Nat} {w : World} (h : Hid (Rd w r s n c p)) :
    Calls Try.prog 111 #[.pointer (some ⟨r, 0, none⟩)] w fun e w' => ∃ x : Int, ∃ p', e = .returned (.int .u64 x) ∧ (Lit.int .u64 x).wf = true ∧ Rd w' r s n c p' ∧ Beside r w w' := by
  go_enter Try.func111, Try.ntmps111
  go_wp2
  go_loopw [3, 4] (fun a b wr => ∃ (x : Int) (k : Nat) (p' : Nat), a = .int .u64 x ∧ b = .int .i64 k ∧ (Lit.int .u64 x).wf = true ∧ k ≤ 8 ∧ Hid (Rd wr r s n c p') ∧ Hid (Beside r w wr)) (fun a b _ => 8 - (intOf b).toNat)
  case atStart =>
    have b : Below w.heap.size w w := Below.refl _ _
    exact ⟨0, 0, p, rfl, rfl, by decide, by omega, h, Beside.of b⟩
  case round =>
    obtain ⟨x, k, p', rfl, rfl, hx, hk, R, B⟩ := hrel
    by_cases hk8 : k < 8
    · go_wp2_with fail
      refine (next_any R.out).mono ?_
      rintro e w1 ⟨l, p1, rfl, l0, l1, R1, b1⟩
      go_wp2
      go_roundw
      case rel =>
        exact ⟨_, k + 1, p1, rfl, by go_num, wf_bits _ _ _ _, by omega, R1, B.out.trans b1⟩
      case measure => simp [intOf]; omega
    · obtain rfl : k = 8 := by omega
      go_wp2
      go_ret
      exact ⟨x, p', rfl, hx, R.out, B.out⟩

set_option maxHeartbeats 1000000 in
theorem upto_any {r : Nat} {s : Option Addr} {n c p : Nat} {w : World} (m : Int) (hm : (Lit.int .i64 m).wf = true) (h : Hid (Rd w r s n c p)) :
    Calls Try.prog 99 #[.pointer (some ⟨r, 0, none⟩), .int .i64 m] w fun e w' => ∃ k p', e = .returned (.int .i64 k) ∧ 0 ≤ k ∧ (k < m ∨ k = 0) ∧ Rd w' r s n c p' ∧ Beside r w w' := by
  by_cases h1 : m ≤ 1
  · clear hm
    go_enter Try.func99, Try.ntmps99
    go_wp2
    go_ret
    have b : Below w.heap.size w w := Below.refl _ _
    exact ⟨0, p, rfl, by omega, .inr rfl, h.out, Beside.of b⟩
  · by_cases h2 : m ≤ 65536
    · have hm0 : 1 < m := by omega
      clear h1 hm
      go_enter Try.func99, Try.ntmps99
      go_wp2_with fail
      refine (below_any m h).mono ?_
      rintro e w1 ⟨k, p1, rfl, k0, k1, k2, R1, b1⟩
      go_wp2
      go_ret
      exact ⟨k, p1, rfl, k0, k2, R1, b1⟩
    · have hm0 : 65536 < m := by omega
      have hm1 : m < 9223372036854775808 := by
        have := wf_i64 hm
        omega
      clear h1 h2 hm
      go_enter Try.func99, Try.ntmps99
      go_wp2_with fail
      refine (word_any h).mono ?_
      rintro e w1 ⟨x, p1, rfl, hx, R1, b1⟩
      go_wp2
      go_ret
      have x0 : 0 ≤ x := (wf_u64 hx).1
      have q1 := Int.tmod_nonneg m (show 0 ≤ x / 2 by omega)
      have q2 := Int.tmod_lt_of_pos (x / 2) (show 0 < m by omega)
      exact ⟨(x / 2).tmod m, p1, ret_int (wrap64_id (by omega) (by omega)), q1, .inl q2, R1, b1⟩

open Go.RowKit
set_option linter.unusedVariables false

theorem Beside.later {r : Nat} {w w1 w2 : World} (h : Beside r w w1) (b : Below w1.heap.size w1 w2) : Beside r w w2 := h.trans (Beside.of b)

theorem wfi {m : Int} (h : -9223372036854775808 ≤ m) (h' : m ≤ 9223372036854775807) : (Lit.int .i64 m).wf = true := by
  simp only [Lit.wf, Bool.and_eq_true, decide_eq_true_eq]
  exact ⟨h, h'⟩

theorem Beside.fresh {r : Nat} {w x : World} (h : Beside r w x) {q : Addr} (hq : w.heap.size ≤ q.block) (u : Value) : Beside r w (x.setCell q u) := by
  obtain ⟨h1, h2, h3, h4, h5⟩ := h
  exact ⟨h1, h2, h3, by simpa [World.setCell] using h4, fun k hk hn => (Below.heap_setCell _ _ _ _ (by omega)).trans (h5 k hk hn)⟩
theorem Rd.below' {w w' : World} {r : Nat} {s : Option Addr} {n c p : Nat} (h : Rd w r s n c p) (hb : Below (r + 1) w w') : Rd w' r s n c p := by
  obtain ⟨h1, h2, h3, h4, h5, h6, h7⟩ := h
  refine ⟨Nat.lt_of_lt_of_le h1 hb.size, fun o => (hb.frozen (p := ⟨r, o, none⟩) (Nat.lt_succ_self r)).trans (h2 o), (hb.cell (p := ⟨r, 0, none⟩) (Nat.lt_succ_self r)).trans h3, (hb.cell (p := ⟨r, 1, none⟩) (Nat.lt_succ_self r)).trans h4, h5, h6, fun i hi => ?_⟩
  obtain ⟨g, o, k, e, hg, hc, hk⟩ := h7 i hi
  exact ⟨g, o, k, e, hg, (hb.cell (p := ⟨g, o + i, none⟩) (Nat.lt_succ_of_lt hg)).trans hc, hk⟩

open Go.RowKit
set_option linter.unusedVariables false
set_option linter.unusedSimpArgs false

/-- A block's first cells. -/
def Blk (w : World) (b : Nat) (cs : List Value) : Prop := b < w.heap.size ∧ (∀ o, w.frozen? ⟨b, o, none⟩ = false) ∧ ∀ i v, cs[i]? = some v → w.cell? ⟨b, i, none⟩ = some v
theorem Blk.belowB {w w' : World} {b B : Nat} {cs : List Value} (h : Blk w b cs) (hb : Below B w w') (hl : b < B) : Blk w' b cs :=
  ⟨Nat.lt_of_lt_of_le h.1 hb.size, fun o => (hb.frozen (p := ⟨b, o, none⟩) hl).trans (h.2.1 o), fun i v e => (hb.cell (p := ⟨b, i, none⟩) hl).trans (h.2.2 i v e)⟩
theorem Blk.below {w w' : World} {b : Nat} {cs : List Value} (h : Blk w b cs) (hb : Below w.heap.size w w') : Blk w' b cs := h.belowB hb h.1
theorem Blk.beside {w w' : World} {b r : Nat} {cs : List Value} (h : Blk w b cs) (hb : Beside r w w') (hr : b ≠ r) : Blk w' b cs :=
  ⟨Nat.lt_of_lt_of_le h.1 hb.2.2.2.1, fun o => (hb.frozen (p := ⟨b, o, none⟩) h.1 hr).trans (h.2.1 o), fun i v e => (hb.cell (p := ⟨b, i, none⟩) h.1 hr).trans (h.2.2 i v e)⟩
theorem Blk.new (w : World) (cs : Array Value) (t : TypeId) : Blk (w.alloc (.cells cs t)) w.heap.size cs.toList :=
  ⟨by simp, fun o => by simp [go_sem], fun i v e => by rw [Array.getElem?_toList] at e; simp [go_sem, e]⟩
theorem Blk.set {w : World} {b : Nat} {cs : List Value} (h : Blk w b cs) (i : Nat) (v : Value) : Blk (w.setCell ⟨b, i, none⟩ v) b (cs.set i v) := by
  obtain ⟨h1, h2, h3⟩ := h
  refine ⟨by simpa using h1, fun o => by simp [go_sem, h2], fun j u e => ?_⟩
  by_cases q : j = i
  · subst q
    have hj : j < cs.length := by
      rcases Nat.lt_or_ge j cs.length with z | z
      · exact z
      · rw [List.getElem?_eq_none (by simpa using z)] at e; cases e
    rw [List.getElem?_set_self hj] at e
    cases e
    have := h3 j _ (List.getElem?_eq_getElem hj)
    simp [go_sem, this]
  · rw [List.getElem?_set_ne (fun z => q z.symm)] at e
    have := h3 j u e
    simp [go_sem, this, q]
theorem Beside.onB {r : Nat} {w w1 w2 : World} (h : Beside r w w1) (b : Below w.heap.size w1 w2) : Beside r w w2 := by
  obtain ⟨h1, h2, h3, h4, h5⟩ := h
  exact ⟨b.os.trans h1, b.tape.trans h2, b.output.trans h3, Nat.le_trans h4 b.size, fun k hk hn => (b.block k hk).trans (h5 k hk hn)⟩
open Go.ChangeShapes Go.WideShapes Go.ChangeAt Go.RowKit
set_option linter.unusedVariables false
set_option linter.unusedSimpArgs false

theorem bok_sk {p : Int} {n : Nat} {D : Nat → Int × Int} {m : Nat} {S : Nat → Int} {nb q : Nat} {X Y : Nat → Int} {K : Nat → Nat} {V : Nat → Nat → Int} (h : bokB p n D m S nb X Y K V = true) : bokB p n D m S (nb - 1) (fun i => X (sk q i)) (fun i => Y (sk q i)) (fun i => K (sk q i)) (fun i => V (sk q i)) = true := by
  obtain ⟨h1, h2, h3⟩ := bok_yes h
  have hr := bok_rises h
  unfold bokB
  simp only [Bool.and_eq_true, decide_eq_true_iff]
  refine ⟨h1, by omega, fun i hi => ?_⟩
  have hs : sk q i < nb := by unfold sk; split <;> omega
  obtain ⟨g1, g2, g3, g4⟩ := pm_yes (h3 (sk q i) hs)
  unfold pmB
  simp only [Bool.and_eq_true]
  refine ⟨g1, g2, decide_eq_true ?_, decide_eq_true fun j hj => ?_⟩
  · rcases Nat.eq_zero_or_pos i with z | z
    · exact .inl z
    · exact .inr (hr _ _ (by unfold sk; split <;> split <;> omega) hs)
  · exact of_decide_eq_true g4 (sk q j) (by unfold sk; split <;> split <;> omega)
theorem bok_in {p : Int} {n : Nat} {D : Nat → Int × Int} {m : Nat} {S : Nat → Int} {nb : Nat} {X Y : Nat → Int} {K : Nat → Nat} {V : Nat → Nat → Int} (h : bokB p n D m S nb X Y K V = true) : n ≤ 40 ∧ nb ≤ 20 ∧ ∀ i, i < nb → (K i : Int) ≤ 40 ∧ risB (V i) (K i) = true ∧ ∀ j, j < K i → 0 ≤ V i j ∧ V i j < (n : Int) := by
  obtain ⟨h1, h2, h3⟩ := bok_yes h
  obtain ⟨-, n40, -⟩ := net_yes h1
  refine ⟨n40, h2, fun i hi => ?_⟩
  obtain ⟨-, -, r1, r2⟩ := fm_yes (pm_yes (h3 i hi)).1
  have := ris_len r1 r2 (by omega)
  exact ⟨by omega, r1, fun j hj => by have := r2 j hj; omega⟩
def GbPost (w : World) (nr : Nat) (X Y : Nat → Int) (K : Nat → Nat) (V : Nat → Nat → Int) (L : List Int) (cd : Int) (e : Ending) (w' : World) : Prop := ∃ (s : Option Addr) (c : Nat) (t : Option Addr) (d : Nat) (S T : Nat → Prop), e = .returned (.tuple #[.agg #[.slice s nr c], .slice t L.length d, .int .i64 cd]) ∧ (∀ k, S k → w.heap.size ≤ k ∧ k < w'.heap.size) ∧ BookR S w' s nr X Y K V ∧ (∀ k, T k → w.heap.size ≤ k ∧ k < w'.heap.size) ∧ I64R T w' t L.length (nthI L) ∧ (∀ k, S k → ¬ T k) ∧ Below w.heap.size w w'
/-- What is asked of an answer. -/
def GbAns (p : Int) (n : Nat) (D : Nat → Int × Int) (m : Nat) (S : Nat → Int) (nb : Nat) (X Y : Nat → Int) (K : Nat → Nat) (V : Nat → Nat → Int) (q : Nat) (w : World) (e : Ending) (w' : World) : Prop := if bokB p n D m S nb X Y K V = true then (if q < nb then GbPost w (nb - 1) (fun i => X (sk q i)) (fun i => Y (sk q i)) (fun i => K (sk q i)) (fun i => V (sk q i)) (freL (V q) (cntP (fun i => K (sk q i)) (fun i => V (sk q i)) (nb - 1)) (K q)) 0 e w' else GbPost w nb X Y K V [] 7 e w') else GbPost w 0 X Y K V [] 1 e w'
theorem GbAns.bad {p : Int} {n : Nat} {D : Nat → Int × Int} {m : Nat} {S : Nat → Int} {nb : Nat} {X Y : Nat → Int} {K : Nat → Nat} {V : Nat → Nat → Int} {q : Nat} {w : World} {e : Ending} {w' : World} (h : bokB p n D m S nb X Y K V = false) (g : GbPost w 0 X Y K V [] 1 e w') : GbAns p n D m S nb X Y K V q w e w' := by unfold GbAns; rw [h]; exact g
theorem GbAns.none {p : Int} {n : Nat} {D : Nat → Int × Int} {m : Nat} {S : Nat → Int} {nb : Nat} {X Y : Nat → Int} {K : Nat → Nat} {V : Nat → Nat → Int} {q : Nat} {w : World} {e : Ending} {w' : World} (h : bokB p n D m S nb X Y K V = true) (hq : ¬ q < nb) (g : GbPost w nb X Y K V [] 7 e w') : GbAns p n D m S nb X Y K V q w e w' := by unfold GbAns; rw [if_pos h, if_neg hq]; exact g
theorem GbAns.hit {p : Int} {n : Nat} {D : Nat → Int × Int} {m : Nat} {S : Nat → Int} {nb : Nat} {X Y : Nat → Int} {K : Nat → Nat} {V : Nat → Nat → Int} {q mo fl : Nat} {L : List Int} {w : World} {e : Ending} {w' : World} (h : bokB p n D m S nb X Y K V = true) (hq : q < nb) (hm : nb - 1 = mo) (hk : K q = fl) (hL : freL (V q) (cntP (fun i => K (sk q i)) (fun i => V (sk q i)) mo) fl = L) (g : GbPost w mo (fun i => X (sk q i)) (fun i => Y (sk q i)) (fun i => K (sk q i)) (fun i => V (sk q i)) L 0 e w') : GbAns p n D m S nb X Y K V q w e w' := by unfold GbAns; rw [if_pos h, if_pos hq, hm, hk, hL]; exact g
theorem no_book (w : World) (s : Option Addr) (X Y : Nat → Int) (K : Nat → Nat) (V : Nat → Nat → Int) : BookR (fun _ => False) w s 0 X Y K V := ⟨fun _ => 0, fun i hi => absurd hi (Nat.not_lt_zero _), fun i i' hi => absurd hi (Nat.not_lt_zero _)⟩
theorem no_ints (w : World) (s : Option Addr) (V : Nat → Int) : I64R (fun _ => False) w s 0 V := ⟨fun i hi => absurd hi (Nat.not_lt_zero _), fun hi => absurd hi (Nat.not_lt_zero _)⟩

open Go.ChangeShapes Go.WideShapes Go.ChangeAt Go.RowKit
set_option linter.unusedVariables false
set_option linter.unusedSimpArgs false

/-- The place of an Id that is not there. -/
def InsAt (nb : Nat) (X : Nat → Int) (id : Int) (q : Nat) : Prop := q ≤ nb ∧ (∀ j, j < q → X j < id) ∧ ∀ j, q ≤ j → j < nb → id < X j
theorem ins_ex (nb : Nat) (X : Nat → Int) (id : Int) (hr : ∀ i j, i < j → j < nb → X i < X j) (hn : hasB X nb id = false) : ∃ q, InsAt nb X id q := by
  have hne : ∀ j, j < nb → X j ≠ id := fun j hj e => by
    have := of_decide_eq_false hn
    exact this ⟨j, hj, e⟩
  have key : ∀ k, k ≤ nb → ∃ q, q ≤ k ∧ (∀ j, j < q → X j < id) ∧ ∀ j, q ≤ j → j < k → id < X j := by
    intro k
    induction k with
    | zero => intro _; exact ⟨0, Nat.le_refl _, fun j h => absurd h (Nat.not_lt_zero _), fun j _ h => absurd h (Nat.not_lt_zero _)⟩
    | succ k ih =>
      intro hk
      obtain ⟨q, h1, h2, h3⟩ := ih (by omega)
      by_cases z : X k < id
      · have e : q = k := by
          rcases Nat.lt_or_ge q k with y | y
          · have a := h3 q (Nat.le_refl _) y
            have b := hr q k y (by omega)
            omega
          · omega
        subst e
        refine ⟨q + 1, Nat.le_refl _, fun j hj => ?_, fun j a b => by omega⟩
        by_cases e : j = q
        · subst e; exact z
        · exact h2 j (by omega)
      · refine ⟨q, by omega, h2, fun j a b => ?_⟩
        by_cases e : j = k
        · subst e
          have := hne j (by omega)
          omega
        · exact h3 j a (by omega)
  obtain ⟨q, h1, h2, h3⟩ := key nb (Nat.le_refl _)
  exact ⟨q, h1, h2, h3⟩
theorem ins_one {nb : Nat} {X : Nat → Int} {id : Int} {q k : Nat} (h : InsAt nb X id q) (hk : k ≤ nb) (h1 : ∀ j, j < k → X j < id) (h2 : ∀ j, k ≤ j → j < nb → id ≤ X j) : k = q := by
  obtain ⟨a, b, c⟩ := h
  rcases Nat.lt_trichotomy k q with z | z | z
  · have := b k z; have := h2 k (Nat.le_refl _) (by omega); omega
  · exact z
  · have := h1 q z; have := c q (Nat.le_refl _) (by omega); omega
def GrPost (w : World) (nr : Nat) (X Y : Nat → Int) (K : Nat → Nat) (V : Nat → Nat → Int) (cd : Int) (e : Ending) (w' : World) : Prop := ∃ (s : Option Addr) (c : Nat) (S : Nat → Prop), e = .returned (.tuple #[.agg #[.slice s nr c], .int .i64 cd]) ∧ (∀ k, S k → w.heap.size ≤ k ∧ k < w'.heap.size) ∧ BookR S w' s nr X Y K V ∧ Below w.heap.size w w'
/-- What is asked of an answer. -/
def GrAns (p : Int) (n : Nat) (D : Nat → Int × Int) (m : Nat) (S : Nat → Int) (nb : Nat) (X Y : Nat → Int) (K : Nat → Nat) (V : Nat → Nat → Int) (id pl : Int) (kp : Nat) (vp : Nat → Int) (q : Nat) (w : World) (e : Ending) (w' : World) : Prop := if bokB p n D m S nb X Y K V = true then (if refV p n D m S nb X Y id pl kp vp = 0 then GrPost w (nb + 1) (inF q id X) (inF q pl Y) (inF q kp K) (inF q vp V) 0 e w' else GrPost w nb X Y K V (refV p n D m S nb X Y id pl kp vp) e w') else GrPost w 0 X Y K V 1 e w'
theorem GrAns.bad {p : Int} {n : Nat} {D : Nat → Int × Int} {m : Nat} {S : Nat → Int} {nb : Nat} {X Y : Nat → Int} {K : Nat → Nat} {V : Nat → Nat → Int} {id pl : Int} {kp : Nat} {vp : Nat → Int} {q : Nat} {w : World} {e : Ending} {w' : World} (h : bokB p n D m S nb X Y K V = false) (g : GrPost w 0 X Y K V 1 e w') : GrAns p n D m S nb X Y K V id pl kp vp q w e w' := by unfold GrAns; rw [h]; exact g
theorem GrAns.no {p : Int} {n : Nat} {D : Nat → Int × Int} {m : Nat} {S : Nat → Int} {nb : Nat} {X Y : Nat → Int} {K : Nat → Nat} {V : Nat → Nat → Int} {id pl : Int} {kp : Nat} {vp : Nat → Int} {q : Nat} {w : World} {e : Ending} {w' : World} {cd : Int} (h : bokB p n D m S nb X Y K V = true) (hr : refV p n D m S nb X Y id pl kp vp = cd) (hc : cd ≠ 0) (g : GrPost w nb X Y K V cd e w') : GrAns p n D m S nb X Y K V id pl kp vp q w e w' := by unfold GrAns; rw [if_pos h, hr, if_neg hc]; exact g
theorem GrAns.ok {p : Int} {n : Nat} {D : Nat → Int × Int} {m : Nat} {S : Nat → Int} {nb : Nat} {X Y : Nat → Int} {K : Nat → Nat} {V : Nat → Nat → Int} {id pl : Int} {kp : Nat} {vp : Nat → Int} {q : Nat} {w : World} {e : Ending} {w' : World} (h : bokB p n D m S nb X Y K V = true) (hr : refV p n D m S nb X Y id pl kp vp = 0) (g : GrPost w (nb + 1) (inF q id X) (inF q pl Y) (inF q kp K) (inF q vp V) 0 e w') : GrAns p n D m S nb X Y K V id pl kp vp q w e w' := by unfold GrAns; rw [if_pos h, if_pos hr]; exact g
theorem ins_per {S : Nat → Prop} {b nb q g gk kp c : Nat} {X Y : Nat → Int} {K : Nat → Nat} {V : Nat → Nat → Int} {AA : Nat → Option Addr} {CC : Nat → Nat} {id pl : Int} {a : Option Addr} {vp : Nat → Int} {W W' : World} (hq : q ≤ nb) (HC : PcK b W nb nb X Y K V) (hp : ∀ i, i < nb → W.cell? ⟨b, i * 3, none⟩ = some (.int .i64 (X i)) ∧ W.cell? ⟨b, i * 3 + 1, none⟩ = some (.int .i64 (Y i)) ∧ W.cell? ⟨b, i * 3 + 2, none⟩ = some (.slice (AA i) (K i) (CC i)))
    (hL : 0 < kp → a = some ⟨gk, 0, none⟩ ∧ gk < W.heap.size ∧ S gk ∧ ∀ j, j < kp → W.cell? ⟨gk, j, none⟩ = some (.int .i64 (vp j)) ∧ W.frozen? ⟨gk, j, none⟩ = false)
    (hin : ∀ (i : Nat) (a : Addr) (k' c : Nat), i < nb → W.cell? ⟨b, i * 3 + 2, none⟩ = some (.slice (some a) k' c) → 0 < k' → S a.block ∧ (0 < kp → a.block ≠ gk)) (hSg : S g)
    (HI : InsP W nb q X Y K AA CC id pl a kp c g W') : PerR S W' (some ⟨g, 0, none⟩) (nb + 1) (inF q id X) (inF q pl Y) (inF q kp K) (inF q vp V) := by
  obtain ⟨h1, h2, ⟨G, h3, h4⟩, h5⟩ := HC
  obtain ⟨i1, i2, i3, i4, i5⟩ := HI
  have old : ∀ i, i < nb → 0 < K i → AA i = some ⟨G i, 0, none⟩ ∧ G i < W.heap.size ∧ S (G i) ∧ (0 < kp → G i ≠ gk) ∧ ∀ j, j < K i → W.cell? ⟨G i, j, none⟩ = some (.int .i64 (V i j)) ∧ W.frozen? ⟨G i, j, none⟩ = false := fun i hi hk => by
    obtain ⟨a0, c0, _, _, d2, r⟩ := h3 i hi
    obtain ⟨r1, r2, r3, r4⟩ := r hk
    have d := (hp i hi).2.2
    rw [d2] at d
    simp only [Option.some.injEq, Value.slice.injEq] at d
    rw [r1] at d2
    obtain ⟨s1, s2⟩ := hin i _ _ _ hi d2 hk
    exact ⟨by rw [← d.1]; exact r1, r3, s1, s2, r4⟩
  refine ⟨inF q gk G, fun i hi => ?_, fun i i' hi hi' q1 q2 e => ?_⟩
  · obtain ⟨c0, c1, c2⟩ := i4 i hi
    refine ⟨g, _, _, rfl, hSg, i2, i3, c0, c1, c2, fun hk => ?_⟩
    by_cases z : i < q
    · rw [inF_lt z] at hk ⊢
      rw [inF_lt z, inF_lt z, inF_lt z]
      obtain ⟨r1, r2, r3, r4, r5⟩ := old i (by omega) hk
      exact ⟨r1, by omega, r3, Nat.lt_of_lt_of_le r2 i5.size, fun j hj => ⟨(i5.cell (p := ⟨G i, j, none⟩) r2).trans (r5 j hj).1, (i5.frozen (p := ⟨G i, j, none⟩) r2).trans (r5 j hj).2⟩⟩
    · by_cases z2 : i = q
      · subst z2
        rw [inF_eq] at hk ⊢
        rw [inF_eq, inF_eq, inF_eq]
        obtain ⟨r1, r2, r3, r5⟩ := hL hk
        exact ⟨r1, by omega, r3, Nat.lt_of_lt_of_le r2 i5.size, fun j hj => ⟨(i5.cell (p := ⟨gk, j, none⟩) r2).trans (r5 j hj).1, (i5.frozen (p := ⟨gk, j, none⟩) r2).trans (r5 j hj).2⟩⟩
      · have z3 : q < i := by omega
        rw [inF_gt z3] at hk ⊢
        rw [inF_gt z3, inF_gt z3, inF_gt z3]
        obtain ⟨r1, r2, r3, r4, r5⟩ := old (i - 1) (by omega) hk
        exact ⟨r1, by omega, r3, Nat.lt_of_lt_of_le r2 i5.size, fun j hj => ⟨(i5.cell (p := ⟨G (i - 1), j, none⟩) r2).trans (r5 j hj).1, (i5.frozen (p := ⟨G (i - 1), j, none⟩) r2).trans (r5 j hj).2⟩⟩
  · have pos : ∀ i, i < nb + 1 → i ≠ q → 0 < inF q kp K i → ∃ i0, i0 < nb ∧ 0 < K i0 ∧ inF q gk G i = G i0 ∧ i0 = (if i < q then i else i - 1) := fun i hi hne hk => by
      by_cases z : i < q
      · rw [inF_lt z] at hk
        exact ⟨i, by omega, hk, inF_lt z, by rw [if_pos z]⟩
      · have z3 : q < i := by omega
        rw [inF_gt z3] at hk
        exact ⟨i - 1, by omega, hk, inF_gt z3, by rw [if_neg z]⟩
    by_cases e1 : i = q
    · by_cases e2 : i' = q
      · omega
      · subst e1
        obtain ⟨i0, a1, a2, a3, _⟩ := pos i' hi' e2 q2
        rw [inF_eq] at q1 e
        rw [a3] at e
        exact absurd e.symm ((old i0 a1 a2).2.2.2.1 q1)
    · by_cases e2 : i' = q
      · subst e2
        obtain ⟨i0, a1, a2, a3, _⟩ := pos i hi e1 q1
        rw [inF_eq] at q2 e
        rw [a3] at e
        exact absurd e ((old i0 a1 a2).2.2.2.1 q2)
      · obtain ⟨i0, a1, a2, a3, a4⟩ := pos i hi e1 q1
        obtain ⟨j0, b1, b2, b3, b4⟩ := pos i' hi' e2 q2
        rw [a3, b3] at e
        have := h4 i0 j0 a1 b1 a2 b2 e
        rw [a4, b4] at this
        split at this <;> split at this <;> omega

open Go.ChangeShapes Go.WideShapes Go.ChangeAt Go.RowKit
set_option linter.unusedVariables false
set_option linter.unusedSimpArgs false

open Go.ChangeShapes Go.WideShapes Go.ChangeAt Go.RowKit
set_option linter.unusedVariables false
set_option linter.unusedSimpArgs false

set_option maxHeartbeats 400000 in
theorem isNaNC (a : Int) (w : World) : Calls Try.prog 108 #[.int .i64 a] w fun e w' => e = .returned (.bool false) ∧ w' = w := by
  have h : (a != a) = false := bne_self_eq_false a
  go_enter Try.func108, Try.ntmps108
  go_wp2
  go_ret
  exact ⟨rfl, rfl⟩
set_option maxHeartbeats 400000 in
theorem isNaNS (a : Int) (w : World) : Calls Try.prog 92 #[.int .i64 a] w fun e w' => e = .returned (.bool false) ∧ w' = w := by
  have h : (a != a) = false := bne_self_eq_false a
  go_enter Try.func92, Try.ntmps92
  go_wp2
  go_ret
  exact ⟨rfl, rfl⟩
set_option maxHeartbeats 800000 in
theorem less_any (a b : Int) (w : World) : Calls Try.prog 91 #[.int .i64 a, .int .i64 b] w fun e w' => e = .returned (.bool (decide (a < b))) ∧ w' = w := by
  go_enter Try.func91, Try.ntmps91
  go_wp2_with fail
  refine (isNaNC a _).mono ?_
  rintro e w ⟨rfl, rfl⟩
  go_wp2
  go_ret
  exact ⟨rfl, rfl⟩
def BisPost (n : Nat) (V : Nat → Int) (x : Int) (e : Ending) : Prop := ∃ (k : Nat) (f : Bool), e = .returned (.tuple #[.int .i64 k, .bool f]) ∧ k ≤ n ∧ (∀ j, j < k → V j < x) ∧ (∀ j, k ≤ j → j < n → x ≤ V j) ∧ (f = true ↔ k < n ∧ V k = x)
set_option maxRecDepth 20000 in
set_option maxHeartbeats 4000000 in
theorem binSearch_any (s : Option Addr) (n c : Nat) (V : Nat → Int) (x : Int) (w : World) (hn : (n : Int) ≤ 1000000) (HV : Hid (∀ i j, i < j → j < n → V i < V j)) (HR : Hid (RowI w s n V)) :
    Calls Try.prog 53 #[.slice s n c, .int .i64 x] w fun e w' => BisPost n V x e ∧ w' = w := by
  go_enter Try.func53, Try.ntmps53
  go_wp2_with fail
  go_loopw [7, 8] (fun a b wx => ∃ l h : Nat, l ≤ h ∧ h ≤ n ∧ a = .int .i64 l ∧ b = .int .i64 h ∧ Hid (∀ j, j < l → V j < x) ∧ Hid (∀ j, h ≤ j → j < n → x ≤ V j) ∧ wx = w) (fun a b _ => (intOf b).toNat - (intOf a).toNat)
  case atStart => exact ⟨0, n, Nat.zero_le _, Nat.le_refl _, rfl, rfl, fun j hj => by omega, fun j a b => by omega, rfl⟩
  case round =>
    obtain ⟨l, h, hl, hh, rfl, rfl, H1, H2, rfl⟩ := hrel
    by_cases hlt : l < h
    case pos =>
      obtain ⟨z, hz⟩ : ∃ z : Nat, (l + h) / 2 = z := ⟨_, rfl⟩
      have z1 : l ≤ z := by omega
      have z2 : z < h := by omega
      have zn : z < n := by omega
      have lhi : (l : Int) < (h : Int) := by omega
      have zni : (z : Int) < (n : Int) := by omega
      have hz' : ((l : Int) + (h : Int)) / 2 = (z : Int) := by omega
      clear hz
      obtain ⟨g, o, rfl, zg, cg⟩ := HR.out z zn
      obtain ⟨y, hy⟩ : ∃ y, V z = y := ⟨_, rfl⟩
      have HY : Hid (V z = y) := hy
      rw [hy] at cg
      clear hy
      go_wp2_with fail
      refine (less_any y x _).mono ?_
      rintro e w2 ⟨rfl, rfl⟩
      by_cases q : y < x
      · have qd : decide (y < x) = true := decide_eq_true q
        have H3 : Hid (∀ j, j < z + 1 → V j < x) := fun j hj => by
          by_cases e : j = z
          · rw [e, HY.out]; exact q
          · have := HV.out j z (by omega) zn
            rw [HY.out] at this
            omega
        rw [qd]
        clear qd
        go_wp2
        go_roundw
        case rel => exact ⟨z + 1, h, by omega, hh, by go_num, rfl, H3, H2, by first | rfl | trivial⟩
        case measure => simp [intOf]; omega
      · have qd : decide (y < x) = false := decide_eq_false q
        have H3 : Hid (∀ j, z ≤ j → j < n → x ≤ V j) := fun j h1 h2 => by
          by_cases e : j = z
          · rw [e, HY.out]; omega
          · have := HV.out z j (by omega) h2
            rw [HY.out] at this
            omega
        rw [qd]
        clear qd
        go_wp2
        go_roundw
        case rel => exact ⟨l, z, by omega, by omega, rfl, by go_num, H1, H3, by first | rfl | trivial⟩
        case measure => simp [intOf]; omega
    case neg =>
      obtain rfl : l = h := by omega
      have lni : ¬ (l : Int) < (l : Int) := by omega
      by_cases q : l < n
      case neg =>
        have qn : ¬ (l : Int) < (n : Int) := by omega
        go_wp2
        refine bodyPost_ret (v := .tuple #[.int .i64 (l : Int), .bool false]) (by simp [results, Try.results53, go_sem]) rfl ?_
        exact ⟨⟨l, false, rfl, hh, H1.out, H2.out, ⟨fun z => (by cases z), fun z => absurd z.1 q⟩⟩, rfl⟩
      case pos =>
        have qi : (l : Int) < (n : Int) := by omega
        obtain ⟨g, o, rfl, zg, cg⟩ := HR.out l q
        obtain ⟨y, hy⟩ : ∃ y, V l = y := ⟨_, rfl⟩
        have HY : Hid (V l = y) := hy
        rw [hy] at cg
        clear hy
        by_cases e : y = x
        case pos =>
          have eb : (y == x) = true := by simp [e]
          go_wp2
          refine bodyPost_ret (v := .tuple #[.int .i64 (l : Int), .bool true]) (by simp [results, Try.results53, go_sem]) rfl ?_
          exact ⟨⟨l, true, rfl, hh, H1.out, H2.out, ⟨fun _ => ⟨q, by rw [HY.out]; exact e⟩, fun _ => rfl⟩⟩, rfl⟩
        case neg =>
          have eb : (y == x) = false := by simp [e]
          go_wp2_with fail
          refine (isNaNS y _).mono ?_
          rintro e w2 ⟨rfl, rfl⟩
          go_wp2
          refine bodyPost_ret (v := .tuple #[.int .i64 (l : Int), .bool false]) (by simp [results, Try.results53, go_sem]) rfl ?_
          exact ⟨⟨l, false, rfl, hh, H1.out, H2.out, ⟨fun z => (by cases z), fun z => absurd (by rw [← HY.out]; exact z.2) e⟩⟩, rfl⟩

end Go.Proofs.Ytikcfpjfcpbfcaa
