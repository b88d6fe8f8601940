/-
What is proved: what a reader of a code leaves when it reads one byte: a number below 256, the reader one place on or at its end, nothing else turned.
-/
import Derived.Test.YtikcfpjfcpbfcaaBeside
namespace Go.Proofs.Ytikcfpjfcpbfcaa
set_option maxRecDepth 40000
open Go.RowKit
set_option linter.unusedVariables false

/-- A READER of n bytes in block r, at the place p; its bytes lie in elder blocks. -/
def Rd (w : World) (r : Nat) (s : Option Addr) (n c : Nat) (p : Nat) : Prop :=
  r < w.heap.size ∧ (∀ o, w.frozen? ⟨r, o, none⟩ = false) ∧ w.cell? ⟨r, 0, none⟩ = some (.slice s n c) ∧ w.cell? ⟨r, 1, none⟩ = some (.int .i64 p) ∧ p ≤ n ∧ n ≤ 1048576 ∧
    ∀ i, i < n → ∃ g o k, s = some ⟨g, o, none⟩ ∧ g < r ∧ w.cell? ⟨g, o + i, none⟩ = some (.int .u8 k) ∧ 0 ≤ k ∧ k < 256
theorem Rd.below {w w' : World} {r : Nat} {s : Option Addr} {n c p : Nat} (h : Rd w r s n c p) (hb : Below w.heap.size w w') : Rd w' r s n c p := by
  obtain ⟨h1, h2, h3, h4, h5, h6, h7⟩ := h
  refine ⟨Nat.lt_of_lt_of_le h1 hb.size, fun o => (hb.frozen (p := ⟨r, o, none⟩) h1).trans (h2 o), (hb.cell (p := ⟨r, 0, none⟩) h1).trans h3, (hb.cell (p := ⟨r, 1, none⟩) h1).trans h4, h5, h6, fun i hi => ?_⟩
  obtain ⟨g, o, k, e, hg, hc, hk⟩ := h7 i hi
  exact ⟨g, o, k, e, hg, (hb.cell (p := ⟨g, o + i, none⟩) (Nat.lt_trans hg h1)).trans hc, hk⟩

set_option maxRecDepth 20000 in
set_option maxHeartbeats 1000000 in
theorem next_end (r n c : Nat) (s : Option Addr) (w : World) (h1 : r < w.heap.size) (h3 : w.cell? ⟨r, 0, none⟩ = some (.slice s n c)) (h4 : w.cell? ⟨r, 1, none⟩ = some (.int .i64 n)) :
    Calls Try.prog 105 #[.pointer (some ⟨r, 0, none⟩)] w fun e w' => e = .returned (.int .i64 0) ∧ Below w.heap.size w w' := by
  go_enter Try.func105, Try.ntmps105
  go_wp2
  go_quiet (fail)
  go_wp2
  go_ret
  exact ⟨rfl, (by repeat (first | with_reducible exact Below.refl _ _ | with_reducible refine Below.setCell ?_ (by first | omega | (simp; done) | (simp; omega)) _ | with_reducible refine bDrewN ?_ _ | with_reducible refine Below.drew ?_ | with_reducible refine Below.alloc ?_ (by first | omega | (simp; done) | (simp; omega)) _))⟩

set_option maxRecDepth 20000 in
set_option maxHeartbeats 1000000 in
theorem next_on (r n c g o p : Nat) (k : Int) (w : World) (h1 : r < w.heap.size) (hg : g < r) (hf : ∀ o, w.frozen? ⟨r, o, none⟩ = false) (h3 : w.cell? ⟨r, 0, none⟩ = some (.slice (some ⟨g, o, none⟩) n c)) (h4 : w.cell? ⟨r, 1, none⟩ = some (.int .i64 p))
    (hp0 : (0 : Int) ≤ (p : Int)) (hp : (p : Int) < (n : Int)) (hn : (n : Int) ≤ 1048576) (hc : w.cell? ⟨g, o + p, none⟩ = some (.int .u8 k)) (hk0 : 0 ≤ k) (hk : k < 256) :
    Calls Try.prog 105 #[.pointer (some ⟨r, 0, none⟩)] w fun e w' => e = .returned (.int .i64 k) ∧ ∃ d1 d2, w' = ((w.drewN d1).setCell ⟨r, 1, none⟩ (.int .i64 (p + 1))).drewN d2 := by
  go_enter Try.func105, Try.ntmps105
  go_wp2
  go_quiet (fail)
  go_wp2
  go_quiet (fail)
  go_wp2
  go_ret
  exact ⟨rfl, _, _, rfl⟩

/-- ONE BYTE READ: a number below 256; the reader stands as a reader, nothing else has turned. -/
theorem next_any {r : Nat} {s : Option Addr} {n c p : Nat} {w : World} (h : Rd w r s n c p) :
    Calls Try.prog 105 #[.pointer (some ⟨r, 0, none⟩)] w fun e w' => ∃ k p', e = .returned (.int .i64 k) ∧ 0 ≤ k ∧ k < 256 ∧ Rd w' r s n c p' ∧ Beside r w w' := by
  obtain ⟨h1, h2, h3, h4, h5, h6, h7⟩ := h
  rcases Nat.lt_or_ge p n with hp | hp
  · obtain ⟨g, o, k, rfl, hg, hc, hk0, hk⟩ := h7 p hp
    refine (next_on r n c g o p k w h1 hg h2 h3 h4 (by omega) (by omega) (by omega) hc hk0 hk).mono ?_
    rintro e w' ⟨rfl, d1, d2, rfl⟩
    have b1 : Below w.heap.size w (w.drewN d1) := bDrewN (Below.refl _ _) _
    have b2 : Beside r (w.drewN d1) ((w.drewN d1).setCell ⟨r, 1, none⟩ (.int .i64 (p + 1))) := Beside.setCell _ _ _ _
    have bb : Beside r w (((w.drewN d1).setCell ⟨r, 1, none⟩ (.int .i64 (p + 1))).drewN d2) := ((Beside.of b1).trans b2).trans (Beside.of (bDrewN (Below.refl _ _) _))
    have z : r < (((w.drewN d1).setCell ⟨r, 1, none⟩ (.int .i64 (p + 1))).drewN d2).heap.size := Nat.lt_of_lt_of_le h1 bb.2.2.2.1
    refine ⟨k, p + 1, rfl, hk0, hk, ⟨z, fun o => ?_, ?_, ?_, by omega, h6, fun i hi => ?_⟩, bb⟩
    · simp [go_sem, h2]
    · simp [go_sem, h3]
    · simp [go_sem, h4]
    · obtain ⟨g', o', k', e', hg', hc', hk'⟩ := h7 i hi
      exact ⟨g', o', k', e', hg', (bb.cell (p := ⟨g', o' + i, none⟩) (Nat.lt_trans hg' h1) (Nat.ne_of_lt hg')).trans hc', hk'⟩
  · obtain rfl : p = n := by omega
    refine (next_end r p c s w h1 h3 h4).mono ?_
    rintro e w' ⟨rfl, hb⟩
    exact ⟨0, p, rfl, by omega, by omega, Rd.below ⟨h1, h2, h3, h4, h5, h6, h7⟩ hb, Beside.of hb⟩

theorem emod_le_self {x m : Int} (hx : 0 ≤ x) (hm : 0 ≤ m) : x % m ≤ x := by
  have d := Int.mul_ediv_add_emod x m
  have e := Int.mul_nonneg hm (Int.ediv_nonneg hx hm)
  generalize m * (x / m) = q at d e
  omega

set_option maxHeartbeats 1000000 in
theorem below_any {r : Nat} {s : Option Addr} {n c p : Nat} {w : World} (m : Int) (h : Hid (Rd w r s n c p)) :
    Calls Try.prog 80 #[.pointer (some ⟨r, 0, none⟩), .int .i64 m] w fun e w' => ∃ k p', e = .returned (.int .i64 k) ∧ 0 ≤ k ∧ k < 65536 ∧ (k < m ∨ k = 0) ∧ Rd w' r s n c p' ∧ Beside r w w' := by
  by_cases hm : m ≤ 1
  · go_enter Try.func80, Try.ntmps80
    go_wp2
    go_ret
    have b : Below w.heap.size w w := Below.refl _ _
    exact ⟨0, p, rfl, by omega, by omega, .inr rfl, h.out, Beside.of b⟩
  · by_cases hm2 : m ≤ 256
    · have hm0 : 1 < m := by omega
      clear hm
      go_enter Try.func80, Try.ntmps80
      go_wp2_with fail
      refine (next_any h.out).mono ?_
      rintro e w1 ⟨k, p1, rfl, k0, k1, R1, b1⟩
      go_wp2
      go_ret
      have q1 := Int.emod_nonneg k (show m ≠ 0 by omega)
      have q2 := Int.emod_lt_of_pos k (show 0 < m by omega)
      exact ⟨k % m, p1, rfl, q1, by omega, .inl q2, R1, b1⟩
    · have hm0 : 256 < m := by omega
      clear hm hm2
      go_enter Try.func80, Try.ntmps80
      go_wp2_with fail
      refine (next_any h.out).mono ?_
      rintro e w1 ⟨k, p1, rfl, k0, k1, R1, b1⟩
      go_wp2_with fail
      refine (next_any R1).mono ?_
      rintro e w2 ⟨l, p2, rfl, l0, l1, R2, b2⟩
      go_wp2
      go_ret
      have q1 := Int.emod_nonneg (k * 256 + l) (show m ≠ 0 by omega)
      have q2 := Int.emod_lt_of_pos (k * 256 + l) (show 0 < m by omega)
      have q3 : (k * 256 + l) % m ≤ k * 256 + l := emod_le_self (by omega) (by omega)
      exact ⟨(k * 256 + l) % m, p2, rfl, q1, by omega, .inl q2, R2, b1.trans b2⟩

set_option maxHeartbeats 1000000 in
theorem once_any {r : Nat} {s : Option Addr} {n c p : Nat} {w : World} (m : Int) (hm : 0 ≤ m) (hm' : m ≤ 1000000) (h : Hid (Rd w r s n c p)) :
    Calls Try.prog 79 #[.pointer (some ⟨r, 0, none⟩), .int .i64 m] w fun e w' => ∃ b p', e = .returned (.bool b) ∧ Rd w' r s n c p' ∧ Beside r w w' := by
  go_enter Try.func79, Try.ntmps79
  go_wp2_with fail
  refine (below_any m h).mono ?_
  rintro e w1 ⟨k, p1, rfl, k0, k1, k2, R1, b1⟩
  go_wp2
  go_ret
  exact ⟨_, p1, rfl, R1, b1⟩

open Go.RowKit
set_option linter.unusedVariables false

theorem wrap64_id {n : Int} (h : -9223372036854775808 ≤ n) (h' : n ≤ 9223372036854775807) : wrap64 n = n := by unfold wrap64; omega
theorem wf_i64 {m : Int} (h : (Lit.int .i64 m).wf = true) : -9223372036854775808 ≤ m ∧ m ≤ 9223372036854775807 := by
  simp only [Lit.wf, Bool.and_eq_true, decide_eq_true_eq] at h
  exact h
theorem wf_u64 {m : Int} (h : (Lit.int .u64 m).wf = true) : 0 ≤ m ∧ m ≤ 18446744073709551615 := by
  simp only [Lit.wf, Bool.and_eq_true, decide_eq_true_eq] at h
  exact h

set_option maxHeartbeats 1000000 in
theorem word_any {r : Nat} {s : Option Addr} {n c p : Nat} {w : World} (h : Hid (Rd w r s n c p)) :
    Calls Try.prog 111 #[.pointer (some ⟨r, 0, none⟩)] w fun e w' => ∃ x : Int, ∃ p', e = .returned (.int .u64 x) ∧ (Lit.int .u64 x).wf = true ∧ Rd w' r s n c p' ∧ Beside r w w' := by
  go_enter Try.func111, Try.ntmps111
  go_wp2
  go_loopw [3, 4] (fun a b wr => ∃ (x : Int) (k : Nat) (p' : Nat), a = .int .u64 x ∧ b = .int .i64 k ∧ (Lit.int .u64 x).wf = true ∧ k ≤ 8 ∧ Hid (Rd wr r s n c p') ∧ Hid (Beside r w wr)) (fun a b _ => 8 - (intOf b).toNat)
  case atStart =>
    have b : Below w.heap.size w w := Below.refl _ _
    exact ⟨0, 0, p, rfl, rfl, by decide, by omega, h, Beside.of b⟩
  case round =>
    obtain ⟨x, k, p', rfl, rfl, hx, hk, R, B⟩ := hrel
    by_cases hk8 : k < 8
    · go_wp2_with fail
      refine (next_any R.out).mono ?_
      rintro e w1 ⟨l, p1, rfl, l0, l1, R1, b1⟩
      go_wp2
      go_roundw
      case rel =>
        exact ⟨_, k + 1, p1, rfl, by go_num, wf_bits _ _ _ _, by omega, R1, B.out.trans b1⟩
      case measure => simp [intOf]; omega
    · obtain rfl : k = 8 := by omega
      go_wp2
      go_ret
      exact ⟨x, p', rfl, hx, R.out, B.out⟩

set_option maxHeartbeats 1000000 in
theorem upto_any {r : Nat} {s : Option Addr} {n c p : Nat} {w : World} (m : Int) (hm : (Lit.int .i64 m).wf = true) (h : Hid (Rd w r s n c p)) :
    Calls Try.prog 99 #[.pointer (some ⟨r, 0, none⟩), .int .i64 m] w fun e w' => ∃ k p', e = .returned (.int .i64 k) ∧ 0 ≤ k ∧ (k < m ∨ k = 0) ∧ Rd w' r s n c p' ∧ Beside r w w' := by
  by_cases h1 : m ≤ 1
  · clear hm
    go_enter Try.func99, Try.ntmps99
    go_wp2
    go_ret
    have b : Below w.heap.size w w := Below.refl _ _
    exact ⟨0, p, rfl, by omega, .inr rfl, h.out, Beside.of b⟩
  · by_cases h2 : m ≤ 65536
    · have hm0 : 1 < m := by omega
      clear h1 hm
      go_enter Try.func99, Try.ntmps99
      go_wp2_with fail
      refine (below_any m h).mono ?_
      rintro e w1 ⟨k, p1, rfl, k0, k1, k2, R1, b1⟩
      go_wp2
      go_ret
      exact ⟨k, p1, rfl, k0, k2, R1, b1⟩
    · have hm0 : 65536 < m := by omega
      have hm1 : m < 9223372036854775808 := by
        have := wf_i64 hm
        omega
      clear h1 h2 hm
      go_enter Try.func99, Try.ntmps99
      go_wp2_with fail
      refine (word_any h).mono ?_
      rintro e w1 ⟨x, p1, rfl, hx, R1, b1⟩
      go_wp2
      go_ret
      have x0 : 0 ≤ x := (wf_u64 hx).1
      have q1 := Int.tmod_nonneg m (show 0 ≤ x / 2 by omega)
      have q2 := Int.tmod_lt_of_pos (x / 2) (show 0 < m by omega)
      exact ⟨(x / 2).tmod m, p1, ret_int (wrap64_id (by omega) (by omega)), q1, .inl q2, R1, b1⟩

set_option maxHeartbeats 1000000 in
theorem near_any {r : Nat} {s : Option Addr} {n c p : Nat} {w : World} (lo hi : Int) (h1 : -1000000000000000000 ≤ lo) (h2 : lo ≤ hi) (h3 : hi ≤ 1000000000000000000) (h : Hid (Rd w r s n c p)) :
    Calls Try.prog 100 #[.pointer (some ⟨r, 0, none⟩), .int .i64 lo, .int .i64 hi] w fun e w' => ∃ k p', e = .returned (.int .i64 k) ∧ lo ≤ k ∧ k ≤ hi ∧ Rd w' r s n c p' ∧ Beside r w w' := by
  have U : Hid (∀ w p, Rd w r s n c p → Calls Try.prog 99 #[.pointer (some ⟨r, 0, none⟩), .int .i64 (hi - lo + 1)] w fun e w' => ∃ k p', e = .returned (.int .i64 k) ∧ 0 ≤ k ∧ (k < hi - lo + 1 ∨ k = 0) ∧ Rd w' r s n c p' ∧ Beside r w w') := fun w p h =>
    upto_any _ (by simp only [Lit.wf, Bool.and_eq_true, decide_eq_true_eq]; exact ⟨show (-9223372036854775808 : Int) ≤ _ by omega, show _ ≤ (9223372036854775807 : Int) by omega⟩) h
  go_enter Try.func100, Try.ntmps100
  go_wp2_with fail
  refine (below_any 8 h).mono ?_
  rintro e w1 ⟨k, p1, rfl, k0, k1, k2, R1, b1⟩
  by_cases e0 : k = 0
  · subst e0
    go_wp2
    go_ret
    exact ⟨lo, p1, rfl, by omega, by omega, R1, b1⟩
  · by_cases e1 : k = 1
    · subst e1
      go_wp2
      go_ret
      exact ⟨hi, p1, rfl, by omega, by omega, R1, b1⟩
    · go_wp2_with fail
      refine (U.out _ _ R1).mono ?_
      rintro e w2 ⟨j, p2, rfl, j0, j1, R2, b2⟩
      go_wp2
      go_ret
      exact ⟨lo + j, p2, rfl, by omega, by omega, R2, b1.trans b2⟩

open Go.RowKit
set_option linter.unusedVariables false

theorem Beside.later {r : Nat} {w w1 w2 : World} (h : Beside r w w1) (b : Below w1.heap.size w1 w2) : Beside r w w2 := h.trans (Beside.of b)

theorem wfi {m : Int} (h : -9223372036854775808 ≤ m) (h' : m ≤ 9223372036854775807) : (Lit.int .i64 m).wf = true := by
  simp only [Lit.wf, Bool.and_eq_true, decide_eq_true_eq]
  exact ⟨h, h'⟩

theorem Beside.fresh {r : Nat} {w x : World} (h : Beside r w x) {q : Addr} (hq : w.heap.size ≤ q.block) (u : Value) : Beside r w (x.setCell q u) := by
  obtain ⟨h1, h2, h3, h4, h5⟩ := h
  exact ⟨h1, h2, h3, by simpa [World.setCell] using h4, fun k hk hn => (Below.heap_setCell _ _ _ _ (by omega)).trans (h5 k hk hn)⟩
theorem Rd.below' {w w' : World} {r : Nat} {s : Option Addr} {n c p : Nat} (h : Rd w r s n c p) (hb : Below (r + 1) w w') : Rd w' r s n c p := by
  obtain ⟨h1, h2, h3, h4, h5, h6, h7⟩ := h
  refine ⟨Nat.lt_of_lt_of_le h1 hb.size, fun o => (hb.frozen (p := ⟨r, o, none⟩) (Nat.lt_succ_self r)).trans (h2 o), (hb.cell (p := ⟨r, 0, none⟩) (Nat.lt_succ_self r)).trans h3, (hb.cell (p := ⟨r, 1, none⟩) (Nat.lt_succ_self r)).trans h4, h5, h6, fun i hi => ?_⟩
  obtain ⟨g, o, k, e, hg, hc, hk⟩ := h7 i hi
  exact ⟨g, o, k, e, hg, (hb.cell (p := ⟨g, o + i, none⟩) (Nat.lt_succ_of_lt hg)).trans hc, hk⟩

set_option maxHeartbeats 2000000 in
theorem off_any {r : Nat} {s : Option Addr} {n c p : Nat} {w : World} (lo hi : Int) (h1 : -1000000000000000000 ≤ lo) (h2 : lo ≤ hi) (h3 : hi ≤ 1000000000000000000) (h : Hid (Rd w r s n c p)) :
    Calls Try.prog 73 #[.pointer (some ⟨r, 0, none⟩), .int .i64 lo, .int .i64 hi] w fun e w' => ∃ k p', e = .returned (.int .i64 k) ∧ (Lit.int .i64 k).wf = true ∧ Rd w' r s n c p' ∧ Beside r w w' := by
  go_enter Try.func73, Try.ntmps73
  go_wp2_with fail
  refine (once_any 24 (by omega) (by omega) h).mono ?_
  rintro e w1 ⟨b, p1, rfl, R1, b1⟩
  cases b
  · go_wp2_with fail
    refine (near_any lo hi h1 h2 h3 R1).mono ?_
    rintro e w2 ⟨k, p2, rfl, k0, k1, R2, b2⟩
    go_wp2
    go_ret
    exact ⟨k, p2, rfl, wfi (by omega) (by omega), R2, b1.trans b2⟩
  · go_wp2_with fail
    refine (below_any 4 (Rd.below R1 (below0 w1 _))).mono ?_
    rintro e w2 ⟨j, p2, rfl, j0, j1, j2, R2, b2⟩
    have b3 : Beside r w w2 := (b1.later (below0 w1 _)).trans b2
    have zr : w1.heap.size ≠ r := by have := R1.1; omega
    have zs : w1.heap.size < w2.heap.size := by have := b2.2.2.2.1; simp at this; omega
    have hc : ∀ i, w2.cell? ⟨w1.heap.size, i, none⟩ = (w1.alloc (.cells #[.int .i64 (lo - 1), .int .i64 (hi + 1), .int .i64 (-9223372036854775808), .int .i64 9223372036854775807] 2)).cell? ⟨w1.heap.size, i, none⟩ := fun i => b2.cell (p := ⟨w1.heap.size, i, none⟩) (by simp) zr
    have jj : j = 0 ∨ j = 1 ∨ j = 2 ∨ j = 3 := by omega
    clear j0 j1 j2
    rcases jj with rfl | rfl | rfl | rfl
    · have hq := (hc 0).trans (show _ = some (.int .i64 (lo - 1)) by simp [go_sem])
      clear hc
      go_wp2
      go_ret
      exact ⟨(lo - 1), p2, rfl, wfi (by omega) (by omega), R2, b3⟩
    · have hq := (hc 1).trans (show _ = some (.int .i64 (hi + 1)) by simp [go_sem])
      clear hc
      go_wp2
      go_ret
      exact ⟨(hi + 1), p2, rfl, wfi (by omega) (by omega), R2, b3⟩
    · have hq := (hc 2).trans (show _ = some (.int .i64 (-9223372036854775808)) by simp [go_sem])
      clear hc
      go_wp2
      go_ret
      exact ⟨(-9223372036854775808), p2, rfl, by decide, R2, b3⟩
    · have hq := (hc 3).trans (show _ = some (.int .i64 9223372036854775807) by simp [go_sem])
      clear hc
      go_wp2
      go_ret
      exact ⟨9223372036854775807, p2, rfl, by decide, R2, b3⟩

open Go.RowKit
set_option linter.unusedVariables false
set_option linter.unusedSimpArgs false

/-- A block's first cells. -/
def Blk (w : World) (b : Nat) (cs : List Value) : Prop := b < w.heap.size ∧ (∀ o, w.frozen? ⟨b, o, none⟩ = false) ∧ ∀ i v, cs[i]? = some v → w.cell? ⟨b, i, none⟩ = some v
theorem Blk.belowB {w w' : World} {b B : Nat} {cs : List Value} (h : Blk w b cs) (hb : Below B w w') (hl : b < B) : Blk w' b cs :=
  ⟨Nat.lt_of_lt_of_le h.1 hb.size, fun o => (hb.frozen (p := ⟨b, o, none⟩) hl).trans (h.2.1 o), fun i v e => (hb.cell (p := ⟨b, i, none⟩) hl).trans (h.2.2 i v e)⟩
theorem Blk.below {w w' : World} {b : Nat} {cs : List Value} (h : Blk w b cs) (hb : Below w.heap.size w w') : Blk w' b cs := h.belowB hb h.1
theorem Blk.beside {w w' : World} {b r : Nat} {cs : List Value} (h : Blk w b cs) (hb : Beside r w w') (hr : b ≠ r) : Blk w' b cs :=
  ⟨Nat.lt_of_lt_of_le h.1 hb.2.2.2.1, fun o => (hb.frozen (p := ⟨b, o, none⟩) h.1 hr).trans (h.2.1 o), fun i v e => (hb.cell (p := ⟨b, i, none⟩) h.1 hr).trans (h.2.2 i v e)⟩
theorem Blk.new (w : World) (cs : Array Value) (t : TypeId) : Blk (w.alloc (.cells cs t)) w.heap.size cs.toList :=
  ⟨by simp, fun o => by simp [go_sem], fun i v e => by rw [Array.getElem?_toList] at e; simp [go_sem, e]⟩
theorem Blk.set {w : World} {b : Nat} {cs : List Value} (h : Blk w b cs) (i : Nat) (v : Value) : Blk (w.setCell ⟨b, i, none⟩ v) b (cs.set i v) := by
  obtain ⟨h1, h2, h3⟩ := h
  refine ⟨by simpa using h1, fun o => by simp [go_sem, h2], fun j u e => ?_⟩
  by_cases q : j = i
  · subst q
    have hj : j < cs.length := by
      rcases Nat.lt_or_ge j cs.length with z | z
      · exact z
      · rw [List.getElem?_eq_none (by simpa using z)] at e; cases e
    rw [List.getElem?_set_self hj] at e
    cases e
    have := h3 j _ (List.getElem?_eq_getElem hj)
    simp [go_sem, this]
  · rw [List.getElem?_set_ne (fun z => q z.symm)] at e
    have := h3 j u e
    simp [go_sem, this, q]
theorem Beside.onB {r : Nat} {w w1 w2 : World} (h : Beside r w w1) (b : Below w.heap.size w1 w2) : Beside r w w2 := by
  obtain ⟨h1, h2, h3, h4, h5⟩ := h
  exact ⟨b.os.trans h1, b.tape.trans h2, b.output.trans h3, Nat.le_trans h4 b.size, fun k hk hn => (b.block k hk).trans (h5 k hk hn)⟩
theorem Rd.besideR {w w' : World} {r q : Nat} {s : Option Addr} {n c p : Nat} (h : Rd w r s n c p) (hb : Beside q w w') (hq : r ≠ q) (hs : ∀ g o, s = some ⟨g, o, none⟩ → g ≠ q) : Rd w' r s n c p := by
  obtain ⟨h1, h2, h3, h4, h5, h6, h7⟩ := h
  refine ⟨Nat.lt_of_lt_of_le h1 hb.2.2.2.1, fun o => (hb.frozen (p := ⟨r, o, none⟩) h1 hq).trans (h2 o), (hb.cell (p := ⟨r, 0, none⟩) h1 hq).trans h3, (hb.cell (p := ⟨r, 1, none⟩) h1 hq).trans h4, h5, h6, fun i hi => ?_⟩
  obtain ⟨g, o, k, e, hg, hc, hk⟩ := h7 i hi
  exact ⟨g, o, k, e, hg, (hb.cell (p := ⟨g, o + i, none⟩) (Nat.lt_trans hg h1) (hs g o e)).trans hc, hk⟩
theorem picked {w w' : World} {b : Nat} {L : List Int} {j : Int} (h : Blk w b (L.map (Value.int .i64))) (h0 : 0 ≤ j) (h1 : j < L.length) : ∃ (jn : Nat) (v : Int), j = jn ∧ (jn : Int) < L.length ∧ w.cell? ⟨b, jn, none⟩ = some (.int .i64 v) ∧ v ∈ L := by
  obtain ⟨jn, rfl⟩ : ∃ jn : Nat, j = jn := ⟨j.toNat, by omega⟩
  have hl : jn < L.length := by omega
  refine ⟨jn, L[jn], rfl, h1, h.2.2 jn _ ?_, List.getElem_mem hl⟩
  rw [List.getElem?_map, List.getElem?_eq_getElem hl]
  rfl

end Go.Proofs.Ytikcfpjfcpbfcaa
