/-
What is proved: what a reader of a code leaves when it reads one byte: a number below 256, the reader one place on or at its end, nothing else turned.
-/
import Derived.Test.YtkocbklkiehdiaaBeside
namespace Go.Proofs.Ytkocbklkiehdiaa
set_option maxRecDepth 40000
open Go.RowKit
set_option linter.unusedVariables false

/-- A READER of n bytes in block r, at the place p; its bytes lie in elder blocks. -/
def Rd (w : World) (r : Nat) (s : Option Addr) (n c : Nat) (p : Nat) : Prop :=
  r < w.heap.size ∧ (∀ o, w.frozen? ⟨r, o, none⟩ = false) ∧ w.cell? ⟨r, 0, none⟩ = some (.slice s n c) ∧ w.cell? ⟨r, 1, none⟩ = some (.int .i64 p) ∧ p ≤ n ∧ n ≤ 1048576 ∧
    ∀ i, i < n → ∃ g o k, s = some ⟨g, o, none⟩ ∧ g < r ∧ w.cell? ⟨g, o + i, none⟩ = some (.int .u8 k) ∧ 0 ≤ k ∧ k < 256
theorem Rd.below {w w' : World} {r : Nat} {s : Option Addr} {n c p : Nat} (h : Rd w r s n c p) (hb : Below w.heap.size w w') : Rd w' r s n c p := by
  obtain ⟨h1, h2, h3, h4, h5, h6, h7⟩ := h
  refine ⟨Nat.lt_of_lt_of_le h1 hb.size, fun o => (hb.frozen (p := ⟨r, o, none⟩) h1).trans (h2 o), (hb.cell (p := ⟨r, 0, none⟩) h1).trans h3, (hb.cell (p := ⟨r, 1, none⟩) h1).trans h4, h5, h6, fun i hi => ?_⟩
  obtain ⟨g, o, k, e, hg, hc, hk⟩ := h7 i hi
  exact ⟨g, o, k, e, hg, (hb.cell (p := ⟨g, o + i, none⟩) (Nat.lt_trans hg h1)).trans hc, hk⟩

set_option maxRecDepth 20000 in
set_option maxHeartbeats 1000000 in
theorem next_end (r n c : Nat) (s : Option Addr) (w : World) (h1 : r < w.heap.size) (h3 : w.cell? ⟨r, 0, none⟩ = some (.slice s n c)) (h4 : w.cell? ⟨r, 1, none⟩ = some (.int .i64 n)) :
    Calls Try.prog 67 #[.pointer (some ⟨r, 0, none⟩)] w fun e w' => e = .returned (.int .i64 0) ∧ Below w.heap.size w w' := by
  go_enter Try.func67, Try.ntmps67
  go_wp2
  go_quiet (fail)
  go_wp2
  go_ret
  exact ⟨rfl, (by repeat (first | with_reducible exact Below.refl _ _ | with_reducible refine Below.setCell ?_ (by first | omega | (simp; done) | (simp; omega)) _ | with_reducible refine bDrewN ?_ _ | with_reducible refine Below.drew ?_ | with_reducible refine Below.alloc ?_ (by first | omega | (simp; done) | (simp; omega)) _))⟩

set_option maxRecDepth 20000 in
set_option maxHeartbeats 1000000 in
theorem next_on (r n c g o p : Nat) (k : Int) (w : World) (h1 : r < w.heap.size) (hg : g < r) (hf : ∀ o, w.frozen? ⟨r, o, none⟩ = false) (h3 : w.cell? ⟨r, 0, none⟩ = some (.slice (some ⟨g, o, none⟩) n c)) (h4 : w.cell? ⟨r, 1, none⟩ = some (.int .i64 p))
    (hp0 : (0 : Int) ≤ (p : Int)) (hp : (p : Int) < (n : Int)) (hn : (n : Int) ≤ 1048576) (hc : w.cell? ⟨g, o + p, none⟩ = some (.int .u8 k)) (hk0 : 0 ≤ k) (hk : k < 256) :
    Calls Try.prog 67 #[.pointer (some ⟨r, 0, none⟩)] w fun e w' => e = .returned (.int .i64 k) ∧ ∃ d1 d2, w' = ((w.drewN d1).setCell ⟨r, 1, none⟩ (.int .i64 (p + 1))).drewN d2 := by
  go_enter Try.func67, Try.ntmps67
  go_wp2
  go_quiet (fail)
  go_wp2
  go_quiet (fail)
  go_wp2
  go_ret
  exact ⟨rfl, _, _, rfl⟩

/-- ONE BYTE READ: a number below 256; the reader stands as a reader, nothing else has turned. -/
theorem next_any {r : Nat} {s : Option Addr} {n c p : Nat} {w : World} (h : Rd w r s n c p) :
    Calls Try.prog 67 #[.pointer (some ⟨r, 0, none⟩)] w fun e w' => ∃ k p', e = .returned (.int .i64 k) ∧ 0 ≤ k ∧ k < 256 ∧ Rd w' r s n c p' ∧ Beside r w w' := by
  obtain ⟨h1, h2, h3, h4, h5, h6, h7⟩ := h
  rcases Nat.lt_or_ge p n with hp | hp
  · obtain ⟨g, o, k, rfl, hg, hc, hk0, hk⟩ := h7 p hp
    refine (next_on r n c g o p k w h1 hg h2 h3 h4 (by omega) (by omega) (by omega) hc hk0 hk).mono ?_
    rintro e w' ⟨rfl, d1, d2, rfl⟩
    have b1 : Below w.heap.size w (w.drewN d1) := bDrewN (Below.refl _ _) _
    have b2 : Beside r (w.drewN d1) ((w.drewN d1).setCell ⟨r, 1, none⟩ (.int .i64 (p + 1))) := Beside.setCell _ _ _ _
    have bb : Beside r w (((w.drewN d1).setCell ⟨r, 1, none⟩ (.int .i64 (p + 1))).drewN d2) := ((Beside.of b1).trans b2).trans (Beside.of (bDrewN (Below.refl _ _) _))
    have z : r < (((w.drewN d1).setCell ⟨r, 1, none⟩ (.int .i64 (p + 1))).drewN d2).heap.size := Nat.lt_of_lt_of_le h1 bb.2.2.2.1
    refine ⟨k, p + 1, rfl, hk0, hk, ⟨z, fun o => ?_, ?_, ?_, by omega, h6, fun i hi => ?_⟩, bb⟩
    · simp [go_sem, h2]
    · simp [go_sem, h3]
    · simp [go_sem, h4]
    · obtain ⟨g', o', k', e', hg', hc', hk'⟩ := h7 i hi
      exact ⟨g', o', k', e', hg', (bb.cell (p := ⟨g', o' + i, none⟩) (Nat.lt_trans hg' h1) (Nat.ne_of_lt hg')).trans hc', hk'⟩
  · obtain rfl : p = n := by omega
    refine (next_end r p c s w h1 h3 h4).mono ?_
    rintro e w' ⟨rfl, hb⟩
    exact ⟨0, p, rfl, by omega, by omega, Rd.below ⟨h1, h2, h3, h4, h5, h6, h7⟩ hb, Beside.of hb⟩

theorem emod_le_self {x m : Int} (hx : 0 ≤ x) (hm : 0 ≤ m) : x % m ≤ x := by
  have d := Int.mul_ediv_add_emod x m
  have e := Int.mul_nonneg hm (Int.ediv_nonneg hx hm)
  generalize m * (x / m) = q at d e
  omega

set_option maxHeartbeats 1000000 in
theorem below_any {r : Nat} {s : Option Addr} {n c p : Nat} {w : World} (m : Int) (h : Hid (Rd w r s n c p)) :
    Calls Try.prog 41 #[.pointer (some ⟨r, 0, none⟩), .int .i64 m] w fun e w' => ∃ k p', e = .returned (.int .i64 k) ∧ 0 ≤ k ∧ k < 65536 ∧ (k < m ∨ k = 0) ∧ Rd w' r s n c p' ∧ Beside r w w' := by
  by_cases hm : m ≤ 1
  · go_enter Try.func41, Try.ntmps41
    go_wp2
    go_ret
    have b : Below w.heap.size w w := Below.refl _ _
    exact ⟨0, p, rfl, by omega, by omega, .inr rfl, h.out, Beside.of b⟩
  · by_cases hm2 : m ≤ 256
    · have hm0 : 1 < m := by omega
      clear hm
      go_enter Try.func41, Try.ntmps41
      go_wp2_with fail
      refine (next_any h.out).mono ?_
      rintro e w1 ⟨k, p1, rfl, k0, k1, R1, b1⟩
      go_wp2
      go_ret
      have q1 := Int.emod_nonneg k (show m ≠ 0 by omega)
      have q2 := Int.emod_lt_of_pos k (show 0 < m by omega)
      exact ⟨k % m, p1, rfl, q1, by omega, .inl q2, R1, b1⟩
    · have hm0 : 256 < m := by omega
      clear hm hm2
      go_enter Try.func41, Try.ntmps41
      go_wp2_with fail
      refine (next_any h.out).mono ?_
      rintro e w1 ⟨k, p1, rfl, k0, k1, R1, b1⟩
      go_wp2_with fail
      refine (next_any R1).mono ?_
      rintro e w2 ⟨l, p2, rfl, l0, l1, R2, b2⟩
      go_wp2
      go_ret
      have q1 := Int.emod_nonneg (k * 256 + l) (show m ≠ 0 by omega)
      have q2 := Int.emod_lt_of_pos (k * 256 + l) (show 0 < m by omega)
      have q3 : (k * 256 + l) % m ≤ k * 256 + l := emod_le_self (by omega) (by omega)
      exact ⟨(k * 256 + l) % m, p2, rfl, q1, by omega, .inl q2, R2, b1.trans b2⟩

set_option maxHeartbeats 1000000 in
theorem once_any {r : Nat} {s : Option Addr} {n c p : Nat} {w : World} (m : Int) (hm : 0 ≤ m) (hm' : m ≤ 1000000) (h : Hid (Rd w r s n c p)) :
    Calls Try.prog 40 #[.pointer (some ⟨r, 0, none⟩), .int .i64 m] w fun e w' => ∃ b p', e = .returned (.bool b) ∧ Rd w' r s n c p' ∧ Beside r w w' := by
  go_enter Try.func40, Try.ntmps40
  go_wp2_with fail
  refine (below_any m h).mono ?_
  rintro e w1 ⟨k, p1, rfl, k0, k1, k2, R1, b1⟩
  go_wp2
  go_ret
  exact ⟨_, p1, rfl, R1, b1⟩
end Go.Proofs.Ytkocbklkiehdiaa
