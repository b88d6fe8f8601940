/-
What is proved: what a reader of a code draws, told by its bytes: the same bytes at the same place give the same.
-/
import Derived.Test.YtdidgbibbkhnhaaNrA
import Derived.Test.YtdidgbibbkhnhaaRdC
namespace Go.Proofs.Ytdidgbibbkhnhaa
set_option maxRecDepth 40000
open Go.ChangeShapes Go.WideShapes Go.ChangeAt Go.RowKit
set_option linter.unusedVariables false
set_option linter.unusedSimpArgs false

/-- A reader whose bytes are D. -/
def RdD (w : World) (r : Nat) (s : Option Addr) (n c : Nat) (p : Nat) (D : Nat → Int) : Prop :=
  r < w.heap.size ∧ (∀ o, w.frozen? ⟨r, o, none⟩ = false) ∧ w.cell? ⟨r, 0, none⟩ = some (.slice s n c) ∧ w.cell? ⟨r, 1, none⟩ = some (.int .i64 p) ∧ p ≤ n ∧ n ≤ 1048576 ∧
    ∀ i, i < n → ∃ g o, s = some ⟨g, o, none⟩ ∧ g < r ∧ w.cell? ⟨g, o + i, none⟩ = some (.int .u8 (D i)) ∧ 0 ≤ D i ∧ D i < 256
theorem RdD.plain {w : World} {r : Nat} {s : Option Addr} {n c p : Nat} {D : Nat → Int} (h : RdD w r s n c p D) : Rd w r s n c p := by
  obtain ⟨h1, h2, h3, h4, h5, h6, h7⟩ := h
  exact ⟨h1, h2, h3, h4, h5, h6, fun i hi => by obtain ⟨g, o, e, r⟩ := h7 i hi; exact ⟨g, o, D i, e, r⟩⟩
theorem RdD.below' {w w' : World} {r : Nat} {s : Option Addr} {n c p : Nat} {D : Nat → Int} (h : RdD w r s n c p D) (hb : Below (r + 1) w w') : RdD w' r s n c p D := by
  obtain ⟨h1, h2, h3, h4, h5, h6, h7⟩ := h
  refine ⟨Nat.lt_of_lt_of_le h1 hb.size, fun o => (hb.frozen (p := ⟨r, o, none⟩) (Nat.lt_succ_self r)).trans (h2 o), (hb.cell (p := ⟨r, 0, none⟩) (Nat.lt_succ_self r)).trans h3, (hb.cell (p := ⟨r, 1, none⟩) (Nat.lt_succ_self r)).trans h4, h5, h6, fun i hi => ?_⟩
  obtain ⟨g, o, e, hg, hc, hk⟩ := h7 i hi
  exact ⟨g, o, e, hg, (hb.cell (p := ⟨g, o + i, none⟩) (Nat.lt_succ_of_lt hg)).trans hc, hk⟩
theorem RdD.below {w w' : World} {r : Nat} {s : Option Addr} {n c p : Nat} {D : Nat → Int} (h : RdD w r s n c p D) (hb : Below w.heap.size w w') : RdD w' r s n c p D := h.below' (hb.mono h.1)
def nyK (D : Nat → Int) (n p : Nat) : Int := if p < n then D p else 0
def nyP (n p : Nat) : Nat := if p < n then p + 1 else p
theorem next_d {r : Nat} {s : Option Addr} {n c p : Nat} {D : Nat → Int} {w : World} (h : RdD w r s n c p D) :
    Calls Try.prog 37 #[.pointer (some ⟨r, 0, none⟩)] w fun e w' => ∃ k p', e = .returned (.int .i64 k) ∧ 0 ≤ k ∧ k < 256 ∧ (nyK D n p = k ∧ nyP n p = p') ∧ RdD w' r s n c p' D ∧ Beside r w w' := by
  obtain ⟨h1, h2, h3, h4, h5, h6, h7⟩ := h
  rcases Nat.lt_or_ge p n with hp | hp
  · obtain ⟨g, o, rfl, hg, hc, hk0, hk⟩ := h7 p hp
    refine (next_on r n c g o p (D p) w h1 hg h2 h3 h4 (by omega) (by omega) (by omega) hc hk0 hk).mono ?_
    rintro e w' ⟨rfl, d1, d2, rfl⟩
    have b1 : Below w.heap.size w (w.drewN d1) := bDrewN (Below.refl _ _) _
    have b2 : Beside r (w.drewN d1) ((w.drewN d1).setCell ⟨r, 1, none⟩ (.int .i64 (p + 1))) := Beside.setCell _ _ _ _
    have bb : Beside r w (((w.drewN d1).setCell ⟨r, 1, none⟩ (.int .i64 (p + 1))).drewN d2) := ((Beside.of b1).trans b2).trans (Beside.of (bDrewN (Below.refl _ _) _))
    have z : r < (((w.drewN d1).setCell ⟨r, 1, none⟩ (.int .i64 (p + 1))).drewN d2).heap.size := Nat.lt_of_lt_of_le h1 bb.2.2.2.1
    refine ⟨D p, p + 1, rfl, hk0, hk, ⟨by unfold nyK; rw [if_pos hp], by unfold nyP; rw [if_pos hp]⟩, ⟨z, fun o => ?_, ?_, ?_, by omega, h6, fun i hi => ?_⟩, bb⟩
    · simp [go_sem, h2]
    · simp [go_sem, h3]
    · simp [go_sem, h4]
    · obtain ⟨g', o', e', hg', hc', hk'⟩ := h7 i hi
      exact ⟨g', o', e', hg', (bb.cell (p := ⟨g', o' + i, none⟩) (Nat.lt_trans hg' h1) (Nat.ne_of_lt hg')).trans hc', hk'⟩
  · obtain rfl : p = n := by omega
    refine (next_end r p c s w h1 h3 h4).mono ?_
    rintro e w' ⟨rfl, hb⟩
    exact ⟨0, p, rfl, by omega, by omega, ⟨by unfold nyK; rw [if_neg (by omega)], by unfold nyP; rw [if_neg (by omega)]⟩, RdD.below ⟨h1, h2, h3, h4, h5, h6, h7⟩ hb, Beside.of hb⟩
def beK (D : Nat → Int) (n : Nat) (m : Int) (p : Nat) : Int := if m ≤ 1 then 0 else if m ≤ 256 then nyK D n p % m else (nyK D n p * 256 + nyK D n (nyP n p)) % m
def beP (n : Nat) (m : Int) (p : Nat) : Nat := if m ≤ 1 then p else if m ≤ 256 then nyP n p else nyP n (nyP n p)
set_option maxHeartbeats 1000000 in
theorem below_d (m : Int) {r : Nat} {s : Option Addr} {n c p : Nat} {D : Nat → Int} {w : World} (h : Hid (RdD w r s n c p D)) :
    Calls Try.prog 21 #[.pointer (some ⟨r, 0, none⟩), .int .i64 m] w fun e w' => ∃ k p', e = .returned (.int .i64 k) ∧ 0 ≤ k ∧ k < 65536 ∧ (k < m ∨ k = 0) ∧ (beK D n m p = k ∧ beP n m p = p') ∧ RdD w' r s n c p' D ∧ Beside r w w' := by
  by_cases hm : m ≤ 1
  · have e1 : beK D n m p = 0 ∧ beP n m p = p := by unfold beK beP; rw [if_pos hm, if_pos hm]; exact ⟨rfl, rfl⟩
    go_enter Try.func21, Try.ntmps21
    go_wp2
    go_ret
    have b : Below w.heap.size w w := Below.refl _ _
    exact ⟨0, p, rfl, by omega, by omega, .inr rfl, e1, h.out, Beside.of b⟩
  · by_cases hm2 : m ≤ 256
    · have e1 : beK D n m p = nyK D n p % m ∧ beP n m p = nyP n p := by unfold beK beP; rw [if_neg hm, if_neg hm, if_pos hm2, if_pos hm2]; exact ⟨rfl, rfl⟩
      have hm0 : 1 < m := by omega
      clear hm
      go_enter Try.func21, Try.ntmps21
      go_wp2_with fail
      refine (next_d h.out).mono ?_
      rintro e w1 ⟨k, p1, rfl, k0, k1, ek, R1, b1⟩
      rw [ek.1, ek.2] at e1
      clear ek
      have H1 : Hid (beK D n m p = k % m ∧ beP n m p = p1) := e1
      clear e1
      go_wp2
      go_ret
      have q1 := Int.emod_nonneg k (show m ≠ 0 by omega)
      have q2 := Int.emod_lt_of_pos k (show 0 < m by omega)
      exact ⟨k % m, p1, rfl, q1, by omega, .inl q2, H1.out, R1, b1⟩
    · have e1 : beK D n m p = (nyK D n p * 256 + nyK D n (nyP n p)) % m ∧ beP n m p = nyP n (nyP n p) := by unfold beK beP; rw [if_neg hm, if_neg hm, if_neg hm2, if_neg hm2]; exact ⟨rfl, rfl⟩
      have hm0 : 256 < m := by omega
      clear hm hm2
      go_enter Try.func21, Try.ntmps21
      go_wp2_with fail
      refine (next_d h.out).mono ?_
      rintro e w1 ⟨k, p1, rfl, k0, k1, ek, R1, b1⟩
      rw [ek.1, ek.2] at e1
      clear ek
      have H1 : Hid (beK D n m p = (k * 256 + nyK D n p1) % m ∧ beP n m p = nyP n p1) := e1
      clear e1
      go_wp2_with fail
      refine (next_d R1).mono ?_
      rintro e w2 ⟨l, p2, rfl, l0, l1, el, R2, b2⟩
      have e1 := H1.out
      rw [el.1, el.2] at e1
      clear el H1
      have H1 : Hid (beK D n m p = (k * 256 + l) % m ∧ beP n m p = p2) := e1
      clear e1
      go_wp2
      go_ret
      have q1 := Int.emod_nonneg (k * 256 + l) (show m ≠ 0 by omega)
      have q2 := Int.emod_lt_of_pos (k * 256 + l) (show 0 < m by omega)
      have q3 : (k * 256 + l) % m ≤ k * 256 + l := emod_le_self (by omega) (by omega)
      exact ⟨(k * 256 + l) % m, p2, rfl, q1, by omega, .inl q2, H1.out, R2, b1.trans b2⟩
def onB (D : Nat → Int) (n : Nat) (m : Int) (p : Nat) : Bool := beK D n m p == m - 1
set_option maxHeartbeats 1000000 in
theorem once_d (m : Int) (hm : 0 ≤ m) (hm' : m ≤ 1000000) {r : Nat} {s : Option Addr} {n c p : Nat} {D : Nat → Int} {w : World} (h : Hid (RdD w r s n c p D)) :
    Calls Try.prog 41 #[.pointer (some ⟨r, 0, none⟩), .int .i64 m] w fun e w' => ∃ b p', e = .returned (.bool b) ∧ (onB D n m p = b ∧ beP n m p = p') ∧ RdD w' r s n c p' D ∧ Beside r w w' := by
  go_enter Try.func41, Try.ntmps41
  go_wp2_with fail
  refine (below_d m h).mono ?_
  rintro e w1 ⟨k, p1, rfl, k0, k1, k2, ek, R1, b1⟩
  have H1 : Hid (onB D n m p = (k == m - 1) ∧ beP n m p = p1) := by show _ ∧ _; unfold onB; rw [ek.1]; exact ⟨rfl, ek.2⟩
  clear ek
  go_wp2
  go_ret
  exact ⟨_, p1, rfl, H1.out, R1, b1⟩
def upK (D : Nat → Int) (n : Nat) (m : Int) (p : Nat) : Int := if m ≤ 1 then 0 else beK D n m p
def upP (n : Nat) (m : Int) (p : Nat) : Nat := if m ≤ 1 then p else beP n m p
set_option maxHeartbeats 1000000 in
theorem upto_d (m : Int) (hm : m ≤ 65536) {r : Nat} {s : Option Addr} {n c p : Nat} {D : Nat → Int} {w : World} (h : Hid (RdD w r s n c p D)) :
    Calls Try.prog 42 #[.pointer (some ⟨r, 0, none⟩), .int .i64 m] w fun e w' => ∃ k p', e = .returned (.int .i64 k) ∧ 0 ≤ k ∧ (k < m ∨ k = 0) ∧ (upK D n m p = k ∧ upP n m p = p') ∧ RdD w' r s n c p' D ∧ Beside r w w' := by
  by_cases hm1 : m ≤ 1
  · have e1 : upK D n m p = 0 ∧ upP n m p = p := by unfold upK upP; rw [if_pos hm1, if_pos hm1]; exact ⟨rfl, rfl⟩
    go_enter Try.func42, Try.ntmps42
    go_wp2
    go_ret
    exact ⟨0, p, rfl, by omega, .inr rfl, e1, h.out, Beside.of (Below.refl _ _)⟩
  · have e1 : upK D n m p = beK D n m p ∧ upP n m p = beP n m p := by unfold upK upP; rw [if_neg hm1, if_neg hm1]; exact ⟨rfl, rfl⟩
    have hm0 : 1 < m := by omega
    clear hm1
    go_enter Try.func42, Try.ntmps42
    go_wp2_with fail
    refine (below_d m h).mono ?_
    rintro e w1 ⟨k, p1, rfl, k0, k1, k2, ek, R1, b1⟩
    rw [ek.1, ek.2] at e1
    have H1 : Hid (upK D n m p = k ∧ upP n m p = p1) := e1
    clear ek e1
    go_wp2
    go_ret
    exact ⟨k, p1, rfl, k0, k2, H1.out, R1, b1⟩
def neK (D : Nat → Int) (n : Nat) (lo hi : Int) (p : Nat) : Int := if beK D n 8 p = 0 then lo else if beK D n 8 p = 1 then hi else lo + upK D n (hi - lo + 1) (beP n 8 p)
def neP (D : Nat → Int) (n : Nat) (lo hi : Int) (p : Nat) : Nat := if beK D n 8 p = 0 then beP n 8 p else if beK D n 8 p = 1 then beP n 8 p else upP n (hi - lo + 1) (beP n 8 p)
set_option maxHeartbeats 1000000 in
theorem near_d (lo hi : Int) (h1 : -10000 ≤ lo) (h2 : lo ≤ hi) (h3 : hi ≤ 10000) {r : Nat} {s : Option Addr} {n c p : Nat} {D : Nat → Int} {w : World} (h : Hid (RdD w r s n c p D)) :
    Calls Try.prog 23 #[.pointer (some ⟨r, 0, none⟩), .int .i64 lo, .int .i64 hi] w fun e w' => ∃ k p', e = .returned (.int .i64 k) ∧ lo ≤ k ∧ k ≤ hi ∧ (neK D n lo hi p = k ∧ neP D n lo hi p = p') ∧ RdD w' r s n c p' D ∧ Beside r w w' := by
  obtain ⟨d, hd⟩ : ∃ d, hi - lo + 1 = d := ⟨_, rfl⟩
  have HU : Hid (∀ w p, RdD w r s n c p D → Calls Try.prog 42 #[.pointer (some ⟨r, 0, none⟩), .int .i64 (hi - lo + 1)] w fun e w' => ∃ k p', e = .returned (.int .i64 k) ∧ 0 ≤ k ∧ (k < hi - lo + 1 ∨ k = 0) ∧ (upK D n (hi - lo + 1) p = k ∧ upP n (hi - lo + 1) p = p') ∧ RdD w' r s n c p' D ∧ Beside r w w') := fun w p h => upto_d (hi - lo + 1) (by omega) h
  clear hd
  go_enter Try.func23, Try.ntmps23
  go_wp2_with fail
  refine (below_d 8 h).mono ?_
  rintro e w1 ⟨k, p1, rfl, k0, k1, k2, ek, R1, b1⟩
  have HN : Hid (neK D n lo hi p = (if k = 0 then lo else if k = 1 then hi else lo + upK D n (hi - lo + 1) p1) ∧ neP D n lo hi p = (if k = 0 then p1 else if k = 1 then p1 else upP n (hi - lo + 1) p1)) := by
    show _ ∧ _
    unfold neK neP
    rw [ek.1, ek.2]
    exact ⟨rfl, rfl⟩
  clear ek
  by_cases e0 : k = 0
  · subst e0
    go_wp2
    go_ret
    exact ⟨lo, p1, rfl, by omega, by omega, HN.out, R1, b1⟩
  · by_cases e1 : k = 1
    · subst e1
      go_wp2
      go_ret
      exact ⟨hi, p1, rfl, by omega, by omega, HN.out, R1, b1⟩
    · have hn := HN.out
      rw [if_neg e0, if_neg e0, if_neg e1, if_neg e1] at hn
      have HN2 : Hid (neK D n lo hi p = lo + upK D n (hi - lo + 1) p1 ∧ neP D n lo hi p = upP n (hi - lo + 1) p1) := hn
      clear hn HN
      go_wp2_with fail
      refine (HU.out _ _ R1).mono ?_
      rintro e w2 ⟨j, p2, rfl, j0, j1, ej, R2, b2⟩
      have hn := HN2.out
      rw [ej.1, ej.2] at hn
      have HN3 : Hid (neK D n lo hi p = lo + j ∧ neP D n lo hi p = p2) := hn
      clear hn HN2 ej
      go_wp2
      go_ret
      exact ⟨lo + j, p2, rfl, by omega, by omega, HN3.out, R2, b1.trans b2⟩
end Go.Proofs.Ytdidgbibbkhnhaa
