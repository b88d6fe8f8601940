/-
What is proved: what a reader draws, its place never falling; of what lies between two numbers: it is one of these, or two bytes were read.
-/
import Derived.Test.YtdidgbibbkhnhaaRdXe
namespace Go.Proofs.Ytdidgbibbkhnhaa
set_option maxRecDepth 40000
open Go.ChangeShapes Go.WideShapes Go.ChangeAt Go.RowKit
set_option linter.unusedVariables false
set_option linter.unusedSimpArgs false

theorem Rd.bytes {w : World} {r : Nat} {s : Option Addr} {n c p : Nat} (h : Rd w r s n c p) : ∃ D, RdD w r s n c p D := by
  obtain ⟨h1, h2, h3, h4, h5, h6, h7⟩ := h
  have : ∀ i, ∃ k : Int, i < n → ∃ g o, s = some ⟨g, o, none⟩ ∧ g < r ∧ w.cell? ⟨g, o + i, none⟩ = some (.int .u8 k) ∧ 0 ≤ k ∧ k < 256 := fun i => by
    by_cases hi : i < n
    · obtain ⟨g, o, k, q⟩ := h7 i hi
      exact ⟨k, fun _ => ⟨g, o, q⟩⟩
    · exact ⟨0, fun q => absurd q hi⟩
  exact ⟨fun i => Classical.choose (this i), h1, h2, h3, h4, h5, h6, fun i hi => Classical.choose_spec (this i) hi⟩
theorem nyP_le (n p : Nat) : p ≤ nyP n p := by unfold nyP; split <;> omega
theorem beP_le (n : Nat) (m : Int) (p : Nat) : p ≤ beP n m p := by
  unfold beP
  have h1 := nyP_le n p
  have h2 := nyP_le n (nyP n p)
  split
  · omega
  · split <;> omega
theorem below_m (m : Int) {r : Nat} {s : Option Addr} {n c p : Nat} {w : World} (h : Hid (Rd w r s n c p)) :
    Calls Try.prog 21 #[.pointer (some ⟨r, 0, none⟩), .int .i64 m] w fun e w' => ∃ k p', e = .returned (.int .i64 k) ∧ 0 ≤ k ∧ k < 65536 ∧ (k < m ∨ k = 0) ∧ p ≤ p' ∧ Rd w' r s n c p' ∧ Beside r w w' := by
  obtain ⟨D, hD⟩ := h.out.bytes
  refine (below_d m (D := D) hD).mono ?_
  rintro e w' ⟨k, p', h1, h2, h3, h4, ⟨_, h5⟩, h6, h7⟩
  exact ⟨k, p', h1, h2, h3, h4, by rw [← h5]; exact beP_le n m p, h6.plain, h7⟩
theorem near_m (lo hi : Int) (h1 : -10000 ≤ lo) (h2 : lo ≤ hi) (h3 : hi ≤ 200 + lo) (h4 : hi ≤ 10000) {r : Nat} {s : Option Addr} {n c p : Nat} {w : World} (h : Hid (Rd w r s n c p)) :
    Calls Try.prog 23 #[.pointer (some ⟨r, 0, none⟩), .int .i64 lo, .int .i64 hi] w fun e w' => ∃ k p', e = .returned (.int .i64 k) ∧ lo ≤ k ∧ k ≤ hi ∧ p ≤ p' ∧ (k = lo ∨ k = hi ∨ p + 2 ≤ p') ∧ Rd w' r s n c p' ∧ Beside r w w' := by
  obtain ⟨D, hD⟩ := h.out.bytes
  refine (near_d lo hi h1 h2 h4 (D := D) hD).mono ?_
  rintro e w' ⟨k, p', e1, e2, e3, ⟨ek, ep⟩, h6, h7⟩
  refine ⟨k, p', e1, e2, e3, ?_, ?_, h6.plain, h7⟩
  · rw [← ep]
    unfold neP
    have q1 := beP_le n 8 p
    have q2 := beP_le n (hi - lo + 1) (beP n 8 p)
    split
    · exact q1
    · split
      · exact q1
      · unfold upP
        split <;> omega
  · unfold neK at ek
    unfold neP at ep
    by_cases a0 : beK D n 8 p = 0
    · rw [if_pos a0] at ek; exact .inl ek.symm
    · by_cases a1 : beK D n 8 p = 1
      · rw [if_neg a0, if_pos a1] at ek; exact .inr (.inl ek.symm)
      · rw [if_neg a0, if_neg a1] at ek ep
        have hb : beK D n 8 p = nyK D n p % 8 ∧ beP n 8 p = nyP n p := by unfold beK beP; exact ⟨by rw [if_neg (by omega), if_pos (by omega)], by rw [if_neg (by omega), if_pos (by omega)]⟩
        have hpn : p < n := by
          apply Classical.byContradiction
          intro q
          apply a0
          rw [hb.1]
          unfold nyK
          rw [if_neg q]
          rfl
        have hp1 : beP n 8 p = p + 1 := by rw [hb.2]; unfold nyP; rw [if_pos hpn]
        rw [hp1] at ek ep
        by_cases hm : hi - lo + 1 ≤ 1
        · unfold upK at ek
          rw [if_pos hm] at ek
          exact .inl (by omega)
        · unfold upK at ek
          unfold upP at ep
          rw [if_neg hm] at ek ep
          unfold beK at ek
          unfold beP at ep
          rw [if_neg hm, if_pos (by omega)] at ek ep
          by_cases hq : p + 1 < n
          · unfold nyP at ep
            rw [if_pos hq] at ep
            exact .inr (.inr (by omega))
          · unfold nyK at ek
            rw [if_neg hq] at ek
            rw [Int.zero_emod] at ek
            exact .inl (by omega)
end Go.Proofs.Ytdidgbibbkhnhaa
