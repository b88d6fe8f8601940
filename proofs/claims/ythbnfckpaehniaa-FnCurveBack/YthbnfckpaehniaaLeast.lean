/-
What is proved: along a steep curve there is a least place that reaches a height, and a place reaches it just when it is not below that one.
-/
import Derived.Test.YthbnfckpaehniaaSteepC
import Derived.Test.YthbnfckpaehniaaAlongA
namespace Go.Proofs.Ythbnfckpaehniaa
set_option maxRecDepth 40000
open Go.RowKit

/-- Whether the place z reaches the height y. -/
def HV (n : Nat) (V : Nat → Int) (y z : Int) : Prop := ∃ v, AV n V z v true ∧ y ≤ v
theorem av_in {n : Nat} {V : Nat → Int} {z : Int} (hC : curveB n V = true) (h0 : V 0 ≤ z) (h1 : z ≤ V ((n - 1) * 2)) : ∃ v, AV n V z v true := by
  obtain ⟨v, ok, h⟩ := av_exists n V z
  rcases h with ⟨q, _, _⟩ | ⟨_, ⟨q, _, _⟩ | ⟨j, a, b, c, e, f⟩⟩
  · rw [hC] at q; cases q
  · omega
  · exact ⟨v, .inr ⟨hC, .inr ⟨j, a, b, c, e, rfl⟩⟩⟩
theorem av_seg {n : Nat} {V : Nat → Int} {z v : Int} (h : AV n V z v true) : ∃ j, j + 1 < n ∧ V (j * 2) ≤ z ∧ z ≤ V ((j + 1) * 2) ∧ v = segV V z j := by
  rcases h with ⟨_, _, q⟩ | ⟨_, ⟨_, _, q⟩ | ⟨j, a, b, c, e, f⟩⟩
  · cases q
  · cases q
  · exact ⟨j, a, b, c, e⟩
theorem hv_mono {n : Nat} {V : Nat → Int} {y z z' : Int} (hC : curveB n V = true) (hs : steepTo V n = true) (h0 : V 0 ≤ z) (hz : z ≤ z') (h1 : z' ≤ V ((n - 1) * 2)) (h : HV n V y z) : HV n V y z' := by
  obtain ⟨v, a, b⟩ := h
  obtain ⟨v', a'⟩ := av_in hC (by omega) h1
  obtain ⟨i, i1, i2, i3, rfl⟩ := av_seg a
  obtain ⟨j, j1, j2, j3, rfl⟩ := av_seg a'
  have := along_mono (curve_ok hC).2.2 hs i1 j1 i2 i3 j2 j3 hz
  exact ⟨_, a', by omega⟩
/-- The least place. -/
def LS (n : Nat) (V : Nat → Int) (y L : Int) : Prop := V 0 ≤ L ∧ L ≤ V ((n - 1) * 2) ∧ HV n V y L ∧ ∀ z, V 0 ≤ z → z < L → ¬ HV n V y z
theorem LS.iff {n : Nat} {V : Nat → Int} {y L z : Int} (h : LS n V y L) (hC : curveB n V = true) (hs : steepTo V n = true) (h0 : V 0 ≤ z) (h1 : z ≤ V ((n - 1) * 2)) : HV n V y z ↔ L ≤ z := by
  refine ⟨fun q => ?_, fun q => hv_mono hC hs h.1 q h1 h.2.2.1⟩
  rcases Int.lt_or_le z L with c | c
  · exact absurd q (h.2.2.2 z h0 c)
  · exact c
theorem LS.one {n : Nat} {V : Nat → Int} {y L M : Int} (h : LS n V y L) (k : LS n V y M) (hC : curveB n V = true) (hs : steepTo V n = true) : L = M := by
  have a := (h.iff hC hs k.1 k.2.1).1 k.2.2.1
  have b := (k.iff hC hs h.1 h.2.1).1 h.2.2.1
  omega
theorem least_up {n : Nat} {V : Nat → Int} {y : Int} (he : HV n V y (V ((n - 1) * 2))) : ∀ (m : Nat) (l : Int), l = V ((n - 1) * 2) - m → V 0 ≤ l → (∀ z, V 0 ≤ z → z < l → ¬ HV n V y z) → ∃ L, LS n V y L
  | 0, l, e, h0, hl => ⟨l, h0, by omega, by rw [e]; simpa using he, hl⟩
  | m + 1, l, e, h0, hl => by
    by_cases q : HV n V y l
    · exact ⟨l, h0, by omega, q, hl⟩
    · refine least_up he m (l + 1) (by omega) (by omega) fun z z0 z1 => ?_
      by_cases r : z = l
      · rw [r]; exact q
      · exact hl z z0 (by omega)
theorem least_exists {n : Nat} {V : Nat → Int} {y : Int} (hC : curveB n V = true) (hy : y ≤ V ((n - 1) * 2 + 1)) : ∃ L, LS n V y L := by
  obtain ⟨c1, c2, c3⟩ := curve_ok hC
  have le := ok_le c3 (Nat.zero_le (n - 1)) (by omega)
  simp only [Nat.zero_mul] at le
  refine least_up ?_ (V ((n - 1) * 2) - V 0).toNat (V 0) (by omega) (Int.le_refl _) fun z z0 z1 => by omega
  obtain ⟨m, rfl⟩ : ∃ m, n = m + 2 := ⟨n - 2, by omega⟩
  have e : m + 2 - 1 = m + 1 := by omega
  rw [e] at *
  have r := ok_rise c3 (i := m) (by omega)
  exact ⟨V ((m + 1) * 2 + 1), .inr ⟨hC, .inr ⟨m, by omega, by omega, Int.le_refl _, (seg_right r).symm, rfl⟩⟩, hy⟩
/-- What Back tells. -/
def BV (n : Nat) (V : Nat → Int) (y x : Int) (ok : Bool) : Prop :=
  (¬ (curveB n V = true ∧ steepTo V n = true ∧ V 1 ≤ y ∧ y ≤ V ((n - 1) * 2 + 1)) ∧ x = 0 ∧ ok = false) ∨ ((curveB n V = true ∧ steepTo V n = true ∧ V 1 ≤ y ∧ y ≤ V ((n - 1) * 2 + 1)) ∧ LS n V y x ∧ ok = true)
theorem BV.one {n : Nat} {V : Nat → Int} {y x x' : Int} {ok ok' : Bool} (h : BV n V y x ok) (k : BV n V y x' ok') : x = x' ∧ ok = ok' := by
  rcases h with ⟨h1, rfl, rfl⟩ | ⟨h1, h2, rfl⟩ <;> rcases k with ⟨k1, rfl, rfl⟩ | ⟨k1, k2, rfl⟩
  · exact ⟨rfl, rfl⟩
  · exact absurd k1 h1
  · exact absurd h1 k1
  · exact ⟨h2.one k2 h1.1 h1.2.1, rfl⟩
end Go.Proofs.Ythbnfckpaehniaa
