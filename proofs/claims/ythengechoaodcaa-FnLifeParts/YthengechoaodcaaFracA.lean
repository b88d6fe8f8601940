/-
What is proved: the algebra of fractions: a sum less one of its parts is the other one, told in the same way.
-/
import Derived.Test.YthengechoaodcaaSumA
namespace Go.Proofs.Ythengechoaodcaa
set_option maxRecDepth 40000

theorem mk_of (x y h : Int) (h1 : 1 ≤ h) (hr : rightB x y = true) : mkOk (x * h) (y * h) = true ∧ mkNum (x * h) (y * h) = x ∧ mkDen (x * h) (y * h) = y := by
  unfold rightB at hr
  rw [decide_eq_true_iff] at hr
  obtain ⟨y1, y2, x1, x2, hg⟩ := hr
  have e : Nat.gcd (x * h).natAbs (y * h).natAbs = h.natAbs := by rw [Int.natAbs_mul, Int.natAbs_mul, Nat.gcd_mul_right, hg, Nat.one_mul]
  have hp : 0 < h.natAbs := by omega
  have ex : (x * h).natAbs / h.natAbs = x.natAbs := by rw [Int.natAbs_mul, Nat.mul_div_cancel _ hp]
  have ey : (y * h).natAbs / h.natAbs = y.natAbs := by rw [Int.natAbs_mul, Nat.mul_div_cancel _ hp]
  have yp : 0 < y * h := Int.mul_pos (by omega) (by omega)
  have ok : mkOk (x * h) (y * h) = true := by
    unfold mkOk
    rw [decide_eq_true_iff, e, ex, ey]
    refine ⟨by omega, by omega, by omega⟩
  have nd : decide (y * h < 0) = false := by rw [decide_eq_false_iff_not]; omega
  refine ⟨ok, ?_, ?_⟩
  · unfold mkNum
    rw [if_pos ok, e, ex, nd]
    by_cases q : x < 0
    · have : x * h < 0 := Int.mul_neg_of_neg_of_pos q (by omega)
      rw [decide_eq_true this, if_pos (by decide)]; omega
    · have : ¬ x * h < 0 := by have := Int.mul_nonneg (a := x) (b := h) (by omega) (by omega); omega
      rw [decide_eq_false this, if_neg (by decide)]; omega
  · unfold mkDen
    rw [if_pos ok, e, ey]; omega
theorem mk_split (n m : Int) (hm : 1 ≤ m) (ok : mkOk n m = true) : ∃ g, 1 ≤ g ∧ n = mkNum n m * g ∧ m = mkDen n m * g ∧ rightB (mkNum n m) (mkDen n m) = true := by
  have ok' := ok
  unfold mkOk at ok'
  rw [decide_eq_true_iff] at ok'
  obtain ⟨_, hb, hc⟩ := ok'
  have gp : 0 < Nat.gcd n.natAbs m.natAbs := Nat.gcd_pos_of_pos_right _ (by omega)
  have ha : n.natAbs / Nat.gcd n.natAbs m.natAbs * Nat.gcd n.natAbs m.natAbs = n.natAbs := Nat.div_mul_cancel (Nat.gcd_dvd_left _ _)
  have hd : m.natAbs / Nat.gcd n.natAbs m.natAbs * Nat.gcd n.natAbs m.natAbs = m.natAbs := Nat.div_mul_cancel (Nat.gcd_dvd_right _ _)
  have hq : Nat.gcd (n.natAbs / Nat.gcd n.natAbs m.natAbs) (m.natAbs / Nat.gcd n.natAbs m.natAbs) = 1 := by
    have := Nat.gcd_div (k := Nat.gcd n.natAbs m.natAbs) (Nat.gcd_dvd_left n.natAbs m.natAbs) (Nat.gcd_dvd_right n.natAbs m.natAbs)
    rw [this, Nat.div_self gp]
  have nd : decide (m < 0) = false := by rw [decide_eq_false_iff_not]; omega
  have eN : (mkNum n m).natAbs = n.natAbs / Nat.gcd n.natAbs m.natAbs ∧ n = mkNum n m * (Nat.gcd n.natAbs m.natAbs : Nat) := by
    unfold mkNum
    rw [if_pos ok, nd]
    generalize Nat.gcd n.natAbs m.natAbs = G at *
    generalize n.natAbs / G = A at *
    have ha' : (A : Int) * (G : Int) = (n.natAbs : Int) := by rw [← ha]; push_cast; rfl
    by_cases q : n < 0
    · rw [decide_eq_true q, if_pos (by decide)]
      refine ⟨by omega, ?_⟩
      rw [Int.neg_mul, ha']; omega
    · rw [decide_eq_false q, if_neg (by decide)]
      refine ⟨by omega, ?_⟩
      rw [ha']; omega
  have eD : mkDen n m = ((m.natAbs / Nat.gcd n.natAbs m.natAbs : Nat) : Int) := by unfold mkDen; rw [if_pos ok]
  have dp : 0 < m.natAbs / Nat.gcd n.natAbs m.natAbs := by
    rcases Nat.eq_zero_or_pos (m.natAbs / Nat.gcd n.natAbs m.natAbs) with z | z
    · rw [z] at hd; omega
    · exact z
  refine ⟨(Nat.gcd n.natAbs m.natAbs : Nat), by omega, eN.2, ?_, ?_⟩
  · rw [eD]
    have : ((m.natAbs / Nat.gcd n.natAbs m.natAbs : Nat) : Int) * ((Nat.gcd n.natAbs m.natAbs : Nat) : Int) = (m.natAbs : Int) := by rw [← Int.natCast_mul, hd]
    rw [this]; omega
  · unfold rightB
    rw [decide_eq_true_iff, eN.1, eD, Int.natAbs_natCast]
    refine ⟨by omega, by omega, ?_, ?_, hq⟩
    · have := eN.1; omega
    · have := eN.1; omega
theorem back_frac (a b c d : Int) (h1 : rightB a b = true) (h2 : rightB c d = true) (ok : mkOk (a * d + c * b) (b * d) = true) :
    rightB (mkNum (a * d + c * b) (b * d)) (mkDen (a * d + c * b) (b * d)) = true ∧ rightB (-c) d = true ∧
    mkOk (mkNum (a * d + c * b) (b * d) * d + -c * mkDen (a * d + c * b) (b * d)) (mkDen (a * d + c * b) (b * d) * d) = true ∧
    mkNum (mkNum (a * d + c * b) (b * d) * d + -c * mkDen (a * d + c * b) (b * d)) (mkDen (a * d + c * b) (b * d) * d) = a ∧
    mkDen (mkNum (a * d + c * b) (b * d) * d + -c * mkDen (a * d + c * b) (b * d)) (mkDen (a * d + c * b) (b * d) * d) = b := by
  have h1' := h1
  have h2' := h2
  unfold rightB at h1' h2'
  rw [decide_eq_true_iff] at h1' h2'
  obtain ⟨b1, b2, a1, a2, hg⟩ := h1'
  obtain ⟨d1, d2, c1, c2, hg2⟩ := h2'
  have mp : 1 ≤ b * d := by have := Int.mul_pos (a := b) (b := d) (by omega) (by omega); omega
  obtain ⟨g, gp, eN, eD, hR⟩ := mk_split _ _ mp ok
  generalize mkNum (a * d + c * b) (b * d) = N at *
  generalize mkDen (a * d + c * b) (b * d) = D at *
  have hr2 : rightB (-c) d = true := by
    unfold rightB
    rw [decide_eq_true_iff, Int.natAbs_neg]
    exact ⟨d1, d2, by omega, by omega, hg2⟩
  have Dp : 1 ≤ D := by unfold rightB at hR; rw [decide_eq_true_iff] at hR; exact hR.1
  have k1 : (N * d + -c * D) * b = a * (D * d) := by
    have hgz : g ≠ 0 := by omega
    apply Int.eq_of_mul_eq_mul_right hgz
    have e1 : (N * d + -c * D) * b * g = (N * g) * d * b - c * (D * g) * b := by
      rw [Int.add_mul, Int.add_mul, Int.neg_mul, Int.neg_mul, Int.neg_mul, Int.sub_eq_add_neg]
      congr 1
      · ac_rfl
      · congr 1; ac_rfl
    have e2 : a * (D * d) * g = a * (D * g) * d := by ac_rfl
    rw [e1, e2, ← eN, ← eD, Int.add_mul, Int.add_mul]
    have : a * d * d * b = a * (b * d) * d := by ac_rfl
    have h2 : c * b * d * b = c * (b * d) * b := by ac_rfl
    omega
  have hdv : b ∣ D * d := by
    rw [← Int.natAbs_dvd_natAbs]
    have h3 : b.natAbs ∣ a.natAbs * (D * d).natAbs := by
      rw [← Int.natAbs_mul, ← k1, Int.natAbs_mul]; exact Nat.dvd_mul_left _ _
    have cop : Nat.Coprime b.natAbs a.natAbs := by unfold Nat.Coprime; rw [Nat.gcd_comm]; exact hg
    exact cop.dvd_of_dvd_mul_left h3
  obtain ⟨h, hh⟩ := hdv
  have M1 : 1 ≤ D * d := by have := Int.mul_pos (a := D) (b := d) (by omega) (by omega); omega
  have hp : 1 ≤ h := by
    rcases Int.lt_or_le 0 h with z | z
    · omega
    · exfalso
      have := Int.mul_nonpos_of_nonneg_of_nonpos (a := b) (b := h) (by omega) z
      omega
  have k2 : N * d + -c * D = a * h := by
    have hbz : b ≠ 0 := by omega
    apply Int.eq_of_mul_eq_mul_right hbz
    rw [k1, hh]; ac_rfl
  refine ⟨hR, hr2, ?_⟩
  rw [k2, hh]
  exact mk_of a b h hp h1
end Go.Proofs.Ythengechoaodcaa
