/-
What is proved: the lives of two lists of swings behind one another are the sum of their lives.
-/
import Derived.Test.YthengechoaodcaaLife
import Derived.Test.YthengechoaodcaaFracA
namespace Go.Proofs.Ythengechoaodcaa
set_option maxRecDepth 40000
open Go.ChangeShapes Go.WideShapes Go.ChangeAt Go.RowKit
set_option linter.unusedVariables false
set_option linter.unusedSimpArgs false

theorem op_right {a b c d n m : Int} (h : opOk a b c d n m = true) : rightB a b = true ∧ rightB c d = true ∧ mkOk n m = true := by
  unfold opOk at h
  split at h
  · rename_i q; exact ⟨q.1, q.2, h⟩
  · cases h
theorem right_one {a b : Int} (h : rightB a b = true) : 1 ≤ b := (right_bounds h).1
theorem mul_pos1 {a b : Int} (ha : 1 ≤ a) (hb : 1 ≤ b) : 1 ≤ a * b := by
  have := Int.mul_pos (show 0 < a by omega) (show 0 < b by omega)
  omega
theorem life_right {n2 : Nat} {V2 V : Nat → Int} : ∀ {k : Nat} {a b : Int}, LifeTo n2 V2 V k a b → rightB a b = true ∧ 0 ≤ a
  | 0, _, _, ⟨rfl, rfl⟩ => by decide
  | k + 1, _, _, ⟨p, q, x, y, h1, h2, h3, rfl, rfl⟩ => by
    obtain ⟨r1, r2, ok⟩ := op_right h3
    obtain ⟨e1, e2, _⟩ := op_yes (n := p * y + x * q) (m := q * y) r1 r2
    rw [e1, e2]
    obtain ⟨i1, i2⟩ := life_right h1
    have y1 := right_one r2
    have q1 := right_one r1
    obtain ⟨g, g1, gn, gm, gr⟩ := mk_split (p * y + x * q) (q * y) (mul_pos1 q1 y1) ok
    refine ⟨gr, ?_⟩
    have x0 : 0 ≤ x := by
      rcases h2 with ⟨v, hv, v1, hh1, hh2, rfl, rfl, _⟩ | ⟨_, _, _, h⟩
      · obtain ⟨g', g1', gn', _, _⟩ := mk_split (V (k * 2 + 1)) (2 * v) (by omega) (mk_part hh1 hh2 v1 (AV.small hv).2)
        rcases Int.lt_or_le (mkNum (V (k * 2 + 1)) (2 * v)) 0 with z | z
        · have := Int.mul_neg_of_neg_of_pos z (show 0 < g' by omega)
          omega
        · exact z
      · cases h
    have n0 : 0 ≤ p * y + x * q := Int.add_nonneg (Int.mul_nonneg i2 (by omega)) (Int.mul_nonneg x0 (by omega))
    rcases Int.lt_or_le (mkNum (p * y + x * q) (q * y)) 0 with z | z
    · have := Int.mul_neg_of_neg_of_pos z (show 0 < g by omega)
      omega
    · exact z
theorem LifeTo.congr {n2 : Nat} {V2 V U : Nat → Int} : ∀ {k : Nat} {a b : Int}, LifeTo n2 V2 V k a b → (∀ j, j < k * 2 → V j = U j) → LifeTo n2 V2 U k a b
  | 0, _, _, h, _ => h
  | k + 1, _, _, ⟨p, q, x, y, h1, h2, h3, h4, h5⟩, e => ⟨p, q, x, y, h1.congr (fun j hj => e j (by omega)), by rw [← e (k * 2) (by omega), ← e (k * 2 + 1) (by omega)]; exact h2, h3, h4, h5⟩
theorem cancel2 {u v g h : Int} (hg : 1 ≤ g) (hh : 1 ≤ h) (e : u * (g * h) = v * (g * h)) : u = v := by
  have : g * h ≠ 0 := by have := mul_pos1 hg hh; omega
  exact Int.eq_of_mul_eq_mul_right this e
theorem life_cat {n2 m : Nat} {V2 A B V : Nat → Int} (hV1 : ∀ j, j < m * 2 → V j = A j) (hV2 : ∀ j, V (m * 2 + j) = B j) {a b : Int} (hA : LifeTo n2 V2 A m a b) : ∀ (j : Nat) (c d e f : Int), LifeTo n2 V2 B j c d → LifeTo n2 V2 V (m + j) e f → e * (b * d) = (a * d + c * b) * f
  | 0, c, d, e, f, ⟨hc, hd⟩, hE => by
    subst hc hd
    obtain ⟨rfl, rfl⟩ := LifeTo.one (hE.congr hV1) hA
    grind
  | j + 1, c, d, e, f, ⟨c0, d0, x, y, h1, h2, h3, h4, h5⟩, ⟨e0, f0, x', y', k1, k2, k3, k4, k5⟩ => by
    have q1 : V ((m + j) * 2) = B (j * 2) := by rw [show (m + j) * 2 = m * 2 + j * 2 by omega]; exact hV2 _
    have q2 : V ((m + j) * 2 + 1) = B (j * 2 + 1) := by rw [show (m + j) * 2 + 1 = m * 2 + (j * 2 + 1) by omega]; exact hV2 _
    have k2 : PartV n2 V2 (V ((m + j) * 2)) (V ((m + j) * 2 + 1)) x' y' true := k2
    rw [q1, q2] at k2
    obtain ⟨ex, ey, _⟩ := k2.one h2
    rw [ex, ey] at k3 k4 k5
    have ih := life_cat hV1 hV2 hA j c0 d0 e0 f0 h1 k1
    obtain ⟨r1, r2, ok⟩ := op_right h3
    obtain ⟨s1, _, ok2⟩ := op_right k3
    obtain ⟨z1, z2, _⟩ := op_yes (n := c0 * y + x * d0) (m := d0 * y) r1 r2
    obtain ⟨z3, z4, _⟩ := op_yes (n := e0 * y + x * f0) (m := f0 * y) s1 r2
    rw [z1] at h4
    rw [z2] at h5
    rw [z3] at k4
    rw [z4] at k5
    have y1 := right_one r2
    obtain ⟨h, g1, gn, gm, _⟩ := mk_split (c0 * y + x * d0) (d0 * y) (mul_pos1 (right_one r1) y1) ok
    obtain ⟨g, l1, ln, lm, _⟩ := mk_split (e0 * y + x * f0) (f0 * y) (mul_pos1 (right_one s1) y1) ok2
    rw [← h4] at gn
    rw [← h5] at gm
    rw [← k4] at ln
    rw [← k5] at lm
    refine cancel2 l1 g1 ?_
    clear h4 h5 k4 k5 z1 z2 z3 z4 ok ok2 h1 h2 h3 k1 k2 k3 r1 r2 s1 q1 q2 hA hV1 hV2 y1 l1 g1 ex ey
    grind
theorem frac_of {e f N M : Int} (hr : rightB e f = true) (hM : 1 ≤ M) (h : e * M = N * f) : ∃ k, 1 ≤ k ∧ N = e * k ∧ M = f * k := by
  unfold rightB at hr
  have hr2 := of_decide_eq_true hr
  have f1 : 1 ≤ f := hr2.1
  have hc : Nat.Coprime f.natAbs e.natAbs := by rw [Nat.coprime_comm]; exact hr2.2.2.2.2
  have hd : f.natAbs ∣ M.natAbs := by
    refine Nat.Coprime.dvd_of_dvd_mul_left hc ?_
    have : e.natAbs * M.natAbs = N.natAbs * f.natAbs := by rw [← Int.natAbs_mul, ← Int.natAbs_mul, h]
    rw [this]
    exact Nat.dvd_mul_left _ _
  obtain ⟨k, hk⟩ := hd
  have hM2 : M = f * (k : Int) := by
    have e1 : (M.natAbs : Int) = M := by omega
    have e2 : (f.natAbs : Int) = f := by omega
    rw [← e1, hk, Int.natCast_mul, e2]
  refine ⟨k, ?_, ?_, hM2⟩
  · rcases Nat.eq_zero_or_pos k with z | z
    · subst z; simp at hM2; omega
    · omega
  · have : N * f = e * (k : Int) * f := by rw [← h, hM2]; grind
    exact Int.eq_of_mul_eq_mul_right (by omega) this
/-- Where all three are told, the sum is told, and it is the third. -/
theorem life_parts {n2 m1 m2 : Nat} {V2 A B V : Nat → Int} (hV1 : ∀ j, j < m1 * 2 → V j = A j) (hV2 : ∀ j, V (m1 * 2 + j) = B j) {a b c d e f : Int} (hA : LifeTo n2 V2 A m1 a b) (hB : LifeTo n2 V2 B m2 c d) (hE : LifeTo n2 V2 V (m1 + m2) e f) : opOk a b c d (a * d + c * b) (b * d) = true ∧ opNum a b c d (a * d + c * b) (b * d) = e ∧ opDen a b c d (a * d + c * b) (b * d) = f := by
  have r1 := (life_right hA).1
  have r2 := (life_right hB).1
  have r3 := (life_right hE).1
  obtain ⟨z1, z2, z3⟩ := op_yes (n := a * d + c * b) (m := b * d) r1 r2
  rw [z1, z2, z3]
  obtain ⟨k, k1, kn, km⟩ := frac_of (N := a * d + c * b) (M := b * d) r3 (mul_pos1 (right_one r1) (right_one r2)) (life_cat hV1 hV2 hA m2 c d e f hB hE)
  rw [kn, km]
  exact mk_of e f k k1 r3
end Go.Proofs.Ythengechoaodcaa
