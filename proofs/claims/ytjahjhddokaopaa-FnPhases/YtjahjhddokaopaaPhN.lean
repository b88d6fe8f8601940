/-
What is proved: three pairs with parts of at most 300 come back from their sequences within a ten millionth.
-/
import Derived.Test.YtjahjhddokaopaaSzA
import Derived.Test.YtjahjhddokaopaaSeqK
namespace Go.Proofs.Ytjahjhddokaopaa
set_option maxRecDepth 40000
open Go.ChangeShapes Go.WideShapes Go.ChangeAt Go.RowKit
set_option linter.unusedVariables false
set_option linter.unusedSimpArgs false

theorem mul_bnd {x y X Y : Rat} (hx1 : -X ≤ x) (hx2 : x ≤ X) (hy1 : -Y ≤ y) (hy2 : y ≤ Y) : -(X * Y) ≤ x * y ∧ x * y ≤ X * Y := by
  have a1 : 0 ≤ (X - x) * (Y + y) := Rat.mul_nonneg (by grind) (by grind)
  have a2 : 0 ≤ (X + x) * (Y - y) := Rat.mul_nonneg (by grind) (by grind)
  have a3 : 0 ≤ (X - x) * (Y - y) := Rat.mul_nonneg (by grind) (by grind)
  have a4 : 0 ≤ (X + x) * (Y + y) := Rat.mul_nonneg (by grind) (by grind)
  constructor <;> grind
def Ap (e s r : Rat) : Prop := s - e ≤ r ∧ r ≤ s + e
def Bd (K : Rat) (x : Nat) : Prop := Fin x ∧ -K ≤ rv x ∧ rv x ≤ K
theorem mulRe_num {t t' b b' : Nat} (ht : Bd 1 t) (ht' : Bd 1 t') (hb : Bd 1000 b) (hb' : Bd 1000 b') : ∃ r, mulRe (some t) (some t') (some b) (some b') = some r ∧ Fin r ∧ Ap (1 / 10000000000) (rv t * rv b - rv t' * rv b') (rv r) := by
  obtain ⟨f1, a1, a2⟩ := ht
  obtain ⟨f2, b1, b2⟩ := ht'
  obtain ⟨f3, c1, c2⟩ := hb
  obtain ⟨f4, d1, d2⟩ := hb'
  obtain ⟨m1, m2⟩ := mul_bnd a1 a2 c1 c2
  obtain ⟨n1, n2⟩ := mul_bnd b1 b2 d1 d2
  obtain ⟨p, rp, fp, p1, p2⟩ := rmul f1 f3 1000 (by decide) (by grind) (by grind)
  obtain ⟨q, rq, fq, q1, q2⟩ := rmul f2 f4 1000 (by decide) (by grind) (by grind)
  obtain ⟨r, rr, fr, r1, r2⟩ := rsub fp fq 3000 (by decide) (by grind) (by grind)
  refine ⟨r, ?_, fr, by grind, by grind⟩
  show opO .sub (fRun .mul t b) (fRun .mul t' b') = some r
  rw [rp, rq]
  exact rr
theorem mulIm_num {t t' b b' : Nat} (ht : Bd 1 t) (ht' : Bd 1 t') (hb : Bd 1000 b) (hb' : Bd 1000 b') : ∃ r, mulIm (some t) (some t') (some b) (some b') = some r ∧ Fin r ∧ Ap (1 / 10000000000) (rv t * rv b' + rv t' * rv b) (rv r) := by
  obtain ⟨f1, a1, a2⟩ := ht
  obtain ⟨f2, b1, b2⟩ := ht'
  obtain ⟨f3, c1, c2⟩ := hb
  obtain ⟨f4, d1, d2⟩ := hb'
  obtain ⟨m1, m2⟩ := mul_bnd a1 a2 d1 d2
  obtain ⟨n1, n2⟩ := mul_bnd b1 b2 c1 c2
  obtain ⟨p, rp, fp, p1, p2⟩ := rmul f1 f4 1000 (by decide) (by grind) (by grind)
  obtain ⟨q, rq, fq, q1, q2⟩ := rmul f2 f3 1000 (by decide) (by grind) (by grind)
  obtain ⟨r, rr, fr, r1, r2⟩ := radd fp fq 3000 (by decide) (by grind) (by grind)
  refine ⟨r, ?_, fr, by grind, by grind⟩
  show opO .add (fRun .mul t b') (fRun .mul t' b) = some r
  rw [rp, rq]
  exact rr
theorem sum_three {x y z : Nat} (hx : Bd 3000 x) (hy : Bd 3000 y) (hz : Bd 3000 z) : ∃ r, opO .add (opO .add (some x) (some y)) (some z) = some r ∧ Fin r ∧ Ap (1 / 10000000000) (rv x + rv y + rv z) (rv r) := by
  obtain ⟨f1, a1, a2⟩ := hx
  obtain ⟨f2, b1, b2⟩ := hy
  obtain ⟨f3, c1, c2⟩ := hz
  obtain ⟨p, rp, fp, p1, p2⟩ := radd f1 f2 6000 (by decide) (by grind) (by grind)
  obtain ⟨r, rr, fr, r1, r2⟩ := radd fp f3 10000 (by decide) (by grind) (by grind)
  refine ⟨r, ?_, fr, by grind, by grind⟩
  show opO .add (fRun .add x y) (some z) = some r
  rw [rp]
  exact rr
theorem lit_three : Fin 4613937818241073152 ∧ rv 4613937818241073152 = 3 := by
  refine ⟨⟨by decide, by decide⟩, ?_⟩
  have h := rv_lit (x := 4613937818241073152) (m := 6755399441055744) (k := 51) (by decide) (by decide) (by decide)
  have e : ((2 ^ 51 : Nat) : Rat) = 2251799813685248 := by decide
  rw [e] at h
  have e2 : ((6755399441055744 : Nat) : Rat) = 6755399441055744 := by push_cast; rfl
  rw [e2] at h
  grind
theorem third_num {x : Nat} (hx : Bd 9000 x) : ∃ r, thirdO (some x) = some r ∧ Fin r ∧ Ap (1 / 10000000000) (rv x / 3) (rv r) := by
  obtain ⟨f1, a1, a2⟩ := hx
  have l := lit_three
  obtain ⟨r, rr, fr, r1, r2⟩ := rquo f1 l.1 (by rw [l.2]; grind) 3000 (by decide) (by rw [l.2]; grind) (by rw [l.2]; grind)
  rw [l.2] at r1 r2
  exact ⟨r, rr, fr, by grind, by grind⟩
theorem sumRe_num {a t t' b b' u u' c c' : Nat} (ha : Bd 1000 a) (ht : Bd 1 t) (ht' : Bd 1 t') (hb : Bd 1000 b) (hb' : Bd 1000 b') (hu : Bd 1 u) (hu' : Bd 1 u') (hc : Bd 1000 c) (hc' : Bd 1000 c') : ∃ r, sumRe (some a) (some t) (some t') (some b) (some b') (some u) (some u') (some c) (some c') = some r ∧ Fin r ∧ Ap (1 / 1000000000) (rv a + (rv t * rv b - rv t' * rv b') + (rv u * rv c - rv u' * rv c')) (rv r) := by
  obtain ⟨p, rp, fp, p1, p2⟩ := mulRe_num ht ht' hb hb'
  obtain ⟨q, rq, fq, q1, q2⟩ := mulRe_num hu hu' hc hc'
  obtain ⟨m1, m2⟩ := mul_bnd ht.2.1 ht.2.2 hb.2.1 hb.2.2
  obtain ⟨m3, m4⟩ := mul_bnd ht'.2.1 ht'.2.2 hb'.2.1 hb'.2.2
  obtain ⟨n1, n2⟩ := mul_bnd hu.2.1 hu.2.2 hc.2.1 hc.2.2
  obtain ⟨n3, n4⟩ := mul_bnd hu'.2.1 hu'.2.2 hc'.2.1 hc'.2.2
  obtain ⟨r, rr, fr, r1, r2⟩ := sum_three (x := a) (y := p) (z := q) ⟨ha.1, by have := ha.2; grind, by have := ha.2; grind⟩ ⟨fp, by grind, by grind⟩ ⟨fq, by grind, by grind⟩
  refine ⟨r, ?_, fr, by grind, by grind⟩
  unfold sumRe
  rw [rp, rq]
  exact rr
theorem sumIm_num {a t t' b b' u u' c c' : Nat} (ha : Bd 1000 a) (ht : Bd 1 t) (ht' : Bd 1 t') (hb : Bd 1000 b) (hb' : Bd 1000 b') (hu : Bd 1 u) (hu' : Bd 1 u') (hc : Bd 1000 c) (hc' : Bd 1000 c') : ∃ r, sumIm (some a) (some t) (some t') (some b) (some b') (some u) (some u') (some c) (some c') = some r ∧ Fin r ∧ Ap (1 / 1000000000) (rv a + (rv t * rv b' + rv t' * rv b) + (rv u * rv c' + rv u' * rv c)) (rv r) := by
  obtain ⟨p, rp, fp, p1, p2⟩ := mulIm_num ht ht' hb hb'
  obtain ⟨q, rq, fq, q1, q2⟩ := mulIm_num hu hu' hc hc'
  obtain ⟨m1, m2⟩ := mul_bnd ht.2.1 ht.2.2 hb'.2.1 hb'.2.2
  obtain ⟨m3, m4⟩ := mul_bnd ht'.2.1 ht'.2.2 hb.2.1 hb.2.2
  obtain ⟨n1, n2⟩ := mul_bnd hu.2.1 hu.2.2 hc'.2.1 hc'.2.2
  obtain ⟨n3, n4⟩ := mul_bnd hu'.2.1 hu'.2.2 hc.2.1 hc.2.2
  obtain ⟨r, rr, fr, r1, r2⟩ := sum_three (x := a) (y := p) (z := q) ⟨ha.1, by have := ha.2; grind, by have := ha.2; grind⟩ ⟨fp, by grind, by grind⟩ ⟨fq, by grind, by grind⟩
  refine ⟨r, ?_, fr, by grind, by grind⟩
  unfold sumIm
  rw [rp, rq]
  exact rr
def HALF : Nat := 13826050856027422720
def SP : Nat := 4605975682916830378
def SN : Nat := 13829347719771606186
theorem half_rv : Bd 1 HALF ∧ rv HALF = -(1 / 2) := by
  have hs : sg HALF = true := by decide
  have h0 := rv_rg hs
  have h := rv_lit (x := rg HALF) (m := 4503599627370496) (k := 53) (by decide) (by decide) (by decide)
  have e : ((2 ^ 53 : Nat) : Rat) = 9007199254740992 := by decide
  have e2 : ((4503599627370496 : Nat) : Rat) = 4503599627370496 := by push_cast; rfl
  rw [e, e2, h0] at h
  have h1 : rv HALF = -(1 / 2) := by grind
  exact ⟨⟨⟨by decide, by decide⟩, by grind, by grind⟩, h1⟩
theorem sp_rv : Bd 1 SP ∧ Bd 1 SN ∧ rv SN = -rv SP ∧ -(1 / 1000000000000000) ≤ rv SP * rv SP - 3 / 4 ∧ rv SP * rv SP - 3 / 4 ≤ 1 / 1000000000000000 := by
  have h := rv_lit (x := SP) (m := 7800463371553962) (k := 53) (by decide) (by decide) (by decide)
  have e : ((2 ^ 53 : Nat) : Rat) = 9007199254740992 := by decide
  have e2 : ((7800463371553962 : Nat) : Rat) = 7800463371553962 := by push_cast; rfl
  rw [e, e2] at h
  have h1 : rv SP = 7800463371553962 / 9007199254740992 := by grind
  have hs : sg SN = true := by decide
  have h0 := rv_rg hs
  have e3 : rg SN = SP := by decide
  rw [e3] at h0
  have h2 : rv SN = -rv SP := by grind
  refine ⟨⟨⟨by decide, by decide⟩, by rw [h1]; grind, by rw [h1]; grind⟩, ⟨⟨by decide, by decide⟩, by rw [h2, h1]; grind, by rw [h2, h1]; grind⟩, h2, ?_, ?_⟩ <;> (rw [h1]; grind)
theorem bd3 {x : Nat} (h : In3 x) : Bd 1000 x := ⟨h.1, by have := h.2; grind, by have := h.2; grind⟩
/-- One part of a sequence. -/
theorem seq_part {a1 b1 b2 c1 c2 : Nat} {t u : Nat} (ha : In3 a1) (hb1 : In3 b1) (hb2 : In3 b2) (hc1 : In3 c1) (hc2 : In3 c2) (ht : Bd 1 t) (hu : Bd 1 u) : ∃ r, thirdO (sumRe (some a1) (some HALF) (some t) (some b1) (some b2) (some HALF) (some u) (some c1) (some c2)) = some r ∧ Bd 1000 r ∧ Ap (2 / 1000000000) ((rv a1 + (-(1 / 2) * rv b1 - rv t * rv b2) + (-(1 / 2) * rv c1 - rv u * rv c2)) / 3) (rv r) := by
  obtain ⟨p, rp, fp, p1, p2⟩ := sumRe_num (bd3 ha) half_rv.1 ht (bd3 hb1) (bd3 hb2) half_rv.1 hu (bd3 hc1) (bd3 hc2)
  rw [half_rv.2] at p1 p2
  obtain ⟨m1, m2⟩ := mul_bnd ht.2.1 ht.2.2 hb2.2.1 hb2.2.2
  obtain ⟨m3, m4⟩ := mul_bnd hu.2.1 hu.2.2 hc2.2.1 hc2.2.2
  have k1 := ha.2
  have k2 := hb1.2
  have k3 := hc1.2
  obtain ⟨r, rr, fr, r1, r2⟩ := third_num (x := p) ⟨fp, by grind, by grind⟩
  refine ⟨r, by rw [rp]; exact rr, ⟨fr, by grind, by grind⟩, by grind, by grind⟩
theorem seq_partI {a1 b1 b2 c1 c2 : Nat} {t u : Nat} (ha : In3 a1) (hb1 : In3 b1) (hb2 : In3 b2) (hc1 : In3 c1) (hc2 : In3 c2) (ht : Bd 1 t) (hu : Bd 1 u) : ∃ r, thirdO (sumIm (some a1) (some HALF) (some t) (some b1) (some b2) (some HALF) (some u) (some c1) (some c2)) = some r ∧ Bd 1000 r ∧ Ap (2 / 1000000000) ((rv a1 + (-(1 / 2) * rv b2 + rv t * rv b1) + (-(1 / 2) * rv c2 + rv u * rv c1)) / 3) (rv r) := by
  obtain ⟨p, rp, fp, p1, p2⟩ := sumIm_num (bd3 ha) half_rv.1 ht (bd3 hb1) (bd3 hb2) half_rv.1 hu (bd3 hc1) (bd3 hc2)
  rw [half_rv.2] at p1 p2
  obtain ⟨m1, m2⟩ := mul_bnd ht.2.1 ht.2.2 hb1.2.1 hb1.2.2
  obtain ⟨m3, m4⟩ := mul_bnd hu.2.1 hu.2.2 hc1.2.1 hc1.2.2
  have k1 := ha.2
  have k2 := hb2.2
  have k3 := hc2.2
  obtain ⟨r, rr, fr, r1, r2⟩ := third_num (x := p) ⟨fp, by grind, by grind⟩
  refine ⟨r, by rw [rp]; exact rr, ⟨fr, by grind, by grind⟩, by grind, by grind⟩
theorem seq_zero {a b c : Nat} (ha : In3 a) (hb : In3 b) (hc : In3 c) : ∃ r, thirdO (opO .add (opO .add (some a) (some b)) (some c)) = some r ∧ Bd 1000 r ∧ Ap (2 / 1000000000) ((rv a + rv b + rv c) / 3) (rv r) := by
  have k1 := ha.2
  have k2 := hb.2
  have k3 := hc.2
  obtain ⟨p, rp, fp, p1, p2⟩ := sum_three (x := a) (y := b) (z := c) ⟨ha.1, by grind, by grind⟩ ⟨hb.1, by grind, by grind⟩ ⟨hc.1, by grind, by grind⟩
  obtain ⟨r, rr, fr, r1, r2⟩ := third_num (x := p) ⟨fp, by grind, by grind⟩
  refine ⟨r, by rw [rp]; exact rr, ⟨fr, by grind, by grind⟩, by grind, by grind⟩
/-- What comes back, in exact numbers: S is near the root of 3/4. -/
theorem back_mid {S p q e : Rat} (s1 : -1 ≤ S) (s2 : S ≤ 1) (d1 : -(1 / 1000000000000000) ≤ S * S - 3 / 4) (d2 : S * S - 3 / 4 ≤ 1 / 1000000000000000) (p1 : -600 ≤ p) (p2 : p ≤ 600) (e0 : 0 ≤ e) (q1 : 2 / 3 * (S * p) - e ≤ q) (q2 : q ≤ 2 / 3 * (S * p) + e) : 1 / 2 * p - e - 1 / 1000000000 ≤ S * q ∧ S * q ≤ 1 / 2 * p + e + 1 / 1000000000 := by
  obtain ⟨a1, a2⟩ := mul_bnd (x := S) (y := q - 2 / 3 * (S * p)) (X := 1) (Y := e) s1 s2 (by grind) (by grind)
  obtain ⟨b1, b2⟩ := mul_bnd (x := S * S - 3 / 4) (y := p) (X := 1 / 1000000000000000) (Y := 600) d1 d2 p1 p2
  have k : S * q = S * (q - 2 / 3 * (S * p)) + 2 / 3 * ((S * S - 3 / 4) * p) + 1 / 2 * p := by grind
  constructor <;> grind
end Go.Proofs.Ytjahjhddokaopaa
