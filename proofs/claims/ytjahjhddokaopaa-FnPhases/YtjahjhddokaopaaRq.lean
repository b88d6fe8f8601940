/-
What is proved: how far the quotient of two float64s lies from the exact one.
-/
import Derived.Test.YtjahjhddokaopaaRx
namespace Go.Proofs.Ytjahjhddokaopaa
set_option maxRecDepth 40000
open Go.ChangeShapes Go.WideShapes Go.ChangeAt Go.RowKit
set_option linter.unusedVariables false
set_option linter.unusedSimpArgs false

theorem quo_run {s t : Bool} {a b : Nat} (ha : a < INF) (hb : b < INF) (hn : mg b ≠ 0) : fRun .quo (FloatKind.f64.format.word s a) (FloatKind.f64.format.word t b) = some (FloatKind.f64.format.word (s ^^ t) (rn (2 * (mg a <<< (54 + (mg b).log2 - (mg a).log2) / mg b) + (mg a <<< (54 + (mg b).log2 - (mg a).log2) % mg b != 0).toNat) (-1074 + (kg a : Int) - (-1074 + (kg b : Int)) - ((54 + (mg b).log2 - (mg a).log2 : Nat) : Int) - 1))) := by
  have fd : FloatKind.f64.format.fractionBits + 2 = 54 := rfl
  show FloatKind.f64.format.div _ _ = _
  simp only [Ieee.Format.div, read_wd s ha, read_wd t hb, Ieee.Datum.quotient, fd, if_neg hn, Option.map_some, write_num]
theorem sticky (D n : Nat) (hn : 0 < n) : (2 * (D / n) + (D % n != 0).toNat) * n ≤ 2 * D + n ∧ 2 * D ≤ (2 * (D / n) + (D % n != 0).toNat) * n + n := by
  have e := Nat.div_add_mod D n
  have l := Nat.mod_lt D hn
  rw [Nat.add_mul, Nat.mul_assoc, Nat.mul_comm (D / n)]
  generalize n * (D / n) = q at *
  generalize D % n = r at *
  by_cases z : r = 0
  · subst z
    simp
    omega
  · have : (r != 0) = true := by simpa using z
    rw [this]
    simp
    omega
def EXQ : Nat := 3926
theorem EXQ_is : EXQ = 3926 := rfl
theorem quoX {a b : Nat} (ha : a < INF) (hb : b < INF) (ha0 : mg a ≠ 0) (hb0 : mg b ≠ 0) : ∃ X, rn (2 * (mg a <<< (54 + (mg b).log2 - (mg a).log2) / mg b) + (mg a <<< (54 + (mg b).log2 - (mg a).log2) % mg b != 0).toNat) (-1074 + (kg a : Int) - (-1074 + (kg b : Int)) - ((54 + (mg b).log2 - (mg a).log2 : Nat) : Int) - 1) = rn X (-1074 - (EXQ : Int)) ∧ (X * vl b) * 18014398509481984 ≤ (vl a * (2 ^ EXQ * UN)) * 18014398509481984 + X * vl b ∧ (vl a * (2 ^ EXQ * UN)) * 18014398509481984 ≤ (X * vl b) * 18014398509481984 + X * vl b := by
  obtain ⟨m, hm⟩ : ∃ m, mg a = m := ⟨_, rfl⟩
  obtain ⟨n, hn⟩ : ∃ n, mg b = n := ⟨_, rfl⟩
  obtain ⟨ka, hka⟩ : ∃ k, kg a = k := ⟨_, rfl⟩
  obtain ⟨kb, hkb⟩ : ∃ k, kg b = k := ⟨_, rfl⟩
  have hva : vl a = m * 2 ^ ka := by unfold vl; rw [hm, hka]
  have hvb : vl b = n * 2 ^ kb := by unfold vl; rw [hn, hkb]
  have lm := log_mg a
  have ln := log_mg b
  have la := kg_most ha
  have lb := kg_most hb
  rw [hm] at lm ha0 ⊢
  rw [hn] at ln hb0 ⊢
  rw [hka] at la ⊢
  rw [hkb] at lb ⊢
  obtain ⟨more, hmore⟩ : ∃ e, 54 + n.log2 - m.log2 = e := ⟨_, rfl⟩
  rw [hmore]
  obtain ⟨D, hD⟩ : ∃ D, m <<< more = D := ⟨_, rfl⟩
  have hD2 : D = m * 2 ^ more := by rw [← hD, Nat.shiftLeft_eq]
  rw [hD]
  obtain ⟨q1, q2⟩ := sticky D n (by omega)
  -- the quotient has 54 digits at least
  have big : 18014398509481984 ≤ 2 * (D / n) + (D % n != 0).toNat := by
    have h1 : 9007199254740992 * n ≤ D := by
      have l1 := Nat.log2_self_le ha0
      have l2 := Nat.lt_log2_self (n := n)
      have l3 : 2 ^ m.log2 * 2 ^ more ≤ D := by rw [hD2]; exact Nat.mul_le_mul_right _ l1
      rw [← Nat.pow_add] at l3
      have e : m.log2 + more = 53 + (n.log2 + 1) := by omega
      rw [e, Nat.pow_add 2 53] at l3
      have e2 : 2 ^ 53 = 9007199254740992 := by decide
      rw [e2] at l3
      have l4 := Nat.mul_le_mul_left 9007199254740992 (Nat.le_of_lt l2)
      omega
    have h2 : 9007199254740992 ≤ D / n := (Nat.le_div_iff_mul_le (by omega)).2 h1
    omega
  generalize 2 * (D / n) + (D % n != 0).toNat = m' at *
  obtain ⟨k', hk'⟩ : ∃ k' : Nat, -1074 + (ka : Int) - (-1074 + (kb : Int)) - (more : Int) - 1 = (k' : Int) - 5000 := ⟨(-1074 + (ka : Int) - (-1074 + (kb : Int)) - (more : Int) - 1 + 5000).toNat, by omega⟩
  have hX := EXQ_is
  have hE := EXP_is
  refine ⟨m' * 2 ^ k', ?_, ?_⟩
  · rw [hk', ← rn_scale m' k']
    congr 1
    omega
  · have w1 : m * 2 ^ ka * (2 ^ EXQ * UN) = 2 * D * (2 ^ k' * 2 ^ kb) := by
      rw [hD2]
      unfold UN
      have e : ka + (EXQ + EXP) = 1 + more + (k' + kb) := by omega
      rw [← Nat.pow_add, Nat.mul_assoc, ← Nat.pow_add, e, Nat.pow_add, Nat.pow_add 2 1, Nat.pow_add 2 k']
      generalize 2 ^ more = x1
      generalize 2 ^ k' = x2
      generalize 2 ^ kb = x3
      rw [Nat.pow_one]
      simp only [Nat.mul_assoc, Nat.mul_left_comm, Nat.mul_comm]
    have w2 : m' * 2 ^ k' * (n * 2 ^ kb) = m' * n * (2 ^ k' * 2 ^ kb) := by
      generalize 2 ^ k' = x2
      generalize 2 ^ kb = x3
      simp only [Nat.mul_assoc, Nat.mul_left_comm, Nat.mul_comm]
    rw [hva, hvb, w1, w2]
    have w3 := Nat.mul_le_mul_right (2 ^ k' * 2 ^ kb) q1
    have w4 := Nat.mul_le_mul_right (2 ^ k' * 2 ^ kb) q2
    have w5 := Nat.mul_le_mul_right (n * (2 ^ k' * 2 ^ kb)) big
    rw [← Nat.mul_assoc m'] at w5
    rw [Nat.add_mul] at w3 w4
    generalize m' * n * (2 ^ k' * 2 ^ kb) = y1 at *
    generalize 2 * D * (2 ^ k' * 2 ^ kb) = y2 at *
    generalize n * (2 ^ k' * 2 ^ kb) = y3 at *
    omega
theorem q15 {r X q M H T : Rat} (hT : 0 < T) (hq : q * H ≤ M * H) (h1 : r * T * 9007199254740992 ≤ X * 9007199254740992 + (X + 4503599627370496 * T)) (h2 : X * 18014398509481984 ≤ q * H * 18014398509481984 + X) (h3 : 1000000000000000000000000000000 * T ≤ H) (h4 : 0 ≤ M * H) : r * T ≤ q * H + (M + 1) / 1000000000000000 * H := by grind
theorem q15' {r X q M H T : Rat} (hT : 0 < T) (hq : q * H ≤ M * H) (hX : 0 ≤ X) (h1 : X * 9007199254740992 ≤ r * T * 9007199254740992 + (X + 4503599627370496 * T)) (h2 : q * H * 18014398509481984 ≤ X * 18014398509481984 + X) (h5 : X * 18014398509481984 ≤ q * H * 18014398509481984 + X) (h3 : 1000000000000000000000000000000 * T ≤ H) (h4 : 0 ≤ M * H) : q * H ≤ r * T + (M + 1) / 1000000000000000 * H := by grind
theorem mulc {a b c : Rat} (hc : 0 < c) (h : a * c ≤ b * c) : a ≤ b := Rat.le_of_mul_le_mul_right h hc
/-- The quotient of two numbers above 0. -/
theorem rquoN {a b : Nat} (s t : Bool) (ha : a < INF) (hb : b < INF) (ha0 : vl a ≠ 0) (hb0 : vl b ≠ 0) (M : Rat) (hM : M ≤ 1000000000000) (hq : (vl a : Rat) ≤ M * (vl b : Rat)) : ∃ r, fRun .quo (FloatKind.f64.format.word s a) (FloatKind.f64.format.word t b) = some (FloatKind.f64.format.word (s ^^ t) r) ∧ r < INF ∧ FloatKind.f64.format.word (s ^^ t) r < 18446744073709551616 ∧ Nr M ((vl a : Rat) / (vl b : Rat)) ((vl r : Rat) / U) := by
  have ma : mg a ≠ 0 := fun e => ha0 (by unfold vl; rw [e, Nat.zero_mul])
  have mb : mg b ≠ 0 := fun e => hb0 (by unfold vl; rw [e, Nat.zero_mul])
  obtain ⟨X, hX, g1, g2⟩ := quoX ha hb ma mb
  have hrun := quo_run (s := s) (t := t) ha hb mb
  rw [hX] at hrun
  have hU := U_pos
  have bp : (0 : Rat) < (vl b : Rat) := castp (by omega)
  have ap : (0 : Rat) < (vl a : Rat) := castp (by omega)
  obtain ⟨A, hA⟩ : ∃ A, vl a = A := ⟨_, rfl⟩
  obtain ⟨B, hB⟩ : ∃ B, vl b = B := ⟨_, rfl⟩
  obtain ⟨TN, hTN⟩ : ∃ T, 2 ^ EXQ = T := ⟨_, rfl⟩
  have Tp : (0 : Rat) < (TN : Rat) := castp (by rw [← hTN]; exact Nat.two_pow_pos _)
  rw [hA] at g1 g2 hq ap ⊢
  rw [hB] at g1 g2 hq bp ⊢
  rw [hTN] at g1 g2
  obtain ⟨T, hT⟩ : ∃ T : Rat, (TN : Rat) = T := ⟨_, rfl⟩
  rw [hT] at Tp
  have r1 : ((X : Rat) * B) * 18014398509481984 ≤ ((A : Rat) * (T * U)) * 18014398509481984 + (X : Rat) * B := by
    rw [← hT]; unfold U
    exact_mod_cast g1
  have r2 : ((A : Rat) * (T * U)) * 18014398509481984 ≤ ((X : Rat) * B) * 18014398509481984 + (X : Rat) * B := by
    rw [← hT]; unfold U
    exact_mod_cast g2
  obtain ⟨q, hqd⟩ : ∃ q : Rat, (A : Rat) / B = q := ⟨_, rfl⟩
  have eq : (A : Rat) = q * B := by rw [← hqd]; grind
  have X0 : (0 : Rat) ≤ (X : Rat) := by exact_mod_cast Nat.zero_le X
  have s1 : (X : Rat) * 18014398509481984 ≤ q * (T * U) * 18014398509481984 + X := mulc bp (by rw [eq] at r1; grind)
  have s2 : q * (T * U) * 18014398509481984 ≤ (X : Rat) * 18014398509481984 + X := mulc bp (by rw [eq] at r2; grind)
  have hqM : q ≤ M := mulc bp (by rw [← eq]; exact hq)
  have q0 : 0 ≤ q := by
    have : 0 * (B : Rat) ≤ q * B := by rw [← eq]; grind
    exact mulc bp this
  have HTU : 0 < T * U := Rat.mul_pos Tp hU
  have s3 : q * (T * U) ≤ M * (T * U) := Rat.mul_le_mul_of_nonneg_right hqM (Rat.le_of_lt HTU)
  have s4 : 1000000000000000000000000000000 * T ≤ T * U := by
    have := Rat.mul_le_mul_of_nonneg_right U_big (Rat.le_of_lt Tp)
    grind
  have s5 : 0 ≤ M * (T * U) := by
    have := Rat.mul_nonneg q0 (Rat.le_of_lt HTU)
    grind
  -- no overflow
  have s6 : (X : Rat) ≤ 2199023255552 * U * T := by
    have := Rat.mul_le_mul_of_nonneg_right hM (Rat.le_of_lt HTU)
    grind
  have s7 : X ≤ 2199023255552 * UN * TN := by
    rw [← hT] at s6
    unfold U at s6
    exact_mod_cast s6
  have hI : rn X (-1074 - (EXQ : Int)) < INF := rn_bnd GR_in (by rw [vl_GR, hTN]; exact s7)
  obtain ⟨a1, a2⟩ := rn_err X EXQ hI
  rw [hTN] at a1 a2
  refine ⟨_, hrun, hI, wd_lt _ _ _, ?_⟩
  obtain ⟨v, hv⟩ : ∃ v, vl (rn X (-1074 - (EXQ : Int))) = v := ⟨_, rfl⟩
  rw [hv] at a1 a2 ⊢
  have b1 : (v : Rat) * T * 9007199254740992 ≤ (X : Rat) * 9007199254740992 + ((X : Rat) + 4503599627370496 * T) := by
    rw [← hT]
    exact_mod_cast a1
  have b2 : (X : Rat) * 9007199254740992 ≤ (v : Rat) * T * 9007199254740992 + ((X : Rat) + 4503599627370496 * T) := by
    rw [← hT]
    exact_mod_cast a2
  have c1 := q15 Tp s3 b1 s1 s4 s5
  have c2 := q15' Tp s3 X0 b2 s2 s1 s4 s5
  have ev : (v : Rat) / U * U = v := by grind
  rw [hqd]
  constructor
  · refine mulc HTU ?_
    have e1 : (v : Rat) / U * (T * U) = v * T := by rw [Rat.mul_comm T U, ← Rat.mul_assoc, ev]
    rw [e1]
    grind
  · refine mulc HTU ?_
    have e1 : (v : Rat) / U * (T * U) = v * T := by rw [Rat.mul_comm T U, ← Rat.mul_assoc, ev]
    rw [e1]
    grind
theorem rv_vl (x : Nat) : rv x = (if sg x = true then -((vl (rg x) : Rat) / U) else (vl (rg x) : Rat) / U) := by
  unfold rv sv
  split
  · have e : (((-(vl (rg x) : Int)) : Int) : Rat) = -(vl (rg x) : Rat) := by push_cast; rfl
    rw [e]
    grind
  · have e : (((vl (rg x) : Int) : Int) : Rat) = (vl (rg x) : Rat) := by push_cast; rfl
    rw [e]
theorem quo_zero {s t : Bool} {b : Nat} (hb : b < INF) (hb0 : mg b ≠ 0) : fRun .quo (FloatKind.f64.format.word s 0) (FloatKind.f64.format.word t b) = some (FloatKind.f64.format.word (s ^^ t) 0) := by
  rw [quo_run (by decide) hb hb0]
  have e : mg 0 = 0 := by decide
  rw [e]
  simp [rn_zero]
theorem quo_sg (s t : Bool) (p q : Rat) (hq : q ≠ 0) : (if s = true then -p else p) / (if t = true then -q else q) = (if (s ^^ t) = true then -(p / q) else p / q) := by
  cases s <;> cases t <;> simp <;> grind
theorem rquo {x y : Nat} (hx : Fin x) (hy : Fin y) (hy0 : rv y ≠ 0) (M : Rat) (hM : M ≤ 1000000000000) (h1 : -M ≤ rv x / rv y) (h2 : rv x / rv y ≤ M) : ∃ r, fRun .quo x y = some r ∧ Fin r ∧ Nr M (rv x / rv y) (rv r) := by
  have hU := U_pos
  have ex := fin_word hx
  have ey := fin_word hy
  obtain ⟨a, ha⟩ : ∃ a, rg x = a := ⟨_, rfl⟩
  obtain ⟨b, hb⟩ : ∃ b, rg y = b := ⟨_, rfl⟩
  obtain ⟨s, hs⟩ : ∃ s, sg x = s := ⟨_, rfl⟩
  obtain ⟨t, ht⟩ : ∃ t, sg y = t := ⟨_, rfl⟩
  have fa : a < INF := by rw [← ha]; exact hx.2
  have fb : b < INF := by rw [← hb]; exact hy.2
  have vx := rv_vl x
  have vy := rv_vl y
  rw [ha, hs] at vx ex
  rw [hb, ht] at vy ey
  have b0 : vl b ≠ 0 := by
    intro e
    rw [e] at vy
    apply hy0
    rw [vy]
    have : (((0 : Nat)) : Rat) / U = 0 := by grind
    rw [this]
    split <;> grind
  have bp : (0 : Rat) < (vl b : Rat) := castp (by omega)
  have bq : (vl b : Rat) / U ≠ 0 := by grind
  have eq : rv x / rv y = (if (s ^^ t) = true then -((vl a : Rat) / (vl b : Rat)) else (vl a : Rat) / (vl b : Rat)) := by
    rw [vx, vy, quo_sg s t _ _ bq]
    have e : (vl a : Rat) / U / ((vl b : Rat) / U) = (vl a : Rat) / (vl b : Rat) := by grind
    rw [e]
  have hrun : fRun .quo x y = fRun .quo (FloatKind.f64.format.word s a) (FloatKind.f64.format.word t b) := by rw [← ex, ← ey]
  rw [hrun]
  rw [eq] at h1 h2 ⊢
  by_cases a0 : vl a = 0
  · have a1 : a = 0 := (vl_zero_iff a).1 a0
    subst a1
    have mb : mg b ≠ 0 := fun e => b0 (by unfold vl; rw [e, Nat.zero_mul])
    refine ⟨_, quo_zero fb mb, ⟨?_, ?_⟩, ?_⟩
    · have := wd_lt (s ^^ t) 0 0
      rw [rn_zero] at this
      exact this
    · rw [(wd_parts _ (by decide)).1]; decide
    · rw [rv_vl, (wd_parts _ (by decide)).1, (wd_parts _ (by decide)).2, a0]
      have e1 : (((0 : Nat)) : Rat) / (vl b : Rat) = 0 := by grind
      have e2 : (((0 : Nat)) : Rat) / U = 0 := by grind
      rw [a0, e1] at h1 h2
      rw [e1, e2]
      have M0 : 0 ≤ M := by
        split at h1
        · grind
        · grind
      unfold Nr
      cases (s ^^ t) <;> simp <;> constructor <;> grind
  · have hq : (vl a : Rat) / (vl b : Rat) ≤ M := by
      by_cases q : (s ^^ t) = true
      · rw [if_pos q] at h1; grind
      · rw [if_neg q] at h2; exact h2
    have hq2 : (vl a : Rat) ≤ M * (vl b : Rat) := by
      have := Rat.mul_le_mul_of_nonneg_right hq (Rat.le_of_lt bp)
      have e : (vl a : Rat) / (vl b : Rat) * (vl b : Rat) = vl a := by grind
      rw [e] at this
      exact this
    obtain ⟨r, k1, k2, k3, k4, k5⟩ := rquoN s t fa fb a0 b0 M hM hq2
    refine ⟨_, k1, ⟨k3, by rw [(wd_parts _ (Nat.le_of_lt k2)).1]; exact k2⟩, ?_⟩
    rw [rv_vl, (wd_parts _ (Nat.le_of_lt k2)).1, (wd_parts _ (Nat.le_of_lt k2)).2]
    unfold Nr
    by_cases q : (s ^^ t) = true
    · rw [if_pos q, if_pos q]
      constructor <;> grind
    · rw [if_neg q, if_neg q]
      exact ⟨k4, k5⟩
/-- The order of two numbers is that of what they stand for. -/
theorem order_rv {x y : Nat} (hx : Fin x) (hy : Fin y) : FloatKind.f64.format.order x y = some (compare (sv x) (sv y)) := order_fin hx.2 hy.2
theorem lt_rv {x y : Nat} (hx : Fin x) (hy : Fin y) : (FloatKind.f64.format.order x y == some .lt) = decide (rv x < rv y) := by
  rw [order_rv hx hy]
  have hU := U_pos
  have e : (rv x < rv y) ↔ (sv x < sv y) := by
    have ex := rv_mul x
    have ey := rv_mul y
    constructor
    · intro h
      have h2 : rv x * U < rv y * U := Rat.mul_lt_mul_of_pos_right h hU
      rw [ex, ey] at h2
      exact_mod_cast h2
    · intro h
      have h2 : ((sv x : Int) : Rat) < ((sv y : Int) : Rat) := by exact_mod_cast h
      rw [← ex, ← ey] at h2
      rcases (Rat.le_total : rv y ≤ rv x ∨ rv x ≤ rv y) with q | q
      · have := Rat.mul_le_mul_of_nonneg_right q (Rat.le_of_lt hU)
        grind
      · grind
  by_cases h : rv x < rv y
  · rw [decide_eq_true h]
    have := e.1 h
    rw [Int.compare_eq_lt.2 this]
    rfl
  · rw [decide_eq_false h]
    have h2 : ¬ sv x < sv y := fun q => h (e.2 q)
    have : compare (sv x) (sv y) ≠ .lt := fun q => h2 (Int.compare_eq_lt.1 q)
    cases hc : compare (sv x) (sv y) <;> simp_all
end Go.Proofs.Ytjahjhddokaopaa
