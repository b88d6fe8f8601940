/-
What is proved: how far the sum, the difference, the product and the quotient of two float64s lie from the exact ones.
-/
import Derived.Test.YtjahjhddokaopaaKey
import Derived.Test.YtjahjhddokaopaaSgM
namespace Go.Proofs.Ytjahjhddokaopaa
set_option maxRecDepth 40000
open Go.ChangeShapes Go.WideShapes Go.ChangeAt Go.RowKit
set_option linter.unusedVariables false
set_option linter.unusedSimpArgs false

theorem cutE_err (n d : Nat) : 2 * (cutE n d * 2 ^ d) ≤ 2 * n + 2 ^ d ∧ 2 * n ≤ 2 * (cutE n d * 2 ^ d) + 2 ^ d := by
  unfold cutE
  have hp : 0 < 2 ^ d := Nat.two_pow_pos d
  generalize 2 ^ d = P at *
  have e := Nat.div_add_mod n P
  have l := Nat.mod_lt n hp
  rw [Nat.mul_comm] at e
  generalize n / P = q at *
  generalize n % P = r at *
  rw [Nat.add_mul]
  split
  · rename_i h
    rw [Nat.one_mul]
    omega
  · rename_i h
    rw [Nat.zero_mul]
    omega
theorem vl_rung (k c : Nat) (h : c ≤ 2 * BIN) (hk : k = 0 ∨ BIN ≤ c) : vl (k * BIN + c) = c * 2 ^ k := by
  by_cases h1 : c < BIN
  · have k0 : k = 0 := by omega
    subst k0
    rw [Nat.zero_mul, Nat.zero_add, (vl_sub h1).1]
    simp
  · by_cases h2 : c = 2 * BIN
    · subst h2
      have e1 : kg (k * BIN + 2 * BIN) = k + 1 := by unfold kg; rw [← Nat.add_mul, Nat.mul_div_cancel _ (by decide)]; omega
      have e2 : mg (k * BIN + 2 * BIN) = BIN := by unfold mg; rw [if_neg (by omega), ← Nat.add_mul, Nat.mul_mod_left, Nat.add_zero]
      unfold vl
      rw [e1, e2, Nat.pow_succ]
      rw [Nat.mul_comm 2 BIN, Nat.mul_assoc, Nat.mul_comm 2]
    · have e0 : k * BIN + c = (k + 1) * BIN + (c - BIN) := by rw [Nat.add_mul, Nat.one_mul]; omega
      have l0 : c - BIN < BIN := by omega
      have e1 : kg (k * BIN + c) = k := by
        unfold kg
        rw [e0, Nat.add_comm, Nat.add_mul_div_right _ _ (by decide), Nat.div_eq_of_lt l0]
        omega
      have e2 : mg (k * BIN + c) = c := by
        unfold mg
        rw [if_neg (by omega), e0, Nat.add_comm ((k + 1) * BIN), Nat.add_mul_mod_self_right, Nat.mod_eq_of_lt l0]
        omega
      unfold vl
      rw [e1, e2]
/-- The number that is rounded to lies by 2^-53 of it, or by a half of the least number, from the exact one. -/
theorem rn_err (m t : Nat) (h : rn m (-1074 - (t : Int)) < INF) : vl (rn m (-1074 - (t : Int))) * 2 ^ t * 9007199254740992 ≤ m * 9007199254740992 + (m + 4503599627370496 * 2 ^ t) ∧ m * 9007199254740992 ≤ vl (rn m (-1074 - (t : Int))) * 2 ^ t * 9007199254740992 + (m + 4503599627370496 * 2 ^ t) := by
  by_cases hm : m = 0
  · subst hm
    rw [rn_zero, vl_nil]
    simp
  obtain ⟨L, hL⟩ : ∃ L, lastP m (-1074 - (t : Int)) = L := ⟨_, rfl⟩
  have hLd : L = max (-1074 - (t : Int) + (m.log2 : Int) - 52) (-1074) := by rw [← hL]; rfl
  obtain ⟨k, hk⟩ : ∃ k : Nat, L = (k : Int) - 1074 := ⟨(L + 1074).toNat, by omega⟩
  have hr : rn m (-1074 - (t : Int)) = min (k * BIN + cutE m (k + t)) INF := by
    unfold rn
    rw [if_neg hm, hL]
    have a1 : (L + 1074).toNat = k := by omega
    have a2 : (-1074 - (t : Int) - L).toNat = 0 := by omega
    have a3 : (L - (-1074 - (t : Int))).toNat = k + t := by omega
    rw [a1, a2, a3, Nat.pow_zero, Nat.mul_one]
  have hrI : k * BIN + cutE m (k + t) < INF := by rw [hr] at h; omega
  have hr2 : rn m (-1074 - (t : Int)) = k * BIN + cutE m (k + t) := by rw [hr]; omega
  have l1 := Nat.log2_self_le hm
  have l2 := Nat.lt_log2_self (n := m)
  have hc1 : cutE m (k + t) ≤ 2 * BIN := by
    refine cutE_up ?_
    have : m.log2 + 1 ≤ 53 + (k + t) := by omega
    have h3 := Nat.pow_le_pow_right (n := 2) (by decide) this
    rw [Nat.pow_add 2 53] at h3
    have b : 2 * BIN = 2 ^ 53 := by decide
    rw [b]
    omega
  have hc2 : k = 0 ∨ BIN ≤ cutE m (k + t) := by
    by_cases k0 : k = 0
    · exact Or.inl k0
    · right
      refine cutE_ge ?_
      have : k + t + 52 = m.log2 := by omega
      have b : BIN = 2 ^ 52 := by decide
      rw [b, ← Nat.pow_add, Nat.add_comm 52, this]
      exact l1
  rw [hr2, vl_rung k _ hc1 hc2, Nat.mul_assoc _ (2 ^ k), ← Nat.pow_add]
  have ce := cutE_err m (k + t)
  have hs : 4503599627370496 * 2 ^ (k + t) ≤ m + 4503599627370496 * 2 ^ t := by
    by_cases k0 : k = 0
    · subst k0; rw [Nat.zero_add]; omega
    · have e : k + t + 52 = m.log2 := by omega
      have e3 : 2 ^ (k + t + 52) = 2 ^ (k + t) * 4503599627370496 := Nat.pow_add 2 (k + t) 52
      have e2 : 4503599627370496 * 2 ^ (k + t) = 2 ^ m.log2 := by rw [← e, e3, Nat.mul_comm]
      omega
  generalize cutE m (k + t) * 2 ^ (k + t) = X at *
  generalize 2 ^ (k + t) = P at *
  generalize 2 ^ t = T at *
  omega
theorem rn_bnd {m t R : Nat} (hR : R < INF) (h : m ≤ vl R * 2 ^ t) : rn m (-1074 - (t : Int)) < INF := by
  have h1 : leV m (-1074 - (t : Int)) (vl R) (-1074) := by
    unfold leV
    have e : min (-1074 - (t : Int)) (-1074) = -1074 - (t : Int) := by omega
    rw [e]
    have e1 : (-1074 - (t : Int) - (-1074 - (t : Int))).toNat = 0 := by omega
    have e2 : (-1074 - (-1074 - (t : Int))).toNat = t := by omega
    rw [e1, e2]
    simpa using h
  have h2 := rn_le h1
  rw [rn_vl hR] at h2
  omega
/-- The least number above 0, as a whole number. -/
def EXP : Nat := 1074
theorem EXP_is : EXP = 1074 := rfl
def UN : Nat := 2 ^ EXP
def U : Rat := (UN : Rat)
theorem UN_pos : 0 < UN := Nat.two_pow_pos _
theorem castp {n : Nat} (h : 0 < n) : (0 : Rat) < (n : Rat) := by exact_mod_cast h
theorem castb {n : Nat} (h : 1000000000000000000000000000000 ≤ n) : (1000000000000000000000000000000 : Rat) ≤ (n : Rat) := by exact_mod_cast h
theorem U_pos : 0 < U := castp UN_pos
theorem U_big : 1000000000000000000000000000000 ≤ U := castb (by
  have h : 2 ^ 100 ≤ UN := Nat.pow_le_pow_right (by decide) (by rw [EXP_is]; omega)
  omega)
def rv (x : Nat) : Rat := ((sv x : Int) : Rat) / U
theorem rv_mul (x : Nat) : rv x * U = ((sv x : Int) : Rat) := by
  have := U_pos
  unfold rv
  grind
/-- A number: known and finite. -/
def Fin (x : Nat) : Prop := x < 18446744073709551616 ∧ rg x < INF
theorem div_bnd {a b : Rat} (h : a * U ≤ b * U) : a ≤ b := by
  rcases (Rat.le_total : a ≤ b ∨ b ≤ a) with h1 | h1
  · exact h1
  · have := U_pos
    have h2 : b * U ≤ a * U := Rat.mul_le_mul_of_nonneg_right h1 (Rat.le_of_lt this)
    have h3 : (a - b) * U = 0 := by grind
    have h4 : a - b = 0 := by grind
    grind
/-- The greatest float that is met: 2^41. -/
def GR : Nat := 4791830003522207744
theorem GR_in : GR < INF := by decide
theorem vl_GR : vl GR = 2199023255552 * UN := by
  have e1 : kg GR = 1063 := by decide
  have e2 : mg GR = 4503599627370496 := by decide
  have e3 : ∀ n : Nat, 4503599627370496 * 2 ^ n = 2199023255552 * 2 ^ (n + 11) := fun n => by rw [Nat.pow_add]; omega
  have e4 : EXP = kg GR + 11 := by rw [e1, EXP_is]
  unfold vl UN
  rw [e2, e4]
  exact e3 _
theorem sv_wd (s : Bool) {r : Nat} (h : r ≤ INF) : sv (FloatKind.f64.format.word s r) = if s = true then -(vl r : Int) else (vl r : Int) := by
  unfold sv
  rw [(wd_parts s h).1, (wd_parts s h).2]
theorem wd_lt (s : Bool) (m : Nat) (p : Int) : FloatKind.f64.format.word s (rn m p) < 18446744073709551616 := by
  rw [← write_num]
  exact (write_fin (.number s m p) rfl).2
theorem e15 {v m M : Rat} (h0 : 0 ≤ M * U) (h1 : v * 9007199254740992 ≤ m * 9007199254740992 + (m + 4503599627370496)) (h2 : m ≤ M * U) : v ≤ m + (M + 1) / 1000000000000000 * U := by
  have := U_big
  grind
theorem e15' {v m M : Rat} (h0 : 0 ≤ M * U) (h1 : m * 9007199254740992 ≤ v * 9007199254740992 + (m + 4503599627370496)) (h2 : m ≤ M * U) : m ≤ v + (M + 1) / 1000000000000000 * U := by
  have := U_big
  grind
theorem nat_le_M {m : Nat} {M : Rat} (hM : M ≤ 1000000000000) (h : (m : Rat) ≤ M * U) : m ≤ 2199023255552 * UN := by
  have h1 : M * U ≤ 1000000000000 * U := Rat.mul_le_mul_of_nonneg_right hM (Rat.le_of_lt U_pos)
  have h2 : (m : Rat) ≤ ((2199023255552 * UN : Nat) : Rat) := by
    have e : ((2199023255552 * UN : Nat) : Rat) = 2199023255552 * U := by unfold U; push_cast; rfl
    rw [e]
    have := U_pos
    grind
  exact_mod_cast h2
/-- What a whole number of least numbers is rounded to. -/
theorem rd_rat (z : Bool) (S : Int) (M : Rat) (hM : M ≤ 1000000000000) (h1 : -(M * U) ≤ (S : Rat)) (h2 : (S : Rat) ≤ M * U) : Fin (rdS z S) ∧ (S : Rat) - (M + 1) / 1000000000000000 * U ≤ ((sv (rdS z S) : Int) : Rat) ∧ ((sv (rdS z S) : Int) : Rat) ≤ (S : Rat) + (M + 1) / 1000000000000000 * U := by
  have h0 : 0 ≤ M * U := by grind
  obtain ⟨m, hm⟩ : ∃ m, S.natAbs = m := ⟨_, rfl⟩
  have hmM : (m : Rat) ≤ M * U := by
    rcases Int.le_total 0 S with q | q
    · have e : S = (m : Int) := by omega
      rw [e] at h2
      exact_mod_cast h2
    · have e : S = -(m : Int) := by omega
      rw [e] at h1
      have e2 : (((-(m : Int)) : Int) : Rat) = -(m : Rat) := by push_cast; rfl
      rw [e2] at h1
      grind
  have hb := nat_le_M hM hmM
  have hI : rn m (-1074 - ((0 : Nat) : Int)) < INF := rn_bnd GR_in (by rw [vl_GR, Nat.pow_zero, Nat.mul_one]; exact hb)
  obtain ⟨a1, a2⟩ := rn_err m 0 hI
  rw [Nat.pow_zero, Nat.mul_one, Nat.mul_one] at a1 a2
  have e0 : (-1074 - ((0 : Nat) : Int)) = -1074 := by omega
  rw [e0] at a1 a2 hI
  have hsv : sv (rdS z S) = if S < 0 then -(vl (rn m (-1074)) : Int) else (vl (rn m (-1074)) : Int) := by
    unfold rdS
    rw [sv_wd _ (by rw [hm]; omega), hm]
    by_cases q : S = 0
    · have : m = 0 := by omega
      subst this
      rw [rn_zero, vl_nil]
      simp
    · rw [if_neg q]
      by_cases q2 : S < 0
      · rw [if_pos q2, if_pos (by simpa using q2)]
      · rw [if_neg q2, if_neg (by simpa using q2)]
  refine ⟨⟨?_, ?_⟩, ?_⟩
  · unfold rdS; exact wd_lt _ _ _
  · rw [rdS_rg, hm]; exact hI
  · obtain ⟨v, hv⟩ : ∃ v, vl (rn m (-1074)) = v := ⟨_, rfl⟩
    rw [hv] at a1 a2 hsv
    have b1 : (v : Rat) * 9007199254740992 ≤ (m : Rat) * 9007199254740992 + ((m : Rat) + 4503599627370496) := by exact_mod_cast a1
    have b2 : (m : Rat) * 9007199254740992 ≤ (v : Rat) * 9007199254740992 + ((m : Rat) + 4503599627370496) := by exact_mod_cast a2
    have c1 := e15 h0 b1 hmM
    have c2 := e15' h0 b2 hmM
    rw [hsv]
    by_cases q : S < 0
    · rw [if_pos q]
      have e : S = -(m : Int) := by omega
      have eS : (S : Rat) = -(m : Rat) := by rw [e]; push_cast; rfl
      have ev : (((-(v : Int)) : Int) : Rat) = -(v : Rat) := by push_cast; rfl
      rw [eS, ev]
      constructor <;> grind
    · rw [if_neg q]
      have e : S = (m : Int) := by omega
      have eS : (S : Rat) = (m : Rat) := by rw [e]; push_cast; rfl
      have ev : (((v : Int) : Int) : Rat) = (v : Rat) := by push_cast; rfl
      rw [eS, ev]
      constructor <;> grind
def Nr (M s r : Rat) : Prop := s - (M + 1) / 1000000000000000 ≤ r ∧ r ≤ s + (M + 1) / 1000000000000000
theorem radd {x y : Nat} (hx : Fin x) (hy : Fin y) (M : Rat) (hM : M ≤ 1000000000000) (h1 : -M ≤ rv x + rv y) (h2 : rv x + rv y ≤ M) : ∃ r, fRun .add x y = some r ∧ Fin r ∧ Nr M (rv x + rv y) (rv r) := by
  have hU := U_pos
  have eS : (((sv x + sv y : Int)) : Rat) = (rv x + rv y) * U := by
    have e1 := rv_mul x
    have e2 := rv_mul y
    push_cast
    grind
  have k1 : -(M * U) ≤ (((sv x + sv y : Int)) : Rat) := by
    have := Rat.mul_le_mul_of_nonneg_right h1 (Rat.le_of_lt hU)
    rw [eS]; grind
  have k2 : (((sv x + sv y : Int)) : Rat) ≤ M * U := by
    have := Rat.mul_le_mul_of_nonneg_right h2 (Rat.le_of_lt hU)
    rw [eS]; grind
  obtain ⟨f, a1, a2⟩ := rd_rat (sg x && sg y) (sv x + sv y) M hM k1 k2
  refine ⟨_, fadd_rd hx.2 hy.2, f, ?_⟩
  rw [← rv_mul, eS] at a1 a2
  exact ⟨div_bnd (by grind), div_bnd (by grind)⟩
theorem rsub {x y : Nat} (hx : Fin x) (hy : Fin y) (M : Rat) (hM : M ≤ 1000000000000) (h1 : -M ≤ rv x - rv y) (h2 : rv x - rv y ≤ M) : ∃ r, fRun .sub x y = some r ∧ Fin r ∧ Nr M (rv x - rv y) (rv r) := by
  have hU := U_pos
  have eS : (((sv x - sv y : Int)) : Rat) = (rv x - rv y) * U := by
    have e1 := rv_mul x
    have e2 := rv_mul y
    push_cast
    grind
  have k1 : -(M * U) ≤ (((sv x - sv y : Int)) : Rat) := by
    have := Rat.mul_le_mul_of_nonneg_right h1 (Rat.le_of_lt hU)
    rw [eS]; grind
  have k2 : (((sv x - sv y : Int)) : Rat) ≤ M * U := by
    have := Rat.mul_le_mul_of_nonneg_right h2 (Rat.le_of_lt hU)
    rw [eS]; grind
  obtain ⟨f, a1, a2⟩ := rd_rat (sg x && !sg y) (sv x - sv y) M hM k1 k2
  refine ⟨_, fsub_rd hx.2 hy.2, f, ?_⟩
  rw [← rv_mul, eS] at a1 a2
  exact ⟨div_bnd (by grind), div_bnd (by grind)⟩
theorem sv_abs (x : Nat) : (sv x).natAbs = vl (rg x) := by
  unfold sv
  split <;> omega
theorem p15 {v m M : Rat} (h0 : 0 ≤ M * U * U) (h1 : v * U * 9007199254740992 ≤ m * 9007199254740992 + (m + 4503599627370496 * U)) (h2 : m ≤ M * U * U) : v * U ≤ m + (M + 1) / 1000000000000000 * U * U := by
  have a := U_big
  have b : 1000000000000000000000000000000 * U ≤ U * U := Rat.mul_le_mul_of_nonneg_right a (Rat.le_of_lt U_pos)
  have c := U_pos
  grind
theorem p15' {v m M : Rat} (h0 : 0 ≤ M * U * U) (h1 : m * 9007199254740992 ≤ v * U * 9007199254740992 + (m + 4503599627370496 * U)) (h2 : m ≤ M * U * U) : m ≤ v * U + (M + 1) / 1000000000000000 * U * U := by
  have a := U_big
  have b : 1000000000000000000000000000000 * U ≤ U * U := Rat.mul_le_mul_of_nonneg_right a (Rat.le_of_lt U_pos)
  have c := U_pos
  grind
theorem kg_most {r : Nat} (h : r < INF) : kg r ≤ 2045 := by
  unfold kg BIN
  unfold INF at h
  omega
theorem fin_word {x : Nat} (hx : Fin x) : x = FloatKind.f64.format.word (sg x) (rg x) := word_self hx.1
theorem rmul {x y : Nat} (hx : Fin x) (hy : Fin y) (M : Rat) (hM : M ≤ 1000000000000) (h1 : -M ≤ rv x * rv y) (h2 : rv x * rv y ≤ M) : ∃ r, fRun .mul x y = some r ∧ Fin r ∧ Nr M (rv x * rv y) (rv r) := by
  have hU := U_pos
  obtain ⟨a, ha⟩ : ∃ a, rg x = a := ⟨_, rfl⟩
  obtain ⟨b, hb⟩ : ∃ b, rg y = b := ⟨_, rfl⟩
  obtain ⟨s, hs⟩ : ∃ s, sg x = s := ⟨_, rfl⟩
  obtain ⟨t, ht⟩ : ∃ t, sg y = t := ⟨_, rfl⟩
  have fa : a < INF := by rw [← ha]; exact hx.2
  have fb : b < INF := by rw [← hb]; exact hy.2
  have hrun : fRun .mul x y = some (FloatKind.f64.format.word (s ^^ t) (rn (mg a * mg b) (-1074 + (kg a : Int) + (-1074 + (kg b : Int))))) := by
    have e1 := fin_word hx
    have e2 := fin_word hy
    rw [ha, hs] at e1
    rw [hb, ht] at e2
    rw [e1, e2]
    exact fmul_num fa fb
  have hrn : rn (mg a * mg b) (-1074 + (kg a : Int) + (-1074 + (kg b : Int))) = rn (vl a * vl b) (-1074 - (EXP : Int)) := by
    rw [← rn_scale (mg a * mg b) (kg a + kg b)]
    have e1 : mg a * mg b * 2 ^ (kg a + kg b) = vl a * vl b := by unfold vl; rw [Nat.pow_add, Nat.mul_assoc, Nat.mul_assoc, Nat.mul_left_comm (mg b)]
    have e2 : -1074 + (kg a : Int) + (-1074 + (kg b : Int)) - ((kg a + kg b : Nat) : Int) = -1074 - (EXP : Int) := by have := EXP_is; omega
    rw [e1, e2]
  rw [hrn] at hrun
  obtain ⟨m, hm⟩ : ∃ m, vl a * vl b = m := ⟨_, rfl⟩
  rw [hm] at hrun
  -- the exact product
  have hp : sv x * sv y = if (s ^^ t) = true then -(m : Int) else (m : Int) := by
    unfold sv
    rw [ha, hb, hs, ht, ← hm]
    cases s <;> cases t <;> simp [Int.neg_mul, Int.mul_neg]
  have eP : ((sv x * sv y : Int) : Rat) = rv x * rv y * U * U := by
    have e1 := rv_mul x
    have e2 := rv_mul y
    push_cast
    grind
  have hUU : 0 < U * U := Rat.mul_pos hU hU
  have k1 : -(M * U * U) ≤ ((sv x * sv y : Int) : Rat) := by
    have := Rat.mul_le_mul_of_nonneg_right h1 (Rat.le_of_lt hUU)
    rw [eP]; grind
  have k2 : ((sv x * sv y : Int) : Rat) ≤ M * U * U := by
    have := Rat.mul_le_mul_of_nonneg_right h2 (Rat.le_of_lt hUU)
    rw [eP]; grind
  have h0 : 0 ≤ M * U * U := by grind
  have hmM : (m : Rat) ≤ M * U * U := by
    rw [hp] at k1 k2
    split at k1
    · rename_i q
      have e2 : (((-(m : Int)) : Int) : Rat) = -(m : Rat) := by push_cast; rfl
      rw [e2] at k1
      grind
    · rename_i q
      rw [if_neg q] at k2
      exact_mod_cast k2
  have hbig : m ≤ 2199023255552 * UN * UN := by
    have q1 : M * U * U ≤ 1000000000000 * U * U := by
      have := Rat.mul_le_mul_of_nonneg_right hM (Rat.le_of_lt hUU)
      grind
    have q2 : (m : Rat) ≤ ((2199023255552 * UN * UN : Nat) : Rat) := by
      have e : ((2199023255552 * UN * UN : Nat) : Rat) = 2199023255552 * U * U := by unfold U; push_cast; rfl
      rw [e]
      grind
    exact_mod_cast q2
  have hI : rn m (-1074 - (EXP : Int)) < INF := rn_bnd GR_in (by rw [vl_GR]; have hb9 := hbig; unfold UN at hb9 ⊢; exact hb9)
  obtain ⟨a1, a2⟩ := rn_err m EXP hI
  refine ⟨_, hrun, ⟨wd_lt _ _ _, by rw [(wd_parts _ (by omega)).1]; exact hI⟩, ?_⟩
  obtain ⟨v, hv⟩ : ∃ v, vl (rn m (-1074 - (EXP : Int))) = v := ⟨_, rfl⟩
  have hsv := sv_wd (s ^^ t) (Nat.le_of_lt hI)
  rw [hv] at a1 a2 hsv
  have eU : 2 ^ EXP = UN := rfl
  rw [eU] at a1 a2
  have b1 : (v : Rat) * U * 9007199254740992 ≤ (m : Rat) * 9007199254740992 + ((m : Rat) + 4503599627370496 * U) := by
    unfold U
    exact_mod_cast a1
  have b2 : (m : Rat) * 9007199254740992 ≤ (v : Rat) * U * 9007199254740992 + ((m : Rat) + 4503599627370496 * U) := by
    unfold U
    exact_mod_cast a2
  have c1 := p15 h0 b1 hmM
  have c2 := p15' h0 b2 hmM
  generalize FloatKind.f64.format.word (s ^^ t) (rn m (-1074 - (EXP : Int))) = r at *
  have er := rv_mul r
  rw [hsv] at er
  rw [hp] at eP
  by_cases q : (s ^^ t) = true
  · rw [if_pos q] at er eP
    have e2 : (((-(m : Int)) : Int) : Rat) = -(m : Rat) := by push_cast; rfl
    have e3 : (((-(v : Int)) : Int) : Rat) = -(v : Rat) := by push_cast; rfl
    rw [e2] at eP
    rw [e3] at er
    have er2 : rv r * U * U = -(v : Rat) * U := by rw [er]
    exact ⟨div_bnd (div_bnd (by grind)), div_bnd (div_bnd (by grind))⟩
  · rw [if_neg q] at er eP
    have e2 : (((m : Int) : Int) : Rat) = (m : Rat) := by push_cast; rfl
    have e3 : (((v : Int) : Int) : Rat) = (v : Rat) := by push_cast; rfl
    rw [e2] at eP
    rw [e3] at er
    have er2 : rv r * U * U = (v : Rat) * U := by rw [er]
    exact ⟨div_bnd (div_bnd (by grind)), div_bnd (div_bnd (by grind))⟩
end Go.Proofs.Ytjahjhddokaopaa
