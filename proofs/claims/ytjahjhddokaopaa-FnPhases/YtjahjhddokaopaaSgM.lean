/-
What is proved: the difference of two unlike floats is 2^-54 of the greater one at least, in units of the least float.
-/
import Derived.Test.YtjahjhddokaopaaKey
namespace Go.Proofs.Ytjahjhddokaopaa
set_option maxRecDepth 40000
open Go.ChangeShapes Go.WideShapes Go.ChangeAt Go.RowKit
set_option linter.unusedVariables false
set_option linter.unusedSimpArgs false

theorem step_up (r : Nat) : vl r + 2 ^ kg r ≤ vl (r + 1) := by
  by_cases h : r + 1 < BIN
  · have a := vl_sub (show r < BIN by omega)
    have b := vl_sub h
    rw [a.1, b.1, a.2.2]
    simp
  · by_cases h2 : (r + 1) / BIN = r / BIN
    · have hk : kg (r + 1) = kg r := by unfold kg; rw [h2]
      have hm : mg (r + 1) = mg r + 1 := by
        unfold mg
        unfold BIN at *
        rw [if_neg h, if_neg (by omega)]
        omega
      unfold vl
      rw [hk, hm, Nat.add_mul, Nat.one_mul]
      exact Nat.le_refl _
    · have h3 : (r + 1) / BIN = r / BIN + 1 := by unfold BIN at *; omega
      have hm1 : mg (r + 1) = BIN := by
        unfold mg
        unfold BIN at *
        rw [if_neg h]
        omega
      by_cases h4 : r < BIN
      · have a := vl_sub h4
        have hk : kg (r + 1) = 0 := by unfold kg; unfold BIN at *; omega
        unfold vl
        rw [hm1, hk, a.2.1, a.2.2]
        simp
        omega
      · have hk : kg (r + 1) = kg r + 1 := by unfold kg; unfold BIN at *; omega
        have hm := mg_lt r
        unfold vl
        rw [hm1, hk, Nat.pow_succ]
        have e : BIN * (2 ^ kg r * 2) = (2 * BIN) * 2 ^ kg r := by rw [Nat.mul_comm (2 ^ kg r) 2, ← Nat.mul_assoc, Nat.mul_comm BIN 2]
        rw [e]
        have e2 : mg r * 2 ^ kg r + 2 ^ kg r = (mg r + 1) * 2 ^ kg r := by rw [Nat.add_mul, Nat.one_mul]
        rw [e2]
        exact Nat.mul_le_mul_right _ (by unfold BIN; omega)
theorem kg_step (r : Nat) : kg (r + 1) ≤ kg r + 1 := by unfold kg BIN; omega
theorem vl_cap (r : Nat) : vl r ≤ 9007199254740992 * 2 ^ kg r := Nat.mul_le_mul_right _ (Nat.le_of_lt (mg_lt r))
theorem gap {a b : Nat} (h : a < b) : vl b ≤ (vl b - vl a) * 18014398509481984 := by
  obtain ⟨r, rfl⟩ : ∃ r, b = r + 1 := ⟨b - 1, by omega⟩
  have h1 := vl_le (show a ≤ r by omega)
  have h2 := step_up r
  have h3 := vl_cap (r + 1)
  have h4 : 2 ^ kg (r + 1) ≤ 2 ^ (kg r + 1) := Nat.pow_le_pow_right (by decide) (kg_step r)
  rw [Nat.pow_succ] at h4
  generalize 2 ^ kg r = P at *
  generalize 2 ^ kg (r + 1) = Q at *
  omega
theorem rn_mg {r : Nat} (h : r < INF) : rn (mg r) (-1074 + (kg r : Int)) = r := by
  have e := nearest_exact false (r := r) (j := 0) h (-1074 + (kg r : Int)) (by omega)
  rw [Nat.pow_zero, Nat.mul_one, nearest_rn] at e
  have e1 := (wd_parts false (rn_inf (mg r) (-1074 + (kg r : Int)))).1
  have e2 := (wd_parts false (Nat.le_of_lt h)).1
  rw [e] at e1
  exact e1.symm.trans e2
theorem rn_vl {r : Nat} (h : r < INF) : rn (vl r) (-1074) = r := by
  have e := rn_scale (mg r) (kg r) (-1074 + (kg r : Int))
  rw [show (-1074 + (kg r : Int) - (kg r : Int)) = -1074 by omega] at e
  exact e.trans (rn_mg h)
theorem rn_one : rn 1 (-1074) = 1 := rn_vl (r := 1) (by decide)
theorem kg_mono {a b : Nat} (h : a ≤ b) : kg a ≤ kg b := by
  unfold kg
  have := Nat.div_le_div_right (c := BIN) h
  omega
theorem kg_gap {o S : Nat} (ho : o < INF) (h : vl o ≤ S * 18014398509481984) (hR : rn S (-1074) < INF) : kg o ≤ kg (rn S (-1074)) + 55 := by
  by_cases q : kg o ≤ 55
  · omega
  · have ob : 56 * BIN ≤ o := by unfold kg at q; unfold BIN at *; omega
    obtain ⟨p, hp⟩ : ∃ p, o = p + 55 * BIN := ⟨o - 55 * BIN, by omega⟩
    have hk : kg o = kg p + 55 := by unfold kg; unfold BIN at *; omega
    have hm : mg o = mg p := by
      unfold mg
      unfold BIN at *
      rw [if_neg (by omega), if_neg (by omega)]
      omega
    have hv : vl o = vl p * 36028797018963968 := by
      unfold vl
      rw [hk, hm, Nat.pow_add, ← Nat.mul_assoc]
    have h1 : vl p ≤ S := by omega
    have h2 := rn_mono (p := -1074) h1
    rw [rn_vl (show p < INF by omega)] at h2
    have := kg_mono h2
    omega
theorem log_mg (r : Nat) : (mg r).log2 ≤ 52 := by
  by_cases z : mg r = 0
  · rw [z]; decide
  · have := (Nat.log2_lt z (k := 53)).2 (mg_lt r); omega
theorem rn_some {M : Nat} {p : Int} (hM : 1 ≤ M) (hp : -1074 ≤ p) : 1 ≤ rn M p := by
  have h : leV 1 (-1074) M p := by
    unfold leV
    rw [show min (-1074) p = -1074 by omega]
    have := Nat.two_pow_pos (p - -1074).toNat
    simp only [Int.sub_self, Int.toNat_zero, Nat.pow_zero, Nat.mul_one]
    exact Nat.le_trans hM (Nat.le_mul_of_pos_right _ this)
  have := rn_le h
  rw [rn_one] at this
  exact this
theorem quo_neg {R o : Nat} (hR : R < INF) (hR0 : 0 < R) (ho : o < INF) (ho0 : 0 < o) (hk : kg o ≤ kg R + 55) : ∃ r, fRun .quo (FloatKind.f64.format.word true R) (FloatKind.f64.format.word false o) = some (FloatKind.f64.format.word true r) ∧ 0 < r ∧ r ≤ INF := by
  have hm : mg o ≠ 0 := by
    intro e
    have : vl o = 0 := by unfold vl; rw [e, Nat.zero_mul]
    have := (vl_zero_iff o).1 this
    omega
  have hmR : mg R ≠ 0 := by
    intro e
    have : vl R = 0 := by unfold vl; rw [e, Nat.zero_mul]
    have := (vl_zero_iff R).1 this
    omega
  have fd : FloatKind.f64.format.fractionBits + 2 = 54 := rfl
  show ∃ r, FloatKind.f64.format.div _ _ = _ ∧ _
  simp only [Ieee.Format.div, read_wd true hR, read_wd false ho, Ieee.Datum.quotient, fd, if_neg hm, Option.map_some, write_num]
  refine ⟨_, rfl, rn_some ?_ ?_, rn_inf _ _⟩
  · have hd : 0 < mg R <<< (54 + (mg o).log2 - (mg R).log2) := by rw [Nat.shiftLeft_eq]; exact Nat.mul_pos (by omega) (Nat.two_pow_pos _)
    generalize mg R <<< (54 + (mg o).log2 - (mg R).log2) = D at *
    by_cases z : D % mg o = 0
    · have := Nat.div_add_mod D (mg o)
      have : D / mg o ≠ 0 := by intro e; rw [e, z] at this; omega
      omega
    · have : (D % mg o != 0) = true := by simpa using z
      rw [this]
      show 1 ≤ _ + 1
      omega
  · have := log_mg o
    omega
theorem margin_neg {x o : Nat} (hx : rg x < INF) (ho : rg o < INF) (lo : o < 18446744073709551616) (h0 : 0 < sv o) (h : sv x < sv o) :
    ∃ d r, fRun .sub x o = some d ∧ fRun .quo d o = some r ∧ key r < 0 ∧ rg r ≤ INF := by
  have so : sg o = false := by
    cases e : sg o
    · rfl
    · unfold sv at h0; rw [if_pos e] at h0; omega
  have vo : sv o = (vl (rg o) : Int) := by unfold sv; rw [so]; rfl
  have eo : o = FloatKind.f64.format.word false (rg o) := by have := word_self lo; rw [so] at this; exact this
  have o0 : 0 < rg o := by
    rcases Nat.eq_zero_or_pos (rg o) with e | e
    · rw [vo, e, vl_nil] at h0; omega
    · exact e
  obtain ⟨S, hS⟩ : ∃ S : Nat, sv x - sv o = -(S : Int) := ⟨(sv o - sv x).toNat, by omega⟩
  have S1 : 1 ≤ S := by omega
  have hd : fRun .sub x o = some (FloatKind.f64.format.word true (rn S (-1074))) := by
    rw [fsub_rd hx ho, hS]
    unfold rdS
    rw [if_neg (by omega), show decide (-(S : Int) < 0) = true by simp; omega, Int.natAbs_neg, Int.natAbs_natCast]
  have hg : vl (rg o) ≤ S * 18014398509481984 := by
    cases e : sg x
    · have vx : sv x = (vl (rg x) : Int) := by unfold sv; rw [e]; rfl
      have hlt : rg x < rg o := (vl_lt_iff _ _).1 (by omega)
      have g := gap hlt
      have : S = vl (rg o) - vl (rg x) := by omega
      rw [this]
      exact g
    · have vx : sv x = -(vl (rg x) : Int) := by unfold sv; rw [if_pos e]
      omega
  refine ⟨FloatKind.f64.format.word true (rn S (-1074)), ?_⟩
  by_cases q : rn S (-1074) < INF
  · have R0 : 0 < rn S (-1074) := by
      have := rn_mono (p := -1074) S1
      rw [rn_one] at this
      omega
    obtain ⟨r, e, r0, r1⟩ := quo_neg q R0 ho o0 (kg_gap ho hg q)
    refine ⟨FloatKind.f64.format.word true r, hd, ?_, ?_, ?_⟩
    · have e2 := e
      rw [← eo] at e2
      exact e2
    · rw [key_word true r1, if_pos rfl]; omega
    · rw [(wd_parts true r1).1]; exact r1
  · have e : rn S (-1074) = INF := by have := rn_inf S (-1074); omega
    rw [e] at hd ⊢
    refine ⟨FloatKind.f64.format.word true INF, hd, ?_, ?_, ?_⟩
    · have e2 : fRun .quo (FloatKind.f64.format.word true INF) (FloatKind.f64.format.word false (rg o)) = some (FloatKind.f64.format.word true INF) := by
        show FloatKind.f64.format.div _ _ = _
        simp only [Ieee.Format.div, read_wdI, read_wd false ho, Ieee.Datum.quotient, Option.map_some]
        rfl
      rw [← eo] at e2
      exact e2
    · rw [key_word true (Nat.le_refl _), if_pos rfl]; decide
    · rw [(wd_parts true (Nat.le_refl _)).1]; exact Nat.le_refl _
end Go.Proofs.Ytjahjhddokaopaa
