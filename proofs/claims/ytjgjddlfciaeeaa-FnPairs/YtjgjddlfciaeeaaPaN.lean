/-
What is proved: products and sums of float64s do not ask which stands first; what the power of a pair with itself is.
-/
import Derived.Test.YtjgjddlfciaeeaaPairT
import Derived.Test.YtjgjddlfciaeeaaMno
namespace Go.Proofs.Ytjgjddlfciaeeaa
set_option maxRecDepth 40000
open Go.ChangeShapes Go.WideShapes Go.ChangeAt Go.RowKit
set_option linter.unusedVariables false
set_option linter.unusedSimpArgs false

theorem prod_comm (a b : Ieee.Datum) : a.product b = b.product a := by
  cases a <;> cases b <;> simp [Ieee.Datum.product, Bool.xor_comm, Nat.mul_comm, Int.add_comm]
theorem sum_comm (a b : Ieee.Datum) : a.sum b = b.sum a := by
  cases a with
  | nan s t => cases b <;> rfl
  | infinity s =>
    cases b with
    | nan => rfl
    | infinity t =>
      simp only [Ieee.Datum.sum]
      by_cases h : s = t
      · subst h; rfl
      · rw [if_neg h, if_neg (fun e => h e.symm)]
    | number => rfl
  | number s m i =>
    cases b with
    | nan => rfl
    | infinity t => rfl
    | number t n j =>
      simp only [Ieee.Datum.sum]
      rw [Int.min_comm j i, Int.add_comm (Ieee.signed t n _), Bool.and_comm t s]
theorem fmul_comm (x y : Nat) : fRun .mul x y = fRun .mul y x := by
  show Option.map _ _ = Option.map _ _
  rw [prod_comm]
theorem fadd_comm (x y : Nat) : fRun .add x y = fRun .add y x := by
  show Option.map _ _ = Option.map _ _
  rw [sum_comm]
theorem omul_comm (a b : Option Nat) : opO .mul a b = opO .mul b a := by
  cases a <;> cases b <;> first | rfl | exact fmul_comm _ _
theorem oadd_comm (a b : Option Nat) : opO .add a b = opO .add b a := by
  cases a <;> cases b <;> first | rfl | exact fadd_comm _ _
theorem mulRe_comm (a b c d : Option Nat) : mulRe a b c d = mulRe c d a b := by unfold mulRe; rw [omul_comm a c, omul_comm b d]
theorem mulIm_comm (a b c d : Option Nat) : mulIm a b c d = mulIm c d a b := by unfold mulIm; rw [oadd_comm, omul_comm a d, omul_comm b c]
theorem fl_same {x y : Nat} {o : Option Nat} (hx : Fl x o) (hy : Fl y o) : sameB x y = true := by
  rcases hx.2 with ⟨a, rfl⟩ | ⟨a, rfl⟩ <;> rcases hy.2 with ⟨b, e⟩ | ⟨b, e⟩
  · cases e; unfold sameB; simp
  · cases e
  · cases e
  · rw [same_nan a]; exact decide_eq_true b
/-- Two words of one number: they are equal, or both are NaNs. -/
theorem fl_eq {x y : Nat} {o : Option Nat} (hx : Fl x o) (hy : Fl y o) : (FloatKind.f64.format.order x y == some .eq) = true ∨ ((FloatKind.f64.format.order x y == some .eq) = false ∧ (FloatKind.f64.format.order x x != some .eq) = true) := by
  rcases hx.2 with ⟨a, rfl⟩ | ⟨a, rfl⟩ <;> rcases hy.2 with ⟨b, e⟩ | ⟨b, e⟩
  · cases e; left; rw [order_self a]; rfl
  · cases e
  · cases e
  · right; rw [order_nan_l a, order_nan_l a]; exact ⟨rfl, rfl⟩
theorem wd_parts (s : Bool) {r : Nat} (h : r ≤ INF) : rg (FloatKind.f64.format.word s r) = r ∧ sg (FloatKind.f64.format.word s r) = s := by
  unfold Ieee.Format.word
  rw [fmt_sign]
  have : INF < 9223372036854775808 := by decide
  unfold rg sg
  cases s
  · simp; omega
  · simp; omega
theorem read_wd (s : Bool) {r : Nat} (h : r < INF) : FloatKind.f64.format.read (FloatKind.f64.format.word s r) = .number s (mg r) (-1074 + (kg r : Int)) := by
  obtain ⟨a, b⟩ := wd_parts s (Nat.le_of_lt h)
  rw [read_gen (by rw [a]; exact h), a, b]
theorem read_wdI (s : Bool) : FloatKind.f64.format.read (FloatKind.f64.format.word s INF) = .infinity s := by
  obtain ⟨a, b⟩ := wd_parts s (Nat.le_refl INF)
  rw [read_inf a, b]
/-- A number less 0's opposite: its sign turned, a nought without one. -/
theorem neg_of {y : Nat} (hy : rg y < INF) : conjIm (some y) = some (FloatKind.f64.format.word (if rg y = 0 then false else !sg y) (rg y)) := by
  show Option.map FloatKind.f64.format.write _ = _
  rw [read_zero, read_gen hy]
  show some (FloatKind.f64.format.nearest _ _ _) = _
  have hb : min (-1074 : Int) (-1074 + (kg (rg y) : Int)) = -1074 := by omega
  simp only [hb]
  have e1 : Ieee.signed false 0 ((-1074 : Int) - -1074).toNat = 0 := by simp [Ieee.signed]
  have e2 : ((-1074 : Int) + (kg (rg y) : Int) - -1074).toNat = kg (rg y) := by omega
  rw [e1, e2, Int.zero_add]
  have e3 : (Ieee.signed (!sg y) (mg (rg y)) (kg (rg y))).natAbs = mg (rg y) * 2 ^ kg (rg y) := by
    unfold Ieee.signed
    rw [Nat.shiftLeft_eq]
    split <;> omega
  rw [e3, nearest_exact _ hy _ (by omega)]
  have hz : rg y = 0 ↔ mg (rg y) * 2 ^ kg (rg y) = 0 := by
    show _ ↔ vl (rg y) = 0
    have v0 : vl 0 = 0 := (vl_sub (show 0 < BIN by decide)).1
    exact ⟨fun h => by rw [h, v0], fun h => vl_inj (by rw [h, v0])⟩
  congr 2
  by_cases h0 : rg y = 0
  · rw [if_pos h0]
    have : Ieee.signed (!sg y) (mg (rg y)) (kg (rg y)) = 0 := by
      have := hz.1 h0
      omega
    rw [if_pos this]
    rfl
  · rw [if_neg h0]
    have hp : 0 < mg (rg y) * 2 ^ kg (rg y) := Nat.pos_of_ne_zero (fun h => h0 (hz.2 h))
    have hne : Ieee.signed (!sg y) (mg (rg y)) (kg (rg y)) ≠ 0 := by omega
    rw [if_neg hne]
    unfold Ieee.signed
    rw [Nat.shiftLeft_eq]
    clear hne hz e3 e2 e1 hb
    generalize mg (rg y) * 2 ^ kg (rg y) = V at *
    cases sg y
    · exact decide_eq_true (show (-(V : Int)) < 0 by omega)
    · exact decide_eq_false (show ¬ ((V : Int) < 0) by omega)
theorem fmul_num {s t : Bool} {a b : Nat} (ha : a < INF) (hb : b < INF) : fRun .mul (FloatKind.f64.format.word s a) (FloatKind.f64.format.word t b) = some (FloatKind.f64.format.word (s ^^ t) (rn (mg a * mg b) (-1074 + (kg a : Int) + (-1074 + (kg b : Int))))) := by
  show Option.map FloatKind.f64.format.write _ = _
  rw [read_wd s ha, read_wd t hb]
  show some (FloatKind.f64.format.nearest _ _ _) = _
  rw [nearest_rn]
theorem fadd_cancel {s t : Bool} {r : Nat} (hr : r < INF) (h : s = !t ∨ r = 0) : ∃ v, fRun .add (FloatKind.f64.format.word s r) (FloatKind.f64.format.word t r) = some v ∧ rg v = 0 := by
  refine ⟨FloatKind.f64.format.word (s && t) 0, ?_, (wd_parts _ (Nat.zero_le _)).1⟩
  show Option.map FloatKind.f64.format.write _ = _
  rw [read_wd s hr, read_wd t hr]
  show some (FloatKind.f64.format.nearest _ _ _) = _
  have e : Ieee.signed s (mg r) (-1074 + (kg r : Int) - min (-1074 + (kg r : Int)) (-1074 + (kg r : Int))).toNat + Ieee.signed t (mg r) (-1074 + (kg r : Int) - min (-1074 + (kg r : Int)) (-1074 + (kg r : Int))).toNat = 0 := by
    rcases h with h | h
    · subst h
      unfold Ieee.signed
      cases t <;> simp <;> omega
    · subst h
      have : mg 0 = 0 := by decide
      rw [this]
      unfold Ieee.signed
      simp
  rw [e]
  simp only [if_true]
  unfold Ieee.Format.nearest
  simp
/-- A sum with something infinite, nothing below 0 in it. -/
theorem fsub_inf {a b : Nat} (ha : a ≤ INF) (hb : b ≤ INF) (h : a = INF ∨ b = INF) : ∃ v, fRun .sub (FloatKind.f64.format.word false a) (FloatKind.f64.format.word true b) = some v ∧ rg v = INF := by
  refine ⟨FloatKind.f64.format.word false INF, ?_, (wd_parts _ (Nat.le_refl _)).1⟩
  show Option.map FloatKind.f64.format.write _ = _
  have hw : FloatKind.f64.format.write (.infinity false) = FloatKind.f64.format.word false INF := by
    show FloatKind.f64.format.word false FloatKind.f64.format.infRung = _
    rw [fmt_inf]; rfl
  by_cases ea : a = INF
  · subst ea
    rw [read_wdI]
    by_cases eb : b = INF
    · subst eb
      rw [read_wdI]
      exact congrArg some hw
    · rw [read_wd true (by omega)]
      exact congrArg some hw
  · obtain rfl : b = INF := h.resolve_left ea
    rw [read_wd false (by omega), read_wdI]
    exact congrArg some hw
theorem leV_sq {a b : Nat} {p q : Int} (h : leV a p b q) : leV (a * b) (p + q) (b * b) (q + q) := by
  unfold leV at *
  have e1 : (p + q - min (p + q) (q + q)).toNat = (p - min p q).toNat := by omega
  have e2 : (q + q - min (p + q) (q + q)).toNat = (q - min p q).toNat := by omega
  rw [e1, e2, Nat.mul_right_comm, Nat.mul_right_comm b b]
  exact Nat.mul_le_mul_right b h
theorem leV_total (a : Nat) (p : Int) (b : Nat) (q : Int) : leV a p b q ∨ leV b q a p := by
  unfold leV
  rw [Int.min_comm q p]
  omega
theorem word_self {x : Nat} (lx : x < 18446744073709551616) : x = FloatKind.f64.format.word (sg x) (rg x) := by
  have h := word_of lx
  unfold Ieee.Format.word
  rw [fmt_sign]
  by_cases hs : sg x = true
  · rw [if_pos hs] at h ⊢
    exact h
  · rw [if_neg hs] at h ⊢
    rw [Nat.zero_add] at h
    exact h
theorem power_self {x y : Nat} (lx : x < 18446744073709551616) (ly : y < 18446744073709551616) (hx : rg x < INF) (hy : rg y < INF) : (∃ v, mulIm (some x) (some y) (some x) (conjIm (some y)) = some v ∧ rg v = 0) ∨ (∃ v, mulRe (some x) (some y) (some x) (conjIm (some y)) = some v ∧ rg v = INF) := by
  have wx := word_self lx
  have wy := word_self ly
  rw [neg_of hy]
  generalize sg x = sx at *
  generalize sg y = sy at *
  generalize rg x = a at *
  generalize rg y = b at *
  obtain ⟨su, hsu⟩ : ∃ su, (if b = 0 then false else !sy) = su := ⟨_, rfl⟩
  rw [hsu, wx, wy]
  unfold mulIm mulRe
  show (∃ v, opO .add (fRun .mul _ _) (fRun .mul _ _) = some v ∧ rg v = 0) ∨ (∃ v, opO .sub (fRun .mul _ _) (fRun .mul _ _) = some v ∧ rg v = INF)
  rw [fmul_num hx hy, fmul_num hy hx, fmul_num hx hx, fmul_num hy hy]
  have ec : rn (mg b * mg a) (-1074 + (kg b : Int) + (-1074 + (kg a : Int))) = rn (mg a * mg b) (-1074 + (kg a : Int) + (-1074 + (kg b : Int))) := by rw [Nat.mul_comm, Int.add_comm]
  rw [ec]
  by_cases hR : rn (mg a * mg b) (-1074 + (kg a : Int) + (-1074 + (kg b : Int))) < INF
  · left
    refine fadd_cancel hR ?_
    by_cases hb : b = 0
    · right
      subst hb
      have : mg 0 = 0 := by decide
      rw [this, Nat.mul_zero]
      rfl
    · left
      rw [← hsu, if_neg hb]
      cases sx <;> cases sy <;> rfl
  · right
    have hI : rn (mg a * mg b) (-1074 + (kg a : Int) + (-1074 + (kg b : Int))) = INF := by
      have := rn_inf (mg a * mg b) (-1074 + (kg a : Int) + (-1074 + (kg b : Int)))
      omega
    have hb : b ≠ 0 := by
      rintro rfl
      have : mg 0 = 0 := by decide
      rw [this, Nat.mul_zero] at hI
      have : rn 0 (-1074 + (kg a : Int) + (-1074 + (kg 0 : Int))) = 0 := by unfold rn; rw [if_pos rfl]
      rw [this] at hI
      exact absurd hI (by decide)
    have es : (sx ^^ sx) = false := by cases sx <;> rfl
    have et : (sy ^^ su) = true := by rw [← hsu, if_neg hb]; cases sy <;> rfl
    rw [es, et]
    refine fsub_inf (rn_inf _ _) (rn_inf _ _) ?_
    rcases leV_total (mg a) (-1074 + (kg a : Int)) (mg b) (-1074 + (kg b : Int)) with h | h
    · right
      have := rn_le (leV_sq h)
      rw [hI] at this
      have := rn_inf (mg b * mg b) (-1074 + (kg b : Int) + (-1074 + (kg b : Int)))
      omega
    · left
      have := rn_le (leV_sq h)
      rw [ec, hI] at this
      have := rn_inf (mg a * mg a) (-1074 + (kg a : Int) + (-1074 + (kg a : Int)))
      omega
theorem sub_self_o {x : Nat} (hx : rg x < INF) : opO .sub (some x) (some x) = some 0 := sub_self_fin hx
end Go.Proofs.Ytjgjddlfciaeeaa
