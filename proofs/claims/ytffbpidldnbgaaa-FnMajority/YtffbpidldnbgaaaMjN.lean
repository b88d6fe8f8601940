/-
What is proved: the mean of floats of at most a million lies, to a tenth of a millionth, between the least and the greatest of them.
-/
import Derived.Test.YtffbpidldnbgaaaSzM
import Derived.Test.YtffbpidldnbgaaaVal
import Derived.Test.YtffbpidldnbgaaaExM
namespace Go.Proofs.Ytffbpidldnbgaaa
set_option maxRecDepth 40000
open Go.ChangeShapes Go.WideShapes Go.ChangeAt Go.RowKit
set_option linter.unusedVariables false
set_option linter.unusedSimpArgs false

theorem rv_itf {c : Nat} (h : c ≤ 1000) : Fin (itf (c : Int)) ∧ rv (itf (c : Int)) = (c : Rat) := by
  have h1 : WN EXP (itf (c : Int)) (c : Int) := wn_of EXP_is (by omega)
  refine ⟨⟨h1.1, h1.2.1⟩, ?_⟩
  have hU := U_pos
  unfold rv
  rw [h1.2.2]
  have e : (((c : Int) * ((2 ^ EXP : Nat) : Int) : Int) : Rat) = (c : Rat) * U := by unfold U UN; push_cast; rfl
  rw [e]
  grind
/-- A friend: a number of at most a million between two. -/
def Frd (lo hi : Rat) (o : Option Nat) : Prop := ∃ y, o = some y ∧ Fin y ∧ -1000000 ≤ rv y ∧ rv y ≤ 1000000 ∧ lo ≤ rv y ∧ rv y ≤ hi
theorem sum_num {V : Nat → Option Nat} {p : Nat → Bool} {lo hi : Rat} : ∀ k, k ≤ 16 → (∀ j, j < k → p j = true → Frd lo hi (V j)) → ∃ S, sumL (thL V p k) = some S ∧ Fin S ∧ (cnt p k : Rat) * lo - (cnt p k : Rat) * (3 / 100000000) ≤ rv S ∧ rv S ≤ (cnt p k : Rat) * hi + (cnt p k : Rat) * (3 / 100000000) ∧ -((cnt p k : Rat) * 1000001) ≤ rv S ∧ rv S ≤ (cnt p k : Rat) * 1000001
  | 0, _, _ => by
    refine ⟨0, rfl, fin_zero, ?_⟩
    rw [rv_zero]
    have e : ((cnt p 0 : Nat) : Rat) = 0 := by show (((0 : Nat)) : Rat) = 0; rfl
    rw [e]
    refine ⟨?_, ?_, ?_, ?_⟩ <;> grind
  | k + 1, hk, h => by
    obtain ⟨S, h1, h2, h3, h4, h5, h6⟩ := sum_num k (by omega) (fun j hj => h j (by omega))
    cases e : p k
    · rw [th_no e, cnt_no e]
      exact ⟨S, h1, h2, h3, h4, h5, h6⟩
    · rw [th_yes e, cnt_yes e, sum_snoc, h1]
      obtain ⟨y, ey, fy, y1, y2, y3, y4⟩ := h k (by omega) e
      rw [ey]
      have hc := cnt_le p k
      have hc2 : (cnt p k : Rat) ≤ 16 := by
        have : cnt p k ≤ 16 := by omega
        exact_mod_cast this
      have hc0 : (0 : Rat) ≤ (cnt p k : Rat) := by exact_mod_cast Nat.zero_le _
      have ec : ((cnt p k + 1 : Nat) : Rat) = (cnt p k : Rat) + 1 := by push_cast; rfl
      rw [ec]
      generalize (cnt p k : Rat) = c at *
      obtain ⟨r, hr, fr, r1, r2⟩ := radd h2 fy 20000000 (by decide) (by grind) (by grind)
      refine ⟨r, hr, fr, ?_, ?_, ?_, ?_⟩ <;> grind
theorem mean_num {V : Nat → Option Nat} {p : Nat → Bool} {lo hi : Rat} {n : Nat} (hn : n ≤ 16) (hc : 0 < cnt p n) (h : ∀ j, j < n → p j = true → Frd lo hi (V j)) : ∃ x, opO .quo (sumL (thL V p n)) (some (itf (cnt p n : Int))) = some x ∧ Fin x ∧ lo - 1 / 10000000 ≤ rv x ∧ rv x ≤ hi + 1 / 10000000 := by
  obtain ⟨S, h1, h2, h3, h4, h5, h6⟩ := sum_num n hn h
  have hle := cnt_le p n
  obtain ⟨f1, f2⟩ := rv_itf (c := cnt p n) (by omega)
  have c0 : (0 : Rat) < (cnt p n : Rat) := castp hc
  rw [h1]
  generalize hcc : (cnt p n : Rat) = c at *
  have d0 : rv (itf (cnt p n : Int)) ≠ 0 := by rw [f2]; grind
  obtain ⟨q, hq⟩ : ∃ q, rv S / rv (itf (cnt p n : Int)) = q := ⟨_, rfl⟩
  have e1 : q * c = rv S := by rw [← hq, f2]; grind
  have k1 : lo - 3 / 100000000 ≤ q := mulc c0 (by rw [e1]; grind)
  have k2 : q ≤ hi + 3 / 100000000 := mulc c0 (by rw [e1]; grind)
  have k3 : -1000001 ≤ q := mulc c0 (by rw [e1]; grind)
  have k4 : q ≤ 1000001 := mulc c0 (by rw [e1]; grind)
  obtain ⟨x, hx, fx, x1, x2⟩ := rquo h2 f1 d0 1000001 (by decide) (by rw [hq]; exact k3) (by rw [hq]; exact k4)
  rw [hq] at x1 x2
  exact ⟨x, hx, fx, by grind, by grind⟩
theorem lit6 : Fin 4696837146684686336 ∧ rv 4696837146684686336 = 1000000 := by
  refine ⟨⟨by decide, by decide⟩, ?_⟩
  have h := rv_lit (x := 4696837146684686336) (m := 8589934592000000) (k := 33) (by decide) (by decide) (by decide)
  have e : ((2 ^ 33 : Nat) : Rat) = 8589934592 := by decide
  rw [e] at h
  have e2 : ((8589934592000000 : Nat) : Rat) = 8589934592000000 := by push_cast; rfl
  rw [e2] at h
  grind
theorem litm6 : Fin 4517329193108106637 ∧ 9 / 10000000 ≤ rv 4517329193108106637 ∧ rv 4517329193108106637 ≤ 11 / 10000000 := by
  refine ⟨⟨by decide, by decide⟩, ?_⟩
  have h := rv_lit (x := 4517329193108106637) (m := 4722366482869645) (k := 72) (by decide) (by decide) (by decide)
  have e : ((2 ^ 72 : Nat) : Rat) = 4722366482869645213696 := by decide
  rw [e] at h
  have e2 : ((4722366482869645 : Nat) : Rat) = 4722366482869645 := by push_cast; rfl
  rw [e2] at h
  constructor <;> grind
theorem small_of {x y : Nat} (hx : Fin x) (hs : Sized x y) (h : (FloatKind.f64.format.order y 4696837146684686336 == some .gt) = false) : -1000000 ≤ rv x ∧ rv x ≤ 1000000 := by
  obtain ⟨fy, y0, hy⟩ := hs
  rw [gt_rv fy lit6.1, lit6.2] at h
  have h1 : ¬ 1000000 < rv y := of_decide_eq_false h
  constructor <;> (rcases hy with e | e <;> grind)
theorem order_gt {x y : Nat} (hx : Fin x) (hy : Fin y) (h : rv y < rv x) : FloatKind.f64.format.order x y = some .gt := by
  have := gt_rv hx hy
  rw [decide_eq_true h] at this
  simpa using this
theorem order_lt {x y : Nat} (hx : Fin x) (hy : Fin y) (h : rv x < rv y) : FloatKind.f64.format.order x y = some .lt := by
  have := lt_rv hx hy
  rw [decide_eq_true h] at this
  simpa using this
end Go.Proofs.Ytffbpidldnbgaaa
