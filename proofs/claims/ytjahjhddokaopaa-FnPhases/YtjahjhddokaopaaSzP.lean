/-
What is proved: the size of a number as the laws tell it; a few numbers that stand in the laws.
-/
import Derived.Test.YtjahjhddokaopaaRq

namespace Go.Proofs.Ytjahjhddokaopaa
set_option maxRecDepth 40000
open Go.ChangeShapes Go.WideShapes Go.ChangeAt Go.RowKit
set_option linter.unusedVariables false
set_option linter.unusedSimpArgs false

theorem fl_is {x r : Nat} (h : Fl x (some r)) : x = r := by
  rcases h.2 with ⟨_, e⟩ | ⟨_, e⟩
  · simpa using e.symm
  · cases e
theorem fin_fl {x : Nat} (h : Fin x) : Fl x (some x) := ⟨h.1, .inl ⟨Nat.le_of_lt h.2, rfl⟩⟩
theorem fin_op {f : BinOp} (ff : isF f = true) {x y r : Nat} (h : fRun f x y = some r) (w : World) : (binOp f 24 (.float .f64 x) (.float .f64 y)).run Try.prog w = .ok (.float .f64 r) w := by
  rw [fRun_ran ff, h]
theorem rv_zero : rv 0 = 0 := by
  rw [rv_vl]
  have e1 : sg 0 = false := by decide
  have e2 : rg 0 = 0 := by decide
  rw [e1, e2, vl_nil]
  have := U_pos
  simp
  grind
theorem fin_zero : Fin 0 := ⟨by decide, by decide⟩
theorem rv_lit {x m k : Nat} (hs : sg x = false) (hm : mg (rg x) = m) (hk : kg (rg x) + k = EXP) : rv x * ((2 ^ k : Nat) : Rat) = (m : Rat) := by
  rw [rv_vl, hs]
  have hU := U_pos
  have e1 : (vl (rg x) : Rat) = (m : Rat) * ((2 ^ kg (rg x) : Nat) : Rat) := by unfold vl; rw [hm]; push_cast; rfl
  have e2 : U = ((2 ^ kg (rg x) : Nat) : Rat) * ((2 ^ k : Nat) : Rat) := by unfold U UN; rw [← hk, Nat.pow_add]; push_cast; rfl
  have p1 : (0 : Rat) < ((2 ^ kg (rg x) : Nat) : Rat) := castp (Nat.two_pow_pos _)
  have p2 : (0 : Rat) < ((2 ^ k : Nat) : Rat) := castp (Nat.two_pow_pos _)
  rw [e1, e2]
  simp only [Bool.false_eq_true, if_false]
  generalize ((2 ^ kg (rg x) : Nat) : Rat) = P at *
  generalize ((2 ^ k : Nat) : Rat) = Q at *
  grind
theorem gt_rv {x y : Nat} (hx : Fin x) (hy : Fin y) : (FloatKind.f64.format.order x y == some .gt) = decide (rv y < rv x) := by
  rw [← lt_rv hy hx, order_rv hx hy, order_rv hy hx]
  rcases Int.lt_trichotomy (sv x) (sv y) with h | h | h
  · rw [Int.compare_eq_lt.2 h, Int.compare_eq_gt.2 h]; rfl
  · rw [h]; simp
  · rw [Int.compare_eq_lt.2 h, Int.compare_eq_gt.2 h]; rfl
theorem rv_rg {x : Nat} (h : sg x = true) : rv (rg x) = -rv x := by
  rw [rv_vl, rv_vl]
  have e1 : sg (rg x) = false := by unfold sg rg; rw [show x % 9223372036854775808 / 9223372036854775808 = 0 by omega]; rfl
  have e2 : rg (rg x) = rg x := Nat.mod_eq_of_lt (Nat.mod_lt _ (by decide))
  rw [e1, e2, h]
  simp
theorem rv_neg {x : Nat} (h : rv x < 0) : sg x = true := by
  cases e : sg x
  · rw [rv_vl, e] at h
    have hU := U_pos
    have p : (0 : Rat) ≤ (vl (rg x) : Rat) := by exact_mod_cast Nat.zero_le _
    have : (0 : Rat) ≤ (vl (rg x) : Rat) / U := by
      have e2 : (vl (rg x) : Rat) / U * U = vl (rg x) := by grind
      exact mulc hU (by rw [e2]; grind)
    simp at h
    grind
  · rfl
theorem neg_word {x : Nat} (hx : x < 18446744073709551616) (hs : sg x = true) : x ^^^ 2 ^ 63 = rg x := by
  have w1 := word_of hx
  rw [hs, if_pos rfl] at w1
  have hr : rg x < 2 ^ 63 := Nat.mod_lt _ (by decide)
  generalize rg x = r at *
  have e : x = 2 ^ 63 + r := w1
  subst e
  apply Nat.eq_of_testBit_eq
  intro i
  rw [Nat.testBit_xor]
  rcases Nat.lt_trichotomy i 63 with h | h | h
  · rw [Nat.testBit_two_pow_add_gt h, Nat.testBit_two_pow_of_ne (by omega)]; simp
  · subst h
    rw [Nat.testBit_two_pow_add_eq, Nat.testBit_two_pow_self, Nat.testBit_lt_two_pow hr]; rfl
  · have p : 2 ^ 64 ≤ 2 ^ i := Nat.pow_le_pow_right (by decide) (by omega)
    rw [Nat.testBit_lt_two_pow (x := 2 ^ 63 + r) (by omega), Nat.testBit_lt_two_pow (x := 2 ^ 63) (by omega), Nat.testBit_lt_two_pow (x := r) (by omega)]; rfl
theorem neg_run (x : Nat) (w : World) : Sem.run Try.prog (Op.unary UnOp.neg (Value.float .f64 x)) w = .ok (.float .f64 (x ^^^ 2 ^ 63)) w := rfl

def Sized (x y : Nat) : Prop := Fin y ∧ 0 ≤ rv y ∧ (rv y = rv x ∨ rv y = -rv x)
set_option maxHeartbeats 400000 in
theorem size_any (x : Nat) (hx : Fin x) (w : World) : Calls Try.prog 20 #[.float .f64 x] w fun e w' => ∃ y, e = .returned (.float .f64 y) ∧ Sized x y ∧ w' = w := by
  have h0 := lt_rv hx fin_zero
  rw [rv_zero] at h0
  cases k : (FloatKind.f64.format.order x 0 == some .lt)
  · rw [k] at h0
    have h1 : ¬ rv x < 0 := fun q => by rw [decide_eq_true q] at h0; cases h0
    have HS : Hid (Sized x x) := ⟨hx, by grind, Or.inl rfl⟩
    clear h0 h1
    go_enter Try.func20, Try.ntmps20
    go_wp2
    go_ret
    exact ⟨x, rfl, HS.out, rfl⟩
  · rw [k] at h0
    have h1 : rv x < 0 := of_decide_eq_true h0.symm
    have hs := rv_neg h1
    have hn' : ∀ w, Sem.run Try.prog (Op.unary UnOp.neg (Value.float .f64 x)) w = .ok (.float .f64 (rg x)) w := fun w => by rw [← neg_word hx.1 hs]; exact neg_run x w
    have HS : Hid (Sized x (rg x)) := ⟨⟨Nat.lt_of_lt_of_le (Nat.mod_lt _ (by decide)) (by decide), by rw [show rg (rg x) = rg x from Nat.mod_eq_of_lt (Nat.mod_lt _ (by decide))]; exact hx.2⟩, by rw [rv_rg hs]; grind, Or.inr (rv_rg hs)⟩
    clear h0 h1 hs
    go_enter Try.func20, Try.ntmps20
    go_wp2
    go_ret
    exact ⟨rg x, rfl, HS.out, rfl⟩
end Go.Proofs.Ytjahjhddokaopaa
