/-
What is proved: the size of a float, as both packages tell it; how far two floats lie apart, and whether that is at most, or above, a third.
-/
import Derived.Test.YtffbpidldnbgaaaNnF
import Derived.Test.YtffbpidldnbgaaaFmin
namespace Go.Proofs.Ytffbpidldnbgaaa
set_option maxRecDepth 40000
open Go.RowKit
set_option linter.unusedVariables false
set_option linter.unusedSimpArgs false

theorem neg_word {x : Nat} (hx : x < 18446744073709551616) (hs : sg x = true) : x ^^^ 2 ^ 63 = rg x := by
  have w1 := word_of hx
  rw [hs, if_pos rfl] at w1
  have hr : rg x < 2 ^ 63 := Nat.mod_lt _ (by decide)
  generalize rg x = r at *
  have e : x = 2 ^ 63 + r := w1
  subst e
  apply Nat.eq_of_testBit_eq
  intro i
  rw [Nat.testBit_xor]
  rcases Nat.lt_trichotomy i 63 with h | h | h
  · rw [Nat.testBit_two_pow_add_gt h, Nat.testBit_two_pow_of_ne (by omega)]; simp
  · subst h
    rw [Nat.testBit_two_pow_add_eq, Nat.testBit_two_pow_self, Nat.testBit_lt_two_pow hr]; rfl
  · have p : 2 ^ 64 ≤ 2 ^ i := Nat.pow_le_pow_right (by decide) (by omega)
    rw [Nat.testBit_lt_two_pow (x := 2 ^ 63 + r) (by omega), Nat.testBit_lt_two_pow (x := 2 ^ 63) (by omega), Nat.testBit_lt_two_pow (x := r) (by omega)]; rfl
theorem pos_word {x : Nat} (hx : x < 18446744073709551616) (hs : sg x = false) : x = rg x := by
  have w1 := word_of hx
  rw [hs] at w1
  simpa using w1
theorem ret_flt {k : FloatKind} {a b : Nat} (h : a = b) : Ending.returned (.float k a) = .returned (.float k b) := by rw [h]

theorem neg_run (x : Nat) (w : World) : Sem.run Try.prog (Op.unary UnOp.neg (Value.float .f64 x)) w = .ok (.float .f64 (x ^^^ 2 ^ 63)) w := rfl

set_option maxHeartbeats 400000 in
theorem l1Size_any (x : Nat) (hx : x < 18446744073709551616) (hn : rg x ≤ INF) (w : World) : Calls Try.prog 40 #[.float .f64 x] w fun e w' => e = .returned (.float .f64 (rg x)) ∧ w' = w := by
  have M : Hid (∀ w, Calls Try.prog 36 #[.float .f64 x] w fun e w' => e = .returned (.bool (minusB x)) ∧ w' = w) := fun w => l1Minus_any x hx w
  have e1 : minusB x = sg x := by unfold minusB; rw [decide_eq_true (by omega)]; rfl
  rw [e1] at M
  clear e1
  cases hs : sg x
  · rw [hs] at M
    have H : Hid (x = rg x) := pos_word hx hs
    clear hx hn hs
    go_enter Try.func40, Try.ntmps40
    go_wp2_with fail
    refine (M.out _).mono ?_
    rintro e w1 ⟨rfl, rfl⟩
    go_wp2
    go_ret
    exact ⟨ret_flt H.out, rfl⟩
  · rw [hs] at M
    have hn' : ∀ w, Sem.run Try.prog (Op.unary UnOp.neg (Value.float .f64 x)) w = .ok (.float .f64 (rg x)) w := fun w => by rw [← neg_word hx hs]; exact neg_run x w
    clear hx hn hs
    go_enter Try.func40, Try.ntmps40
    go_wp2_with fail
    refine (M.out _).mono ?_
    rintro e w1 ⟨rfl, rfl⟩
    go_wp2
    go_ret
    exact ⟨rfl, rfl⟩
def leqB (o : Option Ordering) : Bool := o == some .lt || o == some .eq
def sizeO : Option Nat → Option Nat
  | some x => some (rg x)
  | none => none
theorem rg_rg (x : Nat) : rg (rg x) = rg x := Nat.mod_eq_of_lt (Nat.mod_lt _ (by decide))
theorem rg_lt (x : Nat) : rg x < 18446744073709551616 := Nat.lt_of_lt_of_le (Nat.mod_lt _ (by decide)) (by decide)
theorem fl_size {x : Nat} {o : Option Nat} (h : Fl x o) : Fl (rg x) (sizeO o) := by
  rcases h.2 with ⟨p, rfl⟩ | ⟨p, rfl⟩
  · exact ⟨rg_lt x, .inl ⟨by rw [rg_rg]; exact p, rfl⟩⟩
  · exact ⟨rg_lt x, .inr ⟨by rw [rg_rg]; exact p, rfl⟩⟩
set_option maxHeartbeats 400000 in
theorem l1SizeF_any {x : Nat} {o : Option Nat} (h : Fl x o) (w : World) : Calls Try.prog 40 #[.float .f64 x] w fun e w' => ∃ r, e = .returned (.float .f64 r) ∧ Fl r (sizeO o) ∧ w' = w := by
  by_cases hn : rg x ≤ INF
  · exact (l1Size_any x h.1 hn w).mono fun e w' ⟨h1, h2⟩ => ⟨_, h1, fl_size h, h2⟩
  · have M : Hid (∀ w, Calls Try.prog 36 #[.float .f64 x] w fun e w' => e = .returned (.bool (minusB x)) ∧ w' = w) := fun w => l1Minus_any x h.1 w
    have e1 : minusB x = false := by unfold minusB; rw [decide_eq_false (by omega)]; rfl
    rw [e1] at M
    have HX : Hid (Fl x (sizeO o)) := show Fl x (sizeO o) by
      rcases h.2 with ⟨p, rfl⟩ | ⟨p, rfl⟩
      · omega
      · exact h
    clear e1 h hn
    go_enter Try.func40, Try.ntmps40
    go_wp2_with fail
    refine (M.out _).mono ?_
    rintro e w1 ⟨rfl, rfl⟩
    go_wp2
    go_ret
    exact ⟨x, rfl, HX.out, rfl⟩
def distO (o v : Option Nat) : Option Nat := sizeO (opO .sub o v)
def nearO (o v a : Option Nat) : Bool := leqB (ordO (distO o v) a)
def farO (o v a : Option Nat) : Bool := ordO (distO o v) a == some .gt
end Go.Proofs.Ytffbpidldnbgaaa
