/-
What is proved: sets of faults as numbers, what fails by them; how the program asks a bit and sets one.
-/
import Derived.Test.YtpaiajeigdifcaaTr
import Derived.Laws.BitsLemmas
namespace Go.Proofs.Ytpaiajeigdifcaa
set_option maxRecDepth 40000
open Go.ChangeShapes Go.WideShapes Go.ChangeAt Go.RowKit
set_option linter.unusedVariables false
set_option linter.unusedSimpArgs false

def cntB (f : Nat) (v : Nat → Int) : Nat → Int
  | 0 => 0
  | j + 1 => cntB f v j + (if f.testBit (v j).toNat = true then 1 else 0)
theorem cnt_bound (f : Nat) (v : Nat → Int) (j : Nat) : 0 ≤ cntB f v j ∧ cntB f v j ≤ j := by
  induction j with
  | zero => exact ⟨Int.le_refl _, Int.le_refl _⟩
  | succ j ih =>
    unfold cntB
    split <;> omega
theorem cnt_same {f g : Nat} {v : Nat → Int} {j : Nat} (h : ∀ i, i < j → f.testBit (v i).toNat = g.testBit (v i).toNat) : cntB f v j = cntB g v j := by
  induction j with
  | zero => rfl
  | succ j ih =>
    unfold cntB
    rw [ih (fun i hi => h i (by omega)), h j (by omega)]
def fl (b x : Nat) (X : Nat → Int) (K : Nat → Nat) (V : Nat → Nat → Int) : Nat → Nat
  | 0 => b
  | k + 1 => if X k ≤ cntB (fl b x X K V k) (V k) (K k) then fl b x X K V k ||| 2 ^ (x + k) else fl b x X K V k
theorem fl_lt {b x : Nat} {X : Nat → Int} {K : Nat → Nat} {V : Nat → Nat → Int} (hb : b < 2 ^ x) (k : Nat) : fl b x X K V k < 2 ^ (x + k) := by
  induction k with
  | zero => exact hb
  | succ k ih =>
    have h2 : 2 ^ (x + k) < 2 ^ (x + (k + 1)) := Nat.pow_lt_pow_right (by decide) (by omega)
    unfold fl
    split
    · exact Nat.or_lt_two_pow (by omega) h2
    · omega
theorem fl_step {b x : Nat} {X : Nat → Int} {K : Nat → Nat} {V : Nat → Nat → Int} {k i : Nat} (hi : i < x + k) : (fl b x X K V (k + 1)).testBit i = (fl b x X K V k).testBit i := by
  show (if X k ≤ cntB (fl b x X K V k) (V k) (K k) then fl b x X K V k ||| 2 ^ (x + k) else fl b x X K V k).testBit i = _
  split
  · rw [Nat.testBit_or, Nat.testBit_two_pow_of_ne (by omega), Bool.or_false]
  · rfl
theorem fl_bit {b x : Nat} {X : Nat → Int} {K : Nat → Nat} {V : Nat → Nat → Int} {k m i : Nat} (hi : i < x + k) (hm : k ≤ m) : (fl b x X K V m).testBit i = (fl b x X K V k).testBit i := by
  induction m with
  | zero => obtain rfl : k = 0 := by omega
            rfl
  | succ m ih =>
    by_cases e : k = m + 1
    · rw [e]
    · rw [fl_step (by omega), ih (by omega)]
theorem fl_new {b x : Nat} {X : Nat → Int} {K : Nat → Nat} {V : Nat → Nat → Int} {k m : Nat} (hb : b < 2 ^ x) (hk : k < m) : (fl b x X K V m).testBit (x + k) = decide (X k ≤ cntB (fl b x X K V k) (V k) (K k)) := by
  rw [fl_bit (k := k + 1) (by omega) (by omega)]
  show (if X k ≤ cntB (fl b x X K V k) (V k) (K k) then fl b x X K V k ||| 2 ^ (x + k) else fl b x X K V k).testBit (x + k) = _
  split
  · rename_i h
    rw [Nat.testBit_or, Nat.testBit_two_pow_self, Bool.or_true, decide_eq_true h]
  · rename_i h
    rw [Nat.testBit_lt_two_pow (fl_lt hb k), decide_eq_false h]
/-- Does the last gate fail by the basics whose bits b has? -/
def faB (b x n : Nat) (X : Nat → Int) (K : Nat → Nat) (V : Nat → Nat → Int) : Bool := (fl b x X K V n).testBit (x + n - 1)
def setN (x : Nat) (U : Nat → Int) : Nat → Nat
  | 0 => 0
  | j + 1 => if inB 0 ((x : Int) - 1) (U j) = true then setN x U j ||| 2 ^ (U j).toNat else setN x U j
theorem set_lt (x : Nat) (U : Nat → Int) (j : Nat) : setN x U j < 2 ^ x := by
  induction j with
  | zero => exact Nat.two_pow_pos x
  | succ j ih =>
    unfold setN
    split
    · rename_i h
      have := inB_yes h
      exact Nat.or_lt_two_pow ih (Nat.pow_lt_pow_right (by decide) (by omega))
    · exact ih
theorem wraps_u32 (n : Int) (h₀ : 0 ≤ n) (h₁ : n < 2 ^ 32) : IntKind.u32.wrap n = n := by rw [IntKind.wrap_u32]; omega
theorem wraps_i64 (n : Int) (h₀ : 0 ≤ n) (h₁ : n < 2 ^ 62) : IntKind.i64.wrap n = n := by rw [IntKind.wrap_i64]; omega
theorem div_cast (f n : Nat) : ((f : Int) / 2 ^ n) = ((f / 2 ^ n : Nat) : Int) := by simp
theorem bit_u32 (f n : Nat) (hf : f < 2 ^ 32) : (bits .and .u32 ((f : Int) / 2 ^ n) 1 == (1 : Int)) = f.testBit n := by
  have h1 := (bits_nat .u32 32 (by decide) wraps_u32 (f / 2 ^ n) 1 (Nat.lt_of_le_of_lt (Nat.div_le_self _ _) hf) (by decide)).1
  rw [div_cast, show (1 : Int) = ((1 : Nat) : Int) from rfl, h1, Nat.and_one_is_mod, Nat.testBit_eq_decide_div_mod_eq]
  rcases Nat.mod_two_eq_zero_or_one (f / 2 ^ n) with e | e <;> rw [e] <;> rfl
theorem bit_i64 (f n : Nat) (hf : f < 2 ^ 62) : (bits .and .i64 ((f : Int) / 2 ^ n) 1 == (1 : Int)) = f.testBit n := by
  have h1 := (bits_nat .i64 62 (by decide) wraps_i64 (f / 2 ^ n) 1 (Nat.lt_of_le_of_lt (Nat.div_le_self _ _) hf) (by decide)).1
  rw [div_cast, show (1 : Int) = ((1 : Nat) : Int) from rfl, h1, Nat.and_one_is_mod, Nat.testBit_eq_decide_div_mod_eq]
  rcases Nat.mod_two_eq_zero_or_one (f / 2 ^ n) with e | e <;> rw [e] <;> rfl
theorem pow_cast (n : Nat) : ((2 : Int) ^ n) = ((2 ^ n : Nat) : Int) := by simp
theorem or_u32 (f n : Nat) (hf : f < 2 ^ 32) (hn : n < 32) : bits .or .u32 (f : Int) (IntKind.u32.wrap (2 ^ n)) = ((f ||| 2 ^ n : Nat) : Int) := by
  have hp : 2 ^ n < 2 ^ 32 := Nat.pow_lt_pow_right (by decide) hn
  rw [pow_cast, wraps_u32 _ (Int.natCast_nonneg _) (by have : ((2 ^ n : Nat) : Int) < ((2 ^ 32 : Nat) : Int) := Int.ofNat_lt.2 hp; simpa using this)]
  exact (bits_nat .u32 32 (by decide) wraps_u32 f (2 ^ n) hf hp).2
theorem or_i64 (f n : Nat) (hf : f < 2 ^ 62) (hn : n < 62) : bits .or .i64 (f : Int) (IntKind.i64.wrap (2 ^ n)) = ((f ||| 2 ^ n : Nat) : Int) := by
  have hp : 2 ^ n < 2 ^ 62 := Nat.pow_lt_pow_right (by decide) hn
  rw [pow_cast, wraps_i64 _ (Int.natCast_nonneg _) (by have : ((2 ^ n : Nat) : Int) < ((2 ^ 62 : Nat) : Int) := Int.ofNat_lt.2 hp; simpa using this)]
  exact (bits_nat .i64 62 (by decide) wraps_i64 f (2 ^ n) hf hp).2
set_option maxHeartbeats 400000 in
theorem has_any (f n : Nat) (w : World) (hf : f < 2 ^ 32) (hn : n < 32) : Calls Try.prog 83 #[.int .u32 (f : Int), .int .i64 (n : Int)] w fun e w' => e = .returned (.bool (f.testBit n)) ∧ w' = w := by
  have hb := bit_u32 f n hf
  have n1 : (n : Int) < 32 := by omega
  go_enter Try.func83, Try.ntmps83
  go_wp2
  go_ret
  first | exact ⟨rfl, rfl⟩ | exact ⟨ret_bool hb, rfl⟩
set_option maxHeartbeats 400000 in
theorem with_any (f n : Nat) (w : World) (hf : f < 2 ^ 32) (hn : n < 32) : Calls Try.prog 77 #[.int .u32 (f : Int), .int .i64 (n : Int)] w fun e w' => e = .returned (.int .u32 ((f ||| 2 ^ n : Nat) : Int)) ∧ w' = w := by
  have hb := or_u32 f n hf hn
  rw [IntKind.wrap_u32] at hb
  have n1 : (n : Int) < 32 := by omega
  go_enter Try.func77, Try.ntmps77
  go_wp2
  go_ret
  exact ⟨rfl, rfl⟩
end Go.Proofs.Ytpaiajeigdifcaa
