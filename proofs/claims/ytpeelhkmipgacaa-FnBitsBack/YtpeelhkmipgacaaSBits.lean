/-
What is proved: the bits of a float64, as the specification tells them, for every word.
-/
import Derived.Test.YtpeelhkmipgacaaParts
import Derived.Test.YtpeelhkmipgacaaKnownS
namespace Go.Proofs.Ytpeelhkmipgacaa
set_option maxRecDepth 40000
open Go.RowKit

theorem or_high (s A : Nat) (hs : s ≤ 1) (hA : A < 9223372036854775808) : bits .or .u64 ((9223372036854775808 * s : Nat) : Int) (A : Int) = ((9223372036854775808 * s + A : Nat) : Int) := by
  rw [u64_or_nat _ _ (by omega) (by omega)]
  exact congrArg Int.ofNat (Nat.two_pow_add_eq_or_of_lt (i := 63) hA s).symm
theorem or_low (B C : Nat) (hB : B < 4096) (hC : C < 4503599627370496) : bits .or .u64 ((4503599627370496 * B : Nat) : Int) (C : Int) = ((4503599627370496 * B + C : Nat) : Int) := by
  rw [u64_or_nat _ _ (by omega) (by omega)]
  exact congrArg Int.ofNat (Nat.two_pow_add_eq_or_of_lt (i := 52) hC B).symm
theorem or_high0 (A : Nat) (hA : A < 9223372036854775808) : bits .or .u64 0 (A : Int) = (A : Int) := by
  have := or_high 0 A (by omega) hA
  simpa using this
theorem or_high1 (A : Nat) (hA : A < 9223372036854775808) : bits .or .u64 9223372036854775808 (A : Int) = ((9223372036854775808 + A : Nat) : Int) := or_high 1 A (by omega) hA
theorem or_norm0 (k m : Nat) (hk : k ≤ 2045) (h1 : 4503599627370496 ≤ m) (h2 : m < 9007199254740992) : bits .or .u64 (bits .or .u64 0 (((k : Int) - 1074 + 1075) * 4503599627370496)) ((m : Int) - 4503599627370496) = ((k * BIN + m : Nat) : Int) := by
  obtain ⟨c, rfl⟩ : ∃ c, m = 4503599627370496 + c := ⟨m - 4503599627370496, by omega⟩
  have e1 : ((k : Int) - 1074 + 1075) * 4503599627370496 = ((4503599627370496 * (k + 1) : Nat) : Int) := by omega
  have e2 : (((4503599627370496 + c : Nat) : Int)) - 4503599627370496 = (c : Int) := by omega
  rw [e1, e2, or_high0 _ (by omega), or_low _ _ (by omega) (by omega)]
  unfold BIN; omega
theorem or_norm1 (k m : Nat) (hk : k ≤ 2045) (h1 : 4503599627370496 ≤ m) (h2 : m < 9007199254740992) : bits .or .u64 (bits .or .u64 9223372036854775808 (((k : Int) - 1074 + 1075) * 4503599627370496)) ((m : Int) - 4503599627370496) = ((9223372036854775808 + (k * BIN + m) : Nat) : Int) := by
  obtain ⟨c, rfl⟩ : ∃ c, m = 4503599627370496 + c := ⟨m - 4503599627370496, by omega⟩
  have e1 : ((k : Int) - 1074 + 1075) * 4503599627370496 = ((4503599627370496 * (k + 1) : Nat) : Int) := by omega
  have e2 : (((4503599627370496 + c : Nat) : Int)) - 4503599627370496 = (c : Int) := by omega
  rw [e1, e2, or_high1 _ (by omega)]
  have e3 : 9223372036854775808 + 4503599627370496 * (k + 1) = 4503599627370496 * (k + 1 + 2048) := by omega
  rw [e3, or_low _ _ (by omega) (by omega)]
  unfold BIN; omega

set_option maxHeartbeats 1000000 in
set_option maxRecDepth 100000 in
theorem specBitsOf_any (x : Nat) (hx : x < 18446744073709551616) (w : World) :
    Calls Try.prog 16 #[.float .f64 x] w fun e w' => e = .returned (.int .u64 (bitsB x : Nat)) ∧ ∃ n, w' = w.drewN n := by
  by_cases hn : INF < rg x
  · have e1 : bitsB x = 9221120237041090560 := by unfold bitsB; rw [if_pos hn]
    rw [e1]; clear e1
    have h0 : FloatKind.f64.format.order x x = none := order_nan_l hn
    clear hn
    go_enter Try.func16, Try.ntmps16
    go_wp2
    go_ret
    exact ⟨rfl, 0, rfl⟩
  · have e1 : bitsB x = x := by unfold bitsB; rw [if_neg hn]
    rw [e1]; clear e1
    have h0 : FloatKind.f64.format.order x x = some .eq := order_self (by omega)
    have M : Hid (∀ w, Calls Try.prog 30 #[.float .f64 x] w fun e w' => e = .returned (.bool (minusB x)) ∧ w' = w) := fun w => l1Minus_any x hx w
    have K : Hid (∀ w, Calls Try.prog 21 #[.float .f64 x] w fun e w' => e = .returned (.bool (knownB x)) ∧ ∃ n, w' = w.drewN n) := fun w => specKnown_any x w
    have e1 : minusB x = sg x := by unfold minusB; rw [decide_eq_true (by omega)]; rfl
    rw [e1] at M
    clear e1
    have hz := order_zero (x := x) (by omega)
    have W : Hid (x = (if sg x = true then 9223372036854775808 else 0) + rg x) := word_of hx
    by_cases z : rg x = 0
    · rw [if_pos z] at hz
      cases hs : sg x
      all_goals
        rw [hs] at M
        go_enter Try.func16, Try.ntmps16
        go_wp2_with fail
        refine (M.out _).mono ?_
        rintro e w1 ⟨rfl, rfl⟩
        go_wp2
        go_ret
        refine ⟨ret_int ?_, 0, rfl⟩
        have := W.out
        rw [z, hs] at this
        rw [this]
        rfl
    · rw [if_neg z] at hz
      have hzz : (FloatKind.f64.format.order x 0 == some .eq) = false := by
        rw [hz]; cases sg x <;> rfl
      clear hz
      by_cases i : rg x = INF
      · have k : knownB x = false := decide_eq_false (by omega)
        rw [k] at K
        cases hs : sg x
        all_goals
          rw [hs] at M
          have W' := W.out
          rw [hs, i] at W'
          have W2 : Hid _ := W'
          clear W W' i z hn hx k
          go_enter Try.func16, Try.ntmps16
          go_wp2_with fail
          refine (M.out _).mono ?_
          rintro e w1 ⟨rfl, rfl⟩
          go_wp2_with fail
          refine (K.out _).mono ?_
          rintro e w2 ⟨rfl, nq, rfl⟩
          go_wp2
          go_ret
          refine ⟨ret_int ?_, nq, rfl⟩
          have W3 := W2.out
          rw [W3]
          first | exact (or_high0 9218868437227405312 (by omega)).trans (by simp [INF]) | exact (or_high1 9218868437227405312 (by omega)).trans (by simp [INF])
      · have k : knownB x = true := decide_eq_true (by omega)
        rw [k] at K
        have P : Hid (∀ w, Calls Try.prog 34 #[.float .f64 x] w fun e w' => e = .returned (.tuple #[.int .u64 (mg (rg x) : Int), .int .i64 ((kg (rg x) : Int) - 1074)]) ∧ w' = w) := fun w => l1Parts_any x hx (by omega) w
        have hk : kg (rg x) ≤ 2045 := by unfold kg BIN; unfold INF at *; omega
        have HK : Hid (kg (rg x) ≤ 2045) := hk
        have HI : Hid (rg x < 9223372036854775808) := by show rg x < 9223372036854775808; unfold INF at *; omega
        have hm := mg_lt (rg x)
        by_cases sb : rg x < BIN
        · obtain ⟨_, m1, k1⟩ := vl_sub sb
          rw [m1, k1] at P
          have SB : Hid (rg x < 4503599627370496) := sb
          have t1 : decide (((rg x : Nat) : Int) < 4503599627370496) = true := by rw [decide_eq_true_iff]; unfold BIN at sb; omega
          clear m1 k1 hm hk sb
          cases hs : sg x
          all_goals
            rw [hs] at M
            have W' := W.out
            rw [hs] at W'
            have W2 : Hid _ := W'
            clear W W' i z hn hx k
            generalize rg x = r at *
            go_enter Try.func16, Try.ntmps16
            go_wp2_with fail
            refine (M.out _).mono ?_
            rintro e w1 ⟨rfl, rfl⟩
            go_wp2_with fail
            refine (K.out _).mono ?_
            rintro e w2 ⟨rfl, nq, rfl⟩
            go_wp2_with fail
            refine (P.out _).mono ?_
            rintro e w3 ⟨rfl, rfl⟩
            go_wp2
            go_ret
            refine ⟨ret_int ?_, nq, rfl⟩
            have W3 := W2.out
            rw [W3]
            first | exact (or_high0 _ HI.out).trans (by simp) | exact (or_high1 _ HI.out).trans (by simp)
        · have hm2 := mg_norm (r := rg x) (by omega)
          have R : Hid (kg (rg x) * BIN + mg (rg x) = rg x) := rung_of (rg x)
          generalize mg (rg x) = m at *
          generalize kg (rg x) = kk at *
          have t1 : decide (((m : Nat) : Int) < 4503599627370496) = false := by rw [decide_eq_false_iff_not]; omega
          have mi1 : (4503599627370496 : Int) ≤ (m : Int) := by omega
          have mi2 : (m : Int) < 9007199254740992 := by omega
          have H1 : Hid (m < 9007199254740992) := hm
          have H2 : Hid (4503599627370496 ≤ m) := hm2
          clear sb hm hm2
          cases hs : sg x
          all_goals
            rw [hs] at M
            have W' := W.out
            rw [hs] at W'
            have W2 : Hid _ := W'
            clear W W' i z hn hx k
            go_enter Try.func16, Try.ntmps16
            go_wp2_with fail
            refine (M.out _).mono ?_
            rintro e w1 ⟨rfl, rfl⟩
            go_wp2_with fail
            refine (K.out _).mono ?_
            rintro e w2 ⟨rfl, nq, rfl⟩
            go_wp2_with fail
            refine (P.out _).mono ?_
            rintro e w3 ⟨rfl, rfl⟩
            go_wp2
            go_ret
            refine ⟨ret_int ?_, nq, rfl⟩
            have W3 := W2.out
            rw [← R.out] at W3
            rw [W3]
            first | exact (or_norm0 _ _ HK.out H2.out H1.out).trans (by simp) | exact (or_norm1 _ _ HK.out H2.out H1.out).trans (by simp)
end Go.Proofs.Ytpeelhkmipgacaa
