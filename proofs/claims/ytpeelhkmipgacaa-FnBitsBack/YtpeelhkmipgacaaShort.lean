/-
What is proved: the bits of the float32 that is nearest to a float64, as the specification tells them.
-/
import Derived.Test.YtpeelhkmipgacaaCut
import Derived.Test.YtpeelhkmipgacaaParts
import Derived.Test.YtpeelhkmipgacaaKnownS
namespace Go.Proofs.Ytpeelhkmipgacaa
set_option maxRecDepth 40000
open Go.RowKit

/-- The float32 nearest to x, in its bits. -/
def shortB (x : Nat) : Nat := if INF < rg x then 2143289344 else (if sg x = true then 2147483648 else 0) + (if rg x = INF then 2139095040 else min (rung32 (rg x)) 2139095040)

theorem or32 (s A : Nat) (hs : s ≤ 1) (hA : A < 2147483648) : bits .or .u32 ((2147483648 * s : Nat) : Int) (A : Int) = ((2147483648 * s + A : Nat) : Int) := by
  rw [u32_or_nat _ _ (by omega) (by omega)]
  exact congrArg Int.ofNat (Nat.two_pow_add_eq_or_of_lt (i := 31) hA s).symm
theorem or32_low (B C : Nat) (hB : B < 512) (hC : C < 8388608) : bits .or .u32 ((8388608 * B : Nat) : Int) (C : Int) = ((8388608 * B + C : Nat) : Int) := by
  rw [u32_or_nat _ _ (by omega) (by omega)]
  exact congrArg Int.ofNat (Nat.two_pow_add_eq_or_of_lt (i := 23) hC B).symm

theorem orT0 (A : Int) (h0 : 0 ≤ A) (h1 : A < 2147483648) : bits .or .u32 0 A = A := by
  obtain ⟨a, rfl⟩ := Int.eq_ofNat_of_zero_le h0
  have := or32 0 a (by omega) (by omega)
  simpa using this
theorem orT1 (A : Int) (h0 : 0 ≤ A) (h1 : A < 2147483648) : bits .or .u32 2147483648 A = 2147483648 + A := by
  obtain ⟨a, rfl⟩ := Int.eq_ofNat_of_zero_le h0
  have := or32 1 a (by omega) (by omega)
  simpa using this
theorem orL (B C : Int) (h0 : 0 ≤ B) (h1 : B < 512) (h2 : 0 ≤ C) (h3 : C < 8388608) : bits .or .u32 (B * 8388608) C = B * 8388608 + C := by
  obtain ⟨b, rfl⟩ := Int.eq_ofNat_of_zero_le h0
  obtain ⟨c, rfl⟩ := Int.eq_ofNat_of_zero_le h2
  have := or32_low b c (by omega) (by omega)
  have e : ((b : Int)) * 8388608 = ((8388608 * b : Nat) : Int) := by omega
  rw [e, this]; omega
theorem orE0 (E F : Int) (h0 : 0 ≤ E) (h1 : E ≤ 254) (h2 : 0 ≤ F) (h3 : F < 8388608) : bits .or .u32 (bits .or .u32 0 (E * 8388608)) F = E * 8388608 + F := by
  rw [orT0 _ (by omega) (by omega), orL _ _ h0 (by omega) h2 h3]
theorem orE1 (E F : Int) (h0 : 0 ≤ E) (h1 : E ≤ 254) (h2 : 0 ≤ F) (h3 : F < 8388608) : bits .or .u32 (bits .or .u32 2147483648 (E * 8388608)) F = 2147483648 + E * 8388608 + F := by
  rw [orT1 _ (by omega) (by omega)]
  have e : 2147483648 + E * 8388608 = (256 + E) * 8388608 := by omega
  rw [e, orL _ _ (by omega) (by omega) h2 h3]

set_option maxHeartbeats 2000000 in
set_option maxRecDepth 100000 in
theorem specShort_core (x kk D n ans : Nat) (m : Int) (s : Bool) (w : World) (h0 : FloatKind.f64.format.order x x = some .eq) (hzz : (FloatKind.f64.format.order x 0 == some .eq) = false)
    (M : Hid (∀ w, Calls Try.prog 30 #[.float .f64 x] w fun e w' => e = .returned (.bool s) ∧ w' = w))
    (K : Hid (∀ w, Calls Try.prog 21 #[.float .f64 x] w fun e w' => e = .returned (.bool true) ∧ ∃ n, w' = w.drewN n))
    (P : Hid (∀ w, Calls Try.prog 34 #[.float .f64 x] w fun e w' => e = .returned (.tuple #[.int .u64 m, .int .i64 ((kk : Int) - 1074)]) ∧ w' = w))
    (C : Hid (∀ (z : Int) w, z = (D : Int) → Calls Try.prog 41 #[.int .u64 m, .int .i64 z] w fun e w' => e = .returned (.int .u64 (n : Int)) ∧ w' = w))
    (hkk : (kk : Int) ≤ 2045) (hn : (n : Int) ≤ 16777216)
    (hb : (m < 4503599627370496 ∧ (D : Int) = 925 - (kk : Int) ∧ (kk : Int) ≤ 925) ∨ ((4503599627370496 : Int) ≤ m ∧ (kk : Int) < 896 ∧ (D : Int) = 925 - (kk : Int)) ∨ ((4503599627370496 : Int) ≤ m ∧ (896 : Int) ≤ (kk : Int) ∧ D = 29)) (R : Nat)
    (hR : Hid ((8388608 ≤ n ∨ (n < 8388608 ∧ (kk : Int) + D = 925)) ∧ (R : Int) = ((kk : Int) + D - 925) * 8388608 + n)) (hA : Hid (ans = (if s = true then 2147483648 else 0) + min R 2139095040)) :
    Calls Try.prog 25 #[.float .f64 x] w fun e w' => e = .returned (.int .u32 (ans : Int)) ∧ ∃ n, w' = w.drewN n := by
  obtain ⟨tv, t1, hb'⟩ : ∃ tv, decide (m < 4503599627370496) = tv ∧ ((tv = true ∧ (D : Int) = 925 - (kk : Int) ∧ (kk : Int) ≤ 925) ∨ (tv = false ∧ (kk : Int) < 896 ∧ (D : Int) = 925 - (kk : Int)) ∨ (tv = false ∧ (896 : Int) ≤ (kk : Int) ∧ (D : Int) = 29)) := by
    refine ⟨_, rfl, ?_⟩
    simp only [decide_eq_true_iff, decide_eq_false_iff_not]
    omega
  obtain ⟨N, hN⟩ : ∃ N : Int, (n : Int) = N := ⟨_, rfl⟩
  have n0 : 0 ≤ N := by omega
  rw [hN] at C hn hR
  have HN : Hid ((n : Int) = N) := hN
  clear hN
  clear hb
  rcases hb' with ⟨rfl, b2, b3⟩ | ⟨rfl, b2, b3⟩ | ⟨rfl, b2, b3⟩
  all_goals
    go_enter Try.func25, Try.ntmps25
    go_wp2_with fail
    refine (M.out _).mono ?_
    rintro e w1 ⟨rfl, rfl⟩
    cases s
    all_goals
      go_wp2_with fail
      refine (K.out _).mono ?_
      rintro e w2 ⟨rfl, nq, rfl⟩
      go_wp2_with fail
      refine (P.out _).mono ?_
      rintro e w3 ⟨rfl, rfl⟩
      go_wp2_with fail
      refine (C.out _ _ (by omega)).mono ?_
      rintro e w4 ⟨rfl, rfl⟩
      by_cases c1 : N = 16777216
      · subst c1
        go_wp2
        all_goals
          go_ret
          refine ⟨ret_int ?_, nq, rfl⟩
          obtain ⟨r1, r2⟩ := hR.out
          have a1 := hA.out
          have a2 := HN.out
          simp only [if_pos, Bool.false_eq_true, if_false] at a1
          first | rw [orE0 _ _ (by omega) (by omega) (by omega) (by omega)] | rw [orE1 _ _ (by omega) (by omega) (by omega) (by omega)] | rw [orT0 _ (by omega) (by omega)] | rw [orT1 _ (by omega) (by omega)]
          omega
      · have e1 : (N == 16777216) = false := by simpa using c1
        by_cases c2 : N < 8388608
        · have e2 : decide (N < 8388608) = true := by simpa using c2
          clear c1
          go_wp2
          go_ret
          refine ⟨ret_int ?_, nq, rfl⟩
          obtain ⟨r1, r2⟩ := hR.out
          have a1 := hA.out
          have a2 := HN.out
          simp only [if_pos, Bool.false_eq_true, if_false] at a1
          first | rw [orE0 _ _ (by omega) (by omega) (by omega) (by omega)] | rw [orE1 _ _ (by omega) (by omega) (by omega) (by omega)] | rw [orT0 _ (by omega) (by omega)] | rw [orT1 _ (by omega) (by omega)]
          omega
        · have e2 : decide (N < 8388608) = false := by simpa using c2
          have C1 : Hid (¬ N = 16777216) := c1
          clear c1
          go_wp2
          all_goals
            go_ret
            refine ⟨ret_int ?_, nq, rfl⟩
            have a3 := C1.out
            obtain ⟨r1, r2⟩ := hR.out
            have a1 := hA.out
            have a2 := HN.out
            simp only [if_pos, Bool.false_eq_true, if_false] at a1
            first | rw [orE0 _ _ (by omega) (by omega) (by omega) (by omega)] | rw [orE1 _ _ (by omega) (by omega) (by omega) (by omega)] | rw [orT0 _ (by omega) (by omega)] | rw [orT1 _ (by omega) (by omega)]
            omega

set_option maxHeartbeats 1000000 in
set_option maxRecDepth 100000 in
theorem specShort_any (x : Nat) (hx : x < 18446744073709551616) (w : World) :
    Calls Try.prog 25 #[.float .f64 x] w fun e w' => e = .returned (.int .u32 (shortB x : Nat)) ∧ ∃ n, w' = w.drewN n := by
  by_cases hn : INF < rg x
  · have e1 : shortB x = 2143289344 := by unfold shortB; rw [if_pos hn]
    rw [e1]; clear e1
    have h0 : FloatKind.f64.format.order x x = none := order_nan_l hn
    clear hn
    go_enter Try.func25, Try.ntmps25
    go_wp2
    go_ret
    exact ⟨rfl, 0, rfl⟩
  · have h0 : FloatKind.f64.format.order x x = some .eq := order_self (by omega)
    have M : Hid (∀ w, Calls Try.prog 30 #[.float .f64 x] w fun e w' => e = .returned (.bool (minusB x)) ∧ w' = w) := fun w => l1Minus_any x hx w
    have K : Hid (∀ w, Calls Try.prog 21 #[.float .f64 x] w fun e w' => e = .returned (.bool (knownB x)) ∧ ∃ n, w' = w.drewN n) := fun w => specKnown_any x w
    have e1 : minusB x = sg x := by unfold minusB; rw [decide_eq_true (by omega)]; rfl
    rw [e1] at M
    clear e1
    have hz := order_zero (x := x) (by omega)
    by_cases z : rg x = 0
    · have e1 : shortB x = (if sg x = true then 2147483648 else 0) := by
        unfold shortB
        have e0 : rung32 0 = 0 := by
          unfold rung32
          have : mg 0 = 0 := by decide
          have k : kg 0 = 0 := by decide
          rw [this, k, cutE_sub (by decide) (by omega)]
        rw [if_neg hn, z, if_neg (show ¬ (0 : Nat) = INF by decide), e0]
        simp
      rw [e1]; clear e1
      rw [if_pos z] at hz
      cases hs : sg x
      all_goals
        rw [hs] at M
        clear hs z hn hx
        go_enter Try.func25, Try.ntmps25
        go_wp2_with fail
        refine (M.out _).mono ?_
        rintro e w1 ⟨rfl, rfl⟩
        go_wp2
        go_ret
        exact ⟨by simp, 0, rfl⟩
    · rw [if_neg z] at hz
      have hzz : (FloatKind.f64.format.order x 0 == some .eq) = false := by
        rw [hz]; cases sg x <;> rfl
      clear hz
      by_cases i : rg x = INF
      · have k : knownB x = false := decide_eq_false (by omega)
        rw [k] at K
        have e1 : shortB x = (if sg x = true then 2147483648 else 0) + 2139095040 := by
          unfold shortB
          rw [if_neg hn, if_pos i]
        rw [e1]; clear e1
        cases hs : sg x
        all_goals
          rw [hs] at M
          clear i z hn hx k hs
          go_enter Try.func25, Try.ntmps25
          go_wp2_with fail
          refine (M.out _).mono ?_
          rintro e w1 ⟨rfl, rfl⟩
          go_wp2_with fail
          refine (K.out _).mono ?_
          rintro e w2 ⟨rfl, nq, rfl⟩
          go_wp2
          go_ret
          refine ⟨ret_int ?_, nq, rfl⟩
          first | rw [orT0 _ (by omega) (by omega)] | rw [orT1 _ (by omega) (by omega)]
          try simp
      · have k : knownB x = true := decide_eq_true (by omega)
        rw [k] at K
        have e1 : shortB x = (if sg x = true then 2147483648 else 0) + min (rung32 (rg x)) 2139095040 := by
          unfold shortB
          rw [if_neg hn, if_neg i]
        have P : Hid (∀ w, Calls Try.prog 34 #[.float .f64 x] w fun e w' => e = .returned (.tuple #[.int .u64 (mg (rg x) : Int), .int .i64 ((kg (rg x) : Int) - 1074)]) ∧ w' = w) := fun w => l1Parts_any x hx (by omega) w
        have C : Hid (∀ (z : Int) w, z = ((max 29 (925 - kg (rg x)) : Nat) : Int) → Calls Try.prog 41 #[.int .u64 (mg (rg x) : Int), .int .i64 z] w fun e w' => e = .returned (.int .u64 (cutE (mg (rg x)) (max 29 (925 - kg (rg x))) : Nat)) ∧ w' = w) := fun z w hz => by
          rw [hz]; exact l1Cut_any _ _ (mg_lt _) (by omega) w
        have hk : kg (rg x) ≤ 2045 := by unfold kg BIN; unfold INF at *; omega
        obtain ⟨s1, s2, s3, s4⟩ := spec_end (r := rg x) (n := cutE (mg (rg x)) (max 29 (925 - kg (rg x)))) (e := max (-1045 + (kg (rg x) : Int)) (-149)) rfl rfl
        refine specShort_core x (kg (rg x)) (max 29 (925 - kg (rg x))) (cutE (mg (rg x)) (max 29 (925 - kg (rg x)))) (shortB x) (mg (rg x)) (sg x) w h0 hzz M K P C (by omega) (by omega) ?_ (rung32 (rg x)) ?_ e1
        · by_cases b : rg x < BIN
          · left
            obtain ⟨_, m1, k1⟩ := vl_sub b
            rw [m1, k1]
            unfold BIN at b
            omega
          · right
            have m1 := mg_norm (r := rg x) (by omega)
            rcases Nat.lt_or_ge (kg (rg x)) 896 with c | c
            · left; omega
            · right; omega
        · show _ ∧ _
          generalize cutE (mg (rg x)) (max 29 (925 - kg (rg x))) = n at *
          refine ⟨?_, ?_⟩
          · rcases s3 with c | ⟨c, d⟩
            · exact .inl c
            · right; omega
          · rw [s4]
            have e : (max (-1045 + (kg (rg x) : Int)) (-149) + 149) = ((kg (rg x) : Int) + ((max 29 (925 - kg (rg x)) : Nat) : Int) - 925) := by omega
            rw [e]
end Go.Proofs.Ytpeelhkmipgacaa
