/-
What is proved: the float64 of 64 bits, as the specification tells it, for all bits; that a float is told to be the same as itself, and every NaN as every other.
-/
import Derived.Test.YtjahjhddokaopaaScaN
namespace Go.Proofs.Ytjahjhddokaopaa
set_option maxRecDepth 40000
open Go.RowKit
set_option linter.unusedVariables false

/-- The fields of 64 bits. -/
theorem field_s (b : Nat) (hb : b < 18446744073709551616) : ((b : Int) / 9223372036854775808 == 1) = sg b := by
  unfold sg; rw [Bool.eq_iff_iff, beq_iff_eq, beq_iff_eq]; omega
theorem field_e (b : Nat) (hb : b < 18446744073709551616) : bits .and .u64 ((b : Int) / 4503599627370496) 2047 = ((b / 4503599627370496 % 2048 : Nat) : Int) := by
  have e : ((b : Int) / 4503599627370496) = ((b / 4503599627370496 : Nat) : Int) := by omega
  rw [e]
  have h := u64_and_nat (b / 4503599627370496) 2047 (by omega) (by omega)
  refine h.trans ?_
  exact congrArg Int.ofNat (Nat.and_two_pow_sub_one_eq_mod _ 11)
theorem field_f (b : Nat) (hb : b < 18446744073709551616) : bits .and .u64 (b : Int) 4503599627370495 = ((b % 4503599627370496 : Nat) : Int) := by
  have h := u64_and_nat b 4503599627370495 hb (by omega)
  refine h.trans ?_
  exact congrArg Int.ofNat (Nat.and_two_pow_sub_one_eq_mod _ 52)

set_option maxHeartbeats 1000000 in
set_option maxRecDepth 100000 in
theorem floatOf_nan (b : Nat) (s : Bool) (e f : Nat) (w : World) (r1 : ((b : Int) / 9223372036854775808 == 1) = s) (r2 : bits .and .u64 ((b : Int) / 4503599627370496) 2047 = (e : Int)) (r3 : bits .and .u64 (b : Int) 4503599627370495 = (f : Int)) (b1 : 0 ≤ (b : Int)) (b2 : (b : Int) ≤ 18446744073709551615)
    (e1 : (e : Int) ≤ 2047) (t1 : ((e : Int) == 2047) = true) (t2 : ((f : Int) != 0) = true) :
    Calls Try.prog 41 #[.int .u64 (b : Int)] w fun x w' => ∃ g, x = .returned (.float .f64 g) ∧ (INF < rg g ∧ g < 18446744073709551616) ∧ ∃ n, w' = w.drewN n := by
  have K : Hid (∀ w, Calls Try.prog 40 #[] w fun e w' => ∃ f, e = .returned (.float .f64 f) ∧ INF < rg f ∧ f < 18446744073709551616 ∧ ∃ n, w' = w.drewN n) := fun w => l1NoneS_any w
  go_enter Try.func41, Try.ntmps41
  go_wp2_with fail
  refine (K.out _).mono ?_
  rintro e' w1 ⟨g, rfl, hg, hl, n, rfl⟩
  go_wp2
  go_ret
  exact ⟨g, rfl, ⟨hg, hl⟩, n, rfl⟩

set_option maxHeartbeats 1000000 in
set_option maxRecDepth 100000 in
theorem floatOf_inf (b : Nat) (s : Bool) (e f : Nat) (w : World) (r1 : ((b : Int) / 9223372036854775808 == 1) = s) (r2 : bits .and .u64 ((b : Int) / 4503599627370496) 2047 = (e : Int)) (r3 : bits .and .u64 (b : Int) 4503599627370495 = (f : Int)) (b1 : 0 ≤ (b : Int)) (b2 : (b : Int) ≤ 18446744073709551615)
    (e1 : (e : Int) ≤ 2047) (t1 : ((e : Int) == 2047) = true) (t2 : ((f : Int) != 0) = false) :
    Calls Try.prog 41 #[.int .u64 (b : Int)] w fun x w' => x = .returned (.float .f64 ((if s = true then 9223372036854775808 else 0) + 9218868437227405312)) ∧ w' = w := by
  have K : Hid (∀ w, Calls Try.prog 44 #[.float .f64 9218868437227405312, .bool s] w fun e w' => e = .returned (.float .f64 ((if s = true then 9223372036854775808 else 0) + 9218868437227405312)) ∧ w' = w) := fun w => l1Signed_any _ s (by omega) w
  have hd : FloatKind.f64.format.div 4607182418800017408 0 = some 9218868437227405312 := by decide
  have hq := fun w => run_quo_some (P := Try.prog) 24 w hd
  clear hd
  generalize (if s = true then 9223372036854775808 else 0) + 9218868437227405312 = z at *
  go_enter Try.func41, Try.ntmps41
  go_wp2_with fail
  refine (K.out _).mono ?_
  rintro e' w1 ⟨rfl, rfl⟩
  go_wp2
  go_ret
  exact ⟨rfl, rfl⟩

set_option maxHeartbeats 1000000 in
set_option maxRecDepth 100000 in
theorem floatOf_sub (b : Nat) (s : Bool) (e f : Nat) (w : World) (z : Nat) (r1 : ((b : Int) / 9223372036854775808 == 1) = s) (r2 : bits .and .u64 ((b : Int) / 4503599627370496) 2047 = (e : Int)) (r3 : bits .and .u64 (b : Int) 4503599627370495 = (f : Int)) (b1 : 0 ≤ (b : Int)) (b2 : (b : Int) ≤ 18446744073709551615)
    (t1 : ((e : Int) == 2047) = false) (t3 : ((e : Int) == 0) = true)
    (K1 : Hid (∀ w, Calls Try.prog 45 #[.int .u64 (f : Int), .int .i64 (-1074)] w fun e w' => e = .returned (.float .f64 z) ∧ w' = w)) (g : Nat)
    (K2 : Hid (∀ w, Calls Try.prog 44 #[.float .f64 z, .bool s] w fun e w' => e = .returned (.float .f64 g) ∧ w' = w)) (e1 : (e : Int) ≤ 2047) :
    Calls Try.prog 41 #[.int .u64 (b : Int)] w fun x w' => x = .returned (.float .f64 g) ∧ w' = w := by
  go_enter Try.func41, Try.ntmps41
  go_wp2_with fail
  refine (K1.out _).mono ?_
  rintro e' w1 ⟨rfl, rfl⟩
  go_wp2_with fail
  refine (K2.out _).mono ?_
  rintro e' w1 ⟨rfl, rfl⟩
  go_wp2
  go_ret
  exact ⟨rfl, rfl⟩

set_option maxHeartbeats 1000000 in
set_option maxRecDepth 100000 in
theorem floatOf_norm (b : Nat) (s : Bool) (e f : Nat) (w : World) (z : Nat) (r1 : ((b : Int) / 9223372036854775808 == 1) = s) (r2 : bits .and .u64 ((b : Int) / 4503599627370496) 2047 = (e : Int)) (r3 : bits .and .u64 (b : Int) 4503599627370495 = (f : Int)) (b1 : 0 ≤ (b : Int)) (b2 : (b : Int) ≤ 18446744073709551615)
    (t1 : ((e : Int) == 2047) = false) (t3 : ((e : Int) == 0) = false)
    (f1 : (f : Int) < 4503599627370496)
    (K1 : Hid (∀ w, Calls Try.prog 45 #[.int .u64 ((f : Int) + 4503599627370496), .int .i64 ((e : Int) - 1075)] w fun e w' => e = .returned (.float .f64 z) ∧ w' = w)) (g : Nat)
    (K2 : Hid (∀ w, Calls Try.prog 44 #[.float .f64 z, .bool s] w fun e w' => e = .returned (.float .f64 g) ∧ w' = w)) (e1 : (e : Int) ≤ 2047) :
    Calls Try.prog 41 #[.int .u64 (b : Int)] w fun x w' => x = .returned (.float .f64 g) ∧ w' = w := by
  go_enter Try.func41, Try.ntmps41
  go_wp2_with fail
  refine (K1.out _).mono ?_
  rintro e' w1 ⟨rfl, rfl⟩
  go_wp2_with fail
  refine (K2.out _).mono ?_
  rintro e' w1 ⟨rfl, rfl⟩
  go_wp2
  go_ret
  exact ⟨rfl, rfl⟩

theorem specFloatOf_any (b : Nat) (hb : b < 18446744073709551616) (w : World) :
    Calls Try.prog 41 #[.int .u64 (b : Int)] w fun x w' => ∃ f, x = .returned (.float .f64 f) ∧ ((f = b ∧ rg b ≤ INF) ∨ (INF < rg f ∧ INF < rg b ∧ f < 18446744073709551616)) ∧ ∃ n, w' = w.drewN n := by
  have r1 := field_s b hb
  have r2 := field_e b hb
  have r3 := field_f b hb
  have W := word_of hb
  have R : rg b = b / 4503599627370496 % 2048 * BIN + b % 4503599627370496 := by unfold rg BIN; omega
  have he : b / 4503599627370496 % 2048 ≤ 2047 := by omega
  have hf : b % 4503599627370496 < 4503599627370496 := Nat.mod_lt _ (by decide)
  generalize b / 4503599627370496 % 2048 = e at *
  generalize b % 4503599627370496 = f at *
  generalize sg b = s at *
  have ei : (e : Int) ≤ 2047 := by omega
  by_cases c : e = 2047
  · have t1 : ((e : Int) == 2047) = true := by rw [beq_iff_eq]; omega
    by_cases z : f = 0
    · have t2 : ((f : Int) != 0) = false := by simp [z]
      refine (floatOf_inf b s e f w r1 r2 r3 (by omega) (by omega) ei t1 t2).mono ?_
      rintro x w' ⟨rfl, rfl⟩
      have hI : rg b = INF := by rw [R, c, z]; rfl
      refine ⟨b, ?_, .inl ⟨rfl, by omega⟩, 0, rfl⟩
      refine congrArg (fun n => Ending.returned (Value.float .f64 n)) ?_
      rw [hI] at W; exact W.symm
    · have t2 : ((f : Int) != 0) = true := by rw [bne_iff_ne]; omega
      refine (floatOf_nan b s e f w r1 r2 r3 (by omega) (by omega) ei t1 t2).mono ?_
      rintro x w' ⟨g, rfl, ⟨hg, hl⟩, n, rfl⟩
      exact ⟨g, rfl, .inr ⟨hg, by rw [R, c]; unfold INF BIN; omega, hl⟩, n, rfl⟩
  · have t1 : ((e : Int) == 2047) = false := by rw [beq_eq_false_iff_ne]; omega
    have hr : rg b < INF := by rw [R]; unfold INF BIN; omega
    have hr' : rg b < 9223372036854775808 := by unfold INF at hr; omega
    have K2 := fun w => l1Signed_any (rg b) s hr' w
    rw [← W] at K2
    by_cases z : e = 0
    · have t3 : ((e : Int) == 0) = true := by simp [z]
      have rf : rg b = f := by rw [R, z]; omega
      have hv : vl (rg b) = f * 2 ^ ((-1074 : Int) + 1074).toNat := by
        rw [rf, (vl_sub (show f < BIN from hf)).1]; simp
      have K1 := fun w => l1Scaled_any f (-1074) (rg b) w (by omega) (by omega) (by omega) hr hv
      refine (floatOf_sub b s e f w (rg b) r1 r2 r3 (by omega) (by omega) t1 t3 K1 b K2 ei).mono ?_
      rintro x w' ⟨rfl, rfl⟩
      exact ⟨b, rfl, .inl ⟨rfl, by omega⟩, 0, rfl⟩
    · have t3 : ((e : Int) == 0) = false := by rw [beq_eq_false_iff_ne]; omega
      have m1 : mg (rg b) = BIN + f := by unfold mg; rw [if_neg (by rw [R]; unfold BIN; omega), R]; unfold BIN; omega
      have k1 : kg (rg b) = e - 1 := by rw [R]; unfold kg BIN; omega
      have hv : vl (rg b) = (f + 4503599627370496) * 2 ^ ((e : Int) - 1075 + 1074).toNat := by
        unfold vl; rw [m1, k1, Nat.add_comm BIN f, show ((e : Int) - 1075 + 1074).toNat = e - 1 by omega]; rfl
      have K1 := fun w => l1Scaled_any (f + 4503599627370496) ((e : Int) - 1075) (rg b) w (by omega) (by omega) (by omega) hr hv
      have K1' : ∀ w, Calls Try.prog 45 #[.int .u64 ((f : Int) + 4503599627370496), .int .i64 ((e : Int) - 1075)] w fun x w' => x = .returned (.float .f64 (rg b)) ∧ w' = w := K1
      refine (floatOf_norm b s e f w (rg b) r1 r2 r3 (by omega) (by omega) t1 t3 (by omega) K1' b K2 ei).mono ?_
      rintro x w' ⟨rfl, rfl⟩
      exact ⟨b, rfl, .inl ⟨rfl, by omega⟩, 0, rfl⟩

end Go.Proofs.Ytjahjhddokaopaa
