/-
What is proved: of an int64 its size without the sign, and the greatest common divisor of two uint64s, are what the Go functions of both packages give, for every argument of these kinds.
-/
import Derived.Test.YthengechoaodcaaOpen
namespace Go.Proofs.Ythengechoaodcaa
set_option maxRecDepth 40000
open Go.RowKit

theorem wrap_u64_neg (n : Int) (h1 : -9223372036854775808 ≤ n) (h2 : n < 0) : IntKind.u64.wrap (-IntKind.u64.wrap n) = (n.natAbs : Int) := by
  have e : ∀ m : Int, IntKind.u64.wrap m = m % 18446744073709551616 := fun m => by simp [IntKind.wrap, IntKind.signed, IntKind.bits]
  rw [e, e]; omega
theorem nat_abs_pos (n : Int) (h : 0 ≤ n) : n = (n.natAbs : Int) := by omega

set_option maxHeartbeats 400000 in
theorem sizeOf_any (n : Int) (w : World) (h1 : -9223372036854775808 ≤ n) (_h2 : n ≤ 9223372036854775807) :
    Calls Try.prog 77 #[.int .i64 n] w fun e w' => e = .returned (.int .u64 (n.natAbs : Int)) ∧ w' = w := by
  by_cases hn : n < 0
  · go_enter Try.func77, Try.ntmps77
    go_wp2
    go_ret
    exact ⟨ret_int (wrap_u64_neg n h1 hn), rfl⟩
  · go_enter Try.func77, Try.ntmps77
    go_wp2
    go_ret
    exact ⟨ret_int (nat_abs_pos n hn), rfl⟩

set_option maxHeartbeats 400000 in
theorem l1Abs_any (n : Int) (w : World) (h1 : -9223372036854775808 ≤ n) (_h2 : n ≤ 9223372036854775807) :
    Calls Try.prog 71 #[.int .i64 n] w fun e w' => e = .returned (.int .u64 (n.natAbs : Int)) ∧ w' = w := by
  by_cases hn : n < 0
  · go_enter Try.func71, Try.ntmps71
    go_wp2
    go_ret
    exact ⟨ret_int (wrap_u64_neg n h1 hn), rfl⟩
  · go_enter Try.func71, Try.ntmps71
    go_wp2
    go_ret
    exact ⟨ret_int (nat_abs_pos n hn), rfl⟩

theorem cast_mod (x y : Nat) : Value.int .u64 ((x : Int) % (y : Int)) = .int .u64 ((x % y : Nat) : Int) := by rw [Int.natCast_emod]

set_option maxHeartbeats 400000 in
theorem gcd_any (a b : Nat) (w : World) (h1 : a < 18446744073709551616) (h2 : b < 18446744073709551616) :
    Calls Try.prog 76 #[.int .u64 a, .int .u64 b] w fun e w' => e = .returned (.int .u64 (Nat.gcd a b : Nat)) ∧ ∃ n, w' = w.drewN n := by
  go_enter Try.func76, Try.ntmps76
  go_wp2
  go_loopw [0, 1] (fun s t wr => ∃ x y : Nat, x < 18446744073709551616 ∧ y < 18446744073709551616 ∧ s = .int .u64 x ∧ t = .int .u64 y ∧ Hid (Nat.gcd x y = Nat.gcd a b) ∧ ∃ n, wr = w.drewN n) (fun _ t _ => (intOf t).toNat)
  case atStart => exact ⟨a, b, h1, h2, rfl, rfl, rfl, 0, rfl⟩
  case round =>
    obtain ⟨x, y, hx, hy, rfl, rfl, hg, n, rfl⟩ := hrel
    by_cases hz : y = 0
    · subst hz
      go_wp2
      go_ret
      refine ⟨ret_int ?_, n, rfl⟩
      rw [← hg.out]; simp
    · have hz1 : 1 ≤ y := by omega
      have hb : (((y : Nat) : Int) != 0) = true := by rw [bne_iff_ne]; omega
      have hg2 : Hid (Nat.gcd y (x % y) = Nat.gcd a b) := by
        show Nat.gcd y (x % y) = Nat.gcd a b
        rw [← hg.out, Nat.gcd_comm x y, Nat.gcd_rec y x, Nat.gcd_comm]
      have hlt : x % y < y := Nat.mod_lt _ hz1
      go_wp2
      go_quiet (fail)
      go_wp2
      go_roundw
      case rel => exact ⟨y, x % y, hy, by omega, rfl, cast_mod x y, hg2, n + nq, World.drewN_drewN _ _ _⟩
      case measure => simp [intOf]; omega

set_option maxHeartbeats 400000 in
theorem l1Gcd_any (a b : Nat) (w : World) (h1 : a < 18446744073709551616) (h2 : b < 18446744073709551616) :
    Calls Try.prog 72 #[.int .u64 a, .int .u64 b] w fun e w' => e = .returned (.int .u64 (Nat.gcd a b : Nat)) ∧ w' = w := by
  go_enter Try.func72, Try.ntmps72
  go_wp2
  go_loop [0, 1] (fun s t => ∃ x y : Nat, x < 18446744073709551616 ∧ y < 18446744073709551616 ∧ s = .int .u64 x ∧ t = .int .u64 y ∧ Hid (Nat.gcd x y = Nat.gcd a b)) (fun _ t => (intOf t).toNat)
  case atStart => exact ⟨a, b, h1, h2, rfl, rfl, rfl⟩
  case round =>
    obtain ⟨x, y, hx, hy, rfl, rfl, hg⟩ := hrel
    by_cases hz : y = 0
    · subst hz
      go_wp2
      go_ret
      refine ⟨ret_int ?_, rfl⟩
      rw [← hg.out]; simp
    · have hz1 : 1 ≤ y := by omega
      have hg2 : Hid (Nat.gcd y (x % y) = Nat.gcd a b) := by
        show Nat.gcd y (x % y) = Nat.gcd a b
        rw [← hg.out, Nat.gcd_comm x y, Nat.gcd_rec y x, Nat.gcd_comm]
      have hlt : x % y < y := Nat.mod_lt _ hz1
      go_wp2
      go_round
      case rel => exact ⟨y, x % y, hy, by omega, rfl, cast_mod x y, hg2⟩
      case measure => simp [intOf]; omega
end Go.Proofs.Ythengechoaodcaa
