/-
What is proved: whether a float64 is known, as both packages say it, for every word.
-/
import Derived.Test.YtffbpidldnbgaaaKnownS
namespace Go.Proofs.Ytffbpidldnbgaaa
set_option maxRecDepth 40000
open Go.RowKit

theorem bits_runK (x : Nat) (w : World) : Sem.run Try.prog (callFunc 49 #[.float .f64 x]) w = .ok (.value (.int .u64 x)) w := by kernel_rfl
theorem frombits_run (z : Int) (w : World) : Sem.run Try.prog (callFunc 43 #[.int .u64 z]) w = .ok (.value (.float .f64 z.toNat)) w := by kernel_rfl

theorem abs_bits (x : Nat) (hx : x < 18446744073709551616) : (bits BinOp.andNot IntKind.u64 (x : Int) 9223372036854775808).toNat = rg x := by
  have h := u64_andNot_nat x 9223372036854775808 hx (by decide)
  have e : ((9223372036854775808 : Nat) : Int) = 9223372036854775808 := rfl
  rw [e] at h
  rw [h, Int.toNat_natCast]
  show x &&& (2 ^ 63 - 1) = _
  rw [Nat.and_two_pow_sub_one_eq_mod]; rfl
theorem ret_float {k : FloatKind} {a b : Nat} (h : a = b) : Ending.returned (.float k a) = .returned (.float k b) := by rw [h]

set_option maxHeartbeats 400000 in
theorem abs_any (x : Nat) (hx : x < 18446744073709551616) (w : World) :
    Calls Try.prog 48 #[.float .f64 x] w fun e w' => e = .returned (.float .f64 (rg x)) ∧ w' = w := by
  have hb := bits_runK x
  have hb' := frombits_run
  go_enter Try.func48, Try.ntmps48
  go_wp2
  go_ret
  exact ⟨ret_float (abs_bits x hx), rfl⟩

set_option maxHeartbeats 400000 in
theorem implKnown_any (x : Nat) (hx : x < 18446744073709551616) (w : World) :
    Calls Try.prog 28 #[.float .f64 x] w fun e w' => e = .returned (.bool (knownB x)) ∧ ∃ n, w' = w.drewN n := by
  have A : Hid (∀ w, Calls Try.prog 48 #[.float .f64 x] w fun e w' => e = .returned (.float .f64 (rg x)) ∧ w' = w) := fun w => abs_any x hx w
  by_cases hn : INF < rg x
  · have e1 : knownB x = false := decide_eq_false (by omega)
    rw [e1]
    have h0 : FloatKind.f64.format.order x x = none := order_nan_l hn
    clear hn e1
    go_enter Try.func28, Try.ntmps28
    go_wp2
    go_ret
    exact ⟨rfl, 0, rfl⟩
  · have h0 : FloatKind.f64.format.order x x = some .eq := order_self (by omega)
    have h1 := order_max (r := rg x) (by omega)
    have e1 : knownB x = !decide (rg x = INF) := by
      unfold knownB; rw [← decide_not, decide_eq_decide]; omega
    rw [e1, ← h1]
    clear h1 e1 hn
    go_enter Try.func28, Try.ntmps28
    go_wp2_with (first | (go_at_call 48; refine (A.out _).mono ?_; rintro e w1 ⟨rfl, rfl⟩) | go_in)
    go_ret
    exact ⟨rfl, 0, rfl⟩
end Go.Proofs.Ytffbpidldnbgaaa
