/-
What is proved: whether a float64 is known, as both packages say it, for every word.
-/
import Derived.Test.YtbiggeejmndloabFp
namespace Go.Proofs.Ytbiggeejmndloab
open Go.RowKit

theorem bits_run (x : Nat) (w : World) : Sem.run Try.prog (callFunc 27 #[.float .f64 x]) w = .ok (.value (.int .u64 x)) w := by kernel_rfl
theorem frombits_run (z : Int) (w : World) : Sem.run Try.prog (callFunc 31 #[.int .u64 z]) w = .ok (.value (.float .f64 z.toNat)) w := by kernel_rfl

def knownB (x : Nat) : Bool := decide (rg x < INF)

set_option maxHeartbeats 400000 in
theorem specKnown_any (x : Nat) (w : World) :
    Calls Try.prog 9 #[.float .f64 x] w fun e w' => e = .returned (.bool (knownB x)) ∧ ∃ n, w' = w.drewN n := by
  by_cases h : rg x < INF
  · have e1 : knownB x = true := decide_eq_true h
    rw [e1]
    have hs := fun w => run_sub_some (P := Try.prog) 22 w (sub_self_fin h)
    have h0 : FloatKind.f64.format.order 0 0 = some .eq := by decide
    clear h e1
    go_enter Try.func9, Try.ntmps9
    go_wp2
    go_ret
    exact ⟨by simp, 0, rfl⟩
  · have e1 : knownB x = false := decide_eq_false h
    rw [e1]
    have hs := fun w => run_sub_none (P := Try.prog) 22 w (sub_self_not (x := x) (by omega))
    have h0 : ∀ w, FloatKind.f64.format.order (nanA w (.nanBits .f64 x x)) 0 = none := fun w => order_nan_l (nanA_nan w x x)
    clear h e1
    go_enter Try.func9, Try.ntmps9
    go_wp2
    go_ret
    exact ⟨by simp, 1, rfl⟩

theorem abs_bits (x : Nat) (hx : x < 18446744073709551616) : (bits BinOp.andNot IntKind.u64 (x : Int) 9223372036854775808).toNat = rg x := by
  have h := u64_andNot_nat x 9223372036854775808 hx (by decide)
  have e : ((9223372036854775808 : Nat) : Int) = 9223372036854775808 := rfl
  rw [e] at h
  rw [h, Int.toNat_natCast]
  show x &&& (2 ^ 63 - 1) = _
  rw [Nat.and_two_pow_sub_one_eq_mod]; rfl
theorem ret_float {k : FloatKind} {a b : Nat} (h : a = b) : Ending.returned (.float k a) = .returned (.float k b) := by rw [h]

set_option maxHeartbeats 400000 in
theorem abs_any (x : Nat) (hx : x < 18446744073709551616) (w : World) :
    Calls Try.prog 39 #[.float .f64 x] w fun e w' => e = .returned (.float .f64 (rg x)) ∧ w' = w := by
  have hb := bits_run x
  have hb' := frombits_run
  go_enter Try.func39, Try.ntmps39
  go_wp2
  go_ret
  exact ⟨ret_float (abs_bits x hx), rfl⟩

set_option maxHeartbeats 400000 in
theorem implKnown_any (x : Nat) (hx : x < 18446744073709551616) (w : World) :
    Calls Try.prog 10 #[.float .f64 x] w fun e w' => e = .returned (.bool (knownB x)) ∧ ∃ n, w' = w.drewN n := by
  have A : Hid (∀ w, Calls Try.prog 39 #[.float .f64 x] w fun e w' => e = .returned (.float .f64 (rg x)) ∧ w' = w) := fun w => abs_any x hx w
  by_cases hn : INF < rg x
  · have e1 : knownB x = false := decide_eq_false (by omega)
    rw [e1]
    have h0 : FloatKind.f64.format.order x x = none := order_nan_l hn
    clear hn e1
    go_enter Try.func10, Try.ntmps10
    go_wp2
    go_ret
    exact ⟨rfl, 0, rfl⟩
  · have h0 : FloatKind.f64.format.order x x = some .eq := order_self (by omega)
    have h1 := order_max (r := rg x) (by omega)
    have e1 : knownB x = !decide (rg x = INF) := by
      unfold knownB; rw [← decide_not, decide_eq_decide]; omega
    rw [e1, ← h1]
    clear h1 e1 hn
    go_enter Try.func10, Try.ntmps10
    go_wp2_with (first | (go_at_call 39; refine (A.out _).mono ?_; rintro e w1 ⟨rfl, rfl⟩) | go_in)
    go_ret
    exact ⟨rfl, 0, rfl⟩
end Go.Proofs.Ytbiggeejmndloab
