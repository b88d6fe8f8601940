/-
What is proved: what the specification's small functions on float64s give: m times a power of 2 where that is exact, a number with a sign, a NaN; when two are told to be the same float.
-/

import Derived.Test.YtjahjhddokaopaaFp3
namespace Go.Proofs.Ytjahjhddokaopaa
set_option maxRecDepth 40000
open Go.RowKit

/-- What holds while a number is doubled or halved towards r. -/
def scInv (r y : Nat) (t : Int) : Prop := y < INF ∧ ((0 ≤ t ∧ vl r = vl y * 2 ^ t.toNat) ∨ (t ≤ 0 ∧ vl y = vl r * 2 ^ (-t).toNat))
theorem vl_le_iff {a b : Nat} (h : vl a ≤ vl b) : a ≤ b := by
  rcases Nat.lt_or_ge b a with g | g
  · have := vl_mono g; omega
  · exact g
theorem sc_start {r m y E : Nat} {q : Int} (hE : E = 1074) (hq : -1074 ≤ q) (hy : y < INF) (h1 : vl y = m * 2 ^ E) (hv : vl r = m * 2 ^ (q + 1074).toNat) : scInv r y q := by
  refine ⟨hy, ?_⟩
  by_cases c : 0 ≤ q
  · left; refine ⟨c, ?_⟩
    rw [hv, h1, Nat.mul_assoc, ← Nat.pow_add, show E + q.toNat = (q + 1074).toNat by omega]
  · right; refine ⟨by omega, ?_⟩
    rw [hv, h1, Nat.mul_assoc, ← Nat.pow_add, show (q + 1074).toNat + (-q).toNat = E by omega]
theorem sc_up {r y : Nat} {t : Int} (hr : r < INF) (h : scInv r y t) (ht : 0 < t) : ∃ z, dbl y = z ∧ z < INF ∧ scInv r z (t - 1) := by
  obtain ⟨hy, ⟨h1, h2⟩ | ⟨h1, h2⟩⟩ := h
  · have e : t.toNat = (t - 1).toNat + 1 := by omega
    have v : vl r = vl (dbl y) * 2 ^ (t - 1).toNat := by
      rw [h2, e, vl_dbl, Nat.pow_succ]
      have h3 : vl y * (2 ^ (t - 1).toNat * 2) = vl y * 2 ^ (t - 1).toNat * 2 := (Nat.mul_assoc ..).symm
      have h4 : 2 * vl y * 2 ^ (t - 1).toNat = 2 * (vl y * 2 ^ (t - 1).toNat) := Nat.mul_assoc ..
      omega
    have le : dbl y ≤ r := vl_le_iff (by rw [v]; exact mul_pow_one _ _)
    exact ⟨dbl y, rfl, by omega, by omega, .inl ⟨by omega, v⟩⟩
  · omega
theorem sc_down {r y : Nat} {t : Int} (h : scInv r y t) (ht : t < 0) : ∃ z, dbl z = y ∧ z < INF ∧ y < INF ∧ scInv r z (t + 1) := by
  obtain ⟨hy, ⟨h1, h2⟩ | ⟨h1, h2⟩⟩ := h
  · omega
  · have e : (-t).toNat = (-(t + 1)).toNat + 1 := by omega
    obtain ⟨z, hz, _⟩ := rw2_val (mg r) (kg r + (-(t + 1)).toNat) (mg_lt r)
    have v : vl z = vl r * 2 ^ (-(t + 1)).toNat := by rw [hz, Nat.pow_add, ← Nat.mul_assoc]; rfl
    have v2 : vl y = 2 * vl z := by
      rw [h2, e, v, Nat.pow_succ]
      have h3 : vl r * (2 ^ (-(t + 1)).toNat * 2) = vl r * 2 ^ (-(t + 1)).toNat * 2 := (Nat.mul_assoc ..).symm
      omega
    have le : z ≤ y := vl_le_iff (by omega)
    exact ⟨z, dbl_of_vl v2, by omega, hy, by omega, .inr ⟨by omega, v⟩⟩
theorem sc_end {r y : Nat} {t : Int} (h : scInv r y t) (ht : t = 0) : y = r := by
  subst ht
  obtain ⟨hy, ⟨h1, h2⟩ | ⟨h1, h2⟩⟩ := h
  · exact vl_inj (by rw [h2]; simp)
  · exact vl_inj (by rw [h2]; simp)

theorem ret_fl {k : FloatKind} {a b : Nat} (h : a = b) : Ending.returned (.float k a) = .returned (.float k b) := by rw [h]

set_option maxHeartbeats 1000000 in
set_option maxRecDepth 100000 in
theorem l1Scaled_any (m : Nat) (q : Int) (r : Nat) (w : World) (hm : m < 9007199254740992) (hq1 : -1074 ≤ q) (hq2 : q ≤ 3000) (hr : r < INF) (hv : vl r = m * 2 ^ (q + 1074).toNat) :
    Calls Try.prog 45 #[.int .u64 (m : Int), .int .i64 q] w fun e w' => e = .returned (.float .f64 r) ∧ w' = w := by
  obtain ⟨E, hE⟩ : ∃ E, E = 1074 := ⟨_, rfl⟩
  obtain ⟨y, hy, hyi⟩ := rw2_val m E hm
  have hyI : y < INF := hyi (by omega)
  have I : Hid (scInv r y q) := sc_start hE hq1 hyI hy hv
  have hc : floatOfInt .f64 (m : Int) = y := ofInt_val hE hyI hy
  have HR : Hid (r < INF) := hr
  clear hE hy hyi hyI hm hv hr
  go_enter Try.func45, Try.ntmps45
  go_wp2_with fail
  go_loop [1, 5] (fun b a => ∃ (y : Nat) (t : Int), -1074 ≤ t ∧ t ≤ 3000 ∧ a = .float .f64 y ∧ b = .int .i64 t ∧ Hid (scInv r y t)) (fun b _ => (intOf b).toNat)
  case atStart => exact ⟨y, q, hq1, hq2, rfl, rfl, I⟩
  case round =>
    clear hc I hq1 hq2
    obtain ⟨y, t, t1, t2, rfl, rfl, hi⟩ := hrel
    by_cases c : 0 < t
    · obtain ⟨z, hz, zi, hi2⟩ := sc_up HR.out hi.out c
      have hm := fun w => run_mul_some (P := Try.prog) 24 w (mul_two (r := y) hi.out.1 (by rw [hz]; exact zi))
      rw [hz] at hm
      unfold TWO at hm
      have HI : Hid (scInv r z (t - 1)) := hi2
      clear hi hz zi hi2
      go_wp2
      go_round
      case rel => exact ⟨z, t - 1, by omega, by omega, rfl, rfl, HI⟩
      case measure => simp [intOf]; omega
    · go_wp2_with fail
      go_loop [1, 5] (fun b a => ∃ (y : Nat) (t : Int), -1074 ≤ t ∧ t ≤ 0 ∧ a = .float .f64 y ∧ b = .int .i64 t ∧ Hid (scInv r y t)) (fun b _ => (-(intOf b)).toNat)
      case atStart => exact ⟨y, t, t1, by omega, rfl, rfl, hi⟩
      case round =>
        clear hi t1 t2 c
        obtain ⟨y, t, t1, t2, rfl, rfl, hi⟩ := hrel
        by_cases c : t < 0
        · obtain ⟨z, hz, zi, yi, hi2⟩ := sc_down hi.out c
          have hm := fun w => run_quo_some (P := Try.prog) 24 w (quo_two (r := z) zi (by rw [hz]; exact yi))
          rw [hz] at hm
          unfold TWO at hm
          have HI : Hid (scInv r z (t + 1)) := hi2
          clear hi hz zi hi2 yi
          go_wp2
          go_round
          case rel => exact ⟨z, t + 1, by omega, by omega, rfl, rfl, HI⟩
          case measure => simp [intOf]; omega
        · have e : Hid (y = r) := sc_end hi.out (by omega)
          clear hi
          go_wp2
          go_ret
          exact ⟨ret_fl e.out, rfl⟩

theorem neg_pos_word {x : Nat} (hx : x < 9223372036854775808) : x ^^^ 2 ^ 63 = 9223372036854775808 + x := by
  have h : (9223372036854775808 + x) ^^^ 2 ^ 63 = x := by
    have h1 : 9223372036854775808 + x < 18446744073709551616 := by omega
    have h2 : sg (9223372036854775808 + x) = true := by unfold sg; rw [beq_iff_eq]; omega
    have h3 : rg (9223372036854775808 + x) = x := by unfold rg; omega
    rw [neg_wordS h1 h2, h3]
  have g := congrArg (· ^^^ 2 ^ 63) h
  simp only [Nat.xor_assoc, Nat.xor_self, Nat.xor_zero] at g
  exact g.symm
theorem neg_runS (x : Nat) (w : World) : Sem.run Try.prog (Op.unary UnOp.neg (Value.float .f64 x)) w = .ok (.float .f64 (x ^^^ 2 ^ 63)) w := rfl

set_option maxHeartbeats 400000 in
theorem l1Signed_any (x : Nat) (s : Bool) (hx : x < 9223372036854775808) (w : World) : Calls Try.prog 44 #[.float .f64 x, .bool s] w fun e w' => e = .returned (.float .f64 ((if s = true then 9223372036854775808 else 0) + x)) ∧ w' = w := by
  cases s
  · rw [if_neg (by decide), Nat.zero_add]
    clear hx
    go_enter Try.func44, Try.ntmps44
    go_wp2
    go_ret
    exact ⟨rfl, rfl⟩
  · rw [if_pos rfl]
    have hn : ∀ w, Sem.run Try.prog (Op.unary UnOp.neg (Value.float .f64 x)) w = .ok (.float .f64 (9223372036854775808 + x)) w := fun w => by rw [← neg_pos_word hx]; exact neg_runS x w
    clear hx
    generalize 9223372036854775808 + x = z at *
    go_enter Try.func44, Try.ntmps44
    go_wp2
    go_ret
    exact ⟨rfl, rfl⟩

set_option maxHeartbeats 400000 in
theorem l1NoneS_any (w : World) : Calls Try.prog 40 #[] w fun e w' => ∃ f, e = .returned (.float .f64 f) ∧ INF < rg f ∧ f < 18446744073709551616 ∧ ∃ n, w' = w.drewN n := by
  have hd : FloatKind.f64.format.div 0 0 = none := by decide
  have hq := fun w => run_quo_none (P := Try.prog) 24 w hd
  clear hd
  go_enter Try.func40, Try.ntmps40
  go_wp2
  go_ret
  exact ⟨_, rfl, nanA_nan _ _ _, nanA_lt _ _ _, 1, rfl⟩
end Go.Proofs.Ytjahjhddokaopaa
