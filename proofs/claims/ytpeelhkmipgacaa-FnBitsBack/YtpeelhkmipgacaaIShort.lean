/-
What is proved: the bits of the float32 that is nearest to a float64, as the program tells them; the order of two words of either sign.
-/
import Derived.Test.YtpeelhkmipgacaaShort
namespace Go.Proofs.Ytpeelhkmipgacaa
set_option maxRecDepth 40000
open Go.RowKit

def sv (x : Nat) : Int := if sg x = true then -(vl (rg x) : Int) else (vl (rg x) : Int)
theorem cmp_scale {x y p : Int} (hp : 0 < p) : compare (x * p) (y * p) = compare x y := by
  rcases Int.lt_trichotomy x y with h | h | h
  · rw [cmp_lt h, cmp_lt (Int.mul_lt_mul_of_pos_right h hp)]
  · subst h; rw [cmp_eq, cmp_eq]
  · rw [cmp_gt h, cmp_gt (Int.mul_lt_mul_of_pos_right h hp)]
theorem signed_sv {x m : Nat} (hm : m ≤ kg (rg x)) : Ieee.signed (sg x) (mg (rg x)) (kg (rg x) - m) * ((2 ^ m : Nat) : Int) = sv x := by
  have e : (mg (rg x) <<< (kg (rg x) - m)) * 2 ^ m = vl (rg x) := by
    rw [Nat.shiftLeft_eq, Nat.mul_assoc, ← Nat.pow_add, Nat.sub_add_cancel hm]; rfl
  unfold sv
  cases sg x
  · rw [signed_f, if_neg (by decide), ← e]; simp
  · rw [signed_t, if_pos rfl, ← e, Int.neg_mul]; simp
theorem order_fin {a b : Nat} (ha : rg a < INF) (hb : rg b < INF) : FloatKind.f64.format.order a b = some (compare (sv a) (sv b)) := by
  have e1 : (-1074 + (kg (rg a) : Int) - min (-1074 + (kg (rg a) : Int)) (-1074 + (kg (rg b) : Int))).toNat = kg (rg a) - min (kg (rg a)) (kg (rg b)) := by omega
  have e2 : (-1074 + (kg (rg b) : Int) - min (-1074 + (kg (rg a) : Int)) (-1074 + (kg (rg b) : Int))).toNat = kg (rg b) - min (kg (rg a)) (kg (rg b)) := by omega
  simp only [Ieee.Format.order, read_gen ha, read_gen hb, Ieee.Datum.order, e1, e2]
  rw [← cmp_scale (p := ((2 ^ min (kg (rg a)) (kg (rg b)) : Nat) : Int)) (by have := Nat.two_pow_pos (min (kg (rg a)) (kg (rg b))); omega), signed_sv (Nat.min_le_left _ _), signed_sv (Nat.min_le_right _ _)]
/-- Half-way above the greatest float32, as a word. -/
def TOP : Nat := 5183643170835005440
theorem top_rg : rg 5183643170835005440 = TOP ∧ sg 5183643170835005440 = false ∧ rg 14407015207689781248 = TOP ∧ sg 14407015207689781248 = true := by decide
theorem vl_le {a b : Nat} (h : a ≤ b) : vl a ≤ vl b := by
  rcases Nat.lt_or_eq_of_le h with g | g
  · exact Nat.le_of_lt (vl_mono g)
  · rw [g]; exact Nat.le_refl _
theorem vl_top : 0 < vl TOP := Nat.lt_of_le_of_lt (Nat.zero_le _) (vl_mono (a := 0) (by decide))
theorem sv_top : sv 5183643170835005440 = vl TOP ∧ sv 14407015207689781248 = -(vl TOP : Int) := by
  obtain ⟨h1, h2, h3, h4⟩ := top_rg
  unfold sv
  rw [h1, h2, h3, h4]
  exact ⟨rfl, rfl⟩
theorem ord_below {x : Nat} (h : rg x < TOP) : FloatKind.f64.format.order x 5183643170835005440 = some .lt ∧ FloatKind.f64.format.order x 14407015207689781248 = some .gt := by
  obtain ⟨h1, h2, h3, h4⟩ := top_rg
  have hi : TOP < INF := by decide
  have := vl_mono h
  have t0 := vl_top
  rw [order_fin (by omega) (by rw [h1]; exact hi), order_fin (by omega) (by rw [h3]; exact hi), sv_top.1, sv_top.2]
  unfold sv
  cases sg x
  · rw [if_neg (by decide), cmp_lt (by omega), cmp_gt (by omega)]; exact ⟨rfl, rfl⟩
  · rw [if_pos rfl, cmp_lt (by omega), cmp_gt (by omega)]; exact ⟨rfl, rfl⟩
theorem read_top : FloatKind.f64.format.read 5183643170835005440 = .number false 9007198986305536 75 ∧ FloatKind.f64.format.read 14407015207689781248 = .number true 9007198986305536 75 := by decide
theorem ord_above {x : Nat} (h : TOP ≤ rg x) (h2 : rg x ≤ INF) (hs : sg x = false) : FloatKind.f64.format.order x 5183643170835005440 = some .gt ∨ FloatKind.f64.format.order x 5183643170835005440 = some .eq := by
  obtain ⟨h1, h2', h3, h4⟩ := top_rg
  have hi : TOP < INF := by decide
  by_cases k : rg x = INF
  · left
    simp only [Ieee.Format.order, read_inf k, read_top.1, hs, Ieee.Datum.order]
    rfl
  · rw [order_fin (by omega) (by rw [h1]; exact hi), sv_top.1]
    unfold sv
    rw [hs, if_neg (by decide)]
    rcases Nat.lt_or_eq_of_le h with g | g
    · left; have := vl_mono g; rw [cmp_gt (by omega)]
    · right; rw [← g, cmp_eq]
theorem ord_under {x : Nat} (h : TOP ≤ rg x) (h2 : rg x ≤ INF) (hs : sg x = true) : FloatKind.f64.format.order x 5183643170835005440 = some .lt ∧ (FloatKind.f64.format.order x 14407015207689781248 = some .lt ∨ FloatKind.f64.format.order x 14407015207689781248 = some .eq) := by
  obtain ⟨h1, h2', h3, h4⟩ := top_rg
  have hi : TOP < INF := by decide
  have t0 := vl_top
  by_cases k : rg x = INF
  · refine ⟨?_, .inl ?_⟩
    · simp only [Ieee.Format.order, read_inf k, read_top.1, hs, Ieee.Datum.order]
      rfl
    · simp only [Ieee.Format.order, read_inf k, read_top.2, hs, Ieee.Datum.order]
      rfl
  · rw [order_fin (by omega) (by rw [h1]; exact hi), order_fin (by omega) (by rw [h3]; exact hi), sv_top.1, sv_top.2]
    unfold sv
    rw [hs, if_pos rfl]
    refine ⟨by rw [cmp_lt (by omega)], ?_⟩
    rcases Nat.lt_or_eq_of_le h with g | g
    · left; have := vl_mono g; rw [cmp_lt (by omega)]
    · right; rw [← g, cmp_eq]

theorem s_sign : Ieee.single.signWeight = 2147483648 := by decide
theorem not_inf {s : Bool} {q : Nat} (h : q < 2139095040) : (Ieee.single.read ((if s = true then 2147483648 else 0) + q)).isInfinity = false := by
  have m1 : ((if s = true then 2147483648 else 0) + q) % 2147483648 = q := by cases s <;> simp <;> omega
  unfold Ieee.Format.read
  simp only [s_bin, s_inf, s_sign, m1]
  by_cases c : q < 8388608
  · rw [if_pos c]; rfl
  · rw [if_neg c, if_pos h]; rfl
theorem word32 (s : Bool) (q : Nat) : Ieee.single.word s q = (if s = true then 2147483648 else 0) + q := by
  unfold Ieee.Format.word
  rw [s_sign]
  cases s <;> simp
theorem conv_of {x ans m : Nat} {s : Bool} {p : Int} (d : FloatKind.decode .f64 x = .number s m p) (e : FloatKind.encode .f32 (.number s m p) = ans) (n : (FloatKind.decode .f32 ans).isInfinity = false) : floatToFloatBits .f64 x .f32 = some ans := by
  unfold floatToFloatBits
  rw [if_neg (by decide), d]
  simp only [e, n]
  exact if_neg (by decide)
/-- The conversion below that number: what is nearest, and it is not infinite. -/
theorem conv_short {x : Nat} (h : rg x < TOP) : floatToFloatBits .f64 x .f32 = some ((if sg x = true then 2147483648 else 0) + min (rung32 (rg x)) 2139095040) := by
  have hi : TOP < INF := by decide
  have hh : rg x < 5183643170835005440 := h
  have fit := fits hh
  have lt : rg x < INF := by omega
  have e := near32 (sg x) (rg x) lt
  rw [word32] at e
  have n := not_inf (s := sg x) fit
  rw [Nat.min_eq_left (by omega)] at e ⊢
  generalize rung32 (rg x) = q at *
  exact conv_of (read_gen lt) e n

theorem bits32_run (x : Nat) (w : World) : Sem.run Try.prog (callFunc 39 #[.float .f32 x]) w = .ok (.value (.int .u32 x)) w := by kernel_rfl

set_option maxHeartbeats 1000000 in
theorem implShort_any (x : Nat) (w : World) : Calls Try.prog 19 #[.float .f64 x] w fun e w' => e = .returned (.int .u32 (shortB x : Nat)) ∧ w' = w := by
  have A : Hid (∀ w, Calls Try.prog 32 #[.float .f64 x] w fun e w' => e = .returned (.bool (decide (INF < rg x))) ∧ w' = w) := fun w => isNaN_any x w
  by_cases hn : INF < rg x
  · have e1 : shortB x = 2143289344 := by unfold shortB; rw [if_pos hn]
    rw [e1]; clear e1
    rw [decide_eq_true hn] at A
    clear hn
    go_enter Try.func19, Try.ntmps19
    go_wp2_with fail
    refine (A.out _).mono ?_
    rintro e w1 ⟨rfl, rfl⟩
    go_wp2
    go_ret
    exact ⟨rfl, rfl⟩
  · rw [decide_eq_false hn] at A
    by_cases ht : rg x < TOP
    · obtain ⟨o1, o2⟩ := ord_below ht
      have cv := conv_short ht
      have e1 : shortB x = (if sg x = true then 2147483648 else 0) + min (rung32 (rg x)) 2139095040 := by
        unfold shortB
        have hi : TOP < INF := by decide
        rw [if_neg hn, if_neg (show ¬ rg x = INF by omega)]
      rw [← e1] at cv
      clear e1 ht hn
      generalize shortB x = r at *
      have hb := bits32_run r
      have hv := fun w => run_convert_float_float (P := Try.prog) w 24 45 .f64 .f32 x r (by rw [Try.underlying24]; rfl) Try.underlying45 cv
      clear cv
      go_enter Try.func19, Try.ntmps19
      go_wp2_with fail
      refine (A.out _).mono ?_
      rintro e w1 ⟨rfl, rfl⟩
      go_wp2
      go_ret
      exact ⟨rfl, rfl⟩
    · have e1 : shortB x = (if sg x = true then 2147483648 else 0) + 2139095040 := by
        unfold shortB
        rw [if_neg hn]
        by_cases i : rg x = INF
        · rw [if_pos i]
        · rw [if_neg i, Nat.min_eq_right (fits_not (by unfold TOP at ht; omega))]
      rw [e1]; clear e1
      cases hs : sg x
      · have e2 : (if false = true then 2147483648 else 0) + 2139095040 = 2139095040 := by decide
        rw [e2]
        rcases ord_above (by omega) (by omega) hs with o | o
        all_goals
          clear hs ht hn e2
          go_enter Try.func19, Try.ntmps19
          go_wp2_with fail
          refine (A.out _).mono ?_
          rintro e w1 ⟨rfl, rfl⟩
          go_wp2
          go_ret
          exact ⟨rfl, rfl⟩
      · have e2 : (if true = true then 2147483648 else 0) + 2139095040 = 4286578688 := by decide
        rw [e2]
        obtain ⟨o1, o2⟩ := ord_under (by omega) (by omega) hs
        rcases o2 with o2 | o2
        all_goals
          clear hs ht hn e2
          go_enter Try.func19, Try.ntmps19
          go_wp2_with fail
          refine (A.out _).mono ?_
          rintro e w1 ⟨rfl, rfl⟩
          go_wp2
          go_ret
          exact ⟨rfl, rfl⟩
end Go.Proofs.Ytpeelhkmipgacaa
