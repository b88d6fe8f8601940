/-
What is proved: the parts of a known float64 that is not 0, as the specification takes it apart: a whole number below 2 to 53 and a power of 2.
-/
import Derived.Test.YtpeelhkmipgacaaFmin
import Derived.Test.YtpeelhkmipgacaaFp2
namespace Go.Proofs.Ytpeelhkmipgacaa
set_option maxRecDepth 40000
open Go.RowKit

theorem neg_word {x : Nat} (hx : x < 18446744073709551616) (hs : sg x = true) : x ^^^ 2 ^ 63 = rg x := by
  have w1 := word_of hx
  rw [hs, if_pos rfl] at w1
  have hr : rg x < 2 ^ 63 := Nat.mod_lt _ (by decide)
  generalize rg x = r at *
  have e : x = 2 ^ 63 + r := w1
  subst e
  apply Nat.eq_of_testBit_eq
  intro i
  rw [Nat.testBit_xor]
  rcases Nat.lt_trichotomy i 63 with h | h | h
  · rw [Nat.testBit_two_pow_add_gt h, Nat.testBit_two_pow_of_ne (by omega)]; simp
  · subst h
    rw [Nat.testBit_two_pow_add_eq, Nat.testBit_two_pow_self, Nat.testBit_lt_two_pow hr]; rfl
  · have p : 2 ^ 64 ≤ 2 ^ i := Nat.pow_le_pow_right (by decide) (by omega)
    rw [Nat.testBit_lt_two_pow (x := 2 ^ 63 + r) (by omega), Nat.testBit_lt_two_pow (x := 2 ^ 63) (by omega), Nat.testBit_lt_two_pow (x := r) (by omega)]; rfl
theorem pos_word {x : Nat} (hx : x < 18446744073709551616) (hs : sg x = false) : x = rg x := by
  have w1 := word_of hx
  rw [hs] at w1
  simpa using w1
theorem ret_flt {k : FloatKind} {a b : Nat} (h : a = b) : Ending.returned (.float k a) = .returned (.float k b) := by rw [h]

theorem neg_run (x : Nat) (w : World) : Sem.run Try.prog (Op.unary UnOp.neg (Value.float .f64 x)) w = .ok (.float .f64 (x ^^^ 2 ^ 63)) w := rfl

set_option maxHeartbeats 400000 in
theorem l1Size_any (x : Nat) (hx : x < 18446744073709551616) (hn : rg x ≤ INF) (w : World) : Calls Try.prog 43 #[.float .f64 x] w fun e w' => e = .returned (.float .f64 (rg x)) ∧ w' = w := by
  have M : Hid (∀ w, Calls Try.prog 30 #[.float .f64 x] w fun e w' => e = .returned (.bool (minusB x)) ∧ w' = w) := fun w => l1Minus_any x hx w
  have e1 : minusB x = sg x := by unfold minusB; rw [decide_eq_true (by omega)]; rfl
  rw [e1] at M
  clear e1
  cases hs : sg x
  · rw [hs] at M
    have H : Hid (x = rg x) := pos_word hx hs
    clear hx hn hs
    go_enter Try.func43, Try.ntmps43
    go_wp2_with fail
    refine (M.out _).mono ?_
    rintro e w1 ⟨rfl, rfl⟩
    go_wp2
    go_ret
    exact ⟨ret_flt H.out, rfl⟩
  · rw [hs] at M
    have hn' : ∀ w, Sem.run Try.prog (Op.unary UnOp.neg (Value.float .f64 x)) w = .ok (.float .f64 (rg x)) w := fun w => by rw [← neg_word hx hs]; exact neg_run x w
    clear hx hn hs
    go_enter Try.func43, Try.ntmps43
    go_wp2_with fail
    refine (M.out _).mono ?_
    rintro e w1 ⟨rfl, rfl⟩
    go_wp2
    go_ret
    exact ⟨rfl, rfl⟩

theorem lt_c52 {y : Nat} (h : y < INF) : (FloatKind.f64.format.order y 4841369599423283200 == some .lt) = decide (y < C52) := by
  rw [order_pos h (by decide)]
  show (some (compare y C52) == some .lt) = _
  rcases Nat.lt_trichotomy y C52 with g | g | g
  · rw [Nat.compare_eq_lt.2 g, decide_eq_true g]; rfl
  · rw [Nat.compare_eq_eq.2 g, decide_eq_false (by omega)]; rfl
  · rw [Nat.compare_eq_gt.2 g, decide_eq_false (by omega)]; rfl
theorem c53_cases {y : Nat} (h : y < INF) : (y < C53 ∧ FloatKind.f64.format.order y 4845873199050653696 = some .lt) ∨ (C53 ≤ y ∧ (FloatKind.f64.format.order y 4845873199050653696 = some .eq ∨ FloatKind.f64.format.order y 4845873199050653696 = some .gt)) := by
  have e : FloatKind.f64.format.order y 4845873199050653696 = some (compare y C53) := order_pos h (by decide)
  rw [e]
  rcases Nat.lt_trichotomy y C53 with g | g | g
  · exact .inl ⟨g, by rw [Nat.compare_eq_lt.2 g]⟩
  · exact .inr ⟨by omega, .inl (by rw [Nat.compare_eq_eq.2 g])⟩
  · exact .inr ⟨by omega, .inr (by rw [Nat.compare_eq_gt.2 g])⟩

/-- What holds at the head of the halvings. -/
def halfInv (r y : Nat) (q : Int) : Prop :=
  (∃ k : Nat, q = -(k : Int) ∧ k ≤ 1074 ∧ vl y = vl r * 2 ^ k ∧ y < C53 ∧ (C52 ≤ y ∨ k = 1074)) ∨ (∃ k : Nat, q = (k : Int) ∧ k ≤ 3000 ∧ vl y * 2 ^ k = vl r ∧ C52 ≤ y ∧ kg y + k ≤ 3000)
theorem half_end {r y : Nat} {q : Int} (h : halfInv r y q) (hy : y < C53) : floatToIntVal .f64 y .u64 = some (mg r : Int) ∧ q = (kg r : Int) - 1074 := by
  rcases h with ⟨k, rfl, h1, h2, h3, h4⟩ | ⟨k, rfl, h1, h2, h3, h4⟩
  · obtain ⟨e1, e2⟩ := parts_up hy h1 h2 h4
    exact ⟨e1, by omega⟩
  · obtain ⟨e1, e2⟩ := parts_down hy h3 h2
    exact ⟨e1, by omega⟩
theorem dbl_of {y : Nat} (h : C53 ≤ y) : dbl (y - BIN) = y := by
  unfold dbl; unfold C53 BIN at *; rw [if_neg (by omega)]; omega
theorem half_step {r y : Nat} {q : Int} (h : halfInv r y q) (hy : C53 ≤ y) : halfInv r (y - BIN) (q + 1) ∧ -1074 ≤ q ∧ q < 3000 := by
  rcases h with ⟨k, rfl, h1, h2, h3, h4⟩ | ⟨k, rfl, h1, h2, h3, h4⟩
  · omega
  · have kk : kg (y - BIN) + 1 = kg y := by unfold kg BIN; unfold C53 at hy; omega
    refine ⟨.inr ⟨k + 1, by omega, by omega, ?_, by unfold C53 at hy; unfold C52 BIN; omega, by omega⟩, by omega, ?_⟩
    · have := vl_dbl (y - BIN)
      rw [dbl_of hy] at this
      rw [← h2, this, Nat.pow_succ, ← Nat.mul_assoc, Nat.mul_right_comm, Nat.mul_comm (vl (y - BIN)) 2]
    · have : 1 ≤ kg y := by omega
      omega

theorem half_next {r y : Nat} {q : Int} (h : halfInv r y q) (hy : C53 ≤ y) : ∃ z, dbl z = y ∧ z < y ∧ halfInv r z (q + 1) ∧ -1074 ≤ q ∧ q < 3000 := by
  obtain ⟨e1, e2, e3⟩ := half_step h hy
  exact ⟨y - BIN, dbl_of hy, by unfold C53 at hy; unfold BIN; omega, e1, e2, e3⟩

theorem dbl_c52 {y : Nat} (h : y < C52) : dbl y < C53 ∧ dbl y < INF := by
  unfold dbl; unfold C52 at h; unfold C53 INF BIN; split <;> omega
theorem vl_pow {r y k : Nat} (h : vl y = vl r * 2 ^ k) : vl (dbl y) = vl r * 2 ^ (k + 1) := by
  have h1 : vl r * (2 ^ k * 2) = vl r * 2 ^ k * 2 := (Nat.mul_assoc ..).symm
  rw [vl_dbl, h, Nat.pow_succ]; omega

def fltOf : Value → Nat | .float _ b => b | _ => 0
theorem ret_two {k l : IntKind} {a b c d : Int} (h : a = b) (g : c = d) : Ending.returned (.tuple #[.int k a, .int l c]) = .returned (.tuple #[.int k b, .int l d]) := by rw [h, g]

set_option maxHeartbeats 1000000 in
set_option maxRecDepth 100000 in
theorem l1Parts_any (x : Nat) (hx : x < 18446744073709551616) (hn : rg x < INF) (w : World) :
    Calls Try.prog 34 #[.float .f64 x] w fun e w' => e = .returned (.tuple #[.int .u64 (mg (rg x) : Int), .int .i64 ((kg (rg x) : Int) - 1074)]) ∧ w' = w := by
  have S : Hid (∀ w, Calls Try.prog 43 #[.float .f64 x] w fun e w' => e = .returned (.float .f64 (rg x)) ∧ w' = w) := fun w => l1Size_any x hx (by omega) w
  have hk : kg (rg x) ≤ 2046 := by unfold kg BIN; unfold INF at hn; omega
  generalize rg x = r at *
  clear hx
  go_enter Try.func34, Try.ntmps34
  go_wp2_with fail
  refine (S.out _).mono ?_
  rintro e w1 ⟨rfl, rfl⟩
  go_wp2_with fail
  go_loop [4, 5] (fun a b => ∃ y k : Nat, y < INF ∧ k ≤ 1074 ∧ a = .float .f64 y ∧ b = .int .i64 (-(k : Int)) ∧ Hid (vl y = vl r * 2 ^ k) ∧ Hid ((k = 0 ∧ y = r) ∨ y < C53)) (fun _ b => (1074 + intOf b).toNat)
  case atStart => exact ⟨r, 0, hn, by omega, rfl, rfl, (by show vl r = vl r * 2 ^ 0; omega), (.inl ⟨rfl, rfl⟩)⟩
  case round =>
    obtain ⟨y, k, hy, hk1, rfl, rfl, hv, hc⟩ := hrel
    have l52 := lt_c52 hy
    by_cases c : y < C52 ∧ k < 1074
    · rw [decide_eq_true c.1] at l52
      obtain ⟨d1, d2⟩ := dbl_c52 c.1
      have hm := fun w => run_mul_some (P := Try.prog) 24 w (mul_two hy d2)
      have hv2 : Hid (vl (dbl y) = vl r * 2 ^ (k + 1)) := vl_pow hv.out
      have c2 : k < 1074 := c.2
      unfold TWO at hm
      have D1 : Hid (dbl y < C53) := d1
      have D2 : Hid (dbl y < INF) := d2
      have HY : Hid (y < INF) := hy
      clear c hv hc d1 d2 hy
      generalize dbl y = z at *
      go_wp2
      go_round
      case rel => exact ⟨z, k + 1, D2, by omega, rfl, by go_num, hv2, .inr D1.out⟩
      case measure => simp [intOf]; omega
    · have hq : Hid (halfInv r y (-(k : Int))) := by
        show halfInv r y (-(k : Int))
        rcases hc.out with ⟨k0, yr⟩ | h53
        · subst k0; subst yr
          refine .inr ⟨0, by omega, by omega, by omega, by omega, by omega⟩
        · exact .inl ⟨k, rfl, hk1, hv.out, h53, by omega⟩
      clear hv hc
      have HY : Hid (y < INF) := hy
      clear hy
      by_cases c1 : y < C52
      · rw [decide_eq_true c1] at l52
        have c2 : 1074 ≤ k := by omega
        clear c c1
        go_wp2_with fail
        go_loop [4, 5] (fun a b => ∃ (y : Nat) (q : Int), -1074 ≤ q ∧ q ≤ 3000 ∧ a = .float .f64 y ∧ b = .int .i64 q ∧ Hid (y < INF) ∧ Hid (halfInv r y q)) (fun a _ => fltOf a)
        case atStart => exact ⟨y, -(k : Int), by omega, by omega, rfl, rfl, HY, hq⟩
        case round =>
          clear l52 hq HY
          obtain ⟨y, q, q1, q2, rfl, rfl, hy, hi⟩ := hrel
          rcases c53_cases hy.out with ⟨c, ho⟩ | ⟨c, ho⟩
          · obtain ⟨e1, e2⟩ := half_end hi.out c
            have hcv := fun w => run_convert_float_int (P := Try.prog) w 24 26 .f64 .u64 y (mg r : Int) (by rw [Try.underlying24]; rfl) Try.underlying26 e1
            have E2 : Hid (q = (kg r : Int) - 1074) := e2
            clear c hy hi e1 e2
            go_wp2
            go_ret2
            exact ⟨ret_two rfl E2.out, rfl⟩
          · obtain ⟨z, hd, hm1, e1, e2, e3⟩ := half_next hi.out c
            have d1 : z < INF := Nat.lt_trans hm1 hy.out
            have hq2 := fun w => run_quo_some (P := Try.prog) 24 w (quo_two (r := z) d1 (by rw [hd]; exact hy.out))
            rw [hd] at hq2
            unfold TWO at hq2
            have D1 : Hid (z < INF) := d1
            have E1 : Hid (halfInv r z (q + 1)) := e1
            have HM : Hid (z < y) := hm1
            clear c hd d1 e1 hy hi hm1
            rcases ho with ho | ho
            · go_wp2
              go_round
              case rel => exact ⟨z, q + 1, by omega, by omega, rfl, rfl, D1, E1⟩
              case measure => exact HM
            · go_wp2
              go_round
              case rel => exact ⟨z, q + 1, by omega, by omega, rfl, rfl, D1, E1⟩
              case measure => exact HM
      · rw [decide_eq_false c1] at l52
        clear c c1
        go_wp2_with fail
        go_loop [4, 5] (fun a b => ∃ (y : Nat) (q : Int), -1074 ≤ q ∧ q ≤ 3000 ∧ a = .float .f64 y ∧ b = .int .i64 q ∧ Hid (y < INF) ∧ Hid (halfInv r y q)) (fun a _ => fltOf a)
        case atStart => exact ⟨y, -(k : Int), by omega, by omega, rfl, rfl, HY, hq⟩
        case round =>
          clear l52 hq HY
          obtain ⟨y, q, q1, q2, rfl, rfl, hy, hi⟩ := hrel
          rcases c53_cases hy.out with ⟨c, ho⟩ | ⟨c, ho⟩
          · obtain ⟨e1, e2⟩ := half_end hi.out c
            have hcv := fun w => run_convert_float_int (P := Try.prog) w 24 26 .f64 .u64 y (mg r : Int) (by rw [Try.underlying24]; rfl) Try.underlying26 e1
            have E2 : Hid (q = (kg r : Int) - 1074) := e2
            clear c hy hi e1 e2
            go_wp2
            go_ret2
            exact ⟨ret_two rfl E2.out, rfl⟩
          · obtain ⟨z, hd, hm1, e1, e2, e3⟩ := half_next hi.out c
            have d1 : z < INF := Nat.lt_trans hm1 hy.out
            have hq2 := fun w => run_quo_some (P := Try.prog) 24 w (quo_two (r := z) d1 (by rw [hd]; exact hy.out))
            rw [hd] at hq2
            unfold TWO at hq2
            have D1 : Hid (z < INF) := d1
            have E1 : Hid (halfInv r z (q + 1)) := e1
            have HM : Hid (z < y) := hm1
            clear c hd d1 e1 hy hi hm1
            rcases ho with ho | ho
            · go_wp2
              go_round
              case rel => exact ⟨z, q + 1, by omega, by omega, rfl, rfl, D1, E1⟩
              case measure => exact HM
            · go_wp2
              go_round
              case rel => exact ⟨z, q + 1, by omega, by omega, rfl, rfl, D1, E1⟩
              case measure => exact HM
end Go.Proofs.Ytpeelhkmipgacaa
