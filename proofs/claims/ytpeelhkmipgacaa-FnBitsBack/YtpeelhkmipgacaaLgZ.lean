/-
What is proved: the float64 of the value that a float32 of 32 bits has, as the specification tells it, for all bits.
-/
import Derived.Test.YtpeelhkmipgacaaLgV
namespace Go.Proofs.Ytpeelhkmipgacaa
set_option maxRecDepth 40000
open Go.RowKit
set_option linter.unusedVariables false

/-- The fields of 32 bits. -/
theorem field32_s (b : Nat) (hb : b < 4294967296) : ((b : Int) / 2147483648 == 1) = (b / 2147483648 % 2 == 1) := by
  rw [Bool.eq_iff_iff, beq_iff_eq, beq_iff_eq]; omega
theorem field32_e (b : Nat) (hb : b < 4294967296) : bits .and .u32 ((b : Int) / 8388608) 255 = ((b / 8388608 % 256 : Nat) : Int) := by
  have e : ((b : Int) / 8388608) = ((b / 8388608 : Nat) : Int) := by omega
  rw [e]
  have h := u32_and_nat (b / 8388608) 255 (by omega) (by omega)
  refine h.trans ?_
  exact congrArg Int.ofNat (Nat.and_two_pow_sub_one_eq_mod _ 8)
theorem field32_f (b : Nat) (hb : b < 4294967296) : bits .and .u32 (b : Int) 8388607 = ((b % 8388608 : Nat) : Int) := by
  have h := u32_and_nat b 8388607 hb (by omega)
  refine h.trans ?_
  exact congrArg Int.ofNat (Nat.and_two_pow_sub_one_eq_mod _ 23)

set_option maxHeartbeats 1000000 in
set_option maxRecDepth 100000 in
theorem long_nan (b : Nat) (s : Bool) (e f : Nat) (w : World) (f1 : (f : Int) < 8388608) (r1 : ((b : Int) / 2147483648 == 1) = s) (r2 : bits .and .u32 ((b : Int) / 8388608) 255 = (e : Int)) (r3 : bits .and .u32 (b : Int) 8388607 = (f : Int)) (b1 : 0 ≤ (b : Int)) (b2 : (b : Int) ≤ 4294967295)
    (e1 : (e : Int) ≤ 255) (t1 : ((e : Int) == 255) = true) (t2 : ((f : Int) != 0) = true) :
    Calls Try.prog 18 #[.int .u32 (b : Int)] w fun x w' => ∃ g, x = .returned (.float .f64 g) ∧ (INF < rg g ∧ g < 18446744073709551616) ∧ ∃ n, w' = w.drewN n := by
  have K : Hid (∀ w, Calls Try.prog 36 #[] w fun e w' => ∃ f, e = .returned (.float .f64 f) ∧ INF < rg f ∧ f < 18446744073709551616 ∧ ∃ n, w' = w.drewN n) := fun w => l1None_any w
  go_enter Try.func18, Try.ntmps18
  go_wp2_with fail
  refine (K.out _).mono ?_
  rintro e' w1 ⟨g, rfl, hg, hl, n, rfl⟩
  go_wp2
  go_ret
  exact ⟨g, rfl, ⟨hg, hl⟩, n, rfl⟩

set_option maxHeartbeats 1000000 in
set_option maxRecDepth 100000 in
theorem long_inf (b : Nat) (s : Bool) (e f : Nat) (w : World) (f1 : (f : Int) < 8388608) (r1 : ((b : Int) / 2147483648 == 1) = s) (r2 : bits .and .u32 ((b : Int) / 8388608) 255 = (e : Int)) (r3 : bits .and .u32 (b : Int) 8388607 = (f : Int)) (b1 : 0 ≤ (b : Int)) (b2 : (b : Int) ≤ 4294967295)
    (e1 : (e : Int) ≤ 255) (t1 : ((e : Int) == 255) = true) (t2 : ((f : Int) != 0) = false) :
    Calls Try.prog 18 #[.int .u32 (b : Int)] w fun x w' => x = .returned (.float .f64 ((if s = true then 9223372036854775808 else 0) + 9218868437227405312)) ∧ w' = w := by
  have K : Hid (∀ w, Calls Try.prog 37 #[.float .f64 9218868437227405312, .bool s] w fun e w' => e = .returned (.float .f64 ((if s = true then 9223372036854775808 else 0) + 9218868437227405312)) ∧ w' = w) := fun w => l1Signed_any _ s (by omega) w
  have hd : FloatKind.f64.format.div 4607182418800017408 0 = some 9218868437227405312 := by decide
  have hq := fun w => run_quo_some (P := Try.prog) 24 w hd
  clear hd
  generalize (if s = true then 9223372036854775808 else 0) + 9218868437227405312 = z at *
  go_enter Try.func18, Try.ntmps18
  go_wp2_with fail
  refine (K.out _).mono ?_
  rintro e' w1 ⟨rfl, rfl⟩
  go_wp2
  go_ret
  exact ⟨rfl, rfl⟩

set_option maxHeartbeats 1000000 in
set_option maxRecDepth 100000 in
theorem long_sub (b : Nat) (s : Bool) (e f : Nat) (w : World) (z : Nat) (f1 : (f : Int) < 8388608) (r1 : ((b : Int) / 2147483648 == 1) = s) (r2 : bits .and .u32 ((b : Int) / 8388608) 255 = (e : Int)) (r3 : bits .and .u32 (b : Int) 8388607 = (f : Int)) (b1 : 0 ≤ (b : Int)) (b2 : (b : Int) ≤ 4294967295)
    (t1 : ((e : Int) == 255) = false) (t3 : ((e : Int) == 0) = true)
    (K1 : Hid (∀ w, Calls Try.prog 38 #[.int .u64 (f : Int), .int .i64 (-149)] w fun e w' => e = .returned (.float .f64 z) ∧ w' = w)) (g : Nat)
    (K2 : Hid (∀ w, Calls Try.prog 37 #[.float .f64 z, .bool s] w fun e w' => e = .returned (.float .f64 g) ∧ w' = w)) (e1 : (e : Int) ≤ 255) :
    Calls Try.prog 18 #[.int .u32 (b : Int)] w fun x w' => x = .returned (.float .f64 g) ∧ w' = w := by
  go_enter Try.func18, Try.ntmps18
  go_wp2_with fail
  refine (K1.out _).mono ?_
  rintro e' w1 ⟨rfl, rfl⟩
  go_wp2_with fail
  refine (K2.out _).mono ?_
  rintro e' w1 ⟨rfl, rfl⟩
  go_wp2
  go_ret
  exact ⟨rfl, rfl⟩

set_option maxHeartbeats 1000000 in
set_option maxRecDepth 100000 in
theorem long_norm (b : Nat) (s : Bool) (e f : Nat) (w : World) (z : Nat) (r1 : ((b : Int) / 2147483648 == 1) = s) (r2 : bits .and .u32 ((b : Int) / 8388608) 255 = (e : Int)) (r3 : bits .and .u32 (b : Int) 8388607 = (f : Int)) (b1 : 0 ≤ (b : Int)) (b2 : (b : Int) ≤ 4294967295)
    (t1 : ((e : Int) == 255) = false) (t3 : ((e : Int) == 0) = false)
    (f1 : (f : Int) < 8388608)
    (K1 : Hid (∀ w, Calls Try.prog 38 #[.int .u64 ((f : Int) + 8388608), .int .i64 ((e : Int) - 150)] w fun e w' => e = .returned (.float .f64 z) ∧ w' = w)) (g : Nat)
    (K2 : Hid (∀ w, Calls Try.prog 37 #[.float .f64 z, .bool s] w fun e w' => e = .returned (.float .f64 g) ∧ w' = w)) (e1 : (e : Int) ≤ 255) :
    Calls Try.prog 18 #[.int .u32 (b : Int)] w fun x w' => x = .returned (.float .f64 g) ∧ w' = w := by
  go_enter Try.func18, Try.ntmps18
  go_wp2_with fail
  refine (K1.out _).mono ?_
  rintro e' w1 ⟨rfl, rfl⟩
  go_wp2_with fail
  refine (K2.out _).mono ?_
  rintro e' w1 ⟨rfl, rfl⟩
  go_wp2
  go_ret
  exact ⟨rfl, rfl⟩

/-! ### What a word of a float32 stands for. -/
theorem f32_sign : FloatKind.f32.format.signWeight = 2147483648 := by decide
theorem f32_inf : FloatKind.f32.format.infRung = 2139095040 := by decide
theorem f32_bin : FloatKind.f32.format.binade = 8388608 := by decide
theorem f32_least : FloatKind.f32.format.leastPlace = -149 := by decide
theorem read32 (b e f : Nat) (s : Bool) (hs : (b / 2147483648 % 2 == 1) = s) (he : b % 2147483648 = e * 8388608 + f) (hf : f < 8388608) :
    FloatKind.f32.decode b = if e = 0 then .number s f (-149) else if e < 255 then .number s (f + 8388608) ((e : Int) - 150) else if e = 255 ∧ f = 0 then .infinity s else .nan s (b % 2147483648 - 2139095040) := by
  show FloatKind.f32.format.read b = _
  simp only [Ieee.Format.read, f32_sign, f32_bin, f32_inf, f32_least, hs]
  by_cases c0 : e = 0
  · rw [if_pos c0, if_pos (by omega)]
    rw [show b % 2147483648 = f by omega]
  · rw [if_neg c0, if_neg (by omega)]
    by_cases c1 : e < 255
    · rw [if_pos c1, if_pos (by omega)]
      rw [show 8388608 + b % 2147483648 % 8388608 = f + 8388608 by omega, show (-149 : Int) + ((b % 2147483648 / 8388608 - 1 : Nat) : Int) = (e : Int) - 150 by omega]
    · rw [if_neg c1, if_neg (by omega)]
      by_cases c2 : e = 255 ∧ f = 0
      · rw [if_pos c2, if_pos (by omega)]
      · rw [if_neg c2]
        by_cases c3 : b % 2147483648 = 2139095040
        · omega
        · rw [if_neg c3]

/-- A float32's number is a float64's. -/
theorem conv_num (s : Bool) (m n r : Nat) (hr : r < INF) (hv : vl r = m * 2 ^ n) (b : Nat) (hd : FloatKind.f32.decode b = .number s m ((n : Int) - 1074)) : floatToFloatBits .f32 b .f64 = some ((if s = true then 9223372036854775808 else 0) + r) := by
  have e : FloatKind.f64.encode (.number s m ((n : Int) - 1074)) = (if s = true then 9223372036854775808 else 0) + r := by
    show FloatKind.f64.format.nearest s m ((n : Int) - 1074) = _
    rw [nearest_val s hr _ rfl hv]
    cases s
    · show r = _; simp
    · show FloatKind.f64.format.signWeight + r = _; rw [fmt_sign]; simp
  unfold floatToFloatBits
  rw [if_neg (by decide), hd]
  simp only [e]
  have ni : (FloatKind.f64.decode ((if s = true then 9223372036854775808 else 0) + r)).isInfinity = false := by
    show (FloatKind.f64.format.read _).isInfinity = false
    have q : rg ((if s = true then 9223372036854775808 else 0) + r) = r := by
      unfold INF at hr; unfold rg; cases s <;> simp <;> omega
    obtain ⟨m', e', h', _⟩ := read_fin (x := (if s = true then 9223372036854775808 else 0) + r) (by rw [q]; exact hr)
    rw [h']; rfl
  rw [ni]; rfl
theorem conv_inf (s : Bool) (b : Nat) (hd : FloatKind.f32.decode b = .infinity s) : floatToFloatBits .f32 b .f64 = some ((if s = true then 9223372036854775808 else 0) + 9218868437227405312) := by
  unfold floatToFloatBits
  rw [if_neg (by decide), hd]
  cases s <;> rfl

theorem frombits32_run (z : Int) (w : World) : Sem.run Try.prog (callFunc 35 #[.int .u32 z]) w = .ok (.value (.float .f32 z.toNat)) w := by kernel_rfl
set_option maxHeartbeats 400000 in
theorem implLong_num (b r : Nat) (w : World) (hc : floatToFloatBits .f32 b .f64 = some r) : Calls Try.prog 17 #[.int .u32 (b : Int)] w fun x w' => x = .returned (.float .f64 r) ∧ w' = w := by
  have h : ∀ w, Sem.run Try.prog (callFunc 35 #[.int .u32 (b : Int)]) w = .ok (.value (.float .f32 b)) w := fun w => frombits32_run b w
  have hv := fun w => run_convert_float_float (P := Try.prog) w 45 24 .f32 .f64 b r (by rw [Try.underlying45]; rfl) Try.underlying24 hc
  clear hc
  go_enter Try.func17, Try.ntmps17
  go_wp2
  go_ret
  exact ⟨rfl, rfl⟩
theorem nanC_nan (w : World) (b : Nat) : INF < rg (nanA w (.nanConv .f64 b)) := by
  unfold nanA Question.cut rg INF
  simp only
  generalize w.tape w.drawn (Question.nanConv FloatKind.f64 b) = t
  have ha : t % 2 = 0 ∨ t % 2 = 1 := by omega
  have hb : t / 2 % (2 ^ 52 - 1) < 4503599627370495 := Nat.mod_lt _ (by decide)
  generalize t / 2 % (2 ^ 52 - 1) = b at *
  rcases ha with ha | ha <;> rw [ha] <;> omega
theorem nanC_lt (w : World) (b : Nat) : nanA w (.nanConv .f64 b) < 18446744073709551616 := by
  unfold nanA Question.cut
  simp only
  generalize w.tape w.drawn (Question.nanConv FloatKind.f64 b) = t
  have ha : t % 2 = 0 ∨ t % 2 = 1 := by omega
  have hb : t / 2 % (2 ^ 52 - 1) < 4503599627370495 := Nat.mod_lt _ (by decide)
  generalize t / 2 % (2 ^ 52 - 1) = b at *
  rcases ha with ha | ha <;> rw [ha] <;> omega
theorem run_conv_nan (b : Nat) (s : Bool) (t : Nat) (w : World) (hd : FloatKind.f32.decode b = .nan s t) : (convert 45 24 (.float .f32 b)).run Try.prog w = .ok (.float .f64 (nanA w (.nanConv .f64 b))) w.drew := by
  have hd' : FloatKind.decode .f32 b = .nan s t := hd
  simp [convert, run_underlying Try.underlying45, run_underlying Try.underlying24, Conv.floatToFloat, hd', nanA, Question.forced]
set_option maxHeartbeats 400000 in
theorem implLong_nan (b : Nat) (s : Bool) (t : Nat) (w : World) (hd : FloatKind.f32.decode b = .nan s t) : Calls Try.prog 17 #[.int .u32 (b : Int)] w fun x w' => ∃ f, x = .returned (.float .f64 f) ∧ (INF < rg f ∧ f < 18446744073709551616) ∧ ∃ n, w' = w.drewN n := by
  have h : ∀ w, Sem.run Try.prog (callFunc 35 #[.int .u32 (b : Int)]) w = .ok (.value (.float .f32 b)) w := fun w => frombits32_run b w
  have hv := fun w => run_conv_nan b s t w hd
  clear hd
  go_enter Try.func17, Try.ntmps17
  go_wp2
  go_ret
  exact ⟨_, rfl, ⟨nanC_nan _ _, nanC_lt _ _⟩, 1, rfl⟩

/-- Both packages give one number, or a NaN each. -/
theorem long_both (b : Nat) (hb : b < 4294967296) :
    (∃ r, r < 18446744073709551616 ∧ rg r ≤ INF ∧ shortB r = b ∧ (∀ w, Calls Try.prog 18 #[.int .u32 (b : Int)] w fun x w' => x = .returned (.float .f64 r) ∧ w' = w) ∧ (∀ w, Calls Try.prog 17 #[.int .u32 (b : Int)] w fun x w' => x = .returned (.float .f64 r) ∧ w' = w)) ∨
    ((∀ w, Calls Try.prog 18 #[.int .u32 (b : Int)] w fun x w' => ∃ f, x = .returned (.float .f64 f) ∧ (INF < rg f ∧ f < 18446744073709551616) ∧ ∃ n, w' = w.drewN n) ∧ (∀ w, Calls Try.prog 17 #[.int .u32 (b : Int)] w fun x w' => ∃ f, x = .returned (.float .f64 f) ∧ (INF < rg f ∧ f < 18446744073709551616) ∧ ∃ n, w' = w.drewN n)) := by
  have r1 := field32_s b hb
  have r2 := field32_e b hb
  have r3 := field32_f b hb
  have R : b % 2147483648 = b / 8388608 % 256 * 8388608 + b % 8388608 := by omega
  have he : b / 8388608 % 256 ≤ 255 := by omega
  have hf : b % 8388608 < 8388608 := Nat.mod_lt _ (by decide)
  generalize hs : (b / 2147483648 % 2 == 1) = s at *
  generalize b / 8388608 % 256 = e at *
  generalize b % 8388608 = f at *
  have ei : (e : Int) ≤ 255 := by omega
  have fi : (f : Int) < 8388608 := by omega
  have D := read32 b e f s hs R hf
  have hbs : b = (if s = true then 2147483648 else 0) + (e * 8388608 + f) := by rw [← R]; have q := hs; cases s <;> simp at q ⊢ <;> omega
  have word : ∀ r, r < 9223372036854775808 → (if s = true then 9223372036854775808 else 0) + r < 18446744073709551616 ∧ rg ((if s = true then 9223372036854775808 else 0) + r) = r := fun r h => by
    unfold rg; cases s <;> simp <;> omega
  by_cases c : e = 255
  · have t1 : ((e : Int) == 255) = true := by rw [beq_iff_eq]; omega
    rw [if_neg (by omega), if_neg (by omega)] at D
    by_cases z : f = 0
    · have t2 : ((f : Int) != 0) = false := by simp [z]
      rw [if_pos ⟨c, z⟩] at D
      obtain ⟨w1, w2⟩ := word 9218868437227405312 (by omega)
      exact .inl ⟨_, w1, by rw [w2]; exact Nat.le_refl _, by rw [short_inf s, hbs, c, z], fun w => long_inf b s e f w fi r1 r2 r3 (by omega) (by omega) ei t1 t2, fun w => implLong_num b _ w (conv_inf s b D)⟩
    · have t2 : ((f : Int) != 0) = true := by rw [bne_iff_ne]; omega
      rw [if_neg (by omega)] at D
      exact .inr ⟨fun w => long_nan b s e f w fi r1 r2 r3 (by omega) (by omega) ei t1 t2, fun w => implLong_nan b s _ w D⟩
  · have t1 : ((e : Int) == 255) = false := by rw [beq_eq_false_iff_ne]; omega
    by_cases z : e = 0
    · have t3 : ((e : Int) == 0) = true := by simp [z]
      rw [if_pos z] at D
      obtain ⟨E, hE⟩ : ∃ E, E = 925 := ⟨_, rfl⟩
      obtain ⟨r, hv, hi⟩ := rw2_val f E (by omega)
      rw [show (-149 : Int) = (E : Int) - 1074 by omega] at D
      have hr := hi (by omega)
      have hr' : r < 9223372036854775808 := by unfold INF at hr; omega
      obtain ⟨w1, w2⟩ := word r hr'
      have K1 := fun w => l1Scaled_any f (-149) r w (by omega) (by omega) (by omega) hr (by rw [hv, show ((-149 : Int) + 1074).toNat = E by omega])
      exact .inl ⟨_, w1, by rw [w2]; omega, by rw [short_num s hr (short_sub hE hf hv) (by omega), hbs, z]; omega, fun w => long_sub b s e f w r fi r1 r2 r3 (by omega) (by omega) t1 t3 K1 _ (fun w => l1Signed_any r s hr' w) ei, fun w => implLong_num b _ w (conv_num s f E r hr hv b D)⟩
    · have t3 : ((e : Int) == 0) = false := by rw [beq_eq_false_iff_ne]; omega
      rw [if_neg z, if_pos (by omega)] at D
      obtain ⟨r, hv, hi⟩ := rw2_val (f + 8388608) (e + 924) (by omega)
      have hr := hi (by omega)
      have hr' : r < 9223372036854775808 := by unfold INF at hr; omega
      obtain ⟨w1, w2⟩ := word r hr'
      have K1 := fun w => l1Scaled_any (f + 8388608) ((e : Int) - 150) r w (by omega) (by omega) (by omega) hr (by rw [hv, show ((e : Int) - 150 + 1074).toNat = e + 924 by omega])
      have K1' : ∀ w, Calls Try.prog 38 #[.int .u64 ((f : Int) + 8388608), .int .i64 ((e : Int) - 150)] w fun x w' => x = .returned (.float .f64 r) ∧ w' = w := K1
      rw [show (e : Int) - 150 = ((e + 924 : Nat) : Int) - 1074 by omega] at D
      exact .inl ⟨_, w1, by rw [w2]; omega, by rw [short_num s hr (short_norm hf (by omega) (by omega) hv) (by omega), hbs], fun w => long_norm b s e f w r r1 r2 r3 (by omega) (by omega) t1 t3 fi K1' _ (fun w => l1Signed_any r s hr' w) ei, fun w => implLong_num b _ w (conv_num s (f + 8388608) (e + 924) r hr hv b D)⟩
end Go.Proofs.Ytpeelhkmipgacaa
