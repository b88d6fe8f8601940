/-
What is proved: where a map surges at a speed, as the specification tells it, up to a NaN's bits.
-/
import Derived.Test.YtbabedfbadlhjaaMapV
import Derived.Deep.RegionHeld3
namespace Go.Proofs.Ytbabedfbadlhjaa
set_option maxRecDepth 40000
open Go.RowKit
set_option linter.unusedVariables false
set_option linter.unusedSimpArgs false

/-- What is read of a map at a speed, f being what is read of a line. -/
def readV (n : Nat) (S : Nat → Int) (x : Int) (f : Nat → Option Nat) (o : Option Nat) : Prop := (∃ a : Nat, a < n ∧ S a = x ∧ o = f a) ∨ (∃ a : Nat, a + 1 < n ∧ S a < x ∧ x < S (a + 1) ∧ o = partO (f a) (opO .sub (f (a + 1)) (f a)) (x - S a) (S (a + 1) - S a)) ∨ ((∀ a, a < n → S a ≠ x) ∧ (∀ a, a + 1 < n → ¬ (S a < x ∧ x < S (a + 1))) ∧ o = none)
def MapV (n : Nat) (S : Nat → Int) (K : Nat → Nat) (V : Nat → Nat → Int) (x : Int) (f : Nat → Option Nat) (o : Option Nat) : Prop := (mapB n S K V = false ∧ o = none) ∨ (mapB n S K V = true ∧ readV n S x f o)
theorem lAll_at {S : Nat → Int} {K : Nat → Nat} {V : Nat → Nat → Int} : ∀ {n : Nat}, lAll S K V n = true → ∀ j, j < n → lineB S K V j = true
  | n + 1, h, j, hj => by
    unfold lAll at h
    rw [Bool.and_eq_true] at h
    by_cases q : j = n
    · subst q; exact h.2
    · exact lAll_at h.1 j (by omega)
theorem line_in {S : Nat → Int} {K : Nat → Nat} {V : Nat → Nat → Int} {j : Nat} (h : lineB S K V j = true) : (1 ≤ S j ∧ S j ≤ 100000) ∧ curveB (K j) (V j) = true ∧ (j = 0 ∨ S (j - 1) < S j) := by
  unfold lineB at h
  simp only [Bool.and_eq_true, decide_eq_true_eq] at h
  exact ⟨h.1, h.2.1, h.2.2⟩
theorem map_ok {n : Nat} {S : Nat → Int} {K : Nat → Nat} {V : Nat → Nat → Int} (h : mapB n S K V = true) : (1 ≤ n ∧ n ≤ 12) ∧ ∀ j, j < n → lineB S K V j = true := by
  unfold mapB at h
  rw [Bool.and_eq_true, decide_eq_true_eq] at h
  exact ⟨h.1, lAll_at h.2⟩
theorem map_step {n : Nat} {S : Nat → Int} {K : Nat → Nat} {V : Nat → Nat → Int} (h : ∀ j, j < n → lineB S K V j = true) {j : Nat} (hj : j + 1 < n) : S j < S (j + 1) := by
  have := (line_in (h (j + 1) hj)).2.2
  rcases this with q | q
  · omega
  · exact q
theorem map_mono {n : Nat} {S : Nat → Int} {K : Nat → Nat} {V : Nat → Nat → Int} (h : ∀ j, j < n → lineB S K V j = true) {i : Nat} : ∀ {j : Nat}, i < j → j < n → S i < S j
  | j + 1, hij, hj => by
    by_cases q : i = j
    · subst q; exact map_step h hj
    · have := map_mono h (i := i) (j := j) (by omega) (by omega)
      have := map_step h hj
      omega
theorem readV.one {n : Nat} {S : Nat → Int} {K : Nat → Nat} {V : Nat → Nat → Int} {x : Int} {f : Nat → Option Nat} {o o' : Option Nat} (hl : ∀ j, j < n → lineB S K V j = true) (h : readV n S x f o) (g : readV n S x f o') : o = o' := by
  rcases h with ⟨a, a1, a2, rfl⟩ | ⟨a, a1, a2, a3, rfl⟩ | ⟨a1, a2, rfl⟩ <;> rcases g with ⟨b, b1, b2, rfl⟩ | ⟨b, b1, b2, b3, rfl⟩ | ⟨b1, b2, rfl⟩
  · rcases Nat.lt_trichotomy a b with q | q | q
    · have := map_mono hl q b1; omega
    · rw [q]
    · have := map_mono hl q a1; omega
  · exfalso
    rcases Nat.lt_trichotomy a b with q | q | q
    · have := map_mono hl q (by omega); omega
    · subst q; omega
    · rcases Nat.lt_or_eq_of_le (show b + 1 ≤ a by omega) with r | r
      · have := map_mono hl r a1; omega
      · rw [r] at b3; omega
  · exact absurd a2 (b1 a a1)
  · exfalso
    rcases Nat.lt_trichotomy b a with q | q | q
    · have := map_mono hl q (by omega); omega
    · subst q; omega
    · rcases Nat.lt_or_eq_of_le (show a + 1 ≤ b by omega) with r | r
      · have := map_mono hl r b1; omega
      · rw [r] at a3; omega
  · rcases Nat.lt_trichotomy a b with q | q | q
    · rcases Nat.lt_or_eq_of_le (show a + 1 ≤ b by omega) with r | r
      · have := map_mono hl r (by omega); omega
      · rw [r] at a3; omega
    · rw [q]
    · rcases Nat.lt_or_eq_of_le (show b + 1 ≤ a by omega) with r | r
      · have := map_mono hl r (by omega); omega
      · rw [r] at b3; omega
  · exact absurd ⟨a2, a3⟩ (b2 a a1)
  · exact absurd b2 (a1 b b1)
  · exact absurd ⟨b2, b3⟩ (a2 b b1)
  · rfl
theorem MapV.one {n : Nat} {S : Nat → Int} {K : Nat → Nat} {V : Nat → Nat → Int} {x : Int} {f : Nat → Option Nat} {o o' : Option Nat} (h : MapV n S K V x f o) (g : MapV n S K V x f o') : o = o' := by
  rcases h with ⟨h1, rfl⟩ | ⟨h1, h2⟩ <;> rcases g with ⟨g1, rfl⟩ | ⟨g1, g2⟩
  · rfl
  · rw [h1] at g1; cases g1
  · rw [h1] at g1; cases g1
  · exact readV.one (map_ok h1).2 h2 g2
theorem MapV.some (n : Nat) (S : Nat → Int) (K : Nat → Nat) (V : Nat → Nat → Int) (x : Int) (f : Nat → Option Nat) : ∃ o, MapV n S K V x f o := by
  cases h : mapB n S K V
  · exact ⟨none, .inl ⟨h, rfl⟩⟩
  · by_cases q : ∃ a : Nat, a < n ∧ S a = x
    · obtain ⟨a, a1, a2⟩ := q
      exact ⟨_, .inr ⟨h, .inl ⟨a, a1, a2, rfl⟩⟩⟩
    · by_cases q2 : ∃ a : Nat, a + 1 < n ∧ S a < x ∧ x < S (a + 1)
      · obtain ⟨a, a1, a2, a3⟩ := q2
        exact ⟨_, .inr ⟨h, .inr (.inl ⟨a, a1, a2, a3, rfl⟩)⟩⟩
      · exact ⟨none, .inr ⟨h, .inr (.inr ⟨fun a ha e => q ⟨a, ha, e⟩, fun a ha e => q2 ⟨a, ha, e.1, e.2⟩, rfl⟩)⟩⟩

set_option maxHeartbeats 400000 in
theorem l6Across_same (s : Option Addr) (n c : Nat) (a x : Int) (p q : Nat) (w : World) : Calls Try.prog 48 #[.slice s n c, .int .i64 a, .int .i64 a, .int .i64 x, .float .f64 p, .float .f64 q] w fun e w' => e = .returned (.float .f64 p) ∧ w' = w := by
  have b1 : (a == a) = true := by simp
  go_enter Try.func48, Try.ntmps48
  go_wp2
  go_ret
  exact ⟨rfl, rfl⟩
set_option maxHeartbeats 2000000 in
theorem l6Across_mid (g o n c a b : Nat) (S : Nat → Int) (x : Int) {p q : Nat} {A B : Option Nat} (hp : Fl p A) (hq : Fl q B) (w : World) (hn : (n : Int) ≤ 12) (ha : a < n) (hb : b < n) (hab : a ≠ b) (u0 : w.cell? ⟨g, o + a * 2, none⟩ = some (.int .i64 (S a))) (u1 : w.cell? ⟨g, o + b * 2, none⟩ = some (.int .i64 (S b))) (h0 : 1 ≤ S a) (h1 : S a < x) (h2 : x < S b) (h3 : S b ≤ 100000) : Calls Try.prog 48 #[.slice (some ⟨g, o, none⟩) n c, .int .i64 (a : Int), .int .i64 (b : Int), .int .i64 x, .float .f64 p, .float .f64 q] w fun e w' => ∃ r m, e = .returned (.float .f64 r) ∧ Fl r (partO A (opO .sub B A) (x - S a) (S b - S a)) ∧ w' = w.drewN m := by
  have b1 : ((a : Int) == (b : Int)) = false := by simp; omega
  have k1 : (a : Int) < (n : Int) := by omega
  have k2 : (b : Int) < (n : Int) := by omega
  go_enter Try.func48, Try.ntmps48
  go_upto_region 4 with (first
    | (refine list_fop .sub rfl 30 30 (.tmp 18) (.tmp 19) (by rfl) (by rfl) (by rfl) (by rfl) hq hp ?_; intro d n1 hd))
  go_region_held3 (fun w' => w'.cell? ⟨g, o + a * 2, none⟩ = some (.int .i64 (S a)) ∧ w'.cell? ⟨g, o + b * 2, none⟩ = some (.int .i64 (S b))) (first | (simp [go_sem, u0, u1]; done) | (simp [go_sem, *]; done)) (first
    | (go_at_call 61; refine (l6Part_any hp hd x (S a) (S b) _ (by omega) (by omega) (by omega) (by omega) (by omega) (by omega)).mono ?_; rintro e w3 ⟨r, n2, rfl, hr, rfl⟩))
  all_goals
    go_wp2
    go_ret
    exact ⟨r, _, rfl, hr, rfl⟩

def surgeF (V : Nat → Nat → Int) (a : Nat) : Option Nat := some (itf (V a 0))
set_option maxRecDepth 20000 in
set_option maxHeartbeats 2000000 in
theorem specSurge_same (s : Option Addr) (n c : Nat) (S : Nat → Int) (K : Nat → Nat) (V : Nat → Nat → Int) (x : Int) (a : Nat) (w : World) (hn : (n : Int) ≤ 12) (ha : a < n) (hK : 2 ≤ K a) (hK2 : K a ≤ 60) (HR : Hid (MapR w s n S K V))
    (HL : Hid (∀ w', w' = w → Calls Try.prog 46 #[.slice s n c, .int .i64 x] w' fun e w'' => e = .returned (.tuple #[.int .i64 (a : Int), .int .i64 (a : Int)]) ∧ ∃ q, w'' = w'.drewN q)) :
    Calls Try.prog 24 #[.slice s n c, .int .i64 x] w fun e w' => ∃ r m, e = .returned (.float .f64 r) ∧ Fl r (surgeF V a) ∧ w' = w.drewN m := by
  have cv : ∀ k w, (convert 2 30 (.int .i64 k)).run Try.prog w = .ok (.float .f64 (itf k)) w := fun k w => conv_run k w
  obtain ⟨g, o, t, c', rfl, hg, c0, c1, RK⟩ := HR.out a ha
  obtain ⟨gt, ot, rfl, hgt, ct⟩ := RK 0 (by omega)
  have k1 : (a : Int) < (n : Int) := by omega
  have k2 : (0 : Int) < (K a : Int) := by omega
  have k2' : 0 < K a := by omega
  have k3 : (K a : Int) ≤ 60 := by omega
  have ct' : w.cell? ⟨gt, ot, none⟩ = some (.int .i64 (V a 0)) := by simpa using ct
  have b0 : decide ((a : Int) < 0) = false := by simp
  clear ct c0 RK
  go_enter Try.func24, Try.ntmps24
  go_wp2_with fail
  refine (HL.out _ rfl).mono ?_
  rintro e w1 ⟨rfl, q, rfl⟩
  go_upto_region 4 with fail
  go_region_held3 (fun w' => w'.cell? ⟨g, o + a * 2 + 1, none⟩ = some (.slice (some ⟨gt, ot, none⟩) (K a) c') ∧ w'.cell? ⟨gt, ot, none⟩ = some (.int .i64 (V a 0))) (first | (simp [go_sem, c1, ct']; done) | (simp [go_sem, *]; done)) (first
    | (go_at_call 48; refine (l6Across_same _ _ _ _ _ _ _ _).mono ?_; rintro e w3 ⟨rfl, rfl⟩))
  all_goals
    go_wp2
    go_ret
    exact ⟨_, _, rfl, itf_fl _, rfl⟩
set_option maxRecDepth 20000 in
set_option maxHeartbeats 2000000 in
theorem specSurge_mid (s : Option Addr) (n c : Nat) (S : Nat → Int) (K : Nat → Nat) (V : Nat → Nat → Int) (x : Int) (a b : Nat) (w : World) (hn : (n : Int) ≤ 12) (ha : a < n) (hb : b < n) (hab : a ≠ b) (hK : 2 ≤ K a) (hK2 : K a ≤ 60) (hJ : 2 ≤ K b) (hJ2 : K b ≤ 60) (h0 : 1 ≤ S a) (h1 : S a < x) (h2 : x < S b) (h3 : S b ≤ 100000) (HR : Hid (MapR w s n S K V))
    (HL : Hid (∀ w', w' = w → Calls Try.prog 46 #[.slice s n c, .int .i64 x] w' fun e w'' => e = .returned (.tuple #[.int .i64 (a : Int), .int .i64 (b : Int)]) ∧ ∃ q, w'' = w'.drewN q)) :
    Calls Try.prog 24 #[.slice s n c, .int .i64 x] w fun e w' => ∃ r m, e = .returned (.float .f64 r) ∧ Fl r (partO (surgeF V a) (opO .sub (surgeF V b) (surgeF V a)) (x - S a) (S b - S a)) ∧ w' = w.drewN m := by
  have cv : ∀ k w, (convert 2 30 (.int .i64 k)).run Try.prog w = .ok (.float .f64 (itf k)) w := fun k w => conv_run k w
  obtain ⟨g, o, t, c', rfl, hg, c0, c1, RK⟩ := HR.out a ha
  obtain ⟨gt, ot, rfl, hgt, ct⟩ := RK 0 (by omega)
  obtain ⟨g', o', t', c'', e', hg', d0, d1, RJ⟩ := HR.out b hb
  cases e'
  obtain ⟨ht, pt, rfl, hht, dt⟩ := RJ 0 (by omega)
  have k1 : (a : Int) < (n : Int) := by omega
  have k2 : (0 : Int) < (K a : Int) := by omega
  have k2' : 0 < K a := by omega
  have k3 : (K a : Int) ≤ 60 := by omega
  have k4 : (b : Int) < (n : Int) := by omega
  have k5 : (0 : Int) < (K b : Int) := by omega
  have k5' : 0 < K b := by omega
  have k6 : (K b : Int) ≤ 60 := by omega
  have ct' : w.cell? ⟨gt, ot, none⟩ = some (.int .i64 (V a 0)) := by simpa using ct
  have dt' : w.cell? ⟨ht, pt, none⟩ = some (.int .i64 (V b 0)) := by simpa using dt
  have b0 : decide ((a : Int) < 0) = false := by simp
  have AC : Hid (∀ m p q A B, Fl p A → Fl q B → Calls Try.prog 48 #[.slice (some ⟨g, o, none⟩) n c, .int .i64 (a : Int), .int .i64 (b : Int), .int .i64 x, .float .f64 p, .float .f64 q] (w.drewN m) fun e w' => ∃ r k, e = .returned (.float .f64 r) ∧ Fl r (partO A (opO .sub B A) (x - S a) (S b - S a)) ∧ w' = (w.drewN m).drewN k) := fun m p q A B hp hq => l6Across_mid g o n c a b S x hp hq (w.drewN m) hn ha hb hab c0 d0 h0 h1 h2 h3
  clear ct dt RK RJ c0 d0
  go_enter Try.func24, Try.ntmps24
  go_wp2_with fail
  refine (HL.out _ rfl).mono ?_
  rintro e w1 ⟨rfl, q, rfl⟩
  go_upto_region 4 with fail
  go_region_held3 (fun w' => w'.cell? ⟨g, o + a * 2 + 1, none⟩ = some (.slice (some ⟨gt, ot, none⟩) (K a) c') ∧ w'.cell? ⟨gt, ot, none⟩ = some (.int .i64 (V a 0)) ∧ w'.cell? ⟨g, o + b * 2 + 1, none⟩ = some (.slice (some ⟨ht, pt, none⟩) (K b) c'') ∧ w'.cell? ⟨ht, pt, none⟩ = some (.int .i64 (V b 0))) (first | (simp [go_sem, c1, ct', d1, dt']; done) | (simp [go_sem, *]; done)) (first
    | (go_at_call 48; refine (AC.out _ _ _ _ _ (itf_fl _) (itf_fl _)).mono ?_; rintro e w3 ⟨r, m3, rfl, hr, rfl⟩))
  all_goals
    go_wp2
    go_ret
    exact ⟨r, _, rfl, hr, (by first | rfl | (simp; rfl))⟩
set_option maxHeartbeats 1000000 in
theorem specSurge_none (s : Option Addr) (n c : Nat) (x : Int) (w : World)
    (HL : Hid (Calls Try.prog 46 #[.slice s n c, .int .i64 x] w fun e w'' => e = .returned (.tuple #[.int .i64 (-1), .int .i64 (-1)]) ∧ ∃ q, w'' = w.drewN q)) :
    Calls Try.prog 24 #[.slice s n c, .int .i64 x] w fun e w' => ∃ r m, e = .returned (.float .f64 r) ∧ Fl r none ∧ w' = w.drewN m := by
  go_enter Try.func24, Try.ntmps24
  go_wp2_with fail
  refine HL.out.mono ?_
  rintro e w1 ⟨rfl, q, rfl⟩
  go_wp2_with fail
  refine (l1NoneM_any _).mono ?_
  rintro e w2 ⟨r, m, rfl, hr, rfl⟩
  go_wp2
  go_ret
  exact ⟨r, _, rfl, hr, (by first | rfl | (simp; rfl))⟩
end Go.Proofs.Ytbabedfbadlhjaa
