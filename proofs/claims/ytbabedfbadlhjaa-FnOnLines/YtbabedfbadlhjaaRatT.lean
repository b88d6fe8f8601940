/-
What is proved: the specification's RatioAt, its lines being known.
-/
import Derived.Test.YtbabedfbadlhjaaRatS
import Derived.Test.YtbabedfbadlhjaaMapG
import Derived.Deep.RegionHeld3
namespace Go.Proofs.Ytbabedfbadlhjaa
set_option maxRecDepth 40000
open Go.RowKit
set_option linter.unusedVariables false
set_option linter.unusedSimpArgs false

set_option maxHeartbeats 1000000 in
theorem specRat_none (s : Option Addr) (n c : Nat) (x y : Int) (w : World)
    (HL : Hid (Calls Try.prog 46 #[.slice s n c, .int .i64 x] w fun e w'' => e = .returned (.tuple #[.int .i64 (-1), .int .i64 (-1)]) ∧ ∃ q, w'' = w.drewN q)) :
    Calls Try.prog 22 #[.slice s n c, .int .i64 x, .int .i64 y] w fun e w' => ∃ r m, e = .returned (.float .f64 r) ∧ Fl r none ∧ w' = w.drewN m := by
  go_enter Try.func22, Try.ntmps22
  go_wp2_with fail
  refine HL.out.mono ?_
  rintro e w1 ⟨rfl, q, rfl⟩
  go_wp2_with fail
  refine (l1NoneM_any _).mono ?_
  rintro e w2 ⟨r, m, rfl, hr, rfl⟩
  go_wp2
  go_ret
  exact ⟨r, _, rfl, hr, (by first | rfl | (simp; rfl))⟩
set_option maxRecDepth 20000 in
set_option maxHeartbeats 2000000 in
theorem specRat_same (s : Option Addr) (n c : Nat) (S : Nat → Int) (K : Nat → Nat) (V : Nat → Nat → Int) (x y : Int) (f : Nat → Option Nat) (a : Nat) (w : World) (hn : (n : Int) ≤ 12) (ha : a < n) (HR : Hid (MapR w s n S K V))
    (HO : Hid (∀ a t c m, a < n → RowI w t (K a * 2) (V a) → Calls Try.prog 49 #[.slice t (K a) c, .int .i64 y] (w.drewN m) fun e w' => ∃ r k, e = .returned (.float .f64 r) ∧ Fl r (f a) ∧ w' = (w.drewN m).drewN k))
    (HL : Hid (∀ w', w' = w → Calls Try.prog 46 #[.slice s n c, .int .i64 x] w' fun e w'' => e = .returned (.tuple #[.int .i64 (a : Int), .int .i64 (a : Int)]) ∧ ∃ q, w'' = w'.drewN q)) :
    Calls Try.prog 22 #[.slice s n c, .int .i64 x, .int .i64 y] w fun e w' => ∃ r m, e = .returned (.float .f64 r) ∧ Fl r (f a) ∧ w' = w.drewN m := by
  obtain ⟨g, o, t, c', rfl, hg, c0, c1, RK⟩ := HR.out a ha
  have k1 : (a : Int) < (n : Int) := by omega
  have b0 : decide ((a : Int) < 0) = false := by simp
  have ON : Hid (∀ m, Calls Try.prog 49 #[.slice t (K a) c', .int .i64 y] (w.drewN m) fun e w' => ∃ r k, e = .returned (.float .f64 r) ∧ Fl r (f a) ∧ w' = (w.drewN m).drewN k) := fun m => HO.out a t c' m ha RK
  clear c0 RK HO
  go_enter Try.func22, Try.ntmps22
  go_wp2_with fail
  refine (HL.out _ rfl).mono ?_
  rintro e w1 ⟨rfl, q, rfl⟩
  go_upto_region 4 with fail
  go_region_held3 (fun w' => w'.cell? ⟨g, o + a * 2 + 1, none⟩ = some (.slice t (K a) c')) (first | (simp [go_sem, c1]; done) | (simp [go_sem, *]; done)) (first
    | (go_at_call 48; refine (l6Across_same _ _ _ _ _ _ _ _).mono ?_; rintro e w3 ⟨rfl, rfl⟩)
    | (go_at_call 49; have hh := f5; clear hh; refine (ON.out _).mono ?_; rintro e w6 ⟨r6, m6, rfl, f6, rfl⟩)
    | (go_at_call 49; refine (ON.out _).mono ?_; rintro e w5 ⟨r5, m5, rfl, f5, rfl⟩))
  all_goals
    go_wp2
    go_ret
    exact ⟨r5, _, rfl, f5, (by first | rfl | (simp; rfl))⟩
set_option maxRecDepth 20000 in
set_option maxHeartbeats 2000000 in
theorem specRat_mid (s : Option Addr) (n c : Nat) (S : Nat → Int) (K : Nat → Nat) (V : Nat → Nat → Int) (x y : Int) (f : Nat → Option Nat) (a b : Nat) (w : World) (hn : (n : Int) ≤ 12) (ha : a < n) (hb : b < n) (hab : a ≠ b) (h0 : 1 ≤ S a) (h1 : S a < x) (h2 : x < S b) (h3 : S b ≤ 100000) (HR : Hid (MapR w s n S K V))
    (HO : Hid (∀ a t c m, a < n → RowI w t (K a * 2) (V a) → Calls Try.prog 49 #[.slice t (K a) c, .int .i64 y] (w.drewN m) fun e w' => ∃ r k, e = .returned (.float .f64 r) ∧ Fl r (f a) ∧ w' = (w.drewN m).drewN k))
    (HL : Hid (∀ w', w' = w → Calls Try.prog 46 #[.slice s n c, .int .i64 x] w' fun e w'' => e = .returned (.tuple #[.int .i64 (a : Int), .int .i64 (b : Int)]) ∧ ∃ q, w'' = w'.drewN q)) :
    Calls Try.prog 22 #[.slice s n c, .int .i64 x, .int .i64 y] w fun e w' => ∃ r m, e = .returned (.float .f64 r) ∧ Fl r (partO (f a) (opO .sub (f b) (f a)) (x - S a) (S b - S a)) ∧ w' = w.drewN m := by
  obtain ⟨g, o, t, c', rfl, hg, c0, c1, RK⟩ := HR.out a ha
  obtain ⟨g', o', t', c'', e', hg', d0, d1, RJ⟩ := HR.out b hb
  cases e'
  have k1 : (a : Int) < (n : Int) := by omega
  have k4 : (b : Int) < (n : Int) := by omega
  have b0 : decide ((a : Int) < 0) = false := by simp
  have AC : Hid (∀ m p q A B, Fl p A → Fl q B → Calls Try.prog 48 #[.slice (some ⟨g, o, none⟩) n c, .int .i64 (a : Int), .int .i64 (b : Int), .int .i64 x, .float .f64 p, .float .f64 q] (w.drewN m) fun e w' => ∃ r k, e = .returned (.float .f64 r) ∧ Fl r (partO A (opO .sub B A) (x - S a) (S b - S a)) ∧ w' = (w.drewN m).drewN k) := fun m p q A B hp hq => l6Across_mid g o n c a b S x hp hq (w.drewN m) hn ha hb hab c0 d0 h0 h1 h2 h3
  have ON : Hid (∀ m, Calls Try.prog 49 #[.slice t (K a) c', .int .i64 y] (w.drewN m) fun e w' => ∃ r k, e = .returned (.float .f64 r) ∧ Fl r (f a) ∧ w' = (w.drewN m).drewN k) := fun m => HO.out a t c' m ha RK
  have OM : Hid (∀ m, Calls Try.prog 49 #[.slice t' (K b) c'', .int .i64 y] (w.drewN m) fun e w' => ∃ r k, e = .returned (.float .f64 r) ∧ Fl r (f b) ∧ w' = (w.drewN m).drewN k) := fun m => HO.out b t' c'' m hb RJ
  clear RK RJ c0 d0 HO
  go_enter Try.func22, Try.ntmps22
  go_wp2_with fail
  refine (HL.out _ rfl).mono ?_
  rintro e w1 ⟨rfl, q, rfl⟩
  go_upto_region 4 with fail
  go_region_held3 (fun w' => w'.cell? ⟨g, o + a * 2 + 1, none⟩ = some (.slice t (K a) c') ∧ w'.cell? ⟨g, o + b * 2 + 1, none⟩ = some (.slice t' (K b) c'')) (first | (simp [go_sem, c1, d1]; done) | (simp [go_sem, *]; done)) (first
    | (go_at_call 48; refine (AC.out _ _ _ _ _ f5 f6).mono ?_; rintro e w3 ⟨r, m3, rfl, hr, rfl⟩)
    | (go_at_call 49; have hh := f5; clear hh; refine (OM.out _).mono ?_; rintro e w6 ⟨r6, m6, rfl, f6, rfl⟩)
    | (go_at_call 49; refine (ON.out _).mono ?_; rintro e w5 ⟨r5, m5, rfl, f5, rfl⟩))
  all_goals
    go_wp2
    go_ret
    exact ⟨r, _, rfl, hr, (by first | rfl | (simp; rfl))⟩
end Go.Proofs.Ytbabedfbadlhjaa
