/-
What is proved: where a map surges at a speed, as both packages tell it, whatever the map and the speed.
-/
import Derived.Test.YtbabedfbadlhjaaMapJ
namespace Go.Proofs.Ytbabedfbadlhjaa
set_option maxRecDepth 40000
open Go.RowKit
set_option linter.unusedVariables false
set_option linter.unusedSimpArgs false

theorem LinesV.one {n : Nat} {S : Nat → Int} {K : Nat → Nat} {V : Nat → Nat → Int} {x i k i' k' : Int} (hl : ∀ j, j < n → lineB S K V j = true) (h : LinesV n S x i k) (g : LinesV n S x i' k') : i = i' ∧ k = k' := by
  rcases h with ⟨a, a1, a2, rfl, rfl⟩ | ⟨a, a1, a2, a3, rfl, rfl⟩ | ⟨a1, a2, rfl, rfl⟩ <;> rcases g with ⟨b, b1, b2, rfl, rfl⟩ | ⟨b, b1, b2, b3, rfl, rfl⟩ | ⟨b1, b2, rfl, rfl⟩
  · rcases Nat.lt_trichotomy a b with q | q | q
    · have := map_mono hl q b1; omega
    · rw [q]; exact ⟨rfl, rfl⟩
    · have := map_mono hl q a1; omega
  · exfalso
    rcases Nat.lt_trichotomy a b with q | q | q
    · have := map_mono hl q (by omega); omega
    · subst q; omega
    · rcases Nat.lt_or_eq_of_le (show b + 1 ≤ a by omega) with r | r
      · have := map_mono hl r a1; omega
      · rw [r] at b3; omega
  · exact absurd a2 (b1 a a1)
  · exfalso
    rcases Nat.lt_trichotomy b a with q | q | q
    · have := map_mono hl q (by omega); omega
    · subst q; omega
    · rcases Nat.lt_or_eq_of_le (show a + 1 ≤ b by omega) with r | r
      · have := map_mono hl r b1; omega
      · rw [r] at a3; omega
  · rcases Nat.lt_trichotomy a b with q | q | q
    · rcases Nat.lt_or_eq_of_le (show a + 1 ≤ b by omega) with r | r
      · have := map_mono hl r (by omega); omega
      · rw [r] at a3; omega
    · rw [q]; exact ⟨rfl, rfl⟩
    · rcases Nat.lt_or_eq_of_le (show b + 1 ≤ a by omega) with r | r
      · have := map_mono hl r (by omega); omega
      · rw [r] at b3; omega
  · exact absurd ⟨a2, a3⟩ (b2 a a1)
  · exact absurd b2 (a1 b b1)
  · exact absurd ⟨b2, b3⟩ (a2 b b1)
  · exact ⟨rfl, rfl⟩
theorem specSurgeAt_any (s : Option Addr) (n c : Nat) (S : Nat → Int) (K : Nat → Nat) (V : Nat → Nat → Int) (x : Int) (w : World) (HR : MapR w s n S K V) :
    Calls Try.prog 24 #[.slice s n c, .int .i64 x] w fun e w' => (∃ r o, MapV n S K V x (surgeF V) o ∧ e = .returned (.float .f64 r) ∧ Fl r o) ∧ ∃ m, w' = w.drewN m := by
  cases hm : mapB n S K V with
  | false =>
    refine (specSurge_none s n c x w (l6Lines_no s n c S K V x w hm HR)).mono ?_
    rintro e w' ⟨r, m, h1, h2, h3⟩
    exact ⟨⟨r, none, .inl ⟨hm, rfl⟩, h1, h2⟩, m, h3⟩
  | true =>
    obtain ⟨⟨n1, n2⟩, hl⟩ := map_ok hm
    have G := fun w' (e : w' = w) => l6Lines_go s n c S K V x w' (by omega) hm (by rw [e]; exact HR)
    have KB : ∀ a, a < n → 2 ≤ K a ∧ K a ≤ 60 := fun a ha => curve_bounds (line_in (hl a ha)).2.1
    by_cases q1 : ∃ a : Nat, a < n ∧ S a = x
    · obtain ⟨a, a1, a2⟩ := q1
      have HL : Hid (∀ w', w' = w → Calls Try.prog 46 #[.slice s n c, .int .i64 x] w' fun e w'' => e = .returned (.tuple #[.int .i64 (a : Int), .int .i64 (a : Int)]) ∧ ∃ q, w'' = w'.drewN q) := fun w' e => (G w' e).mono fun e w'' ⟨⟨i, k, hv, h1⟩, h2⟩ => by
        obtain ⟨rfl, rfl⟩ := LinesV.one hl hv (.inl ⟨a, a1, a2, rfl, rfl⟩)
        exact ⟨h1, h2⟩
      refine (specSurge_same s n c S K V x a w (by omega) a1 (KB a a1).1 (KB a a1).2 HR HL.out).mono ?_
      rintro e w' ⟨r, m, h1, h2, h3⟩
      exact ⟨⟨r, _, .inr ⟨hm, .inl ⟨a, a1, a2, rfl⟩⟩, h1, h2⟩, m, h3⟩
    · by_cases q2 : ∃ a : Nat, a + 1 < n ∧ S a < x ∧ x < S (a + 1)
      · obtain ⟨a, a1, a2, a3⟩ := q2
        have HL : Hid (∀ w', w' = w → Calls Try.prog 46 #[.slice s n c, .int .i64 x] w' fun e w'' => e = .returned (.tuple #[.int .i64 (a : Int), .int .i64 ((a + 1 : Nat) : Int)]) ∧ ∃ q, w'' = w'.drewN q) := fun w' e => (G w' e).mono fun e w'' ⟨⟨i, k, hv, h1⟩, h2⟩ => by
          obtain ⟨rfl, rfl⟩ := LinesV.one hl hv (.inr (.inl ⟨a, a1, a2, a3, rfl, rfl⟩))
          exact ⟨by rw [h1]; rfl, h2⟩
        refine (specSurge_mid s n c S K V x a (a + 1) w (by omega) (by omega) a1 (by omega) (KB a (by omega)).1 (KB a (by omega)).2 (KB _ a1).1 (KB _ a1).2 (line_in (hl a (by omega))).1.1 a2 a3 (line_in (hl _ a1)).1.2 HR HL.out).mono ?_
        rintro e w' ⟨r, m, h1, h2, h3⟩
        exact ⟨⟨r, _, .inr ⟨hm, .inr (.inl ⟨a, a1, a2, a3, rfl⟩)⟩, h1, h2⟩, m, h3⟩
      · have nv : LinesV n S x (-1) (-1) := .inr (.inr ⟨fun a ha e => q1 ⟨a, ha, e⟩, fun a ha e => q2 ⟨a, ha, e.1, e.2⟩, rfl, rfl⟩)
        refine (specSurge_none s n c x w ((G w rfl).mono fun e w'' ⟨⟨i, k, hv, h1⟩, h2⟩ => by
          obtain ⟨rfl, rfl⟩ := LinesV.one hl hv nv
          exact ⟨h1, h2⟩)).mono ?_
        rintro e w' ⟨r, m, h1, h2, h3⟩
        exact ⟨⟨r, none, .inr ⟨hm, .inr (.inr ⟨fun a ha e => q1 ⟨a, ha, e⟩, fun a ha e => q2 ⟨a, ha, e.1, e.2⟩, rfl⟩)⟩, h1, h2⟩, m, h3⟩
theorem readMap_any (s : Option Addr) (n c : Nat) (S : Nat → Int) (K : Nat → Nat) (V : Nat → Nat → Int) (x : Int) (w : World) (HR : MapR w s n S K V) :
    Calls Try.prog 35 #[.slice s n c, .int .i64 x, .func (.func 38) #[] #[]] w fun e w' => ∃ r o, MapV n S K V x (surgeF V) o ∧ e = .returned (.float .f64 r) ∧ Fl r o ∧ Below w.heap.size w w' := by
  cases hm : mapB n S K V with
  | false =>
    refine (readMap_no s n c x w (fun w' hb => by rw [← hm]; exact implMapOk_any s n c S K V w' (HR.below hb))).mono ?_
    rintro e w' ⟨r, h1, h2, h3⟩
    exact ⟨r, none, .inl ⟨hm, rfl⟩, h1, h2, h3⟩
  | true =>
    refine (readMap_go s n c S K V x w hm HR).mono ?_
    rintro e w' ⟨r, o, h0, h1, h2, h3⟩
    exact ⟨r, o, .inr ⟨hm, h0⟩, h1, h2, h3⟩
set_option maxHeartbeats 400000 in
theorem implSurgeAt_any (s : Option Addr) (n c : Nat) (S : Nat → Int) (K : Nat → Nat) (V : Nat → Nat → Int) (x : Int) (w : World) (HR : Hid (MapR w s n S K V)) :
    Calls Try.prog 14 #[.slice s n c, .int .i64 x] w fun e w' => ∃ r o, MapV n S K V x (surgeF V) o ∧ e = .returned (.float .f64 r) ∧ Fl r o ∧ Below w.heap.size w w' := by
  go_enter Try.func14, Try.ntmps14
  go_wp2_with fail
  refine (readMap_any s n c S K V x _ HR.out).mono ?_
  rintro e w1 ⟨r, o, h0, rfl, h2, h3⟩
  go_wp2
  go_ret
  exact ⟨r, o, h0, rfl, h2, h3⟩
end Go.Proofs.Ytbabedfbadlhjaa
