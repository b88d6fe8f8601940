/-
What is proved: the ratio of a map at a speed and a flow, as both packages tell it, whatever the map, the speed and the flow.
-/
import Derived.Test.YtbabedfbadlhjaaRatJ
import Derived.Test.YtbabedfbadlhjaaRatT
import Derived.Test.YtbabedfbadlhjaaMapK
namespace Go.Proofs.Ytbabedfbadlhjaa
set_option maxRecDepth 40000
open Go.RowKit
set_option linter.unusedVariables false
set_option linter.unusedSimpArgs false

theorem specRatioAt_any (s : Option Addr) (n c : Nat) (S : Nat → Int) (K : Nat → Nat) (V : Nat → Nat → Int) (x y : Int) (f : Nat → Option Nat) (hf : ∀ a, onV (K a) (V a) y (f a)) (w : World) (HR : MapR w s n S K V) :
    Calls Try.prog 22 #[.slice s n c, .int .i64 x, .int .i64 y] w fun e w' => (∃ r o, MapV n S K V x (f) o ∧ e = .returned (.float .f64 r) ∧ Fl r o) ∧ ∃ m, w' = w.drewN m := by
  cases hm : mapB n S K V with
  | false =>
    refine (specRat_none s n c x y w (l6Lines_no s n c S K V x w hm HR)).mono ?_
    rintro e w' ⟨r, m, h1, h2, h3⟩
    exact ⟨⟨r, none, .inl ⟨hm, rfl⟩, h1, h2⟩, m, h3⟩
  | true =>
    obtain ⟨⟨n1, n2⟩, hl⟩ := map_ok hm
    have G := fun w' (e : w' = w) => l6Lines_go s n c S K V x w' (by omega) hm (by rw [e]; exact HR)
    have HO : Hid (∀ a t c m, a < n → RowI w t (K a * 2) (V a) → Calls Try.prog 49 #[.slice t (K a) c, .int .i64 y] (w.drewN m) fun e w' => ∃ r k, e = .returned (.float .f64 r) ∧ Fl r (f a) ∧ w' = (w.drewN m).drewN k) := fun a t c m ha R => by
      have cb := (line_in (hl a ha)).2.1
      refine (l6On_any t (K a) c (V a) y (w.drewN m) cb (R.below (bDrewN (Below.refl _ _) m))).mono ?_
      rintro e w' ⟨⟨r, o, h0, h1, h2⟩, q, h3⟩
      exact ⟨r, q, h1, by rw [onV.one cb (hf a) h0]; exact h2, h3⟩
    by_cases q1 : ∃ a : Nat, a < n ∧ S a = x
    · obtain ⟨a, a1, a2⟩ := q1
      have HL : Hid (∀ w', w' = w → Calls Try.prog 46 #[.slice s n c, .int .i64 x] w' fun e w'' => e = .returned (.tuple #[.int .i64 (a : Int), .int .i64 (a : Int)]) ∧ ∃ q, w'' = w'.drewN q) := fun w' e => (G w' e).mono fun e w'' ⟨⟨i, k, hv, h1⟩, h2⟩ => by
        obtain ⟨rfl, rfl⟩ := LinesV.one hl hv (.inl ⟨a, a1, a2, rfl, rfl⟩)
        exact ⟨h1, h2⟩
      refine (specRat_same s n c S K V x y f a w (by omega) a1 HR HO.out HL.out).mono ?_
      rintro e w' ⟨r, m, h1, h2, h3⟩
      exact ⟨⟨r, _, .inr ⟨hm, .inl ⟨a, a1, a2, rfl⟩⟩, h1, h2⟩, m, h3⟩
    · by_cases q2 : ∃ a : Nat, a + 1 < n ∧ S a < x ∧ x < S (a + 1)
      · obtain ⟨a, a1, a2, a3⟩ := q2
        have HL : Hid (∀ w', w' = w → Calls Try.prog 46 #[.slice s n c, .int .i64 x] w' fun e w'' => e = .returned (.tuple #[.int .i64 (a : Int), .int .i64 ((a + 1 : Nat) : Int)]) ∧ ∃ q, w'' = w'.drewN q) := fun w' e => (G w' e).mono fun e w'' ⟨⟨i, k, hv, h1⟩, h2⟩ => by
          obtain ⟨rfl, rfl⟩ := LinesV.one hl hv (.inr (.inl ⟨a, a1, a2, a3, rfl, rfl⟩))
          exact ⟨by rw [h1]; rfl, h2⟩
        refine (specRat_mid s n c S K V x y f a (a + 1) w (by omega) (by omega) a1 (by omega) (line_in (hl a (by omega))).1.1 a2 a3 (line_in (hl _ a1)).1.2 HR HO.out HL.out).mono ?_
        rintro e w' ⟨r, m, h1, h2, h3⟩
        exact ⟨⟨r, _, .inr ⟨hm, .inr (.inl ⟨a, a1, a2, a3, rfl⟩)⟩, h1, h2⟩, m, h3⟩
      · have nv : LinesV n S x (-1) (-1) := .inr (.inr ⟨fun a ha e => q1 ⟨a, ha, e⟩, fun a ha e => q2 ⟨a, ha, e.1, e.2⟩, rfl, rfl⟩)
        refine (specRat_none s n c x y w ((G w rfl).mono fun e w'' ⟨⟨i, k, hv, h1⟩, h2⟩ => by
          obtain ⟨rfl, rfl⟩ := LinesV.one hl hv nv
          exact ⟨h1, h2⟩)).mono ?_
        rintro e w' ⟨r, m, h1, h2, h3⟩
        exact ⟨⟨r, none, .inr ⟨hm, .inr (.inr ⟨fun a ha e => q1 ⟨a, ha, e⟩, fun a ha e => q2 ⟨a, ha, e.1, e.2⟩, rfl⟩)⟩, h1, h2⟩, m, h3⟩
set_option maxHeartbeats 800000 in
theorem implRatioAt_any (s : Option Addr) (n c : Nat) (S : Nat → Int) (K : Nat → Nat) (V : Nat → Nat → Int) (x y : Int) (f : Nat → Option Nat) (hf : ∀ a, onV (K a) (V a) y (f a)) (w : World) (HR : Hid (MapR w s n S K V)) :
    Calls Try.prog 13 #[.slice s n c, .int .i64 x, .int .i64 y] w fun e w' => ∃ r o, MapV n S K V x f o ∧ e = .returned (.float .f64 r) ∧ Fl r o ∧ Below w.heap.size w w' := by
  have HB : Hid (Below w.heap.size w (w.alloc (.cells #[.int .i64 y] 2))) := below0 w _
  have HY : Hid ((w.alloc (.cells #[.int .i64 y] 2)).cell? ⟨w.heap.size, 0, none⟩ = some (.int .i64 y)) := by
    show (w.alloc (.cells #[.int .i64 y] 2)).cell? ⟨w.heap.size, 0, none⟩ = some (.int .i64 y)
    simp [go_sem]
  have HS : Hid (w.heap.size < (w.alloc (.cells #[.int .i64 y] 2)).heap.size) := by
    show w.heap.size < (w.alloc (.cells #[.int .i64 y] 2)).heap.size
    simp
  have HM : Hid (∀ W, Below w.heap.size w W → W.cell? ⟨w.heap.size, 0, none⟩ = some (.int .i64 y) → w.heap.size < W.heap.size → Calls Try.prog 35 #[.slice s n c, .int .i64 x, .func (.func 36) #[] #[.pointer (some ⟨w.heap.size, 0, none⟩)]] W fun e w' => ∃ r o, MapV n S K V x f o ∧ e = .returned (.float .f64 r) ∧ Fl r o ∧ Below W.heap.size W w') := fun W hW hy hs => by
    have RW : MapR W s n S K V := HR.out.below hW
    cases hm : mapB n S K V with
    | false =>
      refine (readMapR_no w.heap.size s n c x W (fun w' hb => by rw [← hm]; exact implMapOk_any s n c S K V w' (RW.below hb))).mono ?_
      rintro e w' ⟨r, h1, h2, h3⟩
      exact ⟨r, none, .inl ⟨hm, rfl⟩, h1, h2, h3⟩
    | true =>
      obtain ⟨_, hl⟩ := map_ok hm
      refine (readMapR_go w.heap.size f s n c S K V x W hm RW (fun U a t c' ha hb R => ?_)).mono ?_
      · have cb := (line_in (hl a ha)).2.1
        refine (rat1_any w.heap.size (S a) t (K a) c' (V a) y U cb R (Nat.lt_of_lt_of_le hs hb.size) ((hb.cell (p := ⟨w.heap.size, 0, none⟩) hs).trans hy)).mono ?_
        rintro e w' ⟨r, o, h0, h1, h2, h3⟩
        exact ⟨r, h1, by rw [onV.one cb (hf a) h0]; exact h2, h3⟩
      · rintro e w' ⟨r, o, h0, h1, h2, h3⟩
        exact ⟨r, o, .inr ⟨hm, h0⟩, h1, h2, h3⟩
  go_enter Try.func13, Try.ntmps13
  go_wp2_with fail
  refine (HM.out _ HB.out HY.out HS.out).mono ?_
  rintro e w1 ⟨r, o, h0, rfl, h2, h3⟩
  go_wp2
  go_ret
  exact ⟨r, o, h0, rfl, h2, HB.out.trans (h3.mono HB.out.size)⟩
end Go.Proofs.Ytbabedfbadlhjaa
