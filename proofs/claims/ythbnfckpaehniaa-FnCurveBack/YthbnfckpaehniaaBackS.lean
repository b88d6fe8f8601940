/-
What is proved: the specification's Back.
-/
import Derived.Test.YthbnfckpaehniaaLeast
namespace Go.Proofs.Ythbnfckpaehniaa
set_option maxRecDepth 40000
open Go.RowKit
set_option linter.unusedVariables false

set_option maxHeartbeats 1000000 in
theorem specBack_no1 (s : Option Addr) (n c : Nat) (y : Int) (w : World)
    (K : Hid (Calls Try.prog 22 #[.slice s n c] w fun e w' => e = .returned (.bool false) ∧ Below w.heap.size w w')) :
    Calls Try.prog 9 #[.slice s n c, .int .i64 y] w fun e w' => e = .returned (.tuple #[.int .i64 0, .bool false]) ∧ Below w.heap.size w w' := by
  go_enter Try.func9, Try.ntmps9
  go_wp2_with fail
  refine K.out.mono ?_
  rintro r w1 ⟨rfl, h1⟩
  go_wp2
  exact bodyPost_ret (v := .tuple #[.int .i64 0, .bool false]) (by simp [results, Try.results9, go_sem]) rfl ⟨rfl, (by repeat (first | with_reducible exact Below.refl _ _ | with_reducible exact h1 | with_reducible refine Below.setCell ?_ (by first | omega | (simp; done) | (simp; omega)) _ | with_reducible refine bDrewN ?_ _ | with_reducible refine Below.drew ?_ | with_reducible refine Below.alloc ?_ (by first | omega | (simp; done) | (simp; omega)) _))⟩
set_option maxRecDepth 20000 in
set_option maxHeartbeats 1000000 in
theorem specBack_on (s : Option Addr) (m c : Nat) (V : Nat → Int) (y L : Int) (w : World) (hm : (m : Int) ≤ 58) (HR : Hid (RowI w s ((m + 2) * 2) V)) (hy1 : V 1 ≤ y) (hy2 : y ≤ V ((m + 1) * 2 + 1)) (l1 : V 0 ≤ L) (l2 : L ≤ V ((m + 1) * 2)) (b1 : -1000000 ≤ V 0) (b2 : V ((m + 1) * 2) ≤ 1000000)
    (A : Hid (∀ z w', Below w.heap.size w w' → V 0 ≤ z → z ≤ V ((m + 1) * 2) → Calls Try.prog 17 #[.slice s (m + 2) c, .int .i64 z] w' fun e w'' => (∃ v, (y ≤ v ↔ L ≤ z) ∧ e = .returned (.tuple #[.int .i64 v, .bool true])) ∧ Below w'.heap.size w' w''))
    (D : Hid (∀ (a : Int) w, -1000000000000000 ≤ a → a ≤ 1000000000000000 → Calls Try.prog 23 #[.int .i64 a, .int .i64 2] w fun e w' => e = .returned (.int .i64 (a / 2)) ∧ w' = w))
    (K : Hid (Calls Try.prog 22 #[.slice s (m + 2) c] w fun e w' => e = .returned (.bool true) ∧ Below w.heap.size w w')) :
    Calls Try.prog 9 #[.slice s (m + 2) c, .int .i64 y] w fun e w' => e = .returned (.tuple #[.int .i64 L, .bool true]) ∧ Below w.heap.size w w' := by
  obtain ⟨g, o, rfl, hg, c0⟩ := HR.out 0 (by omega)
  obtain ⟨g', o', e', hg', c1⟩ := HR.out 1 (by omega)
  cases e'
  obtain ⟨g', o', e', hg', c2⟩ := HR.out ((m + 1) * 2) (by omega)
  cases e'
  obtain ⟨g', o', e', hg', c3⟩ := HR.out ((m + 1) * 2 + 1) (by omega)
  cases e'
  go_enter Try.func9, Try.ntmps9
  go_wp2_with fail
  refine K.out.mono ?_
  rintro r w1 ⟨rfl, h1⟩
  have d0 : w1.cell? ⟨g, o, none⟩ = some (.int .i64 (V 0)) := (h1.cell (p := ⟨g, o + 0, none⟩) hg).trans c0
  have d1 : w1.cell? ⟨g, o + 1, none⟩ = some (.int .i64 (V 1)) := (h1.cell (p := ⟨g, o + 1, none⟩) hg).trans c1
  have d2 : w1.cell? ⟨g, o + (m + 1) * 2, none⟩ = some (.int .i64 (V ((m + 1) * 2))) := (h1.cell (p := ⟨g, o + (m + 1) * 2, none⟩) hg).trans c2
  have d3 : w1.cell? ⟨g, o + (m + 1) * 2 + 1, none⟩ = some (.int .i64 (V ((m + 1) * 2 + 1))) := (h1.cell (p := ⟨g, o + ((m + 1) * 2 + 1), none⟩) hg).trans c3
  clear c0 c1 c2 c3
  go_wp2_with fail
  have H1 : Hid (Below w.heap.size w w1) := h1
  clear d0 d1 d2 d3
  go_loopw [6, 7] (fun i j wr => ∃ l h, i = .int .i64 l ∧ j = .int .i64 h ∧ V 0 - 1 ≤ l ∧ l < L ∧ L ≤ h ∧ h ≤ V ((m + 1) * 2) ∧ Below w1.heap.size w1 wr) (fun i j _ => (intOf j - intOf i).toNat)
  case atStart => exact ⟨V 0 - 1, V ((m + 1) * 2), rfl, rfl, Int.le_refl _, by omega, l2, Int.le_refl _, (by repeat (first | with_reducible exact Below.refl _ _ | with_reducible refine Below.setCell ?_ (by first | omega | (simp; done) | (simp; omega)) _ | with_reducible refine bDrewN ?_ _ | with_reducible refine Below.drew ?_ | with_reducible refine Below.alloc ?_ (by first | omega | (simp; done) | (simp; omega)) _))⟩
  case round =>
    obtain ⟨l, h, rfl, rfl, r1, r2, r3, r4, hB⟩ := hrel
    have BW : Below w.heap.size w wr := H1.out.trans (hB.mono H1.out.size)
    have HB : Hid (Below w1.heap.size w1 wr) := hB
    have HW : Hid (Below w.heap.size w wr) := BW
    by_cases q : 1 < h - l
    · obtain ⟨z, hz⟩ : ∃ z, (l + h) / 2 = z := ⟨_, rfl⟩
      have z1 : l < z := by omega
      have z2 : z < h := by omega
      have D1 : Hid (∀ w, Calls Try.prog 23 #[.int .i64 (l + h), .int .i64 2] w fun e w' => e = .returned (.int .i64 z) ∧ w' = w) := fun w => hz ▸ D.out (l + h) w (by omega) (by omega)
      clear BW hB
      go_wp2_with fail
      refine (D1.out _).mono ?_
      rintro r w2 ⟨rfl, rfl⟩
      go_wp2_with fail
      refine (A.out z _ HW.out (by omega) (by omega)).mono ?_
      rintro r w3 ⟨⟨v, hv, rfl⟩, h3⟩
      have B3 : Below w1.heap.size w1 w3 := HB.out.trans (h3.mono HB.out.size)
      have HV : Hid (y ≤ v ↔ L ≤ z) := hv
      clear hv
      by_cases t : y ≤ v
      · have lz : L ≤ z := HV.out.1 t
        go_wp2
        go_round
        case rel => exact ⟨_, _, _, _, _, _, _, _, _, _, _, _, _, _, _, _, _, _, _, _, _, _, _, _, ⟨l, z, rfl, rfl, r1, r2, lz, by omega, B3⟩, rfl⟩
        case measure => simp [intOf]; omega
      · have lz : z < L := by have := HV.out; omega
        go_wp2
        go_round
        case rel => exact ⟨_, _, _, _, _, _, _, _, _, _, _, _, _, _, _, _, _, _, _, _, _, _, _, _, ⟨z, h, rfl, rfl, by omega, lz, r3, r4, B3⟩, rfl⟩
        case measure => simp [intOf]; omega
    · obtain rfl : h = L := by omega
      go_wp2
      exact bodyPost_ret (v := .tuple #[.int .i64 h, .bool true]) (by simp [results, Try.results9, go_sem]) rfl ⟨rfl, (by repeat (first | with_reducible exact Below.refl _ _ | with_reducible exact BW | with_reducible refine Below.setCell ?_ (by first | omega | (simp; done) | (simp; omega)) _ | with_reducible refine bDrewN ?_ _ | with_reducible refine Below.drew ?_ | with_reducible refine Below.alloc ?_ (by first | omega | (simp; done) | (simp; omega)) _))⟩
set_option maxRecDepth 20000 in
set_option maxHeartbeats 1000000 in
theorem specBack_no2 (s : Option Addr) (m c : Nat) (V : Nat → Int) (y : Int) (w : World) (hm : (m : Int) ≤ 58) (HR : Hid (RowI w s ((m + 2) * 2) V)) (hy : y < V 1 ∨ (V 1 ≤ y ∧ V ((m + 1) * 2 + 1) < y))
    (K : Hid (Calls Try.prog 22 #[.slice s (m + 2) c] w fun e w' => e = .returned (.bool true) ∧ Below w.heap.size w w')) :
    Calls Try.prog 9 #[.slice s (m + 2) c, .int .i64 y] w fun e w' => e = .returned (.tuple #[.int .i64 0, .bool false]) ∧ Below w.heap.size w w' := by
  obtain ⟨g, o, rfl, hg, c1⟩ := HR.out 1 (by omega)
  obtain ⟨g', o', e', hg', c3⟩ := HR.out ((m + 1) * 2 + 1) (by omega)
  cases e'
  rcases hy with hy | ⟨hy, hy'⟩
  all_goals
    go_enter Try.func9, Try.ntmps9
    go_wp2_with fail
    refine K.out.mono ?_
    rintro r w1 ⟨rfl, h1⟩
    have d1 : w1.cell? ⟨g, o + 1, none⟩ = some (.int .i64 (V 1)) := (h1.cell (p := ⟨g, o + 1, none⟩) hg).trans c1
    have d3 : w1.cell? ⟨g, o + (m + 1) * 2 + 1, none⟩ = some (.int .i64 (V ((m + 1) * 2 + 1))) := (h1.cell (p := ⟨g, o + ((m + 1) * 2 + 1), none⟩) hg).trans c3
    go_wp2
    exact bodyPost_ret (v := .tuple #[.int .i64 0, .bool false]) (by simp [results, Try.results9, go_sem]) rfl ⟨rfl, (by repeat (first | with_reducible exact Below.refl _ _ | with_reducible exact h1 | with_reducible refine Below.setCell ?_ (by first | omega | (simp; done) | (simp; omega)) _ | with_reducible refine bDrewN ?_ _ | with_reducible refine Below.drew ?_ | with_reducible refine Below.alloc ?_ (by first | omega | (simp; done) | (simp; omega)) _))⟩
theorem specBack_any (s : Option Addr) (n c : Nat) (V : Nat → Int) (y : Int) (w : World) (hn : n ≤ 1048576) (HR : RowI w s (n * 2) V) :
    Calls Try.prog 9 #[.slice s n c, .int .i64 y] w fun e w' => (∃ x ok, BV n V y x ok ∧ e = .returned (.tuple #[.int .i64 x, .bool ok])) ∧ Below w.heap.size w w' := by
  have K := l3Steep_any s n c V w (by omega) HR
  cases hS : (steepTo V n && curveB n V)
  · rw [hS] at K
    refine (specBack_no1 s n c y w K).mono ?_
    rintro e w' ⟨rfl, hb⟩
    refine ⟨⟨0, false, .inl ⟨fun g => ?_, rfl, rfl⟩, rfl⟩, hb⟩
    rw [g.1, g.2.1] at hS; cases hS
  · rw [hS] at K
    obtain ⟨s1, hC⟩ := Bool.and_eq_true_iff.1 hS
    obtain ⟨c1, c2, c3⟩ := curve_ok hC
    obtain ⟨m, rfl⟩ : ∃ m, n = m + 2 := ⟨n - 2, by omega⟩
    have e : m + 2 - 1 = m + 1 := by omega
    by_cases q : V 1 ≤ y ∧ y ≤ V ((m + 1) * 2 + 1)
    · obtain ⟨L, hL⟩ := least_exists (y := y) hC (by rw [e]; exact q.2)
      have i0 := (ok_in c3 (i := 0) (by omega)).1
      have i1 := (ok_in c3 (i := m + 1) (by omega)).1
      simp only [Nat.zero_mul] at i0
      refine (specBack_on s m c V y L w (by omega) HR q.1 q.2 hL.1 (by have := hL.2.1; rw [e] at this; exact this) i0.1 i1.2 (fun z w' hb z0 z1 => ?_) (fun a w a1 a2 => l1Down_any a 2 w a1 a2 (by omega) (by omega)) K).mono ?_
      · refine (specAlong_any s (m + 2) c V z w' (HR.below hb)).mono ?_
        rintro r w3 ⟨⟨v, ok, hA, rfl⟩, h3⟩
        obtain ⟨v', hA'⟩ := av_in (z := z) hC z0 (by rw [e]; exact z1)
        obtain ⟨rfl, rfl⟩ := hA.one hA'
        refine ⟨⟨v, ?_, rfl⟩, h3⟩
        rw [← hL.iff hC s1 z0 (by rw [e]; exact z1)]
        exact ⟨fun g => ⟨v, hA, g⟩, fun ⟨u, k1, k2⟩ => by rw [(hA.one k1).1]; exact k2⟩
      · rintro r w' ⟨rfl, hb⟩
        exact ⟨⟨L, true, .inr ⟨⟨hC, s1, q.1, by rw [e]; exact q.2⟩, hL, rfl⟩, rfl⟩, hb⟩
    · refine (specBack_no2 s m c V y w (by omega) HR (by omega) K).mono ?_
      rintro r w' ⟨rfl, hb⟩
      exact ⟨⟨0, false, .inl ⟨fun g => q ⟨g.2.2.1, by have := g.2.2.2; rw [e] at this; exact this⟩, rfl, rfl⟩, rfl⟩, hb⟩
end Go.Proofs.Ythbnfckpaehniaa
