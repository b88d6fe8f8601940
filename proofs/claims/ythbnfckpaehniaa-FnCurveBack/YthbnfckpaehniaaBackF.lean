/-
What is proved: the program's Back at every list.
-/
import Derived.Test.YthbnfckpaehniaaBackI
import Derived.Test.YthbnfckpaehniaaBackN
import Derived.Deep.RegionHeld3
import Derived.Deep.RegionWith
namespace Go.Proofs.Ythbnfckpaehniaa
set_option maxRecDepth 40000
open Go.RowKit
set_option linter.unusedVariables false

theorem keepO {W W' : World} {p i j : Nat} {a b : Value} (h0 : W.cell? ⟨p, i, none⟩ = some a) (h1 : W.cell? ⟨p, j, none⟩ = some b) (hp : p < W.heap.size) (hb : Below W.heap.size W W') : W'.cell? ⟨p, i, none⟩ = some a ∧ W'.cell? ⟨p, j, none⟩ = some b :=
  ⟨(hb.cell (p := ⟨p, i, none⟩) hp).trans h0, (hb.cell (p := ⟨p, j, none⟩) hp).trans h1⟩
set_option maxHeartbeats 1000000 in
theorem implBack_no2 (s : Option Addr) (n c : Nat) (y : Int) (w : World)
    (K : Hid (∀ w', Below w.heap.size w w' → Calls Try.prog 15 #[.slice s n c] w' fun e w'' => e = .returned (.bool true) ∧ Below w'.heap.size w' w''))
    (T : Hid (∀ w', Below w.heap.size w w' → Calls Try.prog 24 #[.slice s n c] w' fun e w'' => e = .returned (.bool false) ∧ Below w'.heap.size w' w'')) :
    Calls Try.prog 10 #[.slice s n c, .int .i64 y] w fun e w' => e = .returned (.tuple #[.int .i64 0, .bool false]) ∧ Below w.heap.size w w' := by
  go_enter Try.func10, Try.ntmps10
  go_wp2_with fail
  refine wp_region_noPanic ?_
  refine wp_region_held_drew (S := fun _ => True) (by kernel_rfl) trivial fun hS => ?_
  refine wpAnyH_take (i := 0) (v := .slice s n c) rfl (by kernel_rfl) (by kernel_rfl) (by kernel_rfl) (fun _ _ _ h => h.elim) (.inl ⟨by kernel_rfl, fun w _ => by kernel_rfl⟩) hS ?_
  refine wpAnyH_ready (rs := [1]) (by kernel_rfl) (by decide) (AllReadyH.cons rfl ?_ AllReadyH.nil)
  intro K1 hK1
  rw [if_pos (by kernel_rfl)]
  go_wp2_with fail
  refine (K.out _ (by repeat (first | with_reducible exact Below.refl _ _ | with_reducible refine Below.setCell ?_ (by first | omega | (simp; done) | (simp; omega)) _ | with_reducible refine bDrewN ?_ _ | with_reducible refine Below.drew ?_ | with_reducible refine Below.alloc ?_ (by first | omega | (simp; done) | (simp; omega)) _))).mono ?_
  rintro r w1 ⟨rfl, h1⟩
  have B1 : Below w.heap.size w w1 := Below.trans (by repeat (first | with_reducible exact Below.refl _ _ | with_reducible refine Below.setCell ?_ (by first | omega | (simp; done) | (simp; omega)) _ | with_reducible refine bDrewN ?_ _ | with_reducible refine Below.drew ?_ | with_reducible refine Below.alloc ?_ (by first | omega | (simp; done) | (simp; omega)) _)) (h1.mono (by first | omega | (simp; done) | (simp; omega)))
  have z1 := B1.size
  refine hK1.out _ _ trivial fun _ => ?_
  refine wpAnyH_take (i := 2) (v := .bool false) rfl (by kernel_rfl) (by kernel_rfl) (by kernel_rfl) (fun _ _ _ h => h.elim) (.inl ⟨by kernel_rfl, fun w _ => by kernel_rfl⟩) hS ?_
  refine wpAnyH_take (i := 3) (v := .bool false) rfl (by kernel_rfl) (by kernel_rfl) (by kernel_rfl) (fun _ _ _ h => h.elim) (.inl ⟨by kernel_rfl, fun w _ => by kernel_rfl⟩) hS ?_
  refine wpAnyH_take (i := 4) (v := .slice s n c) rfl (by kernel_rfl) (by kernel_rfl) (by kernel_rfl) (fun _ _ _ h => h.elim) (.inl ⟨by kernel_rfl, fun w _ => by kernel_rfl⟩) hS ?_
  refine wpAnyH_ready (rs := [5]) (by kernel_rfl) (by decide) (AllReadyH.cons rfl ?_ AllReadyH.nil)
  intro K2 hK2
  rw [if_pos (by kernel_rfl)]
  go_wp2_with fail
  refine (T.out _ (by repeat (first | with_reducible exact Below.refl _ _ | with_reducible exact B1 | with_reducible refine Below.setCell ?_ (by first | omega | (simp; done) | (simp; omega)) _ | with_reducible refine bDrewN ?_ _ | with_reducible refine Below.drew ?_ | with_reducible refine Below.alloc ?_ (by first | omega | (simp; done) | (simp; omega)) _))).mono ?_
  rintro r w2 ⟨rfl, h2⟩
  have B2 : Below w.heap.size w w2 := Below.trans (by repeat (first | with_reducible exact Below.refl _ _ | with_reducible exact B1 | with_reducible refine Below.setCell ?_ (by first | omega | (simp; done) | (simp; omega)) _ | with_reducible refine bDrewN ?_ _ | with_reducible refine Below.drew ?_ | with_reducible refine Below.alloc ?_ (by first | omega | (simp; done) | (simp; omega)) _)) (h2.mono (by first | omega | (simp; done) | (simp; omega)))
  have z2 := B2.size
  refine hK2.out _ _ trivial fun _ => ?_
  refine wpAnyH_take (i := 6) (v := .bool true) rfl (by kernel_rfl) (by kernel_rfl) (by kernel_rfl) (fun _ _ _ h => h.elim) (.inl ⟨by kernel_rfl, fun w _ => by kernel_rfl⟩) hS ?_
  refine wpAnyH_take (i := 7) (v := .bool true) rfl (by kernel_rfl) (by kernel_rfl) (by kernel_rfl) (fun _ _ _ h => h.elim) (.inl ⟨by kernel_rfl, fun w _ => by kernel_rfl⟩) hS ?_
  refine wpAnyH_take (i := 8) (v := .bool true) rfl (by kernel_rfl) (by kernel_rfl) (by kernel_rfl) (fun _ _ _ h => h.elim) (.inl ⟨by kernel_rfl, fun w _ => by kernel_rfl⟩) hS ?_
  refine wpAnyH_take (i := 9) (v := undef) rfl (by kernel_rfl) (by kernel_rfl) (by kernel_rfl) (fun _ _ _ h => h.elim) (.inr ⟨by kernel_rfl, rfl⟩) hS ?_
  refine wpAnyH_take (i := 10) (v := undef) rfl (by kernel_rfl) (by kernel_rfl) (by kernel_rfl) (fun _ _ _ h => h.elim) (.inr ⟨by kernel_rfl, rfl⟩) hS ?_
  refine wpAnyH_take (i := 11) (v := undef) rfl (by kernel_rfl) (by kernel_rfl) (by kernel_rfl) (fun _ _ _ h => h.elim) (.inr ⟨by kernel_rfl, rfl⟩) hS ?_
  refine wpAnyH_take (i := 12) (v := undef) rfl (by kernel_rfl) (by kernel_rfl) (by kernel_rfl) (fun _ _ _ h => h.elim) (.inr ⟨by kernel_rfl, rfl⟩) hS ?_
  refine wpAnyH_take (i := 13) (v := undef) rfl (by kernel_rfl) (by kernel_rfl) (by kernel_rfl) (fun _ _ _ h => h.elim) (.inr ⟨by kernel_rfl, rfl⟩) hS ?_
  refine wpAnyH_take (i := 14) (v := undef) rfl (by kernel_rfl) (by kernel_rfl) (by kernel_rfl) (fun _ _ _ h => h.elim) (.inr ⟨by kernel_rfl, rfl⟩) hS ?_
  refine wpAnyH_take (i := 15) (v := undef) rfl (by kernel_rfl) (by kernel_rfl) (by kernel_rfl) (fun _ _ _ h => h.elim) (.inr ⟨by kernel_rfl, rfl⟩) hS ?_
  refine wpAnyH_take (i := 16) (v := undef) rfl (by kernel_rfl) (by kernel_rfl) (by kernel_rfl) (fun _ _ _ h => h.elim) (.inr ⟨by kernel_rfl, rfl⟩) hS ?_
  refine wpAnyH_take (i := 17) (v := undef) rfl (by kernel_rfl) (by kernel_rfl) (by kernel_rfl) (fun _ _ _ h => h.elim) (.inr ⟨by kernel_rfl, rfl⟩) hS ?_
  refine wpAnyH_take (i := 18) (v := undef) rfl (by kernel_rfl) (by kernel_rfl) (by kernel_rfl) (fun _ _ _ h => h.elim) (.inr ⟨by kernel_rfl, rfl⟩) hS ?_
  refine wpAnyH_take (i := 19) (v := undef) rfl (by kernel_rfl) (by kernel_rfl) (by kernel_rfl) (fun _ _ _ h => h.elim) (.inr ⟨by kernel_rfl, rfl⟩) hS ?_
  refine wpAnyH_take (i := 20) (v := undef) rfl (by kernel_rfl) (by kernel_rfl) (by kernel_rfl) (fun _ _ _ h => h.elim) (.inr ⟨by kernel_rfl, rfl⟩) hS ?_
  refine wpAnyH_take (i := 21) (v := undef) rfl (by kernel_rfl) (by kernel_rfl) (by kernel_rfl) (fun _ _ _ h => h.elim) (.inr ⟨by kernel_rfl, rfl⟩) hS ?_
  refine wpAnyH_take (i := 22) (v := undef) rfl (by kernel_rfl) (by kernel_rfl) (by kernel_rfl) (fun _ _ _ h => h.elim) (.inr ⟨by kernel_rfl, rfl⟩) hS ?_
  refine wpAnyH_take (i := 23) (v := .bool true) rfl (by kernel_rfl) (by kernel_rfl) (by kernel_rfl) (fun _ _ _ h => h.elim) (.inl ⟨by kernel_rfl, fun w _ => by kernel_rfl⟩) hS ?_
  refine wpAnyH_done (by kernel_rfl) ?_ _
  refine NoPanic.normal ?_
  refine then_cast (A' := { tmps := #[.slice s n c, .int .i64 y, undef, undef, .int .i64 0, .bool false, .slice s n c, .bool true, .bool false, .bool false, .slice s n c, .bool false, .bool true, .bool true, .bool true, undef, undef, undef, undef, undef, undef, undef, undef, undef, undef, undef, undef, undef, undef, .bool true, undef, undef, undef, undef], defers := [] }) (by kernel_rfl) ?_
  go_wp2
  exact bodyPost_ret (v := .tuple #[.int .i64 0, .bool false]) (by simp [results, Try.results10, go_sem]) rfl ⟨rfl, (by repeat (first | with_reducible exact Below.refl _ _ | with_reducible exact B2 | with_reducible refine Below.setCell ?_ (by first | omega | (simp; done) | (simp; omega)) _ | with_reducible refine bDrewN ?_ _ | with_reducible refine Below.drew ?_ | with_reducible refine Below.alloc ?_ (by first | omega | (simp; done) | (simp; omega)) _))⟩
set_option maxRecDepth 20000 in
set_option maxHeartbeats 1000000 in
theorem implBack_on (s : Option Addr) (m c : Nat) (V : Nat → Int) (y L : Int) (i : Bool) (w : World) (hm : (m : Int) ≤ 58) (HR : Hid (RowI w s ((m + 2) * 2) V))
    (K : Hid (∀ w', Below w.heap.size w w' → Calls Try.prog 15 #[.slice s (m + 2) c] w' fun e w'' => e = .returned (.bool true) ∧ Below w'.heap.size w' w''))
    (T : Hid (∀ w', Below w.heap.size w w' → Calls Try.prog 24 #[.slice s (m + 2) c] w' fun e w'' => e = .returned (.bool true) ∧ Below w'.heap.size w' w''))
    (W : Hid (∀ w, Calls Try.prog 25 #[.int .i64 y, .int .i64 (V 1), .int .i64 (V ((m + 1) * 2 + 1))] w fun e w' => e = .returned (.bool i) ∧ w' = w))
    (F : Hid (i = true → ∀ w', Below w.heap.size w w' → Calls Try.prog 26 #[.iface 45 (.slice s (m + 2) c), .int .i64 y] w' fun e w'' => e = .returned (.int .i64 L) ∧ Below w'.heap.size w' w'')) :
    Calls Try.prog 10 #[.slice s (m + 2) c, .int .i64 y] w fun e w' => e = .returned (.tuple #[.int .i64 (if i = true then L else 0), .bool i]) ∧ Below w.heap.size w w' := by
  obtain ⟨g, o, rfl, hg, c1⟩ := HR.out 1 (by omega)
  obtain ⟨g', o', e', hg', c3⟩ := HR.out ((m + 1) * 2 + 1) (by omega)
  cases e'
  go_enter Try.func10, Try.ntmps10
  have k1 : IntKind.i64.wrap ((m : Int) + 1) = (m : Int) + 1 := by rw [IntKind.wrap_i64]; omega
  have k2 : (m : Int) + 2 - 1 = (m : Int) + 1 := by omega
  have k3 : ((m : Int) + 1).toNat = m + 1 := by omega
  have k4 : (0 : Int) ≤ (m : Int) + 1 := by omega
  have k6 : (0 : Int) < (m : Int) + 2 := by omega
  have k5 : (m : Int) + 1 < (m : Int) + 2 := by omega
  go_wp2_with fail
  have c3' : w.cell? ⟨g, o + (m + 1) * 2 + 1, none⟩ = some (.int .i64 (V ((m + 1) * 2 + 1))) := c3
  cases i
  all_goals
    go_region_held3 (fun w' => w'.cell? ⟨g, o + 1, none⟩ = some (.int .i64 (V 1)) ∧ w'.cell? ⟨g, o + (m + 1) * 2 + 1, none⟩ = some (.int .i64 (V ((m + 1) * 2 + 1)))) (first | (refine keepO c1 c3' hg ?_; exact (by repeat (first | with_reducible exact Below.refl _ _ | with_reducible exact B2 | with_reducible exact B1 | with_reducible refine Below.setCell ?_ (by first | omega | (simp; done) | (simp; omega)) _ | with_reducible refine bDrewN ?_ _ | with_reducible refine Below.drew ?_ | with_reducible refine Below.alloc ?_ (by first | omega | (simp; done) | (simp; omega)) _)))) (first
      | (go_at_call 15; refine (K.out _ (by repeat (first | with_reducible exact Below.refl _ _ | with_reducible refine Below.setCell ?_ (by first | omega | (simp; done) | (simp; omega)) _ | with_reducible refine bDrewN ?_ _ | with_reducible refine Below.drew ?_ | with_reducible refine Below.alloc ?_ (by first | omega | (simp; done) | (simp; omega)) _))).mono ?_; rintro r w1 ⟨rfl, h1⟩; have B1 : Below w.heap.size w w1 := Below.trans (by repeat (first | with_reducible exact Below.refl _ _ | with_reducible refine Below.setCell ?_ (by first | omega | (simp; done) | (simp; omega)) _ | with_reducible refine bDrewN ?_ _ | with_reducible refine Below.drew ?_ | with_reducible refine Below.alloc ?_ (by first | omega | (simp; done) | (simp; omega)) _)) (h1.mono (by first | omega | (simp; done) | (simp; omega))); have z1 := B1.size)
      | (go_at_call 24; refine (T.out _ (by repeat (first | with_reducible exact Below.refl _ _ | with_reducible exact B1 | with_reducible refine Below.setCell ?_ (by first | omega | (simp; done) | (simp; omega)) _ | with_reducible refine bDrewN ?_ _ | with_reducible refine Below.drew ?_ | with_reducible refine Below.alloc ?_ (by first | omega | (simp; done) | (simp; omega)) _))).mono ?_; rintro r w2 ⟨rfl, h2⟩; have B2 : Below w.heap.size w w2 := Below.trans (by repeat (first | with_reducible exact Below.refl _ _ | with_reducible exact B1 | with_reducible refine Below.setCell ?_ (by first | omega | (simp; done) | (simp; omega)) _ | with_reducible refine bDrewN ?_ _ | with_reducible refine Below.drew ?_ | with_reducible refine Below.alloc ?_ (by first | omega | (simp; done) | (simp; omega)) _)) (h2.mono (by first | omega | (simp; done) | (simp; omega))))
      | (go_at_call 25; refine (W.out _).mono ?_; rintro r w3 ⟨rfl, rfl⟩))
  · go_wp2
    exact bodyPost_ret (v := .tuple #[.int .i64 0, .bool false]) (by simp [results, Try.results10, go_sem]) rfl ⟨rfl, (by repeat (first | with_reducible exact Below.refl _ _ | with_reducible exact B2 | with_reducible refine Below.setCell ?_ (by first | omega | (simp; done) | (simp; omega)) _ | with_reducible refine bDrewN ?_ _ | with_reducible refine Below.drew ?_ | with_reducible refine Below.alloc ?_ (by first | omega | (simp; done) | (simp; omega)) _))⟩
  · have z2 := B2.size
    go_wp2_with fail
    refine (F.out (by first | trivial | rfl) _ (by repeat (first | with_reducible exact Below.refl _ _ | with_reducible exact B2 | with_reducible refine Below.setCell ?_ (by first | omega | (simp; done) | (simp; omega)) _ | with_reducible refine bDrewN ?_ _ | with_reducible refine Below.drew ?_ | with_reducible refine Below.alloc ?_ (by first | omega | (simp; done) | (simp; omega)) _))).mono ?_
    rintro r w4 ⟨rfl, h4⟩
    have B4 : Below w.heap.size w w4 := Below.trans (by repeat (first | with_reducible exact Below.refl _ _ | with_reducible exact B2 | with_reducible refine Below.setCell ?_ (by first | omega | (simp; done) | (simp; omega)) _ | with_reducible refine bDrewN ?_ _ | with_reducible refine Below.drew ?_ | with_reducible refine Below.alloc ?_ (by first | omega | (simp; done) | (simp; omega)) _)) (h4.mono (by first | omega | (simp; done) | (simp; omega)))
    go_wp2
    exact bodyPost_ret (v := .tuple #[.int .i64 L, .bool true]) (by simp [results, Try.results10, go_sem]) rfl ⟨rfl, (by repeat (first | with_reducible exact Below.refl _ _ | with_reducible exact B4 | with_reducible refine Below.setCell ?_ (by first | omega | (simp; done) | (simp; omega)) _ | with_reducible refine bDrewN ?_ _ | with_reducible refine Below.drew ?_ | with_reducible refine Below.alloc ?_ (by first | omega | (simp; done) | (simp; omega)) _))⟩
theorem implBack_any (s : Option Addr) (n c : Nat) (V : Nat → Int) (y : Int) (w : World) (HR : RowI w s (n * 2) V) :
    Calls Try.prog 10 #[.slice s n c, .int .i64 y] w fun e w' => (∃ x ok, BV n V y x ok ∧ e = .returned (.tuple #[.int .i64 x, .bool ok])) ∧ Below w.heap.size w w' := by
  have K := fun w' (hb : Below w.heap.size w w') => implCurveOk_any s n c V w' (HR.below hb)
  cases hC : curveB n V
  · rw [hC] at K
    refine (implBack_no1 s n c y w K).mono ?_
    rintro e w' ⟨rfl, hb⟩
    refine ⟨⟨0, false, .inl ⟨fun g => ?_, rfl, rfl⟩, rfl⟩, hb⟩
    rw [g.1] at hC; cases hC
  · rw [hC] at K
    obtain ⟨c1, c2, c3⟩ := curve_ok hC
    have T := fun w' (hb : Below w.heap.size w w') => steep_any s n c V w' (by omega) (by omega) (HR.below hb)
    cases hS : steepTo V n
    · rw [hS] at T
      refine (implBack_no2 s n c y w K T).mono ?_
      rintro e w' ⟨rfl, hb⟩
      refine ⟨⟨0, false, .inl ⟨fun g => ?_, rfl, rfl⟩, rfl⟩, hb⟩
      rw [g.2.1] at hS; cases hS
    · rw [hS] at T
      obtain ⟨m, rfl⟩ : ∃ m, n = m + 2 := ⟨n - 2, by omega⟩
      have e : m + 2 - 1 = m + 1 := by omega
      by_cases q : V 1 ≤ y ∧ y ≤ V ((m + 1) * 2 + 1)
      · obtain ⟨L, hL⟩ := least_exists (y := y) hC (by rw [e]; exact q.2)
        have i0 := (ok_in c3 (i := 0) (by omega)).1
        have i1 := (ok_in c3 (i := m + 1) (by omega)).1
        simp only [Nat.zero_mul] at i0
        have l2 : L ≤ V ((m + 1) * 2) := by have := hL.2.1; rw [e] at this; exact this
        refine (implBack_on s m c V y L true w (by omega) HR K T (fun w => within_yes y _ _ w q.1 q.2) fun _ w' hb => ?_).mono ?_
        · refine leastReaching_any s (m + 2) c y (V 0) (V ((m + 1) * 2)) L w' hL.1 l2 i0.1 i1.2 (fun w'' hb' => ends_any s (m + 1) c V w'' (by omega) ((HR.below hb).below hb')) fun x x1 x2 => ?_
          obtain ⟨v, hA⟩ := av_in (z := x) hC x1 (by rw [e]; exact x2)
          refine ⟨v, ?_, fun w'' hb' => ?_⟩
          · rw [← hL.iff hC hS x1 (by rw [e]; exact x2)]
            exact ⟨fun g => ⟨v, hA, g⟩, fun ⟨u, k1, k2⟩ => by rw [(hA.one k1).1]; exact k2⟩
          · refine (height_any s m c V x w'' (by omega) ((HR.below hb).below hb') c3 x1 x2).mono ?_
            rintro r w3 ⟨⟨j, j1, j2, j3, rfl⟩, h3⟩
            have hA' : AV (m + 2) V x (segV V x j) true := .inr ⟨hC, .inr ⟨j, j1, j2, j3, rfl, rfl⟩⟩
            exact ⟨by rw [(hA'.one hA).1], h3⟩
        · rintro r w' ⟨rfl, hb⟩
          exact ⟨⟨L, true, .inr ⟨⟨hC, hS, q.1, by rw [e]; exact q.2⟩, hL, rfl⟩, rfl⟩, hb⟩
      · refine (implBack_on s m c V y 0 false w (by omega) HR K T (fun w => within_no y _ _ w (by omega)) (fun h => by cases h)).mono ?_
        rintro r w' ⟨rfl, hb⟩
        exact ⟨⟨0, false, .inl ⟨fun g => q ⟨g.2.2.1, by have := g.2.2.2; rw [e] at this; exact this⟩, rfl, rfl⟩, rfl⟩, hb⟩
theorem bv_exists (n : Nat) (V : Nat → Int) (y : Int) : ∃ x ok, BV n V y x ok := by
  by_cases q : curveB n V = true ∧ steepTo V n = true ∧ V 1 ≤ y ∧ y ≤ V ((n - 1) * 2 + 1)
  · obtain ⟨L, hL⟩ := least_exists (y := y) q.1 q.2.2.2
    exact ⟨L, true, .inr ⟨q, hL, rfl⟩⟩
  · exact ⟨0, false, .inl ⟨q, rfl, rfl⟩⟩
end Go.Proofs.Ythbnfckpaehniaa
