/-
What is proved: the program's Along: a curve that is followed through its interface.
-/
import Derived.Test.YthbnfckpaehniaaAlongI
namespace Go.Proofs.Ythbnfckpaehniaa
set_option maxRecDepth 40000
open Go.RowKit
set_option linter.unusedVariables false

set_option maxHeartbeats 1000000 in
theorem follow_out (s : Option Addr) (n c : Nat) (x lo hi : Int) (w : World)
    (E : Hid (Calls Try.prog 54 #[.slice s n c] w fun e w' => e = .returned (.tuple #[.int .i64 lo, .int .i64 hi]) ∧ Below w.heap.size w w'))
    (N : Hid (∀ w, Calls Try.prog 25 #[.int .i64 x, .int .i64 lo, .int .i64 hi] w fun e w' => e = .returned (.bool false) ∧ w' = w)) :
    Calls Try.prog 27 #[.iface 45 (.slice s n c), .int .i64 x] w fun e w' => e = .returned (.tuple #[.int .i64 0, .bool false]) ∧ Below w.heap.size w w' := by
  go_enter Try.func27, Try.ntmps27
  go_wp2_with fail
  refine upon_run (a := (54, Value.slice s n c)) (w' := w) (by kernel_rfl) ?_
  go_wp2_with fail
  refine E.out.mono ?_
  rintro r w1 ⟨rfl, h1⟩
  go_wp2_with fail
  refine (N.out _).mono ?_
  rintro r w2 ⟨rfl, rfl⟩
  go_wp2
  exact bodyPost_ret (v := .tuple #[.int .i64 0, .bool false]) (by simp [results, Try.results27, go_sem]) rfl ⟨rfl, (by repeat (first | with_reducible exact Below.refl _ _ | with_reducible exact h1 | with_reducible refine Below.setCell ?_ (by first | omega | (simp; done) | (simp; omega)) _ | with_reducible refine bDrewN ?_ _ | with_reducible refine Below.drew ?_ | with_reducible refine Below.alloc ?_ (by first | omega | (simp; done) | (simp; omega)) _))⟩
set_option maxHeartbeats 1000000 in
theorem follow_in (s : Option Addr) (n c : Nat) (x lo hi : Int) (A : Int → Prop) (w : World)
    (E : Hid (Calls Try.prog 54 #[.slice s n c] w fun e w' => e = .returned (.tuple #[.int .i64 lo, .int .i64 hi]) ∧ Below w.heap.size w w'))
    (Y : Hid (∀ w, Calls Try.prog 25 #[.int .i64 x, .int .i64 lo, .int .i64 hi] w fun e w' => e = .returned (.bool true) ∧ w' = w))
    (H : Hid (∀ w', Below w.heap.size w w' → Calls Try.prog 55 #[.slice s n c, .int .i64 x] w' fun e w'' => (∃ y, A y ∧ e = .returned (.int .i64 y)) ∧ Below w'.heap.size w' w'')) :
    Calls Try.prog 27 #[.iface 45 (.slice s n c), .int .i64 x] w fun e w' => (∃ y, A y ∧ e = .returned (.tuple #[.int .i64 y, .bool true])) ∧ Below w.heap.size w w' := by
  go_enter Try.func27, Try.ntmps27
  go_wp2_with fail
  refine upon_run (a := (54, Value.slice s n c)) (w' := w) (by kernel_rfl) ?_
  go_wp2_with fail
  refine E.out.mono ?_
  rintro r w1 ⟨rfl, h1⟩
  go_wp2_with fail
  refine (Y.out _).mono ?_
  rintro r w2 ⟨rfl, rfl⟩
  go_wp2_with fail
  refine upon_run (a := (55, Value.slice s n c)) (w' := w2) (by kernel_rfl) ?_
  go_wp2_with fail
  refine (H.out _ h1).mono ?_
  rintro r w3 ⟨⟨y, hy, rfl⟩, h3⟩
  go_wp2
  exact bodyPost_ret (v := .tuple #[.int .i64 y, .bool true]) (by simp [results, Try.results27, go_sem]) rfl ⟨⟨y, hy, rfl⟩, h1.trans (h3.mono h1.size)⟩

set_option maxHeartbeats 1000000 in
theorem implAlong_no (s : Option Addr) (n c : Nat) (x : Int) (w : World)
    (K : Hid (Calls Try.prog 15 #[.slice s n c] w fun e w' => e = .returned (.bool false) ∧ Below w.heap.size w w')) :
    Calls Try.prog 11 #[.slice s n c, .int .i64 x] w fun e w' => e = .returned (.tuple #[.int .i64 0, .bool false]) ∧ Below w.heap.size w w' := by
  go_enter Try.func11, Try.ntmps11
  go_wp2_with fail
  refine K.out.mono ?_
  rintro r w1 ⟨rfl, h1⟩
  go_wp2
  exact bodyPost_ret (v := .tuple #[.int .i64 0, .bool false]) (by simp [results, Try.results11, go_sem]) rfl ⟨rfl, (by repeat (first | with_reducible exact Below.refl _ _ | with_reducible exact h1 | with_reducible refine Below.setCell ?_ (by first | omega | (simp; done) | (simp; omega)) _ | with_reducible refine bDrewN ?_ _ | with_reducible refine Below.drew ?_ | with_reducible refine Below.alloc ?_ (by first | omega | (simp; done) | (simp; omega)) _))⟩
set_option maxHeartbeats 1000000 in
theorem implAlong_on (s : Option Addr) (n c : Nat) (x : Int) (A : Int → Bool → Prop) (w : World)
    (K : Hid (Calls Try.prog 15 #[.slice s n c] w fun e w' => e = .returned (.bool true) ∧ Below w.heap.size w w'))
    (F : Hid (∀ w', Below w.heap.size w w' → Calls Try.prog 27 #[.iface 45 (.slice s n c), .int .i64 x] w' fun e w'' => (∃ y ok, A y ok ∧ e = .returned (.tuple #[.int .i64 y, .bool ok])) ∧ Below w'.heap.size w' w'')) :
    Calls Try.prog 11 #[.slice s n c, .int .i64 x] w fun e w' => (∃ y ok, A y ok ∧ e = .returned (.tuple #[.int .i64 y, .bool ok])) ∧ Below w.heap.size w w' := by
  go_enter Try.func11, Try.ntmps11
  go_wp2_with fail
  refine K.out.mono ?_
  rintro r w1 ⟨rfl, h1⟩
  go_wp2_with fail
  refine (F.out _ h1).mono ?_
  rintro r w2 ⟨⟨y, ok, hy, rfl⟩, h2⟩
  go_wp2
  exact bodyPost_ret (v := .tuple #[.int .i64 y, .bool ok]) (by simp [results, Try.results11, go_sem]) rfl ⟨⟨y, ok, hy, rfl⟩, h1.trans (h2.mono h1.size)⟩

theorem implAlong_any (s : Option Addr) (n c : Nat) (V : Nat → Int) (x : Int) (w : World) (HR : RowI w s (n * 2) V) :
    Calls Try.prog 11 #[.slice s n c, .int .i64 x] w fun e w' => (∃ y ok, AV n V x y ok ∧ e = .returned (.tuple #[.int .i64 y, .bool ok])) ∧ Below w.heap.size w w' := by
  have K := implCurveOk_any s n c V w HR
  cases hC : curveB n V
  · rw [hC] at K
    refine (implAlong_no s n c x w K).mono ?_
    rintro e w' ⟨rfl, hb⟩
    exact ⟨⟨0, false, .inl ⟨hC, rfl, rfl⟩, rfl⟩, hb⟩
  · rw [hC] at K
    obtain ⟨c1, c2, c3⟩ := curve_ok hC
    obtain ⟨m, rfl⟩ : ∃ m, n = m + 2 := ⟨n - 2, by omega⟩
    refine implAlong_on s (m + 2) c x (AV (m + 2) V x) w K fun w' hb => ?_
    have HR' := HR.below hb
    have E := ends_any s (m + 1) c V w' (by omega) HR'
    by_cases q : V 0 ≤ x ∧ x ≤ V ((m + 1) * 2)
    · refine (follow_in s (m + 2) c x (V 0) (V ((m + 1) * 2)) (fun y => AV (m + 2) V x y true) w' E (fun w => within_yes x _ _ w q.1 q.2) fun w'' hb' => ?_).mono ?_
      · refine (height_any s m c V x w'' (by omega) (HR'.below hb') c3 q.1 q.2).mono ?_
        rintro e w3 ⟨⟨j, j1, j2, j3, rfl⟩, h3⟩
        exact ⟨⟨_, .inr ⟨hC, .inr ⟨j, j1, j2, j3, rfl, rfl⟩⟩, rfl⟩, h3⟩
      · rintro e w3 ⟨⟨y, hy, rfl⟩, h3⟩
        exact ⟨⟨y, true, hy, rfl⟩, h3⟩
    · refine (follow_out s (m + 2) c x (V 0) (V ((m + 1) * 2)) w' E (fun w => within_no x _ _ w (by omega))).mono ?_
      rintro e w3 ⟨rfl, h3⟩
      refine ⟨⟨0, false, .inr ⟨hC, .inl ⟨?_, rfl, rfl⟩⟩, rfl⟩, h3⟩
      have : m + 2 - 1 = m + 1 := by omega
      rw [this]; omega
end Go.Proofs.Ythbnfckpaehniaa
