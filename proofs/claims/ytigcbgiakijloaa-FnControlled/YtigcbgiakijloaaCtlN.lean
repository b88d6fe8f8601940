/-
What is proved: what both packages refuse to control; their contracts whole.
-/
import Derived.Test.YtigcbgiakijloaaCtlS
import Derived.Test.YtigcbgiakijloaaCtlI
namespace Go.Proofs.Ytigcbgiakijloaa
set_option maxRecDepth 40000
open Go.RowKit
set_option linter.unusedVariables false

set_option maxHeartbeats 1000000 in
theorem specCtl_no1 (x0 x1 x2 x3 x4 x5 x6 L : Int) (s : Option Addr) (n c nd : Nat) (F : Nat → Int) (sd : Option Addr) (cd : Nat) (D : Nat → Int) (w : World) (hn : (n : Int) ≤ 1048576) (hnd : (nd : Int) ≤ 1048576) (NG : Hid (¬ goC (x0, x1, x2, x3, x4, x5, x6) L n nd))
    (K : Hid (∀ w, Calls Try.prog 32 #[.agg #[.int .i64 x0, .int .i64 x1, .int .i64 x2, .int .i64 x3, .int .i64 x4, .int .i64 x5, .int .i64 x6]] w fun e w' => e = .returned (.bool false) ∧ Below w.heap.size w w')) :
    Calls Try.prog 13 #[.agg #[.int .i64 x0, .int .i64 x1, .int .i64 x2, .int .i64 x3, .int .i64 x4, .int .i64 x5, .int .i64 x6], .int .i64 L, .slice s n c, .slice sd nd cd] w fun e w' => ∃ m y b s' c', CtlV (x0, x1, x2, x3, x4, x5, x6) L n nd F D m y b ∧ e = .returned (.tuple #[.slice s' m c', valT y, .bool b]) ∧ OwnI w.heap.size w' s' m (feedK (x0, x1, x2, x3, x4, x5, x6) L F D) ∧ Below w.heap.size w w' := by
  go_enter Try.func13, Try.ntmps13
  go_wp2_with fail
  refine (K.out _).mono ?_
  rintro e w1 ⟨rfl, hb⟩
  obtain ⟨hc, hf⟩ := bcell hb
  have z1 : w.heap.size + 1 < w1.heap.size := by have := hb.size; simp at this; omega
  have B1 : Below w.heap.size w w1 := Below.trans (by repeat (first | with_reducible exact Below.refl _ _ | with_reducible refine Below.setCell ?_ (by first | omega | (simp; done) | (simp; omega)) _ | with_reducible refine bDrewN ?_ _ | with_reducible refine Below.drew ?_ | with_reducible refine Below.alloc ?_ (by first | omega | (simp; done) | (simp; omega)) _)) (hb.mono (by first | omega | (simp; done) | (simp; omega)))
  go_wp2
  refine bodyPost_ret (v := .tuple #[.slice (some ⟨w.heap.size + 1 + 1, 0, none⟩) 0 0, drum0, .bool false]) (by simp [results, Try.results13, go_sem, hc, drum0]) rfl ⟨0, (0, 0, 0, 0, 0, 0, 0), false, _, _, .inr ⟨rfl, rfl, rfl, fun q => NG.out q.1⟩, rfl, fun j hj => by omega, ?_⟩
  exact (by repeat (first | with_reducible exact Below.refl _ _ | with_reducible exact B1 | with_reducible refine Below.setCell ?_ (by first | omega | (simp; done) | (simp; omega)) _ | with_reducible refine bDrewN ?_ _ | with_reducible refine Below.drew ?_ | with_reducible refine Below.alloc ?_ (by first | omega | (simp; done) | (simp; omega)) _))
set_option maxHeartbeats 1000000 in
theorem specCtl_no2 (x0 x1 x2 x3 x4 x5 x6 L : Int) (s : Option Addr) (n c nd : Nat) (F : Nat → Int) (sd : Option Addr) (cd : Nat) (D : Nat → Int) (w : World) (hl : L < 0 ∨ 1000000000000 < L) (hn : (n : Int) ≤ 1048576) (hnd : (nd : Int) ≤ 1048576) (NG : Hid (¬ goC (x0, x1, x2, x3, x4, x5, x6) L n nd))
    (K : Hid (∀ w, Calls Try.prog 32 #[.agg #[.int .i64 x0, .int .i64 x1, .int .i64 x2, .int .i64 x3, .int .i64 x4, .int .i64 x5, .int .i64 x6]] w fun e w' => e = .returned (.bool true) ∧ Below w.heap.size w w')) :
    Calls Try.prog 13 #[.agg #[.int .i64 x0, .int .i64 x1, .int .i64 x2, .int .i64 x3, .int .i64 x4, .int .i64 x5, .int .i64 x6], .int .i64 L, .slice s n c, .slice sd nd cd] w fun e w' => ∃ m y b s' c', CtlV (x0, x1, x2, x3, x4, x5, x6) L n nd F D m y b ∧ e = .returned (.tuple #[.slice s' m c', valT y, .bool b]) ∧ OwnI w.heap.size w' s' m (feedK (x0, x1, x2, x3, x4, x5, x6) L F D) ∧ Below w.heap.size w w' := by
  go_enter Try.func13, Try.ntmps13
  go_wp2_with fail
  refine (K.out _).mono ?_
  rintro e w1 ⟨rfl, hb⟩
  obtain ⟨hc, hf⟩ := bcell hb
  have z1 : w.heap.size + 1 < w1.heap.size := by have := hb.size; simp at this; omega
  have B1 : Below w.heap.size w w1 := Below.trans (by repeat (first | with_reducible exact Below.refl _ _ | with_reducible refine Below.setCell ?_ (by first | omega | (simp; done) | (simp; omega)) _ | with_reducible refine bDrewN ?_ _ | with_reducible refine Below.drew ?_ | with_reducible refine Below.alloc ?_ (by first | omega | (simp; done) | (simp; omega)) _)) (hb.mono (by first | omega | (simp; done) | (simp; omega)))
  go_wp2_with fail
  refine (l1In_no _ _ _ _ hl).mono ?_
  rintro e w1 ⟨rfl, rfl⟩
  go_wp2
  refine bodyPost_ret (v := .tuple #[.slice (some ⟨w.heap.size + 1 + 1, 0, none⟩) 0 0, drum0, .bool false]) (by simp [results, Try.results13, go_sem, hc, drum0]) rfl ⟨0, (0, 0, 0, 0, 0, 0, 0), false, _, _, .inr ⟨rfl, rfl, rfl, fun q => NG.out q.1⟩, rfl, fun j hj => by omega, ?_⟩
  exact (by repeat (first | with_reducible exact Below.refl _ _ | with_reducible exact B1 | with_reducible refine Below.setCell ?_ (by first | omega | (simp; done) | (simp; omega)) _ | with_reducible refine bDrewN ?_ _ | with_reducible refine Below.drew ?_ | with_reducible refine Below.alloc ?_ (by first | omega | (simp; done) | (simp; omega)) _))
set_option maxHeartbeats 1000000 in
theorem specCtl_no3 (x0 x1 x2 x3 x4 x5 x6 L : Int) (s : Option Addr) (n c nd : Nat) (F : Nat → Int) (sd : Option Addr) (cd : Nat) (D : Nat → Int) (w : World) (l0 : 0 ≤ L) (l1 : L ≤ 1000000000000) (hne : ¬ (n : Int) = (nd : Int)) (hn : (n : Int) ≤ 1048576) (hnd : (nd : Int) ≤ 1048576) (NG : Hid (¬ goC (x0, x1, x2, x3, x4, x5, x6) L n nd))
    (K : Hid (∀ w, Calls Try.prog 32 #[.agg #[.int .i64 x0, .int .i64 x1, .int .i64 x2, .int .i64 x3, .int .i64 x4, .int .i64 x5, .int .i64 x6]] w fun e w' => e = .returned (.bool true) ∧ Below w.heap.size w w')) :
    Calls Try.prog 13 #[.agg #[.int .i64 x0, .int .i64 x1, .int .i64 x2, .int .i64 x3, .int .i64 x4, .int .i64 x5, .int .i64 x6], .int .i64 L, .slice s n c, .slice sd nd cd] w fun e w' => ∃ m y b s' c', CtlV (x0, x1, x2, x3, x4, x5, x6) L n nd F D m y b ∧ e = .returned (.tuple #[.slice s' m c', valT y, .bool b]) ∧ OwnI w.heap.size w' s' m (feedK (x0, x1, x2, x3, x4, x5, x6) L F D) ∧ Below w.heap.size w w' := by
  go_enter Try.func13, Try.ntmps13
  go_wp2_with fail
  refine (K.out _).mono ?_
  rintro e w1 ⟨rfl, hb⟩
  obtain ⟨hc, hf⟩ := bcell hb
  have z1 : w.heap.size + 1 < w1.heap.size := by have := hb.size; simp at this; omega
  have B1 : Below w.heap.size w w1 := Below.trans (by repeat (first | with_reducible exact Below.refl _ _ | with_reducible refine Below.setCell ?_ (by first | omega | (simp; done) | (simp; omega)) _ | with_reducible refine bDrewN ?_ _ | with_reducible refine Below.drew ?_ | with_reducible refine Below.alloc ?_ (by first | omega | (simp; done) | (simp; omega)) _)) (hb.mono (by first | omega | (simp; done) | (simp; omega)))
  go_wp2_with fail
  refine (l1In_yes _ _ _ _ l0 l1).mono ?_
  rintro e w1 ⟨rfl, rfl⟩
  go_wp2
  refine bodyPost_ret (v := .tuple #[.slice (some ⟨w.heap.size + 1 + 1, 0, none⟩) 0 0, drum0, .bool false]) (by simp [results, Try.results13, go_sem, hc, drum0]) rfl ⟨0, (0, 0, 0, 0, 0, 0, 0), false, _, _, .inr ⟨rfl, rfl, rfl, fun q => NG.out q.1⟩, rfl, fun j hj => by omega, ?_⟩
  exact (by repeat (first | with_reducible exact Below.refl _ _ | with_reducible exact B1 | with_reducible refine Below.setCell ?_ (by first | omega | (simp; done) | (simp; omega)) _ | with_reducible refine bDrewN ?_ _ | with_reducible refine Below.drew ?_ | with_reducible refine Below.alloc ?_ (by first | omega | (simp; done) | (simp; omega)) _))
set_option maxHeartbeats 1000000 in
theorem specCtl_no4 (x0 x1 x2 x3 x4 x5 x6 L : Int) (s : Option Addr) (n c nd : Nat) (F : Nat → Int) (sd : Option Addr) (cd : Nat) (D : Nat → Int) (w : World) (l0 : 0 ≤ L) (l1 : L ≤ 1000000000000) (heq : (n : Int) = (nd : Int)) (h5 : (500 : Int) < nd) (hn : (n : Int) ≤ 1048576) (hnd : (nd : Int) ≤ 1048576) (NG : Hid (¬ goC (x0, x1, x2, x3, x4, x5, x6) L n nd))
    (K : Hid (∀ w, Calls Try.prog 32 #[.agg #[.int .i64 x0, .int .i64 x1, .int .i64 x2, .int .i64 x3, .int .i64 x4, .int .i64 x5, .int .i64 x6]] w fun e w' => e = .returned (.bool true) ∧ Below w.heap.size w w')) :
    Calls Try.prog 13 #[.agg #[.int .i64 x0, .int .i64 x1, .int .i64 x2, .int .i64 x3, .int .i64 x4, .int .i64 x5, .int .i64 x6], .int .i64 L, .slice s n c, .slice sd nd cd] w fun e w' => ∃ m y b s' c', CtlV (x0, x1, x2, x3, x4, x5, x6) L n nd F D m y b ∧ e = .returned (.tuple #[.slice s' m c', valT y, .bool b]) ∧ OwnI w.heap.size w' s' m (feedK (x0, x1, x2, x3, x4, x5, x6) L F D) ∧ Below w.heap.size w w' := by
  go_enter Try.func13, Try.ntmps13
  go_wp2_with fail
  refine (K.out _).mono ?_
  rintro e w1 ⟨rfl, hb⟩
  obtain ⟨hc, hf⟩ := bcell hb
  have z1 : w.heap.size + 1 < w1.heap.size := by have := hb.size; simp at this; omega
  have B1 : Below w.heap.size w w1 := Below.trans (by repeat (first | with_reducible exact Below.refl _ _ | with_reducible refine Below.setCell ?_ (by first | omega | (simp; done) | (simp; omega)) _ | with_reducible refine bDrewN ?_ _ | with_reducible refine Below.drew ?_ | with_reducible refine Below.alloc ?_ (by first | omega | (simp; done) | (simp; omega)) _)) (hb.mono (by first | omega | (simp; done) | (simp; omega)))
  go_wp2_with fail
  refine (l1In_yes _ _ _ _ l0 l1).mono ?_
  rintro e w1 ⟨rfl, rfl⟩
  go_wp2
  refine bodyPost_ret (v := .tuple #[.slice (some ⟨w.heap.size + 1 + 1, 0, none⟩) 0 0, drum0, .bool false]) (by simp [results, Try.results13, go_sem, hc, drum0]) rfl ⟨0, (0, 0, 0, 0, 0, 0, 0), false, _, _, .inr ⟨rfl, rfl, rfl, fun q => NG.out q.1⟩, rfl, fun j hj => by omega, ?_⟩
  exact (by repeat (first | with_reducible exact Below.refl _ _ | with_reducible exact B1 | with_reducible refine Below.setCell ?_ (by first | omega | (simp; done) | (simp; omega)) _ | with_reducible refine bDrewN ?_ _ | with_reducible refine Below.drew ?_ | with_reducible refine Below.alloc ?_ (by first | omega | (simp; done) | (simp; omega)) _))
theorem specCtl_any (x0 x1 x2 x3 x4 x5 x6 L : Int) (s : Option Addr) (n c nd : Nat) (F : Nat → Int) (sd : Option Addr) (cd : Nat) (D : Nat → Int) (w : World) (hn : (n : Int) ≤ 1048576) (hnd : (nd : Int) ≤ 1048576) (HR : RowI w s n F) (HD : RowI w sd nd D) :
    Calls Try.prog 13 #[.agg #[.int .i64 x0, .int .i64 x1, .int .i64 x2, .int .i64 x3, .int .i64 x4, .int .i64 x5, .int .i64 x6], .int .i64 L, .slice s n c, .slice sd nd cd] w fun e w' => ∃ m y b s' c', CtlV (x0, x1, x2, x3, x4, x5, x6) L n nd F D m y b ∧ e = .returned (.tuple #[.slice s' m c', valT y, .bool b]) ∧ OwnI w.heap.size w' s' m (feedK (x0, x1, x2, x3, x4, x5, x6) L F D) ∧ Below w.heap.size w w' := by
  have K : ∀ w, Calls Try.prog 32 #[.agg #[.int .i64 x0, .int .i64 x1, .int .i64 x2, .int .i64 x3, .int .i64 x4, .int .i64 x5, .int .i64 x6]] w fun e w' => e = .returned (.bool (drumB x0 x1 x2 x3 x4 x5 x6)) ∧ Below w.heap.size w w' := fun w => specDrumOk_any x0 x1 x2 x3 x4 x5 x6 w
  cases h1 : drumB x0 x1 x2 x3 x4 x5 x6
  · rw [h1] at K
    exact specCtl_no1 x0 x1 x2 x3 x4 x5 x6 L s n c nd F sd cd D w hn hnd (fun q => by have e : drumB x0 x1 x2 x3 x4 x5 x6 = true := q.1; rw [h1] at e; cases e) K
  · rw [h1] at K
    by_cases h2 : 0 ≤ L ∧ L ≤ 1000000000000
    · by_cases h3 : n = nd
      · by_cases h4 : n ≤ 500
        · subst h3
          exact specCtl_in x0 x1 x2 x3 x4 x5 x6 L s n c n F sd cd D w rfl (by omega) h2.1 h2.2 HR HD h1 K (fun a0 a1 a2 a3 a4 a5 a6 w => specLevelOf_any a0 a1 a2 a3 a4 a5 a6 w) (fun a0 a1 a2 a3 a4 a5 a6 fe fi dr w => specDrumStep_any a0 a1 a2 a3 a4 a5 a6 fe fi dr w)
        · exact specCtl_no4 x0 x1 x2 x3 x4 x5 x6 L s n c nd F sd cd D w h2.1 h2.2 (by omega) (by omega) hn hnd (fun q => h4 q.2.2.2.2) K
      · exact specCtl_no3 x0 x1 x2 x3 x4 x5 x6 L s n c nd F sd cd D w h2.1 h2.2 (by omega) hn hnd (fun q => h3 q.2.2.2.1) K
    · exact specCtl_no2 x0 x1 x2 x3 x4 x5 x6 L s n c nd F sd cd D w (by omega) hn hnd (fun q => h2 ⟨q.2.1, q.2.2.1⟩) K
set_option maxHeartbeats 1000000 in
theorem implCtl_no1 (x0 x1 x2 x3 x4 x5 x6 L : Int) (s : Option Addr) (n c nd : Nat) (F : Nat → Int) (sd : Option Addr) (cd : Nat) (D : Nat → Int) (w : World) (hn : (n : Int) ≤ 1048576) (hnd : (nd : Int) ≤ 1048576) (NG : Hid (¬ goC (x0, x1, x2, x3, x4, x5, x6) L n nd))
    (K : Hid (∀ w, Calls Try.prog 33 #[.agg #[.int .i64 x0, .int .i64 x1, .int .i64 x2, .int .i64 x3, .int .i64 x4, .int .i64 x5, .int .i64 x6]] w fun e w' => e = .returned (.bool false) ∧ Below w.heap.size w w')) :
    Calls Try.prog 14 #[.agg #[.int .i64 x0, .int .i64 x1, .int .i64 x2, .int .i64 x3, .int .i64 x4, .int .i64 x5, .int .i64 x6], .int .i64 L, .slice s n c, .slice sd nd cd] w fun e w' => ∃ m y b s' c', CtlV (x0, x1, x2, x3, x4, x5, x6) L n nd F D m y b ∧ e = .returned (.tuple #[.slice s' m c', valT y, .bool b]) ∧ OwnI w.heap.size w' s' m (feedK (x0, x1, x2, x3, x4, x5, x6) L F D) ∧ Below w.heap.size w w' := by
  go_enter Try.func14, Try.ntmps14
  go_wp2_with fail
  refine (K.out _).mono ?_
  rintro e w1 ⟨rfl, hb⟩
  obtain ⟨hc, hf⟩ := bcell hb
  have z1 : w.heap.size + 1 < w1.heap.size := by have := hb.size; simp at this; omega
  have B1 : Below w.heap.size w w1 := Below.trans (by repeat (first | with_reducible exact Below.refl _ _ | with_reducible refine Below.setCell ?_ (by first | omega | (simp; done) | (simp; omega)) _ | with_reducible refine bDrewN ?_ _ | with_reducible refine Below.drew ?_ | with_reducible refine Below.alloc ?_ (by first | omega | (simp; done) | (simp; omega)) _)) (hb.mono (by first | omega | (simp; done) | (simp; omega)))
  go_wp2
  refine bodyPost_ret (v := .tuple #[.slice none 0 0, drum0, .bool false]) (by simp [results, Try.results14, go_sem, hc, drum0]) rfl ⟨0, (0, 0, 0, 0, 0, 0, 0), false, _, _, .inr ⟨rfl, rfl, rfl, fun q => NG.out q.1⟩, rfl, fun j hj => by omega, ?_⟩
  exact (by repeat (first | with_reducible exact Below.refl _ _ | with_reducible exact B1 | with_reducible refine Below.setCell ?_ (by first | omega | (simp; done) | (simp; omega)) _ | with_reducible refine bDrewN ?_ _ | with_reducible refine Below.drew ?_ | with_reducible refine Below.alloc ?_ (by first | omega | (simp; done) | (simp; omega)) _))
set_option maxHeartbeats 1000000 in
theorem implCtl_no2 (x0 x1 x2 x3 x4 x5 x6 L : Int) (s : Option Addr) (n c nd : Nat) (F : Nat → Int) (sd : Option Addr) (cd : Nat) (D : Nat → Int) (w : World) (hl : L < 0 ∨ 1000000000000 < L) (hn : (n : Int) ≤ 1048576) (hnd : (nd : Int) ≤ 1048576) (NG : Hid (¬ goC (x0, x1, x2, x3, x4, x5, x6) L n nd))
    (K : Hid (∀ w, Calls Try.prog 33 #[.agg #[.int .i64 x0, .int .i64 x1, .int .i64 x2, .int .i64 x3, .int .i64 x4, .int .i64 x5, .int .i64 x6]] w fun e w' => e = .returned (.bool true) ∧ Below w.heap.size w w')) :
    Calls Try.prog 14 #[.agg #[.int .i64 x0, .int .i64 x1, .int .i64 x2, .int .i64 x3, .int .i64 x4, .int .i64 x5, .int .i64 x6], .int .i64 L, .slice s n c, .slice sd nd cd] w fun e w' => ∃ m y b s' c', CtlV (x0, x1, x2, x3, x4, x5, x6) L n nd F D m y b ∧ e = .returned (.tuple #[.slice s' m c', valT y, .bool b]) ∧ OwnI w.heap.size w' s' m (feedK (x0, x1, x2, x3, x4, x5, x6) L F D) ∧ Below w.heap.size w w' := by
  go_enter Try.func14, Try.ntmps14
  go_wp2_with fail
  refine (K.out _).mono ?_
  rintro e w1 ⟨rfl, hb⟩
  obtain ⟨hc, hf⟩ := bcell hb
  have z1 : w.heap.size + 1 < w1.heap.size := by have := hb.size; simp at this; omega
  have B1 : Below w.heap.size w w1 := Below.trans (by repeat (first | with_reducible exact Below.refl _ _ | with_reducible refine Below.setCell ?_ (by first | omega | (simp; done) | (simp; omega)) _ | with_reducible refine bDrewN ?_ _ | with_reducible refine Below.drew ?_ | with_reducible refine Below.alloc ?_ (by first | omega | (simp; done) | (simp; omega)) _)) (hb.mono (by first | omega | (simp; done) | (simp; omega)))
  go_wp2_with fail
  refine (within_no _ _ _ _ hl).mono ?_
  rintro e w1 ⟨rfl, rfl⟩
  go_wp2
  refine bodyPost_ret (v := .tuple #[.slice none 0 0, drum0, .bool false]) (by simp [results, Try.results14, go_sem, hc, drum0]) rfl ⟨0, (0, 0, 0, 0, 0, 0, 0), false, _, _, .inr ⟨rfl, rfl, rfl, fun q => NG.out q.1⟩, rfl, fun j hj => by omega, ?_⟩
  exact (by repeat (first | with_reducible exact Below.refl _ _ | with_reducible exact B1 | with_reducible refine Below.setCell ?_ (by first | omega | (simp; done) | (simp; omega)) _ | with_reducible refine bDrewN ?_ _ | with_reducible refine Below.drew ?_ | with_reducible refine Below.alloc ?_ (by first | omega | (simp; done) | (simp; omega)) _))
set_option maxHeartbeats 1000000 in
theorem implCtl_no3 (x0 x1 x2 x3 x4 x5 x6 L : Int) (s : Option Addr) (n c nd : Nat) (F : Nat → Int) (sd : Option Addr) (cd : Nat) (D : Nat → Int) (w : World) (l0 : 0 ≤ L) (l1 : L ≤ 1000000000000) (hne : ¬ (n : Int) = (nd : Int)) (hn : (n : Int) ≤ 1048576) (hnd : (nd : Int) ≤ 1048576) (NG : Hid (¬ goC (x0, x1, x2, x3, x4, x5, x6) L n nd))
    (K : Hid (∀ w, Calls Try.prog 33 #[.agg #[.int .i64 x0, .int .i64 x1, .int .i64 x2, .int .i64 x3, .int .i64 x4, .int .i64 x5, .int .i64 x6]] w fun e w' => e = .returned (.bool true) ∧ Below w.heap.size w w')) :
    Calls Try.prog 14 #[.agg #[.int .i64 x0, .int .i64 x1, .int .i64 x2, .int .i64 x3, .int .i64 x4, .int .i64 x5, .int .i64 x6], .int .i64 L, .slice s n c, .slice sd nd cd] w fun e w' => ∃ m y b s' c', CtlV (x0, x1, x2, x3, x4, x5, x6) L n nd F D m y b ∧ e = .returned (.tuple #[.slice s' m c', valT y, .bool b]) ∧ OwnI w.heap.size w' s' m (feedK (x0, x1, x2, x3, x4, x5, x6) L F D) ∧ Below w.heap.size w w' := by
  go_enter Try.func14, Try.ntmps14
  go_wp2_with fail
  refine (K.out _).mono ?_
  rintro e w1 ⟨rfl, hb⟩
  obtain ⟨hc, hf⟩ := bcell hb
  have z1 : w.heap.size + 1 < w1.heap.size := by have := hb.size; simp at this; omega
  have B1 : Below w.heap.size w w1 := Below.trans (by repeat (first | with_reducible exact Below.refl _ _ | with_reducible refine Below.setCell ?_ (by first | omega | (simp; done) | (simp; omega)) _ | with_reducible refine bDrewN ?_ _ | with_reducible refine Below.drew ?_ | with_reducible refine Below.alloc ?_ (by first | omega | (simp; done) | (simp; omega)) _)) (hb.mono (by first | omega | (simp; done) | (simp; omega)))
  go_wp2_with fail
  refine (within_yes _ _ _ _ l0 l1).mono ?_
  rintro e w1 ⟨rfl, rfl⟩
  go_wp2
  refine bodyPost_ret (v := .tuple #[.slice none 0 0, drum0, .bool false]) (by simp [results, Try.results14, go_sem, hc, drum0]) rfl ⟨0, (0, 0, 0, 0, 0, 0, 0), false, _, _, .inr ⟨rfl, rfl, rfl, fun q => NG.out q.1⟩, rfl, fun j hj => by omega, ?_⟩
  exact (by repeat (first | with_reducible exact Below.refl _ _ | with_reducible exact B1 | with_reducible refine Below.setCell ?_ (by first | omega | (simp; done) | (simp; omega)) _ | with_reducible refine bDrewN ?_ _ | with_reducible refine Below.drew ?_ | with_reducible refine Below.alloc ?_ (by first | omega | (simp; done) | (simp; omega)) _))
set_option maxHeartbeats 1000000 in
theorem implCtl_no4 (x0 x1 x2 x3 x4 x5 x6 L : Int) (s : Option Addr) (n c nd : Nat) (F : Nat → Int) (sd : Option Addr) (cd : Nat) (D : Nat → Int) (w : World) (l0 : 0 ≤ L) (l1 : L ≤ 1000000000000) (heq : (n : Int) = (nd : Int)) (h5 : (500 : Int) < nd) (hn : (n : Int) ≤ 1048576) (hnd : (nd : Int) ≤ 1048576) (NG : Hid (¬ goC (x0, x1, x2, x3, x4, x5, x6) L n nd))
    (K : Hid (∀ w, Calls Try.prog 33 #[.agg #[.int .i64 x0, .int .i64 x1, .int .i64 x2, .int .i64 x3, .int .i64 x4, .int .i64 x5, .int .i64 x6]] w fun e w' => e = .returned (.bool true) ∧ Below w.heap.size w w')) :
    Calls Try.prog 14 #[.agg #[.int .i64 x0, .int .i64 x1, .int .i64 x2, .int .i64 x3, .int .i64 x4, .int .i64 x5, .int .i64 x6], .int .i64 L, .slice s n c, .slice sd nd cd] w fun e w' => ∃ m y b s' c', CtlV (x0, x1, x2, x3, x4, x5, x6) L n nd F D m y b ∧ e = .returned (.tuple #[.slice s' m c', valT y, .bool b]) ∧ OwnI w.heap.size w' s' m (feedK (x0, x1, x2, x3, x4, x5, x6) L F D) ∧ Below w.heap.size w w' := by
  go_enter Try.func14, Try.ntmps14
  go_wp2_with fail
  refine (K.out _).mono ?_
  rintro e w1 ⟨rfl, hb⟩
  obtain ⟨hc, hf⟩ := bcell hb
  have z1 : w.heap.size + 1 < w1.heap.size := by have := hb.size; simp at this; omega
  have B1 : Below w.heap.size w w1 := Below.trans (by repeat (first | with_reducible exact Below.refl _ _ | with_reducible refine Below.setCell ?_ (by first | omega | (simp; done) | (simp; omega)) _ | with_reducible refine bDrewN ?_ _ | with_reducible refine Below.drew ?_ | with_reducible refine Below.alloc ?_ (by first | omega | (simp; done) | (simp; omega)) _)) (hb.mono (by first | omega | (simp; done) | (simp; omega)))
  go_wp2_with fail
  refine (within_yes _ _ _ _ l0 l1).mono ?_
  rintro e w1 ⟨rfl, rfl⟩
  go_wp2
  refine bodyPost_ret (v := .tuple #[.slice none 0 0, drum0, .bool false]) (by simp [results, Try.results14, go_sem, hc, drum0]) rfl ⟨0, (0, 0, 0, 0, 0, 0, 0), false, _, _, .inr ⟨rfl, rfl, rfl, fun q => NG.out q.1⟩, rfl, fun j hj => by omega, ?_⟩
  exact (by repeat (first | with_reducible exact Below.refl _ _ | with_reducible exact B1 | with_reducible refine Below.setCell ?_ (by first | omega | (simp; done) | (simp; omega)) _ | with_reducible refine bDrewN ?_ _ | with_reducible refine Below.drew ?_ | with_reducible refine Below.alloc ?_ (by first | omega | (simp; done) | (simp; omega)) _))
theorem implCtl_any (x0 x1 x2 x3 x4 x5 x6 L : Int) (s : Option Addr) (n c nd : Nat) (F : Nat → Int) (sd : Option Addr) (cd : Nat) (D : Nat → Int) (w : World) (hn : (n : Int) ≤ 1048576) (hnd : (nd : Int) ≤ 1048576) (HR : RowI w s n F) (HD : RowI w sd nd D) :
    Calls Try.prog 14 #[.agg #[.int .i64 x0, .int .i64 x1, .int .i64 x2, .int .i64 x3, .int .i64 x4, .int .i64 x5, .int .i64 x6], .int .i64 L, .slice s n c, .slice sd nd cd] w fun e w' => ∃ m y b s' c', CtlV (x0, x1, x2, x3, x4, x5, x6) L n nd F D m y b ∧ e = .returned (.tuple #[.slice s' m c', valT y, .bool b]) ∧ OwnI w.heap.size w' s' m (feedK (x0, x1, x2, x3, x4, x5, x6) L F D) ∧ Below w.heap.size w w' := by
  have K : ∀ w, Calls Try.prog 33 #[.agg #[.int .i64 x0, .int .i64 x1, .int .i64 x2, .int .i64 x3, .int .i64 x4, .int .i64 x5, .int .i64 x6]] w fun e w' => e = .returned (.bool (drumB x0 x1 x2 x3 x4 x5 x6)) ∧ Below w.heap.size w w' := fun w => implDrumOk_any x0 x1 x2 x3 x4 x5 x6 w
  cases h1 : drumB x0 x1 x2 x3 x4 x5 x6
  · rw [h1] at K
    exact implCtl_no1 x0 x1 x2 x3 x4 x5 x6 L s n c nd F sd cd D w hn hnd (fun q => by have e : drumB x0 x1 x2 x3 x4 x5 x6 = true := q.1; rw [h1] at e; cases e) K
  · rw [h1] at K
    by_cases h2 : 0 ≤ L ∧ L ≤ 1000000000000
    · by_cases h3 : n = nd
      · by_cases h4 : n ≤ 500
        · subst h3
          exact implCtl_in x0 x1 x2 x3 x4 x5 x6 L s n c n F sd cd D w rfl (by omega) h2.1 h2.2 HR HD h1 K (fun a0 a1 a2 a3 a4 a5 a6 d w => feedFor_any a0 a1 a2 a3 a4 a5 a6 L d w h2.1 h2.2 (fun w => implLevelOf_any a0 a1 a2 a3 a4 a5 a6 w)) (fun a0 a1 a2 a3 a4 a5 a6 fe fi dr w => implDrumStep_any a0 a1 a2 a3 a4 a5 a6 fe fi dr w)
        · exact implCtl_no4 x0 x1 x2 x3 x4 x5 x6 L s n c nd F sd cd D w h2.1 h2.2 (by omega) (by omega) hn hnd (fun q => h4 q.2.2.2.2) K
      · exact implCtl_no3 x0 x1 x2 x3 x4 x5 x6 L s n c nd F sd cd D w h2.1 h2.2 (by omega) hn hnd (fun q => h3 q.2.2.2.1) K
    · exact implCtl_no2 x0 x1 x2 x3 x4 x5 x6 L s n c nd F sd cd D w (by omega) hn hnd (fun q => h2 ⟨q.2.1, q.2.2.1⟩) K
end Go.Proofs.Ytigcbgiakijloaa
