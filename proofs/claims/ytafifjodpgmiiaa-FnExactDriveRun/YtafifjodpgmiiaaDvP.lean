/-
What is proved: a drive in its block, and what taking a want, moving and watching do to it.
-/
import Derived.Test.YtafifjodpgmiiaaDv
import Derived.RegionTactic
namespace Go.Proofs.Ytafifjodpgmiiaa
set_option maxRecDepth 40000
open Go.ChangeShapes Go.WideShapes Go.ChangeAt Go.RowKit
set_option linter.unusedVariables false
set_option linter.unusedSimpArgs false

/-- A drive in its block. -/
def DrvAt (w : World) (p : Nat) (P W T : Int) (F : Bool) : Prop := p < w.heap.size ∧ (∀ o, w.frozen? ⟨p, o, none⟩ = false) ∧ w.cell? ⟨p, 0, none⟩ = some (.int .i64 P) ∧ w.cell? ⟨p, 1, none⟩ = some (.int .i64 W) ∧ w.cell? ⟨p, 2, none⟩ = some (.int .i64 T) ∧ w.cell? ⟨p, 3, none⟩ = some (.bool F)
theorem DrvAt.below {w w' : World} {p : Nat} {P W T : Int} {F : Bool} (h : DrvAt w p P W T F) (hb : Below w.heap.size w w') : DrvAt w' p P W T F := by
  obtain ⟨h1, h2, c0, c1, c2, c3⟩ := h
  exact ⟨Nat.lt_of_lt_of_le h1 hb.size, fun o => (hb.frozen (p := ⟨p, o, none⟩) h1).trans (h2 o), (hb.cell (p := ⟨p, 0, none⟩) h1).trans c0, (hb.cell (p := ⟨p, 1, none⟩) h1).trans c1, (hb.cell (p := ⟨p, 2, none⟩) h1).trans c2, (hb.cell (p := ⟨p, 3, none⟩) h1).trans c3⟩
theorem DrvAt.set0 {w : World} {p : Nat} {P W T : Int} {F : Bool} (h : DrvAt w p P W T F) (v : Int) : DrvAt (w.setCell ⟨p, 0, none⟩ (.int .i64 v)) p v W T F := by
  obtain ⟨h1, h2, c0, c1, c2, c3⟩ := h
  refine ⟨by simpa using h1, fun o => by simp [go_sem, h2], ?_, ?_, ?_, ?_⟩
  · simp [go_sem, c0]
  · simp [go_sem, c1]
  · simp [go_sem, c2]
  · simp [go_sem, c3]
theorem DrvAt.set1 {w : World} {p : Nat} {P W T : Int} {F : Bool} (h : DrvAt w p P W T F) (v : Int) : DrvAt (w.setCell ⟨p, 1, none⟩ (.int .i64 v)) p P v T F := by
  obtain ⟨h1, h2, c0, c1, c2, c3⟩ := h
  refine ⟨by simpa using h1, fun o => by simp [go_sem, h2], ?_, ?_, ?_, ?_⟩
  · simp [go_sem, c0]
  · simp [go_sem, c1]
  · simp [go_sem, c2]
  · simp [go_sem, c3]
theorem DrvAt.set2 {w : World} {p : Nat} {P W T : Int} {F : Bool} (h : DrvAt w p P W T F) (v : Int) : DrvAt (w.setCell ⟨p, 2, none⟩ (.int .i64 v)) p P W v F := by
  obtain ⟨h1, h2, c0, c1, c2, c3⟩ := h
  refine ⟨by simpa using h1, fun o => by simp [go_sem, h2], ?_, ?_, ?_, ?_⟩
  · simp [go_sem, c0]
  · simp [go_sem, c1]
  · simp [go_sem, c2]
  · simp [go_sem, c3]
theorem DrvAt.set3 {w : World} {p : Nat} {P W T : Int} {F : Bool} (h : DrvAt w p P W T F) (v : Bool) : DrvAt (w.setCell ⟨p, 3, none⟩ (.bool v)) p P W T v := by
  obtain ⟨h1, h2, c0, c1, c2, c3⟩ := h
  refine ⟨by simpa using h1, fun o => by simp [go_sem, h2], ?_, ?_, ?_, ?_⟩
  · simp [go_sem, c0]
  · simp [go_sem, c1]
  · simp [go_sem, c2]
  · simp [go_sem, c3]
set_option maxHeartbeats 1000000 in
theorem dtake_any (p : Nat) (P W T : Int) (F : Bool) (want : Int) (w : World) (h : DrvAt w p P W T F) :
    Calls Try.prog 49 #[.pointer (some ⟨p, 0, none⟩), .int .i64 want] w fun e w' => e = .returned (.tuple #[]) ∧ DrvAt w' p P (if want ≠ 0 ∧ want ≠ W then want else W) (if want ≠ 0 ∧ want ≠ W then 0 else T) (if want ≠ 0 ∧ want ≠ W then false else F) ∧ Beside p w w' := by
  have HD : Hid (DrvAt w p P W T F) := h
  obtain ⟨hp, hf, c0, c1, c2, c3⟩ := h
  by_cases a : want = 0
  · subst a
    simp only [ne_eq, not_true_eq_false, false_and, if_false]
    go_enter Try.func49, Try.ntmps49
    go_wp2
    go_end0
    exact ⟨rfl, HD.out, Beside.of (Below.refl _ _)⟩
  have a1 : (want != 0) = true := by simpa using a
  have a2 : (want == 0) = false := by simpa using a
  by_cases b : want = W
  · subst b
    simp only [ne_eq, not_true_eq_false, and_false, if_false]
    go_enter Try.func49, Try.ntmps49
    go_wp2
    go_end0
    exact ⟨rfl, HD.out, Beside.of (Below.refl _ _)⟩
  have b1 : (want != W) = true := by simpa using b
  have b2 : (want == W) = false := by simpa using b
  rw [if_pos ⟨a, b⟩, if_pos ⟨a, b⟩, if_pos ⟨a, b⟩]
  clear a b
  go_enter Try.func49, Try.ntmps49
  go_wp2
  go_end0
  exact ⟨rfl, ((HD.out.set1 _).set2 _).set3 _, ((Beside.setCell p _ 1 _).trans (Beside.setCell p _ 2 _)).trans (Beside.setCell p _ 3 _)⟩
theorem wrap_dv {x : Int} (h0 : -9223372036854775808 ≤ x) (h1 : x ≤ 9223372036854775807) : IntKind.i64.wrap x = x := by
  rw [IntKind.wrap_i64]; omega
theorem bounded_q (n q : Int) (w : World) (h : max 0 (min n 100) = q) : Calls Try.prog 56 #[.int .i64 n, .int .i64 0, .int .i64 100] w fun e w' => e = .returned (.int .i64 q) ∧ w' = w := by
  subst h
  exact bounded_any n 0 100 w
set_option maxHeartbeats 2000000 in
theorem dmove1 (p : Nat) (P T : Int) (F : Bool) (sp : Int) (w : World) (h : DrvAt w p P 1 T F) (p0 : 0 ≤ P) (p1 : P ≤ 100) (s0 : 1 ≤ sp) (s1 : sp ≤ 100) :
    Calls Try.prog 50 #[.pointer (some ⟨p, 0, none⟩), .int .i64 sp] w fun e w' => e = .returned (.tuple #[]) ∧ DrvAt w' p (mvV P 1 sp false) 1 T F ∧ Beside p w w' := by
  have HD : Hid (DrvAt w p P 1 T F) := h
  have em : mvV P 1 sp false = max 0 (min (P + sp) 100) := by unfold mvV; rw [if_neg (by decide)]; omega
  rw [em]
  clear em
  obtain ⟨q, hq⟩ : ∃ q, max 0 (min (P + sp) 100) = q := ⟨_, rfl⟩
  rw [hq]
  have HB : Hid (∀ w, Calls Try.prog 56 #[.int .i64 (P + sp), .int .i64 0, .int .i64 100] w fun e w' => e = .returned (.int .i64 q) ∧ w' = w) := fun w => bounded_q _ _ w hq
  clear hq
  obtain ⟨hp, hf, c0, c1, c2, c3⟩ := h
  have wr1 : IntKind.i64.wrap (P + sp) = P + sp := wrap_dv (by omega) (by omega)
  have wr2 : IntKind.i64.wrap (1 * sp) = sp := by rw [show (1 * sp : Int) = sp from by omega]; exact wrap_dv (by omega) (by omega)
  have wr3 : IntKind.i64.wrap (sp) = sp := wrap_dv (by omega) (by omega)
  go_enter Try.func50, Try.ntmps50
  go_wp2_with fail
  go_region_with (go_at_call 56; refine (HB.out _).mono ?_; rintro e w1 ⟨rfl, rfl⟩)
  all_goals
    go_wp2
    go_end0
    exact ⟨rfl, DrvAt.below (HD.out.set0 _) (by repeat (first | with_reducible exact Below.refl _ _ | with_reducible refine Below.setCell ?_ (by first | omega | (simp; done) | (simp; omega)) _ | with_reducible refine bDrewN ?_ _ | with_reducible refine Below.drew ?_ | with_reducible refine Below.alloc ?_ (by first | omega | (simp; done) | (simp; omega)) _)), (Beside.setCell p _ 0 _).trans (Beside.of (by repeat (first | with_reducible exact Below.refl _ _ | with_reducible refine Below.setCell ?_ (by first | omega | (simp; done) | (simp; omega)) _ | with_reducible refine bDrewN ?_ _ | with_reducible refine Below.drew ?_ | with_reducible refine Below.alloc ?_ (by first | omega | (simp; done) | (simp; omega)) _)))⟩
set_option maxHeartbeats 2000000 in
theorem dmovem (p : Nat) (P T : Int) (F : Bool) (sp : Int) (w : World) (h : DrvAt w p P (-1) T F) (p0 : 0 ≤ P) (p1 : P ≤ 100) (s0 : 1 ≤ sp) (s1 : sp ≤ 100) :
    Calls Try.prog 50 #[.pointer (some ⟨p, 0, none⟩), .int .i64 sp] w fun e w' => e = .returned (.tuple #[]) ∧ DrvAt w' p (mvV P (-1) sp false) (-1) T F ∧ Beside p w w' := by
  have HD : Hid (DrvAt w p P (-1) T F) := h
  have em : mvV P (-1) sp false = max 0 (min (P + -sp) 100) := by unfold mvV; rw [if_neg (by decide)]; omega
  rw [em]
  clear em
  obtain ⟨q, hq⟩ : ∃ q, max 0 (min (P + -sp) 100) = q := ⟨_, rfl⟩
  rw [hq]
  have HB : Hid (∀ w, Calls Try.prog 56 #[.int .i64 (P + -sp), .int .i64 0, .int .i64 100] w fun e w' => e = .returned (.int .i64 q) ∧ w' = w) := fun w => bounded_q _ _ w hq
  clear hq
  obtain ⟨hp, hf, c0, c1, c2, c3⟩ := h
  have wr1 : IntKind.i64.wrap (P + -sp) = P + -sp := wrap_dv (by omega) (by omega)
  have wr2 : IntKind.i64.wrap ((-1) * sp) = -sp := by rw [show ((-1) * sp : Int) = -sp from by omega]; exact wrap_dv (by omega) (by omega)
  have wr3 : IntKind.i64.wrap (-sp) = -sp := wrap_dv (by omega) (by omega)
  go_enter Try.func50, Try.ntmps50
  go_wp2_with fail
  go_region_with (go_at_call 56; refine (HB.out _).mono ?_; rintro e w1 ⟨rfl, rfl⟩)
  all_goals
    go_wp2
    go_end0
    exact ⟨rfl, DrvAt.below (HD.out.set0 _) (by repeat (first | with_reducible exact Below.refl _ _ | with_reducible refine Below.setCell ?_ (by first | omega | (simp; done) | (simp; omega)) _ | with_reducible refine bDrewN ?_ _ | with_reducible refine Below.drew ?_ | with_reducible refine Below.alloc ?_ (by first | omega | (simp; done) | (simp; omega)) _)), (Beside.setCell p _ 0 _).trans (Beside.of (by repeat (first | with_reducible exact Below.refl _ _ | with_reducible refine Below.setCell ?_ (by first | omega | (simp; done) | (simp; omega)) _ | with_reducible refine bDrewN ?_ _ | with_reducible refine Below.drew ?_ | with_reducible refine Below.alloc ?_ (by first | omega | (simp; done) | (simp; omega)) _)))⟩
set_option maxHeartbeats 400000 in
theorem dend_is (P W T : Int) (F : Bool) (w : World) : Calls Try.prog 57 #[.agg #[.int .i64 P, .int .i64 W, .int .i64 T, .bool F]] w fun e w' => e = .returned (.int .i64 (endV W)) ∧ w' = w.alloc (.cells #[.int .i64 P, .int .i64 W, .int .i64 T, .bool F] 40) := by
  unfold endV
  by_cases a : W = 1
  · rw [if_pos a]
    subst a
    go_enter Try.func57, Try.ntmps57
    go_wp2
    go_ret
    exact ⟨rfl, rfl⟩
  · rw [if_neg a]
    have a1 : (W == 1) = false := by simpa using a
    clear a
    go_enter Try.func57, Try.ntmps57
    go_wp2
    go_ret
    exact ⟨rfl, rfl⟩
theorem dend_q (P W T E : Int) (F : Bool) (w : World) (h : endV W = E) : Calls Try.prog 57 #[.agg #[.int .i64 P, .int .i64 W, .int .i64 T, .bool F]] w fun e w' => e = .returned (.int .i64 E) ∧ w' = w.alloc (.cells #[.int .i64 P, .int .i64 W, .int .i64 T, .bool F] 40) := by
  subst h
  exact dend_is P W T F w
set_option maxHeartbeats 4000000 in
theorem dwatch_any (p : Nat) (P W T : Int) (F : Bool) (w : World) (h : DrvAt w p P W T F) (t0 : 0 ≤ T) (t1 : T ≤ 20) :
    Calls Try.prog 51 #[.pointer (some ⟨p, 0, none⟩)] w fun e w' => e = .returned (.tuple #[]) ∧ DrvAt w' p (wtV P W T F).1 (wtV P W T F).2.1 (wtV P W T F).2.2.1 (wtV P W T F).2.2.2 ∧ Beside p w w' := by
  have HD : Hid (DrvAt w p P W T F) := h
  have WT : Hid (wtV P W T F = if P = endV W then (P, 0, 0, F) else (P, W, min (T + 1) 20, F || decide (min (T + 1) 20 = 20))) := rfl
  obtain ⟨E, hE⟩ : ∃ E, endV W = E := ⟨_, rfl⟩
  have HB : Hid (∀ w, Calls Try.prog 57 #[.agg #[.int .i64 P, .int .i64 W, .int .i64 T, .bool F]] w fun e w' => e = .returned (.int .i64 E) ∧ w' = w.alloc (.cells #[.int .i64 P, .int .i64 W, .int .i64 T, .bool F] 40)) := fun w => dend_q P W T E F w hE
  rw [hE] at WT
  clear hE
  obtain ⟨b, hb⟩ : ∃ b, (P == E) = b := ⟨_, rfl⟩
  obtain ⟨hp, hf, c0, c1, c2, c3⟩ := h
  go_enter Try.func51, Try.ntmps51
  go_upto_region 0 with fail
  go_cut [10] (fun s wx => s = .bool b ∧ Below w.heap.size w wx)
  case first =>
    go_region_with (go_at_call 57; refine (HB.out _).mono ?_; rintro e w1 ⟨rfl, rfl⟩)
    all_goals
      go_wp2_with fail
      go_meet
      case rel => exact ⟨rfl, (by repeat (first | with_reducible exact Below.refl _ _ | with_reducible refine Below.setCell ?_ (by first | omega | (simp; done) | (simp; omega)) _ | with_reducible refine bDrewN ?_ _ | with_reducible refine Below.drew ?_ | with_reducible refine Below.alloc ?_ (by first | omega | (simp; done) | (simp; omega)) _))⟩
  case rest =>
    obtain ⟨rfl, hC⟩ := hcut
    clear c0 c1 c2 c3 hf hp HB
    replace HD : Hid (DrvAt wc p P W T F) := HD.out.below hC
    have HC : Hid (Beside p w wc) := Beside.of hC
    clear hC
    obtain ⟨hp, hf, c0, c1, c2, c3⟩ := HD.out
    cases b
    · have a : ¬ P = E := by simpa using hb
      replace WT := WT.out
      rw [if_neg a] at WT
      obtain ⟨m, hm⟩ : ∃ m, min (T + 1) 20 = m := ⟨_, rfl⟩
      have m1 : (if 20 < T + 1 then 20 else T + 1) = m := by rw [← hm]; split <;> omega
      rw [hm] at WT
      clear hm a
      cases F
      · by_cases b : m = 20
        · subst b
          replace WT : Hid (wtV P W T false = (P, W, 20, true)) := WT
          go_wp2
          go_end0
          rw [WT.out]
          exact ⟨rfl, DrvAt.set3 (DrvAt.set2 HD.out 20) true, HC.out.trans ((Beside.setCell p _ 2 _).trans (Beside.setCell p _ 3 _))⟩
        · have b1 : (m == 20) = false := by simpa using b
          have b2 : (false || decide (m = 20)) = false := by simpa using b
          rw [b2] at WT
          replace WT : Hid (wtV P W T false = (P, W, m, false)) := WT
          clear b b2
          go_wp2
          go_end0
          rw [WT.out]
          exact ⟨rfl, DrvAt.set3 (DrvAt.set2 HD.out m) false, HC.out.trans ((Beside.setCell p _ 2 _).trans (Beside.setCell p _ 3 _))⟩
      · rw [Bool.true_or] at WT
        replace WT : Hid (wtV P W T true = (P, W, m, true)) := WT
        go_wp2
        go_end0
        rw [WT.out]
        exact ⟨rfl, DrvAt.set3 (DrvAt.set2 HD.out m) true, HC.out.trans ((Beside.setCell p _ 2 _).trans (Beside.setCell p _ 3 _))⟩
    · have a : P = E := by simpa using hb
      replace WT := WT.out
      rw [if_pos a] at WT
      replace WT : Hid (wtV P W T F = (P, 0, 0, F)) := WT
      clear a
      go_wp2
      refine bodyPost_ret (v := .tuple #[]) (by simp [results, Try.results51]) rfl ?_
      rw [WT.out]
      exact ⟨rfl, DrvAt.set2 (DrvAt.set1 HD.out 0) 0, HC.out.trans ((Beside.setCell p _ 1 _).trans (Beside.setCell p _ 2 _))⟩
end Go.Proofs.Ytafifjodpgmiiaa
