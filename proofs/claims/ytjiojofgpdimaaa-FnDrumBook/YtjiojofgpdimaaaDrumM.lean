/-
What is proved: the parts of a step of the program's drum, each through a pointer: which cells turn, and that nothing else does; whether a step is taken, as the program says it.
-/
import Derived.Test.YtjiojofgpdimaaaStep
import Derived.Test.YtjiojofgpdimaaaBeside
namespace Go.Proofs.Ytjiojofgpdimaaa
set_option maxRecDepth 40000
open Go.RowKit
set_option linter.unusedVariables false

/-- A drum in its block. -/
def DrumAt (w : World) (p : Nat) (x0 x1 x2 x3 x4 x5 x6 : Int) : Prop := p < w.heap.size ∧ (∀ o, w.frozen? ⟨p, o, none⟩ = false) ∧ Keep7 p x0 x1 x2 x3 x4 x5 x6 w
theorem DrumAt.below {w w' : World} {p : Nat} {x0 x1 x2 x3 x4 x5 x6 : Int} (h : DrumAt w p x0 x1 x2 x3 x4 x5 x6) (hb : Below w.heap.size w w') : DrumAt w' p x0 x1 x2 x3 x4 x5 x6 := by
  obtain ⟨h1, h2, c0, c1, c2, c3, c4, c5, c6⟩ := h
  refine ⟨Nat.lt_of_lt_of_le h1 hb.size, fun o => (hb.frozen (p := ⟨p, o, none⟩) h1).trans (h2 o), ?_, ?_, ?_, ?_, ?_, ?_, ?_⟩
  · exact (hb.cell (p := ⟨p, 0, none⟩) h1).trans c0
  · exact (hb.cell (p := ⟨p, 1, none⟩) h1).trans c1
  · exact (hb.cell (p := ⟨p, 2, none⟩) h1).trans c2
  · exact (hb.cell (p := ⟨p, 3, none⟩) h1).trans c3
  · exact (hb.cell (p := ⟨p, 4, none⟩) h1).trans c4
  · exact (hb.cell (p := ⟨p, 5, none⟩) h1).trans c5
  · exact (hb.cell (p := ⟨p, 6, none⟩) h1).trans c6
/-- One cell of a drum turned. -/
theorem DrumAt.set0 {w : World} {p : Nat} {x0 x1 x2 x3 x4 x5 x6 : Int} (h : DrumAt w p x0 x1 x2 x3 x4 x5 x6) (v : Int) : DrumAt (w.setCell ⟨p, 0, none⟩ (.int .i64 v)) p v x1 x2 x3 x4 x5 x6 := by
  obtain ⟨h1, h2, c0, c1, c2, c3, c4, c5, c6⟩ := h
  refine ⟨by simpa using h1, fun o => by simp [go_sem, h2], ?_, ?_, ?_, ?_, ?_, ?_, ?_⟩
  · simp [go_sem, c0]
  · simp [go_sem, c1]
  · simp [go_sem, c2]
  · simp [go_sem, c3]
  · simp [go_sem, c4]
  · simp [go_sem, c5]
  · simp [go_sem, c6]
theorem DrumAt.set1 {w : World} {p : Nat} {x0 x1 x2 x3 x4 x5 x6 : Int} (h : DrumAt w p x0 x1 x2 x3 x4 x5 x6) (v : Int) : DrumAt (w.setCell ⟨p, 1, none⟩ (.int .i64 v)) p x0 v x2 x3 x4 x5 x6 := by
  obtain ⟨h1, h2, c0, c1, c2, c3, c4, c5, c6⟩ := h
  refine ⟨by simpa using h1, fun o => by simp [go_sem, h2], ?_, ?_, ?_, ?_, ?_, ?_, ?_⟩
  · simp [go_sem, c0]
  · simp [go_sem, c1]
  · simp [go_sem, c2]
  · simp [go_sem, c3]
  · simp [go_sem, c4]
  · simp [go_sem, c5]
  · simp [go_sem, c6]
theorem DrumAt.set2 {w : World} {p : Nat} {x0 x1 x2 x3 x4 x5 x6 : Int} (h : DrumAt w p x0 x1 x2 x3 x4 x5 x6) (v : Int) : DrumAt (w.setCell ⟨p, 2, none⟩ (.int .i64 v)) p x0 x1 v x3 x4 x5 x6 := by
  obtain ⟨h1, h2, c0, c1, c2, c3, c4, c5, c6⟩ := h
  refine ⟨by simpa using h1, fun o => by simp [go_sem, h2], ?_, ?_, ?_, ?_, ?_, ?_, ?_⟩
  · simp [go_sem, c0]
  · simp [go_sem, c1]
  · simp [go_sem, c2]
  · simp [go_sem, c3]
  · simp [go_sem, c4]
  · simp [go_sem, c5]
  · simp [go_sem, c6]
theorem DrumAt.set3 {w : World} {p : Nat} {x0 x1 x2 x3 x4 x5 x6 : Int} (h : DrumAt w p x0 x1 x2 x3 x4 x5 x6) (v : Int) : DrumAt (w.setCell ⟨p, 3, none⟩ (.int .i64 v)) p x0 x1 x2 v x4 x5 x6 := by
  obtain ⟨h1, h2, c0, c1, c2, c3, c4, c5, c6⟩ := h
  refine ⟨by simpa using h1, fun o => by simp [go_sem, h2], ?_, ?_, ?_, ?_, ?_, ?_, ?_⟩
  · simp [go_sem, c0]
  · simp [go_sem, c1]
  · simp [go_sem, c2]
  · simp [go_sem, c3]
  · simp [go_sem, c4]
  · simp [go_sem, c5]
  · simp [go_sem, c6]
theorem DrumAt.set4 {w : World} {p : Nat} {x0 x1 x2 x3 x4 x5 x6 : Int} (h : DrumAt w p x0 x1 x2 x3 x4 x5 x6) (v : Int) : DrumAt (w.setCell ⟨p, 4, none⟩ (.int .i64 v)) p x0 x1 x2 x3 v x5 x6 := by
  obtain ⟨h1, h2, c0, c1, c2, c3, c4, c5, c6⟩ := h
  refine ⟨by simpa using h1, fun o => by simp [go_sem, h2], ?_, ?_, ?_, ?_, ?_, ?_, ?_⟩
  · simp [go_sem, c0]
  · simp [go_sem, c1]
  · simp [go_sem, c2]
  · simp [go_sem, c3]
  · simp [go_sem, c4]
  · simp [go_sem, c5]
  · simp [go_sem, c6]
theorem DrumAt.set5 {w : World} {p : Nat} {x0 x1 x2 x3 x4 x5 x6 : Int} (h : DrumAt w p x0 x1 x2 x3 x4 x5 x6) (v : Int) : DrumAt (w.setCell ⟨p, 5, none⟩ (.int .i64 v)) p x0 x1 x2 x3 x4 v x6 := by
  obtain ⟨h1, h2, c0, c1, c2, c3, c4, c5, c6⟩ := h
  refine ⟨by simpa using h1, fun o => by simp [go_sem, h2], ?_, ?_, ?_, ?_, ?_, ?_, ?_⟩
  · simp [go_sem, c0]
  · simp [go_sem, c1]
  · simp [go_sem, c2]
  · simp [go_sem, c3]
  · simp [go_sem, c4]
  · simp [go_sem, c5]
  · simp [go_sem, c6]
theorem DrumAt.set6 {w : World} {p : Nat} {x0 x1 x2 x3 x4 x5 x6 : Int} (h : DrumAt w p x0 x1 x2 x3 x4 x5 x6) (v : Int) : DrumAt (w.setCell ⟨p, 6, none⟩ (.int .i64 v)) p x0 x1 x2 x3 x4 x5 v := by
  obtain ⟨h1, h2, c0, c1, c2, c3, c4, c5, c6⟩ := h
  refine ⟨by simpa using h1, fun o => by simp [go_sem, h2], ?_, ?_, ?_, ?_, ?_, ?_, ?_⟩
  · simp [go_sem, c0]
  · simp [go_sem, c1]
  · simp [go_sem, c2]
  · simp [go_sem, c3]
  · simp [go_sem, c4]
  · simp [go_sem, c5]
  · simp [go_sem, c6]
set_option maxHeartbeats 1000000 in
theorem heatUp_any (p : Nat) (x0 x1 x2 x3 x4 x5 x6 fe fi : Int) (w : World) (h : DrumAt w p x0 x1 x2 x3 x4 x5 x6) (b0 : 0 ≤ x0) (b0' : x0 ≤ 1000000000000) (b2 : 0 ≤ x2) (b2' : x2 ≤ 1000000000000) (b3 : 0 ≤ x3) (b3' : x3 ≤ 1000000000000) (b5 : 0 ≤ x5) (b5' : x5 ≤ 1000000000000) (a0 : 0 ≤ fe) (a0' : fe ≤ 1000000) (a1 : 0 ≤ fi) (a1' : fi ≤ 1000000) :
    Calls Try.prog 35 #[.pointer (some ⟨p, 0, none⟩), .int .i64 fe, .int .i64 fi] w fun e w' => e = .returned (.tuple #[]) ∧ DrumAt w' p (x0 + fe) x1 (x2 + (4 * fe + fi)) (x3 + fe) x4 (x5 + (4 * fe + fi)) x6 ∧ Beside p w w' := by
  have HD : Hid (DrumAt w p x0 x1 x2 x3 x4 x5 x6) := h
  obtain ⟨hp, hf, c0, c1, c2, c3, c4, c5, c6⟩ := h
  go_enter Try.func35, Try.ntmps35
  go_wp2
  go_end0
  exact ⟨rfl, (((HD.out.set0 _).set3 _).set2 _).set5 _, (((Beside.setCell p _ 0 _).trans (Beside.setCell p _ 3 _)).trans (Beside.setCell p _ 2 _)).trans (Beside.setCell p _ 5 _)⟩
set_option maxHeartbeats 1000000 in
theorem letOut_any (p : Nat) (x0 x1 x2 x3 x4 x5 x6 dr m : Int) (w : World) (h : DrumAt w p x0 x1 x2 x3 x4 x5 x6) (b1 : 0 ≤ x1) (b1' : x1 ≤ 4000000000000) (b2 : 0 ≤ x2) (b2' : x2 ≤ 2000000000000) (b4 : 0 ≤ x4) (b4' : x4 ≤ 2000000000000) (b6 : 0 ≤ x6) (b6' : x6 ≤ 2000000000000) (m0 : 0 ≤ m) (m1 : m ≤ 1000000) (hm : (if x1 < dr then x1 else dr) = m) :
    Calls Try.prog 37 #[.pointer (some ⟨p, 0, none⟩), .int .i64 dr] w fun e w' => e = .returned (.tuple #[]) ∧ DrumAt w' p x0 (x1 - m) (x2 - 30 * m) x3 (x4 + m) x5 (x6 + 30 * m) ∧ Beside p w w' := by
  have HD : Hid (DrumAt w p x0 x1 x2 x3 x4 x5 x6) := h
  obtain ⟨hp, hf, c0, c1, c2, c3, c4, c5, c6⟩ := h
  go_enter Try.func37, Try.ntmps37
  go_wp2
  go_end0
  exact ⟨rfl, (((HD.out.set1 _).set4 _).set2 _).set6 _, (((Beside.setCell p _ 1 _).trans (Beside.setCell p _ 4 _)).trans (Beside.setCell p _ 2 _)).trans (Beside.setCell p _ 6 _)⟩
set_option maxHeartbeats 1000000 in
theorem settle_up (p : Nat) (x0 x1 x2 x3 x4 x5 x6 E n : Int) (w : World) (h : DrumAt w p x0 x1 x2 x3 x4 x5 x6) (b0 : 0 ≤ x0) (b0' : x0 ≤ 2000000000000) (b1 : 0 ≤ x1) (b1' : x1 ≤ 2000000000000) (b2 : 0 ≤ x2) (b2' : x2 ≤ 2000000000000) (hE : x2 - 20 * x0 - 30 * x1 = E) (e0 : -200000000000000 ≤ E) (e1 : E ≤ 200000000000000) (n0 : -x1 ≤ n) (n1 : n ≤ x0) (s : 0 ≤ E) (hn : (if x0 < E / 10 then x0 else E / 10) = n) :
    Calls Try.prog 36 #[.pointer (some ⟨p, 0, none⟩)] w fun e w' => e = .returned (.tuple #[]) ∧ DrumAt w' p (x0 - n) (x1 + n) x2 x3 x4 x5 x6 ∧ Beside p w w' := by
  have HD : Hid (DrumAt w p x0 x1 x2 x3 x4 x5 x6) := h
  obtain ⟨hp, hf, c0, c1, c2, c3, c4, c5, c6⟩ := h
  have O : Hid (∀ w, Calls Try.prog 31 #[.agg #[.int .i64 x0, .int .i64 x1, .int .i64 x2, .int .i64 x3, .int .i64 x4, .int .i64 x5, .int .i64 x6]] w fun e w' => e = .returned (.int .i64 E) ∧ Below w.heap.size w w') := fun w => hE ▸ spare_any x0 x1 x2 x3 x4 x5 x6 w b0 b0' b1 b1' b2 b2'
  clear b2 b2'
  go_enter Try.func36, Try.ntmps36
  go_wp2_with fail
  refine (O.out _).mono ?_
  rintro e w1 ⟨rfl, hb⟩
  have HD1 := HD.out.below hb
  have BS : Beside p w w1 := Beside.of hb
  have HD2 : Hid _ := HD1
  clear c0 c1 c2 c3 c4 c5 c6 hf hp
  obtain ⟨hp, hf, c0, c1, c2, c3, c4, c5, c6⟩ := HD1
  clear hb HD O hE
  go_wp2
  go_end0
  exact ⟨rfl, (DrumAt.set0 HD2.out _).set1 _, (BS.trans (Beside.setCell p _ 0 _)).trans (Beside.setCell p _ 1 _)⟩
set_option maxHeartbeats 1000000 in
theorem settle_down (p : Nat) (x0 x1 x2 x3 x4 x5 x6 E n q : Int) (w : World) (h : DrumAt w p x0 x1 x2 x3 x4 x5 x6) (b0 : 0 ≤ x0) (b0' : x0 ≤ 2000000000000) (b1 : 0 ≤ x1) (b1' : x1 ≤ 2000000000000) (b2 : 0 ≤ x2) (b2' : x2 ≤ 2000000000000) (hE : x2 - 20 * x0 - 30 * x1 = E) (e0 : -200000000000000 ≤ E) (e1 : E ≤ 200000000000000) (n0 : -x1 ≤ n) (n1 : n ≤ x0) (s : E < 0) (hq : (if x0 < E.tdiv 10 then x0 else E.tdiv 10) = q) (hn : (if x1 < (9 - E) / 10 then x1 else (9 - E) / 10) = -n) :
    Calls Try.prog 36 #[.pointer (some ⟨p, 0, none⟩)] w fun e w' => e = .returned (.tuple #[]) ∧ DrumAt w' p (x0 - n) (x1 + n) x2 x3 x4 x5 x6 ∧ Beside p w w' := by
  have HD : Hid (DrumAt w p x0 x1 x2 x3 x4 x5 x6) := h
  obtain ⟨hp, hf, c0, c1, c2, c3, c4, c5, c6⟩ := h
  have O : Hid (∀ w, Calls Try.prog 31 #[.agg #[.int .i64 x0, .int .i64 x1, .int .i64 x2, .int .i64 x3, .int .i64 x4, .int .i64 x5, .int .i64 x6]] w fun e w' => e = .returned (.int .i64 E) ∧ Below w.heap.size w w') := fun w => hE ▸ spare_any x0 x1 x2 x3 x4 x5 x6 w b0 b0' b1 b1' b2 b2'
  clear b2 b2'
  go_enter Try.func36, Try.ntmps36
  go_wp2_with fail
  refine (O.out _).mono ?_
  rintro e w1 ⟨rfl, hb⟩
  have HD1 := HD.out.below hb
  have BS : Beside p w w1 := Beside.of hb
  have HD2 : Hid _ := HD1
  clear c0 c1 c2 c3 c4 c5 c6 hf hp
  obtain ⟨hp, hf, c0, c1, c2, c3, c4, c5, c6⟩ := HD1
  clear hb HD O hE
  go_wp2
  go_end0
  exact ⟨rfl, (DrumAt.set0 HD2.out _).set1 _, (BS.trans (Beside.setCell p _ 0 _)).trans (Beside.setCell p _ 1 _)⟩
set_option maxHeartbeats 1000000 in
theorem takes_any (x0 x1 x2 x3 x4 x5 x6 fe fi dr : Int) (w : World) (b3 : inD x3) (b5 : inD x5) :
    Calls Try.prog 34 #[.agg #[.int .i64 x0, .int .i64 x1, .int .i64 x2, .int .i64 x3, .int .i64 x4, .int .i64 x5, .int .i64 x6], .agg #[.int .i64 fe, .int .i64 fi, .int .i64 dr]] w fun e w' => e = .returned (.bool (actB fe fi dr && fitB x3 x5 fe fi)) ∧ Below w.heap.size w w' := by
  obtain ⟨b3, b3'⟩ := b3
  obtain ⟨b5, b5'⟩ := b5
  by_cases a : inS fe
  · have A : Hid (∀ w, Calls Try.prog 28 #[.int .i64 fe, .int .i64 0, .int .i64 1000000] w fun e w' => e = .returned (.bool true) ∧ w' = w) := fun w => within_yes fe 0 1000000 w a.1 a.2
    by_cases b : inS fi
    · have B : Hid (∀ w, Calls Try.prog 28 #[.int .i64 fi, .int .i64 0, .int .i64 1000000] w fun e w' => e = .returned (.bool true) ∧ w' = w) := fun w => within_yes fi 0 1000000 w b.1 b.2
      by_cases c : inS dr
      · have C : Hid (∀ w, Calls Try.prog 28 #[.int .i64 dr, .int .i64 0, .int .i64 1000000] w fun e w' => e = .returned (.bool true) ∧ w' = w) := fun w => within_yes dr 0 1000000 w c.1 c.2
        have hv : actB fe fi dr = true := by unfold actB; exact decide_eq_true ⟨a, b, c⟩
        rw [hv, Bool.true_and]
        obtain ⟨a0, a0'⟩ := a
        obtain ⟨a1, a1'⟩ := b
        clear c hv
        have hF : fitB x3 x5 fe fi = (decide (x3 + fe ≤ 1000000000000) && decide (x5 + fi + 4 * fe ≤ 1000000000000)) := by unfold fitB; exact Bool.decide_and ..
        rw [hF]
        clear hF
        by_cases f1 : x3 + fe ≤ 1000000000000
        · rw [decide_eq_true f1, Bool.true_and]
          by_cases f2 : x5 + fi + 4 * fe ≤ 1000000000000
          · rw [decide_eq_true f2]
            go_enter Try.func34, Try.ntmps34
            go_wp2_with fail
            refine (A.out _).mono ?_
            rintro e w1 ⟨rfl, rfl⟩
            go_wp2_with fail
            refine (B.out _).mono ?_
            rintro e w1 ⟨rfl, rfl⟩
            go_wp2_with fail
            refine (C.out _).mono ?_
            rintro e w1 ⟨rfl, rfl⟩
            go_wp2
            go_ret
            exact ⟨ret_bool (by first | rfl | (simp [*]; done)), (by repeat (first | with_reducible exact Below.refl _ _ | with_reducible refine Below.setCell ?_ (by first | omega | (simp; done) | (simp; omega)) _ | with_reducible refine bDrewN ?_ _ | with_reducible refine Below.drew ?_ | with_reducible refine Below.alloc ?_ (by first | omega | (simp; done) | (simp; omega)) _))⟩
          · rw [decide_eq_false f2]
            go_enter Try.func34, Try.ntmps34
            go_wp2_with fail
            refine (A.out _).mono ?_
            rintro e w1 ⟨rfl, rfl⟩
            go_wp2_with fail
            refine (B.out _).mono ?_
            rintro e w1 ⟨rfl, rfl⟩
            go_wp2_with fail
            refine (C.out _).mono ?_
            rintro e w1 ⟨rfl, rfl⟩
            go_wp2
            go_ret
            exact ⟨ret_bool (by first | rfl | (simp [*]; done)), (by repeat (first | with_reducible exact Below.refl _ _ | with_reducible refine Below.setCell ?_ (by first | omega | (simp; done) | (simp; omega)) _ | with_reducible refine bDrewN ?_ _ | with_reducible refine Below.drew ?_ | with_reducible refine Below.alloc ?_ (by first | omega | (simp; done) | (simp; omega)) _))⟩
        · rw [decide_eq_false f1, Bool.false_and]
          go_enter Try.func34, Try.ntmps34
          go_wp2_with fail
          refine (A.out _).mono ?_
          rintro e w1 ⟨rfl, rfl⟩
          go_wp2_with fail
          refine (B.out _).mono ?_
          rintro e w1 ⟨rfl, rfl⟩
          go_wp2_with fail
          refine (C.out _).mono ?_
          rintro e w1 ⟨rfl, rfl⟩
          go_wp2
          go_ret
          exact ⟨ret_bool (by first | rfl | (simp [*]; done)), (by repeat (first | with_reducible exact Below.refl _ _ | with_reducible refine Below.setCell ?_ (by first | omega | (simp; done) | (simp; omega)) _ | with_reducible refine bDrewN ?_ _ | with_reducible refine Below.drew ?_ | with_reducible refine Below.alloc ?_ (by first | omega | (simp; done) | (simp; omega)) _))⟩
      · have C : Hid (∀ w, Calls Try.prog 28 #[.int .i64 dr, .int .i64 0, .int .i64 1000000] w fun e w' => e = .returned (.bool false) ∧ w' = w) := fun w => within_no dr 0 1000000 w (by unfold inS at c; omega)
        have hv : actB fe fi dr = false := by unfold actB; exact decide_eq_false fun g => c g.2.2
        rw [hv, Bool.false_and]
        clear a b c hv
        go_enter Try.func34, Try.ntmps34
        go_wp2_with fail
        refine (A.out _).mono ?_
        rintro e w1 ⟨rfl, rfl⟩
        go_wp2_with fail
        refine (B.out _).mono ?_
        rintro e w1 ⟨rfl, rfl⟩
        go_wp2_with fail
        refine (C.out _).mono ?_
        rintro e w1 ⟨rfl, rfl⟩
        go_wp2
        go_ret
        exact ⟨ret_bool (by first | rfl | (simp [*]; done)), (by repeat (first | with_reducible exact Below.refl _ _ | with_reducible refine Below.setCell ?_ (by first | omega | (simp; done) | (simp; omega)) _ | with_reducible refine bDrewN ?_ _ | with_reducible refine Below.drew ?_ | with_reducible refine Below.alloc ?_ (by first | omega | (simp; done) | (simp; omega)) _))⟩
    · have B : Hid (∀ w, Calls Try.prog 28 #[.int .i64 fi, .int .i64 0, .int .i64 1000000] w fun e w' => e = .returned (.bool false) ∧ w' = w) := fun w => within_no fi 0 1000000 w (by unfold inS at b; omega)
      have hv : actB fe fi dr = false := by unfold actB; exact decide_eq_false fun g => b g.2.1
      rw [hv, Bool.false_and]
      clear a b hv
      go_enter Try.func34, Try.ntmps34
      go_wp2_with fail
      refine (A.out _).mono ?_
      rintro e w1 ⟨rfl, rfl⟩
      go_wp2_with fail
      refine (B.out _).mono ?_
      rintro e w1 ⟨rfl, rfl⟩
      go_wp2
      go_ret
      exact ⟨ret_bool (by first | rfl | (simp [*]; done)), (by repeat (first | with_reducible exact Below.refl _ _ | with_reducible refine Below.setCell ?_ (by first | omega | (simp; done) | (simp; omega)) _ | with_reducible refine bDrewN ?_ _ | with_reducible refine Below.drew ?_ | with_reducible refine Below.alloc ?_ (by first | omega | (simp; done) | (simp; omega)) _))⟩
  · have A : Hid (∀ w, Calls Try.prog 28 #[.int .i64 fe, .int .i64 0, .int .i64 1000000] w fun e w' => e = .returned (.bool false) ∧ w' = w) := fun w => within_no fe 0 1000000 w (by unfold inS at a; omega)
    have hv : actB fe fi dr = false := by unfold actB; exact decide_eq_false fun g => a g.1
    rw [hv, Bool.false_and]
    clear a hv
    go_enter Try.func34, Try.ntmps34
    go_wp2_with fail
    refine (A.out _).mono ?_
    rintro e w1 ⟨rfl, rfl⟩
    go_wp2
    go_ret
    exact ⟨ret_bool (by first | rfl | (simp [*]; done)), (by repeat (first | with_reducible exact Below.refl _ _ | with_reducible refine Below.setCell ?_ (by first | omega | (simp; done) | (simp; omega)) _ | with_reducible refine bDrewN ?_ _ | with_reducible refine Below.drew ?_ | with_reducible refine Below.alloc ?_ (by first | omega | (simp; done) | (simp; omega)) _))⟩
end Go.Proofs.Ytjiojofgpdimaaa
