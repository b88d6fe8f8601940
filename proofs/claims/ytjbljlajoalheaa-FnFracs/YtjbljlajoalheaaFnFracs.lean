/-
What is proved: of two drawn fractions sum and product do not ask which stands first, the sum less the one is the other one, and they are compared one way as the other way round; at every code, no condition.
-/
import Derived.Test.YtjbljlajoalheaaCmp
import Derived.Test.YtjbljlajoalheaaFracA
import Derived.Test.YtjbljlajoalheaaOpen8
namespace Go.Proofs.Ytjbljlajoalheaa
set_option maxRecDepth 40000
open Go.ChangeShapes Go.WideShapes Go.ChangeAt Go.RowKit
set_option linter.unusedVariables false
set_option linter.unusedSimpArgs false

def FR (a b : Int) : Value := .agg #[.int .i64 a, .int .i64 b]
theorem op_comm (a b c d : Int) : opNum c d a b (c * b + a * d) (d * b) = opNum a b c d (a * d + c * b) (b * d) ∧ opDen c d a b (c * b + a * d) (d * b) = opDen a b c d (a * d + c * b) (b * d) ∧ opOk c d a b (c * b + a * d) (d * b) = opOk a b c d (a * d + c * b) (b * d) := by
  have e1 : c * b + a * d = a * d + c * b := Int.add_comm _ _
  have e2 : d * b = b * d := Int.mul_comm _ _
  rw [e1, e2]
  unfold opNum opDen opOk
  cases rightB a b <;> cases rightB c d <;> simp
theorem op_comm2 (a b c d : Int) : opNum c d a b (c * a) (d * b) = opNum a b c d (a * c) (b * d) ∧ opDen c d a b (c * a) (d * b) = opDen a b c d (a * c) (b * d) ∧ opOk c d a b (c * a) (d * b) = opOk a b c d (a * c) (b * d) := by
  have e1 : c * a = a * c := Int.mul_comm _ _
  have e2 : d * b = b * d := Int.mul_comm _ _
  rw [e1, e2]
  unfold opNum opDen opOk
  cases rightB a b <;> cases rightB c d <;> simp
theorem cmp_comm (a b c d : Int) : (cmpV a b c d = -2 ∧ cmpV c d a b = -2) ∨ (-1 ≤ cmpV a b c d ∧ cmpV a b c d ≤ 1 ∧ cmpV c d a b = - cmpV a b c d) := by
  unfold cmpV sgn
  cases rightB a b <;> cases rightB c d <;> simp
  by_cases h1 : a * d < c * b
  · have h3 : ¬ c * b < a * d := by omega
    simp [h1, h3]
  · by_cases h2 : c * b < a * d
    · simp [h1, h2]
    · simp [h1, h2]

set_option maxHeartbeats 400000 in
theorem fnFracs_far (w : World) (s : Option Addr) (n c : Nat) (h : (1048576 : Int) < n) :
    Calls Try.prog 4 #[.slice s n c] w fun e w' => e = .returned (.bool true) ∧ Below w.heap.size w w' := by
  go_enter Try.func4, Try.ntmps4
  go_wp2_with fail
  refine (big_yes _ _ _ _ h).mono ?_
  rintro e w1 ⟨rfl, rfl⟩
  go_wp2
  go_ret
  exact ⟨rfl, Below.refl _ _⟩

set_option maxRecDepth 20000 in
set_option maxHeartbeats 4000000 in
theorem fnFracs_near (w : World) (s : Option Addr) (n c : Nat) (hn : (n : Int) ≤ 1048576) (HC : Hid (Code8 w s n)) :
    Calls Try.prog 4 #[.slice s n c] w fun e w' => e = .returned (.bool true) ∧ Below w.heap.size w w' := by
  go_enter Try.func4, Try.ntmps4
  go_wp2_with fail
  refine (big_no _ _ _ _ hn).mono ?_
  rintro e w0 ⟨rfl, rfl⟩
  go_wp2_with fail
  refine (drawAddFrac_any HC.out).mono ?_
  rintro e w1 ⟨a, b, x, y, rfl, wa, wb, wx, wy, B1⟩
  have sB1 := B1.size
  obtain ⟨a1, a2⟩ := wf_i64 wa
  obtain ⟨b1, b2⟩ := wf_i64 wb
  obtain ⟨x1, x2⟩ := wf_i64 wx
  obtain ⟨y1, y2⟩ := wf_i64 wy
  obtain ⟨sn, hsn⟩ : ∃ z, z = opNum a b x y (a * y + x * b) (b * y) := ⟨_, rfl⟩
  obtain ⟨sd, hsd⟩ : ∃ z, z = opDen a b x y (a * y + x * b) (b * y) := ⟨_, rfl⟩
  obtain ⟨sk, hsk⟩ : ∃ z, z = opOk a b x y (a * y + x * b) (b * y) := ⟨_, rfl⟩
  obtain ⟨pn, hpn⟩ : ∃ z, z = opNum a b x y (a * x) (b * y) := ⟨_, rfl⟩
  obtain ⟨pd, hpd⟩ : ∃ z, z = opDen a b x y (a * x) (b * y) := ⟨_, rfl⟩
  obtain ⟨pk, hpk⟩ : ∃ z, z = opOk a b x y (a * x) (b * y) := ⟨_, rfl⟩
  obtain ⟨cv, hcv⟩ : ∃ z, z = cmpV a b x y := ⟨_, rfl⟩
  have K1 : Hid (∀ w, Calls Try.prog 19 #[.agg #[.int .i64 a, .int .i64 b], .agg #[.int .i64 x, .int .i64 y]] w fun e w' => e = .returned (.tuple #[.agg #[.int .i64 sn, .int .i64 sd], .bool sk]) ∧ Below w.heap.size w w') := fun w => by rw [hsn, hsd, hsk]; exact specAddFrac_any a b x y w a1 a2 b1 b2 x1 x2 y1 y2
  have K2 : Hid (∀ w, Calls Try.prog 20 #[.agg #[.int .i64 a, .int .i64 b], .agg #[.int .i64 x, .int .i64 y]] w fun e w' => e = .returned (.tuple #[.agg #[.int .i64 sn, .int .i64 sd], .bool sk]) ∧ Below w.heap.size w w') := fun w => by rw [hsn, hsd, hsk]; exact implAddFrac_any a b x y w a1 a2 b1 b2 x1 x2 y1 y2
  have K3 : Hid (∀ w, Calls Try.prog 20 #[.agg #[.int .i64 x, .int .i64 y], .agg #[.int .i64 a, .int .i64 b]] w fun e w' => e = .returned (.tuple #[.agg #[.int .i64 sn, .int .i64 sd], .bool sk]) ∧ Below w.heap.size w w') := fun w => by have h := op_comm a b x y; rw [hsn, hsd, hsk, ← h.1, ← h.2.1, ← h.2.2]; exact implAddFrac_any x y a b w x1 x2 y1 y2 a1 a2 b1 b2
  have K4 : Hid (∀ w, Calls Try.prog 21 #[.agg #[.int .i64 a, .int .i64 b], .agg #[.int .i64 x, .int .i64 y]] w fun e w' => e = .returned (.tuple #[.agg #[.int .i64 pn, .int .i64 pd], .bool pk]) ∧ Below w.heap.size w w') := fun w => by rw [hpn, hpd, hpk]; exact implMulFrac_any a b x y w a1 a2 b1 b2 x1 x2 y1 y2
  have K5 : Hid (∀ w, Calls Try.prog 21 #[.agg #[.int .i64 x, .int .i64 y], .agg #[.int .i64 a, .int .i64 b]] w fun e w' => e = .returned (.tuple #[.agg #[.int .i64 pn, .int .i64 pd], .bool pk]) ∧ Below w.heap.size w w') := fun w => by have h := op_comm2 a b x y; rw [hpn, hpd, hpk, ← h.1, ← h.2.1, ← h.2.2]; exact implMulFrac_any x y a b w x1 x2 y1 y2 a1 a2 b1 b2
  have K6 : Hid (∀ w, Calls Try.prog 22 #[.agg #[.int .i64 a, .int .i64 b], .agg #[.int .i64 x, .int .i64 y]] w fun e w' => e = .returned (.int .i64 cv) ∧ Below w.heap.size w w') := fun w => by rw [hcv]; exact implCmpFrac_any a b x y w a1 a2 b1 b2 x1 x2 y1 y2
  have K7 : Hid (∀ w, Calls Try.prog 23 #[.agg #[.int .i64 a, .int .i64 b], .agg #[.int .i64 x, .int .i64 y]] w fun e w' => e = .returned (.int .i64 cv) ∧ Below w.heap.size w w') := fun w => by rw [hcv]; exact specCmpFrac_any a b x y w a1 a2 b1 b2 x1 x2 y1 y2
  have K8' : Hid (∀ w, Calls Try.prog 22 #[.agg #[.int .i64 x, .int .i64 y], .agg #[.int .i64 a, .int .i64 b]] w fun e w' => e = .returned (.int .i64 (cmpV x y a b)) ∧ Below w.heap.size w w') := fun w => implCmpFrac_any x y a b w x1 x2 y1 y2 a1 a2 b1 b2
  have D : Hid ((sk = false ∧ cv = -2) ∨ (sk = false ∧ -1 ≤ cv ∧ cv ≤ 1 ∧ cmpV x y a b = -cv) ∨ (sk = true ∧ -1 ≤ cv ∧ cv ≤ 1 ∧ cmpV x y a b = -cv ∧ -1000000000 ≤ x ∧ x ≤ 1000000000 ∧ ∀ w, Calls Try.prog 20 #[.agg #[.int .i64 sn, .int .i64 sd], .agg #[.int .i64 (-x), .int .i64 y]] w fun e w' => e = .returned (.tuple #[.agg #[.int .i64 a, .int .i64 b], .bool true]) ∧ Below w.heap.size w w')) := by
    have hc := cmp_comm a b x y
    rw [← hcv] at hc
    cases r1 : rightB a b
    · left; refine ⟨by rw [hsk]; exact (op_no (.inl r1)).2.2, by rw [hcv]; exact cmpV_no (.inl r1)⟩
    · cases r2 : rightB x y
      · left; refine ⟨by rw [hsk]; exact (op_no (.inr r2)).2.2, by rw [hcv]; exact cmpV_no (.inr r2)⟩
      · right
        have hy := op_yes (n := a * y + x * b) (m := b * y) r1 r2
        rw [← hsn, ← hsd, ← hsk] at hy
        have hc2 : -1 ≤ cv ∧ cv ≤ 1 ∧ cmpV x y a b = -cv := by
          rcases hc with hc | hc
          · exfalso
            have := cmpV_yes r1 r2
            rw [← hcv, hc.1] at this
            unfold sgn at this
            split at this
            · omega
            · split at this <;> omega
          · exact hc
        cases q : sk
        · left; exact ⟨rfl, hc2⟩
        · right
          have bx := right_bounds r2
          rw [q] at hy
          have bf := back_frac a b x y r1 r2 hy.2.2.symm
          rw [← hy.1, ← hy.2.1] at bf
          obtain ⟨f1, f2, f3, f4, f5⟩ := bf
          refine ⟨rfl, hc2.1, hc2.2.1, hc2.2.2, bx.2.2.1, bx.2.2.2, fun w => ?_⟩
          have bs := right_bounds f1
          have hz := op_yes (n := sn * y + -x * sd) (m := sd * y) f1 f2
          rw [f3, f4, f5] at hz
          have := implAddFrac_any sn sd (-x) y w (by omega) (by omega) (by omega) (by omega) (by omega) (by omega) y1 y2
          rw [hz.1, hz.2.1, hz.2.2] at this
          exact this
  clear hsn hsd hsk hpn hpd hpk hcv a1 a2 b1 b2 x1 x2 y1 y2 wa wb wx wy
  rcases D.out with ⟨rfl, rfl⟩ | ⟨rfl, g1, g2, g3⟩ | ⟨rfl, g1, g2, g3, g4, g5, g6⟩
  · clear D K8'
    go_wp2_with fail
    refine (K1.out _).mono ?_
    rintro e w2 ⟨rfl, hw2⟩
    have zw2 := hw2.size
    try simp at zw2
    have cw2_0 : w2.cell? ⟨w1.heap.size, 0, none⟩ = some (.int .i64 a) := (hw2.cell (p := ⟨w1.heap.size, 0, none⟩) (by show w1.heap.size < _; first | omega | (simp; done) | (simp; omega))).trans (by simp [go_sem])
    have cw2_1 : w2.cell? ⟨w1.heap.size, 1, none⟩ = some (.int .i64 b) := (hw2.cell (p := ⟨w1.heap.size, 1, none⟩) (by show w1.heap.size < _; first | omega | (simp; done) | (simp; omega))).trans (by simp [go_sem])
    have cw2_2 : w2.cell? ⟨w1.heap.size + 1, 0, none⟩ = some (.int .i64 x) := (hw2.cell (p := ⟨w1.heap.size + 1, 0, none⟩) (by show w1.heap.size + 1 < _; first | omega | (simp; done) | (simp; omega))).trans (by simp [go_sem])
    have cw2_3 : w2.cell? ⟨w1.heap.size + 1, 1, none⟩ = some (.int .i64 y) := (hw2.cell (p := ⟨w1.heap.size + 1, 1, none⟩) (by show w1.heap.size + 1 < _; first | omega | (simp; done) | (simp; omega))).trans (by simp [go_sem])
    have lw2_0 : w1.heap.size < w2.heap.size := by omega
    have lw2_1 : w1.heap.size + 1 < w2.heap.size := by omega
    have Bw2 : Below w0.heap.size w0 w2 := Below.trans (by repeat (first | with_reducible exact Below.refl _ _ | with_reducible exact B1 | with_reducible refine Below.setCell ?_ (by first | omega | (simp; done) | (simp; omega)) _ | with_reducible refine bDrewN ?_ _ | with_reducible refine Below.drew ?_ | with_reducible refine Below.alloc ?_ (by first | omega | (simp; done) | (simp; omega)) _)) (hw2.mono (by first | omega | (simp; done) | (simp; omega)))
    have sBw2 := Bw2.size
    clear hw2
    go_wp2_with fail
    refine (K2.out _).mono ?_
    rintro e w3 ⟨rfl, hw3⟩
    have zw3 := hw3.size
    try simp at zw3
    have cw3_0 : w3.cell? ⟨w1.heap.size, 0, none⟩ = some (.int .i64 a) := (hw3.cell (p := ⟨w1.heap.size, 0, none⟩) (by show w1.heap.size < _; first | omega | (simp; done) | (simp; omega))).trans (by simp [go_sem, cw2_0, cw2_1, cw2_2, cw2_3, lw2_0, lw2_1])
    have cw3_1 : w3.cell? ⟨w1.heap.size, 1, none⟩ = some (.int .i64 b) := (hw3.cell (p := ⟨w1.heap.size, 1, none⟩) (by show w1.heap.size < _; first | omega | (simp; done) | (simp; omega))).trans (by simp [go_sem, cw2_0, cw2_1, cw2_2, cw2_3, lw2_0, lw2_1])
    have cw3_2 : w3.cell? ⟨w1.heap.size + 1, 0, none⟩ = some (.int .i64 x) := (hw3.cell (p := ⟨w1.heap.size + 1, 0, none⟩) (by show w1.heap.size + 1 < _; first | omega | (simp; done) | (simp; omega))).trans (by simp [go_sem, cw2_0, cw2_1, cw2_2, cw2_3, lw2_0, lw2_1])
    have cw3_3 : w3.cell? ⟨w1.heap.size + 1, 1, none⟩ = some (.int .i64 y) := (hw3.cell (p := ⟨w1.heap.size + 1, 1, none⟩) (by show w1.heap.size + 1 < _; first | omega | (simp; done) | (simp; omega))).trans (by simp [go_sem, cw2_0, cw2_1, cw2_2, cw2_3, lw2_0, lw2_1])
    have cw3_4 : w3.cell? ⟨w2.heap.size, 0, none⟩ = some (.int .i64 sn) := (hw3.cell (p := ⟨w2.heap.size, 0, none⟩) (by show w2.heap.size < _; first | omega | (simp; done) | (simp; omega))).trans (by simp [go_sem, cw2_0, cw2_1, cw2_2, cw2_3, lw2_0, lw2_1])
    have cw3_5 : w3.cell? ⟨w2.heap.size, 1, none⟩ = some (.int .i64 sd) := (hw3.cell (p := ⟨w2.heap.size, 1, none⟩) (by show w2.heap.size < _; first | omega | (simp; done) | (simp; omega))).trans (by simp [go_sem, cw2_0, cw2_1, cw2_2, cw2_3, lw2_0, lw2_1])
    have lw3_0 : w1.heap.size < w3.heap.size := by omega
    have lw3_1 : w1.heap.size + 1 < w3.heap.size := by omega
    have lw3_2 : w2.heap.size < w3.heap.size := by omega
    have Bw3 : Below w0.heap.size w0 w3 := Below.trans (by repeat (first | with_reducible exact Below.refl _ _ | with_reducible exact Bw2 | with_reducible refine Below.setCell ?_ (by first | omega | (simp; done) | (simp; omega)) _ | with_reducible refine bDrewN ?_ _ | with_reducible refine Below.drew ?_ | with_reducible refine Below.alloc ?_ (by first | omega | (simp; done) | (simp; omega)) _)) (hw3.mono (by first | omega | (simp; done) | (simp; omega)))
    have sBw3 := Bw3.size
    clear cw2_0 cw2_1 cw2_2 cw2_3 lw2_0 lw2_1
    clear hw3 zw2
    go_wp2_with fail
    refine (K3.out _).mono ?_
    rintro e w4 ⟨rfl, hw4⟩
    have zw4 := hw4.size
    try simp at zw4
    have cw4_0 : w4.cell? ⟨w1.heap.size, 0, none⟩ = some (.int .i64 a) := (hw4.cell (p := ⟨w1.heap.size, 0, none⟩) (by show w1.heap.size < _; first | omega | (simp; done) | (simp; omega))).trans (by simp [go_sem, cw3_0, cw3_1, cw3_2, cw3_3, cw3_4, cw3_5, lw3_0, lw3_1, lw3_2])
    have cw4_1 : w4.cell? ⟨w1.heap.size, 1, none⟩ = some (.int .i64 b) := (hw4.cell (p := ⟨w1.heap.size, 1, none⟩) (by show w1.heap.size < _; first | omega | (simp; done) | (simp; omega))).trans (by simp [go_sem, cw3_0, cw3_1, cw3_2, cw3_3, cw3_4, cw3_5, lw3_0, lw3_1, lw3_2])
    have cw4_2 : w4.cell? ⟨w1.heap.size + 1, 0, none⟩ = some (.int .i64 x) := (hw4.cell (p := ⟨w1.heap.size + 1, 0, none⟩) (by show w1.heap.size + 1 < _; first | omega | (simp; done) | (simp; omega))).trans (by simp [go_sem, cw3_0, cw3_1, cw3_2, cw3_3, cw3_4, cw3_5, lw3_0, lw3_1, lw3_2])
    have cw4_3 : w4.cell? ⟨w1.heap.size + 1, 1, none⟩ = some (.int .i64 y) := (hw4.cell (p := ⟨w1.heap.size + 1, 1, none⟩) (by show w1.heap.size + 1 < _; first | omega | (simp; done) | (simp; omega))).trans (by simp [go_sem, cw3_0, cw3_1, cw3_2, cw3_3, cw3_4, cw3_5, lw3_0, lw3_1, lw3_2])
    have cw4_4 : w4.cell? ⟨w2.heap.size, 0, none⟩ = some (.int .i64 sn) := (hw4.cell (p := ⟨w2.heap.size, 0, none⟩) (by show w2.heap.size < _; first | omega | (simp; done) | (simp; omega))).trans (by simp [go_sem, cw3_0, cw3_1, cw3_2, cw3_3, cw3_4, cw3_5, lw3_0, lw3_1, lw3_2])
    have cw4_5 : w4.cell? ⟨w2.heap.size, 1, none⟩ = some (.int .i64 sd) := (hw4.cell (p := ⟨w2.heap.size, 1, none⟩) (by show w2.heap.size < _; first | omega | (simp; done) | (simp; omega))).trans (by simp [go_sem, cw3_0, cw3_1, cw3_2, cw3_3, cw3_4, cw3_5, lw3_0, lw3_1, lw3_2])
    have cw4_6 : w4.cell? ⟨w3.heap.size, 0, none⟩ = some (.int .i64 sn) := (hw4.cell (p := ⟨w3.heap.size, 0, none⟩) (by show w3.heap.size < _; first | omega | (simp; done) | (simp; omega))).trans (by simp [go_sem, cw3_0, cw3_1, cw3_2, cw3_3, cw3_4, cw3_5, lw3_0, lw3_1, lw3_2])
    have cw4_7 : w4.cell? ⟨w3.heap.size, 1, none⟩ = some (.int .i64 sd) := (hw4.cell (p := ⟨w3.heap.size, 1, none⟩) (by show w3.heap.size < _; first | omega | (simp; done) | (simp; omega))).trans (by simp [go_sem, cw3_0, cw3_1, cw3_2, cw3_3, cw3_4, cw3_5, lw3_0, lw3_1, lw3_2])
    have lw4_0 : w1.heap.size < w4.heap.size := by omega
    have lw4_1 : w1.heap.size + 1 < w4.heap.size := by omega
    have lw4_2 : w2.heap.size < w4.heap.size := by omega
    have lw4_3 : w3.heap.size < w4.heap.size := by omega
    have Bw4 : Below w0.heap.size w0 w4 := Below.trans (by repeat (first | with_reducible exact Below.refl _ _ | with_reducible exact Bw3 | with_reducible refine Below.setCell ?_ (by first | omega | (simp; done) | (simp; omega)) _ | with_reducible refine bDrewN ?_ _ | with_reducible refine Below.drew ?_ | with_reducible refine Below.alloc ?_ (by first | omega | (simp; done) | (simp; omega)) _)) (hw4.mono (by first | omega | (simp; done) | (simp; omega)))
    have sBw4 := Bw4.size
    clear cw3_0 cw3_1 cw3_2 cw3_3 cw3_4 cw3_5 lw3_0 lw3_1 lw3_2
    clear hw4 zw3
    go_wp2_with fail
    refine (K4.out _).mono ?_
    rintro e w5 ⟨rfl, hw5⟩
    have zw5 := hw5.size
    try simp at zw5
    have cw5_0 : w5.cell? ⟨w1.heap.size, 0, none⟩ = some (.int .i64 a) := (hw5.cell (p := ⟨w1.heap.size, 0, none⟩) (by show w1.heap.size < _; first | omega | (simp; done) | (simp; omega))).trans (by simp [go_sem, cw4_0, cw4_1, cw4_2, cw4_3, cw4_4, cw4_5, cw4_6, cw4_7, lw4_0, lw4_1, lw4_2, lw4_3])
    have cw5_1 : w5.cell? ⟨w1.heap.size, 1, none⟩ = some (.int .i64 b) := (hw5.cell (p := ⟨w1.heap.size, 1, none⟩) (by show w1.heap.size < _; first | omega | (simp; done) | (simp; omega))).trans (by simp [go_sem, cw4_0, cw4_1, cw4_2, cw4_3, cw4_4, cw4_5, cw4_6, cw4_7, lw4_0, lw4_1, lw4_2, lw4_3])
    have cw5_2 : w5.cell? ⟨w1.heap.size + 1, 0, none⟩ = some (.int .i64 x) := (hw5.cell (p := ⟨w1.heap.size + 1, 0, none⟩) (by show w1.heap.size + 1 < _; first | omega | (simp; done) | (simp; omega))).trans (by simp [go_sem, cw4_0, cw4_1, cw4_2, cw4_3, cw4_4, cw4_5, cw4_6, cw4_7, lw4_0, lw4_1, lw4_2, lw4_3])
    have cw5_3 : w5.cell? ⟨w1.heap.size + 1, 1, none⟩ = some (.int .i64 y) := (hw5.cell (p := ⟨w1.heap.size + 1, 1, none⟩) (by show w1.heap.size + 1 < _; first | omega | (simp; done) | (simp; omega))).trans (by simp [go_sem, cw4_0, cw4_1, cw4_2, cw4_3, cw4_4, cw4_5, cw4_6, cw4_7, lw4_0, lw4_1, lw4_2, lw4_3])
    have cw5_4 : w5.cell? ⟨w2.heap.size, 0, none⟩ = some (.int .i64 sn) := (hw5.cell (p := ⟨w2.heap.size, 0, none⟩) (by show w2.heap.size < _; first | omega | (simp; done) | (simp; omega))).trans (by simp [go_sem, cw4_0, cw4_1, cw4_2, cw4_3, cw4_4, cw4_5, cw4_6, cw4_7, lw4_0, lw4_1, lw4_2, lw4_3])
    have cw5_5 : w5.cell? ⟨w2.heap.size, 1, none⟩ = some (.int .i64 sd) := (hw5.cell (p := ⟨w2.heap.size, 1, none⟩) (by show w2.heap.size < _; first | omega | (simp; done) | (simp; omega))).trans (by simp [go_sem, cw4_0, cw4_1, cw4_2, cw4_3, cw4_4, cw4_5, cw4_6, cw4_7, lw4_0, lw4_1, lw4_2, lw4_3])
    have cw5_6 : w5.cell? ⟨w3.heap.size, 0, none⟩ = some (.int .i64 sn) := (hw5.cell (p := ⟨w3.heap.size, 0, none⟩) (by show w3.heap.size < _; first | omega | (simp; done) | (simp; omega))).trans (by simp [go_sem, cw4_0, cw4_1, cw4_2, cw4_3, cw4_4, cw4_5, cw4_6, cw4_7, lw4_0, lw4_1, lw4_2, lw4_3])
    have cw5_7 : w5.cell? ⟨w3.heap.size, 1, none⟩ = some (.int .i64 sd) := (hw5.cell (p := ⟨w3.heap.size, 1, none⟩) (by show w3.heap.size < _; first | omega | (simp; done) | (simp; omega))).trans (by simp [go_sem, cw4_0, cw4_1, cw4_2, cw4_3, cw4_4, cw4_5, cw4_6, cw4_7, lw4_0, lw4_1, lw4_2, lw4_3])
    have cw5_8 : w5.cell? ⟨w4.heap.size, 0, none⟩ = some (.int .i64 sn) := (hw5.cell (p := ⟨w4.heap.size, 0, none⟩) (by show w4.heap.size < _; first | omega | (simp; done) | (simp; omega))).trans (by simp [go_sem, cw4_0, cw4_1, cw4_2, cw4_3, cw4_4, cw4_5, cw4_6, cw4_7, lw4_0, lw4_1, lw4_2, lw4_3])
    have cw5_9 : w5.cell? ⟨w4.heap.size, 1, none⟩ = some (.int .i64 sd) := (hw5.cell (p := ⟨w4.heap.size, 1, none⟩) (by show w4.heap.size < _; first | omega | (simp; done) | (simp; omega))).trans (by simp [go_sem, cw4_0, cw4_1, cw4_2, cw4_3, cw4_4, cw4_5, cw4_6, cw4_7, lw4_0, lw4_1, lw4_2, lw4_3])
    have lw5_0 : w1.heap.size < w5.heap.size := by omega
    have lw5_1 : w1.heap.size + 1 < w5.heap.size := by omega
    have lw5_2 : w2.heap.size < w5.heap.size := by omega
    have lw5_3 : w3.heap.size < w5.heap.size := by omega
    have lw5_4 : w4.heap.size < w5.heap.size := by omega
    have Bw5 : Below w0.heap.size w0 w5 := Below.trans (by repeat (first | with_reducible exact Below.refl _ _ | with_reducible exact Bw4 | with_reducible refine Below.setCell ?_ (by first | omega | (simp; done) | (simp; omega)) _ | with_reducible refine bDrewN ?_ _ | with_reducible refine Below.drew ?_ | with_reducible refine Below.alloc ?_ (by first | omega | (simp; done) | (simp; omega)) _)) (hw5.mono (by first | omega | (simp; done) | (simp; omega)))
    have sBw5 := Bw5.size
    clear cw4_0 cw4_1 cw4_2 cw4_3 cw4_4 cw4_5 cw4_6 cw4_7 lw4_0 lw4_1 lw4_2 lw4_3
    clear hw5 zw4
    go_wp2_with fail
    refine (K5.out _).mono ?_
    rintro e w6 ⟨rfl, hw6⟩
    have zw6 := hw6.size
    try simp at zw6
    have cw6_0 : w6.cell? ⟨w1.heap.size, 0, none⟩ = some (.int .i64 a) := (hw6.cell (p := ⟨w1.heap.size, 0, none⟩) (by show w1.heap.size < _; first | omega | (simp; done) | (simp; omega))).trans (by simp [go_sem, cw5_0, cw5_1, cw5_2, cw5_3, cw5_4, cw5_5, cw5_6, cw5_7, cw5_8, cw5_9, lw5_0, lw5_1, lw5_2, lw5_3, lw5_4])
    have cw6_1 : w6.cell? ⟨w1.heap.size, 1, none⟩ = some (.int .i64 b) := (hw6.cell (p := ⟨w1.heap.size, 1, none⟩) (by show w1.heap.size < _; first | omega | (simp; done) | (simp; omega))).trans (by simp [go_sem, cw5_0, cw5_1, cw5_2, cw5_3, cw5_4, cw5_5, cw5_6, cw5_7, cw5_8, cw5_9, lw5_0, lw5_1, lw5_2, lw5_3, lw5_4])
    have cw6_2 : w6.cell? ⟨w1.heap.size + 1, 0, none⟩ = some (.int .i64 x) := (hw6.cell (p := ⟨w1.heap.size + 1, 0, none⟩) (by show w1.heap.size + 1 < _; first | omega | (simp; done) | (simp; omega))).trans (by simp [go_sem, cw5_0, cw5_1, cw5_2, cw5_3, cw5_4, cw5_5, cw5_6, cw5_7, cw5_8, cw5_9, lw5_0, lw5_1, lw5_2, lw5_3, lw5_4])
    have cw6_3 : w6.cell? ⟨w1.heap.size + 1, 1, none⟩ = some (.int .i64 y) := (hw6.cell (p := ⟨w1.heap.size + 1, 1, none⟩) (by show w1.heap.size + 1 < _; first | omega | (simp; done) | (simp; omega))).trans (by simp [go_sem, cw5_0, cw5_1, cw5_2, cw5_3, cw5_4, cw5_5, cw5_6, cw5_7, cw5_8, cw5_9, lw5_0, lw5_1, lw5_2, lw5_3, lw5_4])
    have cw6_4 : w6.cell? ⟨w2.heap.size, 0, none⟩ = some (.int .i64 sn) := (hw6.cell (p := ⟨w2.heap.size, 0, none⟩) (by show w2.heap.size < _; first | omega | (simp; done) | (simp; omega))).trans (by simp [go_sem, cw5_0, cw5_1, cw5_2, cw5_3, cw5_4, cw5_5, cw5_6, cw5_7, cw5_8, cw5_9, lw5_0, lw5_1, lw5_2, lw5_3, lw5_4])
    have cw6_5 : w6.cell? ⟨w2.heap.size, 1, none⟩ = some (.int .i64 sd) := (hw6.cell (p := ⟨w2.heap.size, 1, none⟩) (by show w2.heap.size < _; first | omega | (simp; done) | (simp; omega))).trans (by simp [go_sem, cw5_0, cw5_1, cw5_2, cw5_3, cw5_4, cw5_5, cw5_6, cw5_7, cw5_8, cw5_9, lw5_0, lw5_1, lw5_2, lw5_3, lw5_4])
    have cw6_6 : w6.cell? ⟨w3.heap.size, 0, none⟩ = some (.int .i64 sn) := (hw6.cell (p := ⟨w3.heap.size, 0, none⟩) (by show w3.heap.size < _; first | omega | (simp; done) | (simp; omega))).trans (by simp [go_sem, cw5_0, cw5_1, cw5_2, cw5_3, cw5_4, cw5_5, cw5_6, cw5_7, cw5_8, cw5_9, lw5_0, lw5_1, lw5_2, lw5_3, lw5_4])
    have cw6_7 : w6.cell? ⟨w3.heap.size, 1, none⟩ = some (.int .i64 sd) := (hw6.cell (p := ⟨w3.heap.size, 1, none⟩) (by show w3.heap.size < _; first | omega | (simp; done) | (simp; omega))).trans (by simp [go_sem, cw5_0, cw5_1, cw5_2, cw5_3, cw5_4, cw5_5, cw5_6, cw5_7, cw5_8, cw5_9, lw5_0, lw5_1, lw5_2, lw5_3, lw5_4])
    have cw6_8 : w6.cell? ⟨w4.heap.size, 0, none⟩ = some (.int .i64 sn) := (hw6.cell (p := ⟨w4.heap.size, 0, none⟩) (by show w4.heap.size < _; first | omega | (simp; done) | (simp; omega))).trans (by simp [go_sem, cw5_0, cw5_1, cw5_2, cw5_3, cw5_4, cw5_5, cw5_6, cw5_7, cw5_8, cw5_9, lw5_0, lw5_1, lw5_2, lw5_3, lw5_4])
    have cw6_9 : w6.cell? ⟨w4.heap.size, 1, none⟩ = some (.int .i64 sd) := (hw6.cell (p := ⟨w4.heap.size, 1, none⟩) (by show w4.heap.size < _; first | omega | (simp; done) | (simp; omega))).trans (by simp [go_sem, cw5_0, cw5_1, cw5_2, cw5_3, cw5_4, cw5_5, cw5_6, cw5_7, cw5_8, cw5_9, lw5_0, lw5_1, lw5_2, lw5_3, lw5_4])
    have cw6_10 : w6.cell? ⟨w5.heap.size, 0, none⟩ = some (.int .i64 pn) := (hw6.cell (p := ⟨w5.heap.size, 0, none⟩) (by show w5.heap.size < _; first | omega | (simp; done) | (simp; omega))).trans (by simp [go_sem, cw5_0, cw5_1, cw5_2, cw5_3, cw5_4, cw5_5, cw5_6, cw5_7, cw5_8, cw5_9, lw5_0, lw5_1, lw5_2, lw5_3, lw5_4])
    have cw6_11 : w6.cell? ⟨w5.heap.size, 1, none⟩ = some (.int .i64 pd) := (hw6.cell (p := ⟨w5.heap.size, 1, none⟩) (by show w5.heap.size < _; first | omega | (simp; done) | (simp; omega))).trans (by simp [go_sem, cw5_0, cw5_1, cw5_2, cw5_3, cw5_4, cw5_5, cw5_6, cw5_7, cw5_8, cw5_9, lw5_0, lw5_1, lw5_2, lw5_3, lw5_4])
    have lw6_0 : w1.heap.size < w6.heap.size := by omega
    have lw6_1 : w1.heap.size + 1 < w6.heap.size := by omega
    have lw6_2 : w2.heap.size < w6.heap.size := by omega
    have lw6_3 : w3.heap.size < w6.heap.size := by omega
    have lw6_4 : w4.heap.size < w6.heap.size := by omega
    have lw6_5 : w5.heap.size < w6.heap.size := by omega
    have Bw6 : Below w0.heap.size w0 w6 := Below.trans (by repeat (first | with_reducible exact Below.refl _ _ | with_reducible exact Bw5 | with_reducible refine Below.setCell ?_ (by first | omega | (simp; done) | (simp; omega)) _ | with_reducible refine bDrewN ?_ _ | with_reducible refine Below.drew ?_ | with_reducible refine Below.alloc ?_ (by first | omega | (simp; done) | (simp; omega)) _)) (hw6.mono (by first | omega | (simp; done) | (simp; omega)))
    have sBw6 := Bw6.size
    clear cw5_0 cw5_1 cw5_2 cw5_3 cw5_4 cw5_5 cw5_6 cw5_7 cw5_8 cw5_9 lw5_0 lw5_1 lw5_2 lw5_3 lw5_4
    clear hw6 zw5
    go_wp2_with fail
    refine (K6.out _).mono ?_
    rintro e w7 ⟨rfl, hw7⟩
    have zw7 := hw7.size
    try simp at zw7
    have cw7_0 : w7.cell? ⟨w1.heap.size, 0, none⟩ = some (.int .i64 a) := (hw7.cell (p := ⟨w1.heap.size, 0, none⟩) (by show w1.heap.size < _; first | omega | (simp; done) | (simp; omega))).trans (by simp [go_sem, cw6_0, cw6_1, cw6_2, cw6_3, cw6_4, cw6_5, cw6_6, cw6_7, cw6_8, cw6_9, cw6_10, cw6_11, lw6_0, lw6_1, lw6_2, lw6_3, lw6_4, lw6_5])
    have cw7_1 : w7.cell? ⟨w1.heap.size, 1, none⟩ = some (.int .i64 b) := (hw7.cell (p := ⟨w1.heap.size, 1, none⟩) (by show w1.heap.size < _; first | omega | (simp; done) | (simp; omega))).trans (by simp [go_sem, cw6_0, cw6_1, cw6_2, cw6_3, cw6_4, cw6_5, cw6_6, cw6_7, cw6_8, cw6_9, cw6_10, cw6_11, lw6_0, lw6_1, lw6_2, lw6_3, lw6_4, lw6_5])
    have cw7_2 : w7.cell? ⟨w1.heap.size + 1, 0, none⟩ = some (.int .i64 x) := (hw7.cell (p := ⟨w1.heap.size + 1, 0, none⟩) (by show w1.heap.size + 1 < _; first | omega | (simp; done) | (simp; omega))).trans (by simp [go_sem, cw6_0, cw6_1, cw6_2, cw6_3, cw6_4, cw6_5, cw6_6, cw6_7, cw6_8, cw6_9, cw6_10, cw6_11, lw6_0, lw6_1, lw6_2, lw6_3, lw6_4, lw6_5])
    have cw7_3 : w7.cell? ⟨w1.heap.size + 1, 1, none⟩ = some (.int .i64 y) := (hw7.cell (p := ⟨w1.heap.size + 1, 1, none⟩) (by show w1.heap.size + 1 < _; first | omega | (simp; done) | (simp; omega))).trans (by simp [go_sem, cw6_0, cw6_1, cw6_2, cw6_3, cw6_4, cw6_5, cw6_6, cw6_7, cw6_8, cw6_9, cw6_10, cw6_11, lw6_0, lw6_1, lw6_2, lw6_3, lw6_4, lw6_5])
    have cw7_4 : w7.cell? ⟨w2.heap.size, 0, none⟩ = some (.int .i64 sn) := (hw7.cell (p := ⟨w2.heap.size, 0, none⟩) (by show w2.heap.size < _; first | omega | (simp; done) | (simp; omega))).trans (by simp [go_sem, cw6_0, cw6_1, cw6_2, cw6_3, cw6_4, cw6_5, cw6_6, cw6_7, cw6_8, cw6_9, cw6_10, cw6_11, lw6_0, lw6_1, lw6_2, lw6_3, lw6_4, lw6_5])
    have cw7_5 : w7.cell? ⟨w2.heap.size, 1, none⟩ = some (.int .i64 sd) := (hw7.cell (p := ⟨w2.heap.size, 1, none⟩) (by show w2.heap.size < _; first | omega | (simp; done) | (simp; omega))).trans (by simp [go_sem, cw6_0, cw6_1, cw6_2, cw6_3, cw6_4, cw6_5, cw6_6, cw6_7, cw6_8, cw6_9, cw6_10, cw6_11, lw6_0, lw6_1, lw6_2, lw6_3, lw6_4, lw6_5])
    have cw7_6 : w7.cell? ⟨w3.heap.size, 0, none⟩ = some (.int .i64 sn) := (hw7.cell (p := ⟨w3.heap.size, 0, none⟩) (by show w3.heap.size < _; first | omega | (simp; done) | (simp; omega))).trans (by simp [go_sem, cw6_0, cw6_1, cw6_2, cw6_3, cw6_4, cw6_5, cw6_6, cw6_7, cw6_8, cw6_9, cw6_10, cw6_11, lw6_0, lw6_1, lw6_2, lw6_3, lw6_4, lw6_5])
    have cw7_7 : w7.cell? ⟨w3.heap.size, 1, none⟩ = some (.int .i64 sd) := (hw7.cell (p := ⟨w3.heap.size, 1, none⟩) (by show w3.heap.size < _; first | omega | (simp; done) | (simp; omega))).trans (by simp [go_sem, cw6_0, cw6_1, cw6_2, cw6_3, cw6_4, cw6_5, cw6_6, cw6_7, cw6_8, cw6_9, cw6_10, cw6_11, lw6_0, lw6_1, lw6_2, lw6_3, lw6_4, lw6_5])
    have cw7_8 : w7.cell? ⟨w4.heap.size, 0, none⟩ = some (.int .i64 sn) := (hw7.cell (p := ⟨w4.heap.size, 0, none⟩) (by show w4.heap.size < _; first | omega | (simp; done) | (simp; omega))).trans (by simp [go_sem, cw6_0, cw6_1, cw6_2, cw6_3, cw6_4, cw6_5, cw6_6, cw6_7, cw6_8, cw6_9, cw6_10, cw6_11, lw6_0, lw6_1, lw6_2, lw6_3, lw6_4, lw6_5])
    have cw7_9 : w7.cell? ⟨w4.heap.size, 1, none⟩ = some (.int .i64 sd) := (hw7.cell (p := ⟨w4.heap.size, 1, none⟩) (by show w4.heap.size < _; first | omega | (simp; done) | (simp; omega))).trans (by simp [go_sem, cw6_0, cw6_1, cw6_2, cw6_3, cw6_4, cw6_5, cw6_6, cw6_7, cw6_8, cw6_9, cw6_10, cw6_11, lw6_0, lw6_1, lw6_2, lw6_3, lw6_4, lw6_5])
    have cw7_10 : w7.cell? ⟨w5.heap.size, 0, none⟩ = some (.int .i64 pn) := (hw7.cell (p := ⟨w5.heap.size, 0, none⟩) (by show w5.heap.size < _; first | omega | (simp; done) | (simp; omega))).trans (by simp [go_sem, cw6_0, cw6_1, cw6_2, cw6_3, cw6_4, cw6_5, cw6_6, cw6_7, cw6_8, cw6_9, cw6_10, cw6_11, lw6_0, lw6_1, lw6_2, lw6_3, lw6_4, lw6_5])
    have cw7_11 : w7.cell? ⟨w5.heap.size, 1, none⟩ = some (.int .i64 pd) := (hw7.cell (p := ⟨w5.heap.size, 1, none⟩) (by show w5.heap.size < _; first | omega | (simp; done) | (simp; omega))).trans (by simp [go_sem, cw6_0, cw6_1, cw6_2, cw6_3, cw6_4, cw6_5, cw6_6, cw6_7, cw6_8, cw6_9, cw6_10, cw6_11, lw6_0, lw6_1, lw6_2, lw6_3, lw6_4, lw6_5])
    have cw7_12 : w7.cell? ⟨w6.heap.size, 0, none⟩ = some (.int .i64 pn) := (hw7.cell (p := ⟨w6.heap.size, 0, none⟩) (by show w6.heap.size < _; first | omega | (simp; done) | (simp; omega))).trans (by simp [go_sem, cw6_0, cw6_1, cw6_2, cw6_3, cw6_4, cw6_5, cw6_6, cw6_7, cw6_8, cw6_9, cw6_10, cw6_11, lw6_0, lw6_1, lw6_2, lw6_3, lw6_4, lw6_5])
    have cw7_13 : w7.cell? ⟨w6.heap.size, 1, none⟩ = some (.int .i64 pd) := (hw7.cell (p := ⟨w6.heap.size, 1, none⟩) (by show w6.heap.size < _; first | omega | (simp; done) | (simp; omega))).trans (by simp [go_sem, cw6_0, cw6_1, cw6_2, cw6_3, cw6_4, cw6_5, cw6_6, cw6_7, cw6_8, cw6_9, cw6_10, cw6_11, lw6_0, lw6_1, lw6_2, lw6_3, lw6_4, lw6_5])
    have lw7_0 : w1.heap.size < w7.heap.size := by omega
    have lw7_1 : w1.heap.size + 1 < w7.heap.size := by omega
    have lw7_2 : w2.heap.size < w7.heap.size := by omega
    have lw7_3 : w3.heap.size < w7.heap.size := by omega
    have lw7_4 : w4.heap.size < w7.heap.size := by omega
    have lw7_5 : w5.heap.size < w7.heap.size := by omega
    have lw7_6 : w6.heap.size < w7.heap.size := by omega
    have Bw7 : Below w0.heap.size w0 w7 := Below.trans (by repeat (first | with_reducible exact Below.refl _ _ | with_reducible exact Bw6 | with_reducible refine Below.setCell ?_ (by first | omega | (simp; done) | (simp; omega)) _ | with_reducible refine bDrewN ?_ _ | with_reducible refine Below.drew ?_ | with_reducible refine Below.alloc ?_ (by first | omega | (simp; done) | (simp; omega)) _)) (hw7.mono (by first | omega | (simp; done) | (simp; omega)))
    have sBw7 := Bw7.size
    clear cw6_0 cw6_1 cw6_2 cw6_3 cw6_4 cw6_5 cw6_6 cw6_7 cw6_8 cw6_9 cw6_10 cw6_11 lw6_0 lw6_1 lw6_2 lw6_3 lw6_4 lw6_5
    clear hw7 zw6
    go_wp2_with fail
    refine (K7.out _).mono ?_
    rintro e w8 ⟨rfl, hw8⟩
    have zw8 := hw8.size
    try simp at zw8
    have cw8_0 : w8.cell? ⟨w1.heap.size, 0, none⟩ = some (.int .i64 a) := (hw8.cell (p := ⟨w1.heap.size, 0, none⟩) (by show w1.heap.size < _; first | omega | (simp; done) | (simp; omega))).trans (by simp [go_sem, cw7_0, cw7_1, cw7_2, cw7_3, cw7_4, cw7_5, cw7_6, cw7_7, cw7_8, cw7_9, cw7_10, cw7_11, cw7_12, cw7_13, lw7_0, lw7_1, lw7_2, lw7_3, lw7_4, lw7_5, lw7_6])
    have cw8_1 : w8.cell? ⟨w1.heap.size, 1, none⟩ = some (.int .i64 b) := (hw8.cell (p := ⟨w1.heap.size, 1, none⟩) (by show w1.heap.size < _; first | omega | (simp; done) | (simp; omega))).trans (by simp [go_sem, cw7_0, cw7_1, cw7_2, cw7_3, cw7_4, cw7_5, cw7_6, cw7_7, cw7_8, cw7_9, cw7_10, cw7_11, cw7_12, cw7_13, lw7_0, lw7_1, lw7_2, lw7_3, lw7_4, lw7_5, lw7_6])
    have cw8_2 : w8.cell? ⟨w1.heap.size + 1, 0, none⟩ = some (.int .i64 x) := (hw8.cell (p := ⟨w1.heap.size + 1, 0, none⟩) (by show w1.heap.size + 1 < _; first | omega | (simp; done) | (simp; omega))).trans (by simp [go_sem, cw7_0, cw7_1, cw7_2, cw7_3, cw7_4, cw7_5, cw7_6, cw7_7, cw7_8, cw7_9, cw7_10, cw7_11, cw7_12, cw7_13, lw7_0, lw7_1, lw7_2, lw7_3, lw7_4, lw7_5, lw7_6])
    have cw8_3 : w8.cell? ⟨w1.heap.size + 1, 1, none⟩ = some (.int .i64 y) := (hw8.cell (p := ⟨w1.heap.size + 1, 1, none⟩) (by show w1.heap.size + 1 < _; first | omega | (simp; done) | (simp; omega))).trans (by simp [go_sem, cw7_0, cw7_1, cw7_2, cw7_3, cw7_4, cw7_5, cw7_6, cw7_7, cw7_8, cw7_9, cw7_10, cw7_11, cw7_12, cw7_13, lw7_0, lw7_1, lw7_2, lw7_3, lw7_4, lw7_5, lw7_6])
    have cw8_4 : w8.cell? ⟨w2.heap.size, 0, none⟩ = some (.int .i64 sn) := (hw8.cell (p := ⟨w2.heap.size, 0, none⟩) (by show w2.heap.size < _; first | omega | (simp; done) | (simp; omega))).trans (by simp [go_sem, cw7_0, cw7_1, cw7_2, cw7_3, cw7_4, cw7_5, cw7_6, cw7_7, cw7_8, cw7_9, cw7_10, cw7_11, cw7_12, cw7_13, lw7_0, lw7_1, lw7_2, lw7_3, lw7_4, lw7_5, lw7_6])
    have cw8_5 : w8.cell? ⟨w2.heap.size, 1, none⟩ = some (.int .i64 sd) := (hw8.cell (p := ⟨w2.heap.size, 1, none⟩) (by show w2.heap.size < _; first | omega | (simp; done) | (simp; omega))).trans (by simp [go_sem, cw7_0, cw7_1, cw7_2, cw7_3, cw7_4, cw7_5, cw7_6, cw7_7, cw7_8, cw7_9, cw7_10, cw7_11, cw7_12, cw7_13, lw7_0, lw7_1, lw7_2, lw7_3, lw7_4, lw7_5, lw7_6])
    have cw8_6 : w8.cell? ⟨w3.heap.size, 0, none⟩ = some (.int .i64 sn) := (hw8.cell (p := ⟨w3.heap.size, 0, none⟩) (by show w3.heap.size < _; first | omega | (simp; done) | (simp; omega))).trans (by simp [go_sem, cw7_0, cw7_1, cw7_2, cw7_3, cw7_4, cw7_5, cw7_6, cw7_7, cw7_8, cw7_9, cw7_10, cw7_11, cw7_12, cw7_13, lw7_0, lw7_1, lw7_2, lw7_3, lw7_4, lw7_5, lw7_6])
    have cw8_7 : w8.cell? ⟨w3.heap.size, 1, none⟩ = some (.int .i64 sd) := (hw8.cell (p := ⟨w3.heap.size, 1, none⟩) (by show w3.heap.size < _; first | omega | (simp; done) | (simp; omega))).trans (by simp [go_sem, cw7_0, cw7_1, cw7_2, cw7_3, cw7_4, cw7_5, cw7_6, cw7_7, cw7_8, cw7_9, cw7_10, cw7_11, cw7_12, cw7_13, lw7_0, lw7_1, lw7_2, lw7_3, lw7_4, lw7_5, lw7_6])
    have cw8_8 : w8.cell? ⟨w4.heap.size, 0, none⟩ = some (.int .i64 sn) := (hw8.cell (p := ⟨w4.heap.size, 0, none⟩) (by show w4.heap.size < _; first | omega | (simp; done) | (simp; omega))).trans (by simp [go_sem, cw7_0, cw7_1, cw7_2, cw7_3, cw7_4, cw7_5, cw7_6, cw7_7, cw7_8, cw7_9, cw7_10, cw7_11, cw7_12, cw7_13, lw7_0, lw7_1, lw7_2, lw7_3, lw7_4, lw7_5, lw7_6])
    have cw8_9 : w8.cell? ⟨w4.heap.size, 1, none⟩ = some (.int .i64 sd) := (hw8.cell (p := ⟨w4.heap.size, 1, none⟩) (by show w4.heap.size < _; first | omega | (simp; done) | (simp; omega))).trans (by simp [go_sem, cw7_0, cw7_1, cw7_2, cw7_3, cw7_4, cw7_5, cw7_6, cw7_7, cw7_8, cw7_9, cw7_10, cw7_11, cw7_12, cw7_13, lw7_0, lw7_1, lw7_2, lw7_3, lw7_4, lw7_5, lw7_6])
    have cw8_10 : w8.cell? ⟨w5.heap.size, 0, none⟩ = some (.int .i64 pn) := (hw8.cell (p := ⟨w5.heap.size, 0, none⟩) (by show w5.heap.size < _; first | omega | (simp; done) | (simp; omega))).trans (by simp [go_sem, cw7_0, cw7_1, cw7_2, cw7_3, cw7_4, cw7_5, cw7_6, cw7_7, cw7_8, cw7_9, cw7_10, cw7_11, cw7_12, cw7_13, lw7_0, lw7_1, lw7_2, lw7_3, lw7_4, lw7_5, lw7_6])
    have cw8_11 : w8.cell? ⟨w5.heap.size, 1, none⟩ = some (.int .i64 pd) := (hw8.cell (p := ⟨w5.heap.size, 1, none⟩) (by show w5.heap.size < _; first | omega | (simp; done) | (simp; omega))).trans (by simp [go_sem, cw7_0, cw7_1, cw7_2, cw7_3, cw7_4, cw7_5, cw7_6, cw7_7, cw7_8, cw7_9, cw7_10, cw7_11, cw7_12, cw7_13, lw7_0, lw7_1, lw7_2, lw7_3, lw7_4, lw7_5, lw7_6])
    have cw8_12 : w8.cell? ⟨w6.heap.size, 0, none⟩ = some (.int .i64 pn) := (hw8.cell (p := ⟨w6.heap.size, 0, none⟩) (by show w6.heap.size < _; first | omega | (simp; done) | (simp; omega))).trans (by simp [go_sem, cw7_0, cw7_1, cw7_2, cw7_3, cw7_4, cw7_5, cw7_6, cw7_7, cw7_8, cw7_9, cw7_10, cw7_11, cw7_12, cw7_13, lw7_0, lw7_1, lw7_2, lw7_3, lw7_4, lw7_5, lw7_6])
    have cw8_13 : w8.cell? ⟨w6.heap.size, 1, none⟩ = some (.int .i64 pd) := (hw8.cell (p := ⟨w6.heap.size, 1, none⟩) (by show w6.heap.size < _; first | omega | (simp; done) | (simp; omega))).trans (by simp [go_sem, cw7_0, cw7_1, cw7_2, cw7_3, cw7_4, cw7_5, cw7_6, cw7_7, cw7_8, cw7_9, cw7_10, cw7_11, cw7_12, cw7_13, lw7_0, lw7_1, lw7_2, lw7_3, lw7_4, lw7_5, lw7_6])
    have lw8_0 : w1.heap.size < w8.heap.size := by omega
    have lw8_1 : w1.heap.size + 1 < w8.heap.size := by omega
    have lw8_2 : w2.heap.size < w8.heap.size := by omega
    have lw8_3 : w3.heap.size < w8.heap.size := by omega
    have lw8_4 : w4.heap.size < w8.heap.size := by omega
    have lw8_5 : w5.heap.size < w8.heap.size := by omega
    have lw8_6 : w6.heap.size < w8.heap.size := by omega
    have Bw8 : Below w0.heap.size w0 w8 := Below.trans (by repeat (first | with_reducible exact Below.refl _ _ | with_reducible exact Bw7 | with_reducible refine Below.setCell ?_ (by first | omega | (simp; done) | (simp; omega)) _ | with_reducible refine bDrewN ?_ _ | with_reducible refine Below.drew ?_ | with_reducible refine Below.alloc ?_ (by first | omega | (simp; done) | (simp; omega)) _)) (hw8.mono (by first | omega | (simp; done) | (simp; omega)))
    have sBw8 := Bw8.size
    clear cw7_0 cw7_1 cw7_2 cw7_3 cw7_4 cw7_5 cw7_6 cw7_7 cw7_8 cw7_9 cw7_10 cw7_11 cw7_12 cw7_13 lw7_0 lw7_1 lw7_2 lw7_3 lw7_4 lw7_5 lw7_6
    clear hw8 zw7
    go_wp2
    go_ret
    exact ⟨by simp, (by repeat (first | with_reducible exact Below.refl _ _ | with_reducible exact Bw8 | with_reducible refine Below.setCell ?_ (by first | omega | (simp; done) | (simp; omega)) _ | with_reducible refine bDrewN ?_ _ | with_reducible refine Below.drew ?_ | with_reducible refine Below.alloc ?_ (by first | omega | (simp; done) | (simp; omega)) _))⟩
  · have K8 : Hid (∀ w, Calls Try.prog 22 #[.agg #[.int .i64 x, .int .i64 y], .agg #[.int .i64 a, .int .i64 b]] w fun e w' => e = .returned (.int .i64 (-cv)) ∧ Below w.heap.size w w') := g3 ▸ K8'
    clear D K8' g3
    have ne : ¬ cv = -2 := by omega
    go_wp2_with fail
    refine (K1.out _).mono ?_
    rintro e w2 ⟨rfl, hw2⟩
    have zw2 := hw2.size
    try simp at zw2
    have cw2_0 : w2.cell? ⟨w1.heap.size, 0, none⟩ = some (.int .i64 a) := (hw2.cell (p := ⟨w1.heap.size, 0, none⟩) (by show w1.heap.size < _; first | omega | (simp; done) | (simp; omega))).trans (by simp [go_sem])
    have cw2_1 : w2.cell? ⟨w1.heap.size, 1, none⟩ = some (.int .i64 b) := (hw2.cell (p := ⟨w1.heap.size, 1, none⟩) (by show w1.heap.size < _; first | omega | (simp; done) | (simp; omega))).trans (by simp [go_sem])
    have cw2_2 : w2.cell? ⟨w1.heap.size + 1, 0, none⟩ = some (.int .i64 x) := (hw2.cell (p := ⟨w1.heap.size + 1, 0, none⟩) (by show w1.heap.size + 1 < _; first | omega | (simp; done) | (simp; omega))).trans (by simp [go_sem])
    have cw2_3 : w2.cell? ⟨w1.heap.size + 1, 1, none⟩ = some (.int .i64 y) := (hw2.cell (p := ⟨w1.heap.size + 1, 1, none⟩) (by show w1.heap.size + 1 < _; first | omega | (simp; done) | (simp; omega))).trans (by simp [go_sem])
    have lw2_0 : w1.heap.size < w2.heap.size := by omega
    have lw2_1 : w1.heap.size + 1 < w2.heap.size := by omega
    have Bw2 : Below w0.heap.size w0 w2 := Below.trans (by repeat (first | with_reducible exact Below.refl _ _ | with_reducible exact B1 | with_reducible refine Below.setCell ?_ (by first | omega | (simp; done) | (simp; omega)) _ | with_reducible refine bDrewN ?_ _ | with_reducible refine Below.drew ?_ | with_reducible refine Below.alloc ?_ (by first | omega | (simp; done) | (simp; omega)) _)) (hw2.mono (by first | omega | (simp; done) | (simp; omega)))
    have sBw2 := Bw2.size
    clear hw2
    go_wp2_with fail
    refine (K2.out _).mono ?_
    rintro e w3 ⟨rfl, hw3⟩
    have zw3 := hw3.size
    try simp at zw3
    have cw3_0 : w3.cell? ⟨w1.heap.size, 0, none⟩ = some (.int .i64 a) := (hw3.cell (p := ⟨w1.heap.size, 0, none⟩) (by show w1.heap.size < _; first | omega | (simp; done) | (simp; omega))).trans (by simp [go_sem, cw2_0, cw2_1, cw2_2, cw2_3, lw2_0, lw2_1])
    have cw3_1 : w3.cell? ⟨w1.heap.size, 1, none⟩ = some (.int .i64 b) := (hw3.cell (p := ⟨w1.heap.size, 1, none⟩) (by show w1.heap.size < _; first | omega | (simp; done) | (simp; omega))).trans (by simp [go_sem, cw2_0, cw2_1, cw2_2, cw2_3, lw2_0, lw2_1])
    have cw3_2 : w3.cell? ⟨w1.heap.size + 1, 0, none⟩ = some (.int .i64 x) := (hw3.cell (p := ⟨w1.heap.size + 1, 0, none⟩) (by show w1.heap.size + 1 < _; first | omega | (simp; done) | (simp; omega))).trans (by simp [go_sem, cw2_0, cw2_1, cw2_2, cw2_3, lw2_0, lw2_1])
    have cw3_3 : w3.cell? ⟨w1.heap.size + 1, 1, none⟩ = some (.int .i64 y) := (hw3.cell (p := ⟨w1.heap.size + 1, 1, none⟩) (by show w1.heap.size + 1 < _; first | omega | (simp; done) | (simp; omega))).trans (by simp [go_sem, cw2_0, cw2_1, cw2_2, cw2_3, lw2_0, lw2_1])
    have cw3_4 : w3.cell? ⟨w2.heap.size, 0, none⟩ = some (.int .i64 sn) := (hw3.cell (p := ⟨w2.heap.size, 0, none⟩) (by show w2.heap.size < _; first | omega | (simp; done) | (simp; omega))).trans (by simp [go_sem, cw2_0, cw2_1, cw2_2, cw2_3, lw2_0, lw2_1])
    have cw3_5 : w3.cell? ⟨w2.heap.size, 1, none⟩ = some (.int .i64 sd) := (hw3.cell (p := ⟨w2.heap.size, 1, none⟩) (by show w2.heap.size < _; first | omega | (simp; done) | (simp; omega))).trans (by simp [go_sem, cw2_0, cw2_1, cw2_2, cw2_3, lw2_0, lw2_1])
    have lw3_0 : w1.heap.size < w3.heap.size := by omega
    have lw3_1 : w1.heap.size + 1 < w3.heap.size := by omega
    have lw3_2 : w2.heap.size < w3.heap.size := by omega
    have Bw3 : Below w0.heap.size w0 w3 := Below.trans (by repeat (first | with_reducible exact Below.refl _ _ | with_reducible exact Bw2 | with_reducible refine Below.setCell ?_ (by first | omega | (simp; done) | (simp; omega)) _ | with_reducible refine bDrewN ?_ _ | with_reducible refine Below.drew ?_ | with_reducible refine Below.alloc ?_ (by first | omega | (simp; done) | (simp; omega)) _)) (hw3.mono (by first | omega | (simp; done) | (simp; omega)))
    have sBw3 := Bw3.size
    clear cw2_0 cw2_1 cw2_2 cw2_3 lw2_0 lw2_1
    clear hw3 zw2
    go_wp2_with fail
    refine (K3.out _).mono ?_
    rintro e w4 ⟨rfl, hw4⟩
    have zw4 := hw4.size
    try simp at zw4
    have cw4_0 : w4.cell? ⟨w1.heap.size, 0, none⟩ = some (.int .i64 a) := (hw4.cell (p := ⟨w1.heap.size, 0, none⟩) (by show w1.heap.size < _; first | omega | (simp; done) | (simp; omega))).trans (by simp [go_sem, cw3_0, cw3_1, cw3_2, cw3_3, cw3_4, cw3_5, lw3_0, lw3_1, lw3_2])
    have cw4_1 : w4.cell? ⟨w1.heap.size, 1, none⟩ = some (.int .i64 b) := (hw4.cell (p := ⟨w1.heap.size, 1, none⟩) (by show w1.heap.size < _; first | omega | (simp; done) | (simp; omega))).trans (by simp [go_sem, cw3_0, cw3_1, cw3_2, cw3_3, cw3_4, cw3_5, lw3_0, lw3_1, lw3_2])
    have cw4_2 : w4.cell? ⟨w1.heap.size + 1, 0, none⟩ = some (.int .i64 x) := (hw4.cell (p := ⟨w1.heap.size + 1, 0, none⟩) (by show w1.heap.size + 1 < _; first | omega | (simp; done) | (simp; omega))).trans (by simp [go_sem, cw3_0, cw3_1, cw3_2, cw3_3, cw3_4, cw3_5, lw3_0, lw3_1, lw3_2])
    have cw4_3 : w4.cell? ⟨w1.heap.size + 1, 1, none⟩ = some (.int .i64 y) := (hw4.cell (p := ⟨w1.heap.size + 1, 1, none⟩) (by show w1.heap.size + 1 < _; first | omega | (simp; done) | (simp; omega))).trans (by simp [go_sem, cw3_0, cw3_1, cw3_2, cw3_3, cw3_4, cw3_5, lw3_0, lw3_1, lw3_2])
    have cw4_4 : w4.cell? ⟨w2.heap.size, 0, none⟩ = some (.int .i64 sn) := (hw4.cell (p := ⟨w2.heap.size, 0, none⟩) (by show w2.heap.size < _; first | omega | (simp; done) | (simp; omega))).trans (by simp [go_sem, cw3_0, cw3_1, cw3_2, cw3_3, cw3_4, cw3_5, lw3_0, lw3_1, lw3_2])
    have cw4_5 : w4.cell? ⟨w2.heap.size, 1, none⟩ = some (.int .i64 sd) := (hw4.cell (p := ⟨w2.heap.size, 1, none⟩) (by show w2.heap.size < _; first | omega | (simp; done) | (simp; omega))).trans (by simp [go_sem, cw3_0, cw3_1, cw3_2, cw3_3, cw3_4, cw3_5, lw3_0, lw3_1, lw3_2])
    have cw4_6 : w4.cell? ⟨w3.heap.size, 0, none⟩ = some (.int .i64 sn) := (hw4.cell (p := ⟨w3.heap.size, 0, none⟩) (by show w3.heap.size < _; first | omega | (simp; done) | (simp; omega))).trans (by simp [go_sem, cw3_0, cw3_1, cw3_2, cw3_3, cw3_4, cw3_5, lw3_0, lw3_1, lw3_2])
    have cw4_7 : w4.cell? ⟨w3.heap.size, 1, none⟩ = some (.int .i64 sd) := (hw4.cell (p := ⟨w3.heap.size, 1, none⟩) (by show w3.heap.size < _; first | omega | (simp; done) | (simp; omega))).trans (by simp [go_sem, cw3_0, cw3_1, cw3_2, cw3_3, cw3_4, cw3_5, lw3_0, lw3_1, lw3_2])
    have lw4_0 : w1.heap.size < w4.heap.size := by omega
    have lw4_1 : w1.heap.size + 1 < w4.heap.size := by omega
    have lw4_2 : w2.heap.size < w4.heap.size := by omega
    have lw4_3 : w3.heap.size < w4.heap.size := by omega
    have Bw4 : Below w0.heap.size w0 w4 := Below.trans (by repeat (first | with_reducible exact Below.refl _ _ | with_reducible exact Bw3 | with_reducible refine Below.setCell ?_ (by first | omega | (simp; done) | (simp; omega)) _ | with_reducible refine bDrewN ?_ _ | with_reducible refine Below.drew ?_ | with_reducible refine Below.alloc ?_ (by first | omega | (simp; done) | (simp; omega)) _)) (hw4.mono (by first | omega | (simp; done) | (simp; omega)))
    have sBw4 := Bw4.size
    clear cw3_0 cw3_1 cw3_2 cw3_3 cw3_4 cw3_5 lw3_0 lw3_1 lw3_2
    clear hw4 zw3
    go_wp2_with fail
    refine (K4.out _).mono ?_
    rintro e w5 ⟨rfl, hw5⟩
    have zw5 := hw5.size
    try simp at zw5
    have cw5_0 : w5.cell? ⟨w1.heap.size, 0, none⟩ = some (.int .i64 a) := (hw5.cell (p := ⟨w1.heap.size, 0, none⟩) (by show w1.heap.size < _; first | omega | (simp; done) | (simp; omega))).trans (by simp [go_sem, cw4_0, cw4_1, cw4_2, cw4_3, cw4_4, cw4_5, cw4_6, cw4_7, lw4_0, lw4_1, lw4_2, lw4_3])
    have cw5_1 : w5.cell? ⟨w1.heap.size, 1, none⟩ = some (.int .i64 b) := (hw5.cell (p := ⟨w1.heap.size, 1, none⟩) (by show w1.heap.size < _; first | omega | (simp; done) | (simp; omega))).trans (by simp [go_sem, cw4_0, cw4_1, cw4_2, cw4_3, cw4_4, cw4_5, cw4_6, cw4_7, lw4_0, lw4_1, lw4_2, lw4_3])
    have cw5_2 : w5.cell? ⟨w1.heap.size + 1, 0, none⟩ = some (.int .i64 x) := (hw5.cell (p := ⟨w1.heap.size + 1, 0, none⟩) (by show w1.heap.size + 1 < _; first | omega | (simp; done) | (simp; omega))).trans (by simp [go_sem, cw4_0, cw4_1, cw4_2, cw4_3, cw4_4, cw4_5, cw4_6, cw4_7, lw4_0, lw4_1, lw4_2, lw4_3])
    have cw5_3 : w5.cell? ⟨w1.heap.size + 1, 1, none⟩ = some (.int .i64 y) := (hw5.cell (p := ⟨w1.heap.size + 1, 1, none⟩) (by show w1.heap.size + 1 < _; first | omega | (simp; done) | (simp; omega))).trans (by simp [go_sem, cw4_0, cw4_1, cw4_2, cw4_3, cw4_4, cw4_5, cw4_6, cw4_7, lw4_0, lw4_1, lw4_2, lw4_3])
    have cw5_4 : w5.cell? ⟨w2.heap.size, 0, none⟩ = some (.int .i64 sn) := (hw5.cell (p := ⟨w2.heap.size, 0, none⟩) (by show w2.heap.size < _; first | omega | (simp; done) | (simp; omega))).trans (by simp [go_sem, cw4_0, cw4_1, cw4_2, cw4_3, cw4_4, cw4_5, cw4_6, cw4_7, lw4_0, lw4_1, lw4_2, lw4_3])
    have cw5_5 : w5.cell? ⟨w2.heap.size, 1, none⟩ = some (.int .i64 sd) := (hw5.cell (p := ⟨w2.heap.size, 1, none⟩) (by show w2.heap.size < _; first | omega | (simp; done) | (simp; omega))).trans (by simp [go_sem, cw4_0, cw4_1, cw4_2, cw4_3, cw4_4, cw4_5, cw4_6, cw4_7, lw4_0, lw4_1, lw4_2, lw4_3])
    have cw5_6 : w5.cell? ⟨w3.heap.size, 0, none⟩ = some (.int .i64 sn) := (hw5.cell (p := ⟨w3.heap.size, 0, none⟩) (by show w3.heap.size < _; first | omega | (simp; done) | (simp; omega))).trans (by simp [go_sem, cw4_0, cw4_1, cw4_2, cw4_3, cw4_4, cw4_5, cw4_6, cw4_7, lw4_0, lw4_1, lw4_2, lw4_3])
    have cw5_7 : w5.cell? ⟨w3.heap.size, 1, none⟩ = some (.int .i64 sd) := (hw5.cell (p := ⟨w3.heap.size, 1, none⟩) (by show w3.heap.size < _; first | omega | (simp; done) | (simp; omega))).trans (by simp [go_sem, cw4_0, cw4_1, cw4_2, cw4_3, cw4_4, cw4_5, cw4_6, cw4_7, lw4_0, lw4_1, lw4_2, lw4_3])
    have cw5_8 : w5.cell? ⟨w4.heap.size, 0, none⟩ = some (.int .i64 sn) := (hw5.cell (p := ⟨w4.heap.size, 0, none⟩) (by show w4.heap.size < _; first | omega | (simp; done) | (simp; omega))).trans (by simp [go_sem, cw4_0, cw4_1, cw4_2, cw4_3, cw4_4, cw4_5, cw4_6, cw4_7, lw4_0, lw4_1, lw4_2, lw4_3])
    have cw5_9 : w5.cell? ⟨w4.heap.size, 1, none⟩ = some (.int .i64 sd) := (hw5.cell (p := ⟨w4.heap.size, 1, none⟩) (by show w4.heap.size < _; first | omega | (simp; done) | (simp; omega))).trans (by simp [go_sem, cw4_0, cw4_1, cw4_2, cw4_3, cw4_4, cw4_5, cw4_6, cw4_7, lw4_0, lw4_1, lw4_2, lw4_3])
    have lw5_0 : w1.heap.size < w5.heap.size := by omega
    have lw5_1 : w1.heap.size + 1 < w5.heap.size := by omega
    have lw5_2 : w2.heap.size < w5.heap.size := by omega
    have lw5_3 : w3.heap.size < w5.heap.size := by omega
    have lw5_4 : w4.heap.size < w5.heap.size := by omega
    have Bw5 : Below w0.heap.size w0 w5 := Below.trans (by repeat (first | with_reducible exact Below.refl _ _ | with_reducible exact Bw4 | with_reducible refine Below.setCell ?_ (by first | omega | (simp; done) | (simp; omega)) _ | with_reducible refine bDrewN ?_ _ | with_reducible refine Below.drew ?_ | with_reducible refine Below.alloc ?_ (by first | omega | (simp; done) | (simp; omega)) _)) (hw5.mono (by first | omega | (simp; done) | (simp; omega)))
    have sBw5 := Bw5.size
    clear cw4_0 cw4_1 cw4_2 cw4_3 cw4_4 cw4_5 cw4_6 cw4_7 lw4_0 lw4_1 lw4_2 lw4_3
    clear hw5 zw4
    go_wp2_with fail
    refine (K5.out _).mono ?_
    rintro e w6 ⟨rfl, hw6⟩
    have zw6 := hw6.size
    try simp at zw6
    have cw6_0 : w6.cell? ⟨w1.heap.size, 0, none⟩ = some (.int .i64 a) := (hw6.cell (p := ⟨w1.heap.size, 0, none⟩) (by show w1.heap.size < _; first | omega | (simp; done) | (simp; omega))).trans (by simp [go_sem, cw5_0, cw5_1, cw5_2, cw5_3, cw5_4, cw5_5, cw5_6, cw5_7, cw5_8, cw5_9, lw5_0, lw5_1, lw5_2, lw5_3, lw5_4])
    have cw6_1 : w6.cell? ⟨w1.heap.size, 1, none⟩ = some (.int .i64 b) := (hw6.cell (p := ⟨w1.heap.size, 1, none⟩) (by show w1.heap.size < _; first | omega | (simp; done) | (simp; omega))).trans (by simp [go_sem, cw5_0, cw5_1, cw5_2, cw5_3, cw5_4, cw5_5, cw5_6, cw5_7, cw5_8, cw5_9, lw5_0, lw5_1, lw5_2, lw5_3, lw5_4])
    have cw6_2 : w6.cell? ⟨w1.heap.size + 1, 0, none⟩ = some (.int .i64 x) := (hw6.cell (p := ⟨w1.heap.size + 1, 0, none⟩) (by show w1.heap.size + 1 < _; first | omega | (simp; done) | (simp; omega))).trans (by simp [go_sem, cw5_0, cw5_1, cw5_2, cw5_3, cw5_4, cw5_5, cw5_6, cw5_7, cw5_8, cw5_9, lw5_0, lw5_1, lw5_2, lw5_3, lw5_4])
    have cw6_3 : w6.cell? ⟨w1.heap.size + 1, 1, none⟩ = some (.int .i64 y) := (hw6.cell (p := ⟨w1.heap.size + 1, 1, none⟩) (by show w1.heap.size + 1 < _; first | omega | (simp; done) | (simp; omega))).trans (by simp [go_sem, cw5_0, cw5_1, cw5_2, cw5_3, cw5_4, cw5_5, cw5_6, cw5_7, cw5_8, cw5_9, lw5_0, lw5_1, lw5_2, lw5_3, lw5_4])
    have cw6_4 : w6.cell? ⟨w2.heap.size, 0, none⟩ = some (.int .i64 sn) := (hw6.cell (p := ⟨w2.heap.size, 0, none⟩) (by show w2.heap.size < _; first | omega | (simp; done) | (simp; omega))).trans (by simp [go_sem, cw5_0, cw5_1, cw5_2, cw5_3, cw5_4, cw5_5, cw5_6, cw5_7, cw5_8, cw5_9, lw5_0, lw5_1, lw5_2, lw5_3, lw5_4])
    have cw6_5 : w6.cell? ⟨w2.heap.size, 1, none⟩ = some (.int .i64 sd) := (hw6.cell (p := ⟨w2.heap.size, 1, none⟩) (by show w2.heap.size < _; first | omega | (simp; done) | (simp; omega))).trans (by simp [go_sem, cw5_0, cw5_1, cw5_2, cw5_3, cw5_4, cw5_5, cw5_6, cw5_7, cw5_8, cw5_9, lw5_0, lw5_1, lw5_2, lw5_3, lw5_4])
    have cw6_6 : w6.cell? ⟨w3.heap.size, 0, none⟩ = some (.int .i64 sn) := (hw6.cell (p := ⟨w3.heap.size, 0, none⟩) (by show w3.heap.size < _; first | omega | (simp; done) | (simp; omega))).trans (by simp [go_sem, cw5_0, cw5_1, cw5_2, cw5_3, cw5_4, cw5_5, cw5_6, cw5_7, cw5_8, cw5_9, lw5_0, lw5_1, lw5_2, lw5_3, lw5_4])
    have cw6_7 : w6.cell? ⟨w3.heap.size, 1, none⟩ = some (.int .i64 sd) := (hw6.cell (p := ⟨w3.heap.size, 1, none⟩) (by show w3.heap.size < _; first | omega | (simp; done) | (simp; omega))).trans (by simp [go_sem, cw5_0, cw5_1, cw5_2, cw5_3, cw5_4, cw5_5, cw5_6, cw5_7, cw5_8, cw5_9, lw5_0, lw5_1, lw5_2, lw5_3, lw5_4])
    have cw6_8 : w6.cell? ⟨w4.heap.size, 0, none⟩ = some (.int .i64 sn) := (hw6.cell (p := ⟨w4.heap.size, 0, none⟩) (by show w4.heap.size < _; first | omega | (simp; done) | (simp; omega))).trans (by simp [go_sem, cw5_0, cw5_1, cw5_2, cw5_3, cw5_4, cw5_5, cw5_6, cw5_7, cw5_8, cw5_9, lw5_0, lw5_1, lw5_2, lw5_3, lw5_4])
    have cw6_9 : w6.cell? ⟨w4.heap.size, 1, none⟩ = some (.int .i64 sd) := (hw6.cell (p := ⟨w4.heap.size, 1, none⟩) (by show w4.heap.size < _; first | omega | (simp; done) | (simp; omega))).trans (by simp [go_sem, cw5_0, cw5_1, cw5_2, cw5_3, cw5_4, cw5_5, cw5_6, cw5_7, cw5_8, cw5_9, lw5_0, lw5_1, lw5_2, lw5_3, lw5_4])
    have cw6_10 : w6.cell? ⟨w5.heap.size, 0, none⟩ = some (.int .i64 pn) := (hw6.cell (p := ⟨w5.heap.size, 0, none⟩) (by show w5.heap.size < _; first | omega | (simp; done) | (simp; omega))).trans (by simp [go_sem, cw5_0, cw5_1, cw5_2, cw5_3, cw5_4, cw5_5, cw5_6, cw5_7, cw5_8, cw5_9, lw5_0, lw5_1, lw5_2, lw5_3, lw5_4])
    have cw6_11 : w6.cell? ⟨w5.heap.size, 1, none⟩ = some (.int .i64 pd) := (hw6.cell (p := ⟨w5.heap.size, 1, none⟩) (by show w5.heap.size < _; first | omega | (simp; done) | (simp; omega))).trans (by simp [go_sem, cw5_0, cw5_1, cw5_2, cw5_3, cw5_4, cw5_5, cw5_6, cw5_7, cw5_8, cw5_9, lw5_0, lw5_1, lw5_2, lw5_3, lw5_4])
    have lw6_0 : w1.heap.size < w6.heap.size := by omega
    have lw6_1 : w1.heap.size + 1 < w6.heap.size := by omega
    have lw6_2 : w2.heap.size < w6.heap.size := by omega
    have lw6_3 : w3.heap.size < w6.heap.size := by omega
    have lw6_4 : w4.heap.size < w6.heap.size := by omega
    have lw6_5 : w5.heap.size < w6.heap.size := by omega
    have Bw6 : Below w0.heap.size w0 w6 := Below.trans (by repeat (first | with_reducible exact Below.refl _ _ | with_reducible exact Bw5 | with_reducible refine Below.setCell ?_ (by first | omega | (simp; done) | (simp; omega)) _ | with_reducible refine bDrewN ?_ _ | with_reducible refine Below.drew ?_ | with_reducible refine Below.alloc ?_ (by first | omega | (simp; done) | (simp; omega)) _)) (hw6.mono (by first | omega | (simp; done) | (simp; omega)))
    have sBw6 := Bw6.size
    clear cw5_0 cw5_1 cw5_2 cw5_3 cw5_4 cw5_5 cw5_6 cw5_7 cw5_8 cw5_9 lw5_0 lw5_1 lw5_2 lw5_3 lw5_4
    clear hw6 zw5
    go_wp2_with fail
    refine (K6.out _).mono ?_
    rintro e w7 ⟨rfl, hw7⟩
    have zw7 := hw7.size
    try simp at zw7
    have cw7_0 : w7.cell? ⟨w1.heap.size, 0, none⟩ = some (.int .i64 a) := (hw7.cell (p := ⟨w1.heap.size, 0, none⟩) (by show w1.heap.size < _; first | omega | (simp; done) | (simp; omega))).trans (by simp [go_sem, cw6_0, cw6_1, cw6_2, cw6_3, cw6_4, cw6_5, cw6_6, cw6_7, cw6_8, cw6_9, cw6_10, cw6_11, lw6_0, lw6_1, lw6_2, lw6_3, lw6_4, lw6_5])
    have cw7_1 : w7.cell? ⟨w1.heap.size, 1, none⟩ = some (.int .i64 b) := (hw7.cell (p := ⟨w1.heap.size, 1, none⟩) (by show w1.heap.size < _; first | omega | (simp; done) | (simp; omega))).trans (by simp [go_sem, cw6_0, cw6_1, cw6_2, cw6_3, cw6_4, cw6_5, cw6_6, cw6_7, cw6_8, cw6_9, cw6_10, cw6_11, lw6_0, lw6_1, lw6_2, lw6_3, lw6_4, lw6_5])
    have cw7_2 : w7.cell? ⟨w1.heap.size + 1, 0, none⟩ = some (.int .i64 x) := (hw7.cell (p := ⟨w1.heap.size + 1, 0, none⟩) (by show w1.heap.size + 1 < _; first | omega | (simp; done) | (simp; omega))).trans (by simp [go_sem, cw6_0, cw6_1, cw6_2, cw6_3, cw6_4, cw6_5, cw6_6, cw6_7, cw6_8, cw6_9, cw6_10, cw6_11, lw6_0, lw6_1, lw6_2, lw6_3, lw6_4, lw6_5])
    have cw7_3 : w7.cell? ⟨w1.heap.size + 1, 1, none⟩ = some (.int .i64 y) := (hw7.cell (p := ⟨w1.heap.size + 1, 1, none⟩) (by show w1.heap.size + 1 < _; first | omega | (simp; done) | (simp; omega))).trans (by simp [go_sem, cw6_0, cw6_1, cw6_2, cw6_3, cw6_4, cw6_5, cw6_6, cw6_7, cw6_8, cw6_9, cw6_10, cw6_11, lw6_0, lw6_1, lw6_2, lw6_3, lw6_4, lw6_5])
    have cw7_4 : w7.cell? ⟨w2.heap.size, 0, none⟩ = some (.int .i64 sn) := (hw7.cell (p := ⟨w2.heap.size, 0, none⟩) (by show w2.heap.size < _; first | omega | (simp; done) | (simp; omega))).trans (by simp [go_sem, cw6_0, cw6_1, cw6_2, cw6_3, cw6_4, cw6_5, cw6_6, cw6_7, cw6_8, cw6_9, cw6_10, cw6_11, lw6_0, lw6_1, lw6_2, lw6_3, lw6_4, lw6_5])
    have cw7_5 : w7.cell? ⟨w2.heap.size, 1, none⟩ = some (.int .i64 sd) := (hw7.cell (p := ⟨w2.heap.size, 1, none⟩) (by show w2.heap.size < _; first | omega | (simp; done) | (simp; omega))).trans (by simp [go_sem, cw6_0, cw6_1, cw6_2, cw6_3, cw6_4, cw6_5, cw6_6, cw6_7, cw6_8, cw6_9, cw6_10, cw6_11, lw6_0, lw6_1, lw6_2, lw6_3, lw6_4, lw6_5])
    have cw7_6 : w7.cell? ⟨w3.heap.size, 0, none⟩ = some (.int .i64 sn) := (hw7.cell (p := ⟨w3.heap.size, 0, none⟩) (by show w3.heap.size < _; first | omega | (simp; done) | (simp; omega))).trans (by simp [go_sem, cw6_0, cw6_1, cw6_2, cw6_3, cw6_4, cw6_5, cw6_6, cw6_7, cw6_8, cw6_9, cw6_10, cw6_11, lw6_0, lw6_1, lw6_2, lw6_3, lw6_4, lw6_5])
    have cw7_7 : w7.cell? ⟨w3.heap.size, 1, none⟩ = some (.int .i64 sd) := (hw7.cell (p := ⟨w3.heap.size, 1, none⟩) (by show w3.heap.size < _; first | omega | (simp; done) | (simp; omega))).trans (by simp [go_sem, cw6_0, cw6_1, cw6_2, cw6_3, cw6_4, cw6_5, cw6_6, cw6_7, cw6_8, cw6_9, cw6_10, cw6_11, lw6_0, lw6_1, lw6_2, lw6_3, lw6_4, lw6_5])
    have cw7_8 : w7.cell? ⟨w4.heap.size, 0, none⟩ = some (.int .i64 sn) := (hw7.cell (p := ⟨w4.heap.size, 0, none⟩) (by show w4.heap.size < _; first | omega | (simp; done) | (simp; omega))).trans (by simp [go_sem, cw6_0, cw6_1, cw6_2, cw6_3, cw6_4, cw6_5, cw6_6, cw6_7, cw6_8, cw6_9, cw6_10, cw6_11, lw6_0, lw6_1, lw6_2, lw6_3, lw6_4, lw6_5])
    have cw7_9 : w7.cell? ⟨w4.heap.size, 1, none⟩ = some (.int .i64 sd) := (hw7.cell (p := ⟨w4.heap.size, 1, none⟩) (by show w4.heap.size < _; first | omega | (simp; done) | (simp; omega))).trans (by simp [go_sem, cw6_0, cw6_1, cw6_2, cw6_3, cw6_4, cw6_5, cw6_6, cw6_7, cw6_8, cw6_9, cw6_10, cw6_11, lw6_0, lw6_1, lw6_2, lw6_3, lw6_4, lw6_5])
    have cw7_10 : w7.cell? ⟨w5.heap.size, 0, none⟩ = some (.int .i64 pn) := (hw7.cell (p := ⟨w5.heap.size, 0, none⟩) (by show w5.heap.size < _; first | omega | (simp; done) | (simp; omega))).trans (by simp [go_sem, cw6_0, cw6_1, cw6_2, cw6_3, cw6_4, cw6_5, cw6_6, cw6_7, cw6_8, cw6_9, cw6_10, cw6_11, lw6_0, lw6_1, lw6_2, lw6_3, lw6_4, lw6_5])
    have cw7_11 : w7.cell? ⟨w5.heap.size, 1, none⟩ = some (.int .i64 pd) := (hw7.cell (p := ⟨w5.heap.size, 1, none⟩) (by show w5.heap.size < _; first | omega | (simp; done) | (simp; omega))).trans (by simp [go_sem, cw6_0, cw6_1, cw6_2, cw6_3, cw6_4, cw6_5, cw6_6, cw6_7, cw6_8, cw6_9, cw6_10, cw6_11, lw6_0, lw6_1, lw6_2, lw6_3, lw6_4, lw6_5])
    have cw7_12 : w7.cell? ⟨w6.heap.size, 0, none⟩ = some (.int .i64 pn) := (hw7.cell (p := ⟨w6.heap.size, 0, none⟩) (by show w6.heap.size < _; first | omega | (simp; done) | (simp; omega))).trans (by simp [go_sem, cw6_0, cw6_1, cw6_2, cw6_3, cw6_4, cw6_5, cw6_6, cw6_7, cw6_8, cw6_9, cw6_10, cw6_11, lw6_0, lw6_1, lw6_2, lw6_3, lw6_4, lw6_5])
    have cw7_13 : w7.cell? ⟨w6.heap.size, 1, none⟩ = some (.int .i64 pd) := (hw7.cell (p := ⟨w6.heap.size, 1, none⟩) (by show w6.heap.size < _; first | omega | (simp; done) | (simp; omega))).trans (by simp [go_sem, cw6_0, cw6_1, cw6_2, cw6_3, cw6_4, cw6_5, cw6_6, cw6_7, cw6_8, cw6_9, cw6_10, cw6_11, lw6_0, lw6_1, lw6_2, lw6_3, lw6_4, lw6_5])
    have lw7_0 : w1.heap.size < w7.heap.size := by omega
    have lw7_1 : w1.heap.size + 1 < w7.heap.size := by omega
    have lw7_2 : w2.heap.size < w7.heap.size := by omega
    have lw7_3 : w3.heap.size < w7.heap.size := by omega
    have lw7_4 : w4.heap.size < w7.heap.size := by omega
    have lw7_5 : w5.heap.size < w7.heap.size := by omega
    have lw7_6 : w6.heap.size < w7.heap.size := by omega
    have Bw7 : Below w0.heap.size w0 w7 := Below.trans (by repeat (first | with_reducible exact Below.refl _ _ | with_reducible exact Bw6 | with_reducible refine Below.setCell ?_ (by first | omega | (simp; done) | (simp; omega)) _ | with_reducible refine bDrewN ?_ _ | with_reducible refine Below.drew ?_ | with_reducible refine Below.alloc ?_ (by first | omega | (simp; done) | (simp; omega)) _)) (hw7.mono (by first | omega | (simp; done) | (simp; omega)))
    have sBw7 := Bw7.size
    clear cw6_0 cw6_1 cw6_2 cw6_3 cw6_4 cw6_5 cw6_6 cw6_7 cw6_8 cw6_9 cw6_10 cw6_11 lw6_0 lw6_1 lw6_2 lw6_3 lw6_4 lw6_5
    clear hw7 zw6
    go_wp2_with fail
    refine (K7.out _).mono ?_
    rintro e w8 ⟨rfl, hw8⟩
    have zw8 := hw8.size
    try simp at zw8
    have cw8_0 : w8.cell? ⟨w1.heap.size, 0, none⟩ = some (.int .i64 a) := (hw8.cell (p := ⟨w1.heap.size, 0, none⟩) (by show w1.heap.size < _; first | omega | (simp; done) | (simp; omega))).trans (by simp [go_sem, cw7_0, cw7_1, cw7_2, cw7_3, cw7_4, cw7_5, cw7_6, cw7_7, cw7_8, cw7_9, cw7_10, cw7_11, cw7_12, cw7_13, lw7_0, lw7_1, lw7_2, lw7_3, lw7_4, lw7_5, lw7_6])
    have cw8_1 : w8.cell? ⟨w1.heap.size, 1, none⟩ = some (.int .i64 b) := (hw8.cell (p := ⟨w1.heap.size, 1, none⟩) (by show w1.heap.size < _; first | omega | (simp; done) | (simp; omega))).trans (by simp [go_sem, cw7_0, cw7_1, cw7_2, cw7_3, cw7_4, cw7_5, cw7_6, cw7_7, cw7_8, cw7_9, cw7_10, cw7_11, cw7_12, cw7_13, lw7_0, lw7_1, lw7_2, lw7_3, lw7_4, lw7_5, lw7_6])
    have cw8_2 : w8.cell? ⟨w1.heap.size + 1, 0, none⟩ = some (.int .i64 x) := (hw8.cell (p := ⟨w1.heap.size + 1, 0, none⟩) (by show w1.heap.size + 1 < _; first | omega | (simp; done) | (simp; omega))).trans (by simp [go_sem, cw7_0, cw7_1, cw7_2, cw7_3, cw7_4, cw7_5, cw7_6, cw7_7, cw7_8, cw7_9, cw7_10, cw7_11, cw7_12, cw7_13, lw7_0, lw7_1, lw7_2, lw7_3, lw7_4, lw7_5, lw7_6])
    have cw8_3 : w8.cell? ⟨w1.heap.size + 1, 1, none⟩ = some (.int .i64 y) := (hw8.cell (p := ⟨w1.heap.size + 1, 1, none⟩) (by show w1.heap.size + 1 < _; first | omega | (simp; done) | (simp; omega))).trans (by simp [go_sem, cw7_0, cw7_1, cw7_2, cw7_3, cw7_4, cw7_5, cw7_6, cw7_7, cw7_8, cw7_9, cw7_10, cw7_11, cw7_12, cw7_13, lw7_0, lw7_1, lw7_2, lw7_3, lw7_4, lw7_5, lw7_6])
    have cw8_4 : w8.cell? ⟨w2.heap.size, 0, none⟩ = some (.int .i64 sn) := (hw8.cell (p := ⟨w2.heap.size, 0, none⟩) (by show w2.heap.size < _; first | omega | (simp; done) | (simp; omega))).trans (by simp [go_sem, cw7_0, cw7_1, cw7_2, cw7_3, cw7_4, cw7_5, cw7_6, cw7_7, cw7_8, cw7_9, cw7_10, cw7_11, cw7_12, cw7_13, lw7_0, lw7_1, lw7_2, lw7_3, lw7_4, lw7_5, lw7_6])
    have cw8_5 : w8.cell? ⟨w2.heap.size, 1, none⟩ = some (.int .i64 sd) := (hw8.cell (p := ⟨w2.heap.size, 1, none⟩) (by show w2.heap.size < _; first | omega | (simp; done) | (simp; omega))).trans (by simp [go_sem, cw7_0, cw7_1, cw7_2, cw7_3, cw7_4, cw7_5, cw7_6, cw7_7, cw7_8, cw7_9, cw7_10, cw7_11, cw7_12, cw7_13, lw7_0, lw7_1, lw7_2, lw7_3, lw7_4, lw7_5, lw7_6])
    have cw8_6 : w8.cell? ⟨w3.heap.size, 0, none⟩ = some (.int .i64 sn) := (hw8.cell (p := ⟨w3.heap.size, 0, none⟩) (by show w3.heap.size < _; first | omega | (simp; done) | (simp; omega))).trans (by simp [go_sem, cw7_0, cw7_1, cw7_2, cw7_3, cw7_4, cw7_5, cw7_6, cw7_7, cw7_8, cw7_9, cw7_10, cw7_11, cw7_12, cw7_13, lw7_0, lw7_1, lw7_2, lw7_3, lw7_4, lw7_5, lw7_6])
    have cw8_7 : w8.cell? ⟨w3.heap.size, 1, none⟩ = some (.int .i64 sd) := (hw8.cell (p := ⟨w3.heap.size, 1, none⟩) (by show w3.heap.size < _; first | omega | (simp; done) | (simp; omega))).trans (by simp [go_sem, cw7_0, cw7_1, cw7_2, cw7_3, cw7_4, cw7_5, cw7_6, cw7_7, cw7_8, cw7_9, cw7_10, cw7_11, cw7_12, cw7_13, lw7_0, lw7_1, lw7_2, lw7_3, lw7_4, lw7_5, lw7_6])
    have cw8_8 : w8.cell? ⟨w4.heap.size, 0, none⟩ = some (.int .i64 sn) := (hw8.cell (p := ⟨w4.heap.size, 0, none⟩) (by show w4.heap.size < _; first | omega | (simp; done) | (simp; omega))).trans (by simp [go_sem, cw7_0, cw7_1, cw7_2, cw7_3, cw7_4, cw7_5, cw7_6, cw7_7, cw7_8, cw7_9, cw7_10, cw7_11, cw7_12, cw7_13, lw7_0, lw7_1, lw7_2, lw7_3, lw7_4, lw7_5, lw7_6])
    have cw8_9 : w8.cell? ⟨w4.heap.size, 1, none⟩ = some (.int .i64 sd) := (hw8.cell (p := ⟨w4.heap.size, 1, none⟩) (by show w4.heap.size < _; first | omega | (simp; done) | (simp; omega))).trans (by simp [go_sem, cw7_0, cw7_1, cw7_2, cw7_3, cw7_4, cw7_5, cw7_6, cw7_7, cw7_8, cw7_9, cw7_10, cw7_11, cw7_12, cw7_13, lw7_0, lw7_1, lw7_2, lw7_3, lw7_4, lw7_5, lw7_6])
    have cw8_10 : w8.cell? ⟨w5.heap.size, 0, none⟩ = some (.int .i64 pn) := (hw8.cell (p := ⟨w5.heap.size, 0, none⟩) (by show w5.heap.size < _; first | omega | (simp; done) | (simp; omega))).trans (by simp [go_sem, cw7_0, cw7_1, cw7_2, cw7_3, cw7_4, cw7_5, cw7_6, cw7_7, cw7_8, cw7_9, cw7_10, cw7_11, cw7_12, cw7_13, lw7_0, lw7_1, lw7_2, lw7_3, lw7_4, lw7_5, lw7_6])
    have cw8_11 : w8.cell? ⟨w5.heap.size, 1, none⟩ = some (.int .i64 pd) := (hw8.cell (p := ⟨w5.heap.size, 1, none⟩) (by show w5.heap.size < _; first | omega | (simp; done) | (simp; omega))).trans (by simp [go_sem, cw7_0, cw7_1, cw7_2, cw7_3, cw7_4, cw7_5, cw7_6, cw7_7, cw7_8, cw7_9, cw7_10, cw7_11, cw7_12, cw7_13, lw7_0, lw7_1, lw7_2, lw7_3, lw7_4, lw7_5, lw7_6])
    have cw8_12 : w8.cell? ⟨w6.heap.size, 0, none⟩ = some (.int .i64 pn) := (hw8.cell (p := ⟨w6.heap.size, 0, none⟩) (by show w6.heap.size < _; first | omega | (simp; done) | (simp; omega))).trans (by simp [go_sem, cw7_0, cw7_1, cw7_2, cw7_3, cw7_4, cw7_5, cw7_6, cw7_7, cw7_8, cw7_9, cw7_10, cw7_11, cw7_12, cw7_13, lw7_0, lw7_1, lw7_2, lw7_3, lw7_4, lw7_5, lw7_6])
    have cw8_13 : w8.cell? ⟨w6.heap.size, 1, none⟩ = some (.int .i64 pd) := (hw8.cell (p := ⟨w6.heap.size, 1, none⟩) (by show w6.heap.size < _; first | omega | (simp; done) | (simp; omega))).trans (by simp [go_sem, cw7_0, cw7_1, cw7_2, cw7_3, cw7_4, cw7_5, cw7_6, cw7_7, cw7_8, cw7_9, cw7_10, cw7_11, cw7_12, cw7_13, lw7_0, lw7_1, lw7_2, lw7_3, lw7_4, lw7_5, lw7_6])
    have lw8_0 : w1.heap.size < w8.heap.size := by omega
    have lw8_1 : w1.heap.size + 1 < w8.heap.size := by omega
    have lw8_2 : w2.heap.size < w8.heap.size := by omega
    have lw8_3 : w3.heap.size < w8.heap.size := by omega
    have lw8_4 : w4.heap.size < w8.heap.size := by omega
    have lw8_5 : w5.heap.size < w8.heap.size := by omega
    have lw8_6 : w6.heap.size < w8.heap.size := by omega
    have Bw8 : Below w0.heap.size w0 w8 := Below.trans (by repeat (first | with_reducible exact Below.refl _ _ | with_reducible exact Bw7 | with_reducible refine Below.setCell ?_ (by first | omega | (simp; done) | (simp; omega)) _ | with_reducible refine bDrewN ?_ _ | with_reducible refine Below.drew ?_ | with_reducible refine Below.alloc ?_ (by first | omega | (simp; done) | (simp; omega)) _)) (hw8.mono (by first | omega | (simp; done) | (simp; omega)))
    have sBw8 := Bw8.size
    clear cw7_0 cw7_1 cw7_2 cw7_3 cw7_4 cw7_5 cw7_6 cw7_7 cw7_8 cw7_9 cw7_10 cw7_11 cw7_12 cw7_13 lw7_0 lw7_1 lw7_2 lw7_3 lw7_4 lw7_5 lw7_6
    clear hw8 zw7
    go_wp2_with fail
    refine (K8.out _).mono ?_
    rintro e w9 ⟨rfl, hw9⟩
    have zw9 := hw9.size
    try simp at zw9
    have cw9_0 : w9.cell? ⟨w1.heap.size, 0, none⟩ = some (.int .i64 a) := (hw9.cell (p := ⟨w1.heap.size, 0, none⟩) (by show w1.heap.size < _; first | omega | (simp; done) | (simp; omega))).trans (by simp [go_sem, cw8_0, cw8_1, cw8_2, cw8_3, cw8_4, cw8_5, cw8_6, cw8_7, cw8_8, cw8_9, cw8_10, cw8_11, cw8_12, cw8_13, lw8_0, lw8_1, lw8_2, lw8_3, lw8_4, lw8_5, lw8_6])
    have cw9_1 : w9.cell? ⟨w1.heap.size, 1, none⟩ = some (.int .i64 b) := (hw9.cell (p := ⟨w1.heap.size, 1, none⟩) (by show w1.heap.size < _; first | omega | (simp; done) | (simp; omega))).trans (by simp [go_sem, cw8_0, cw8_1, cw8_2, cw8_3, cw8_4, cw8_5, cw8_6, cw8_7, cw8_8, cw8_9, cw8_10, cw8_11, cw8_12, cw8_13, lw8_0, lw8_1, lw8_2, lw8_3, lw8_4, lw8_5, lw8_6])
    have cw9_2 : w9.cell? ⟨w1.heap.size + 1, 0, none⟩ = some (.int .i64 x) := (hw9.cell (p := ⟨w1.heap.size + 1, 0, none⟩) (by show w1.heap.size + 1 < _; first | omega | (simp; done) | (simp; omega))).trans (by simp [go_sem, cw8_0, cw8_1, cw8_2, cw8_3, cw8_4, cw8_5, cw8_6, cw8_7, cw8_8, cw8_9, cw8_10, cw8_11, cw8_12, cw8_13, lw8_0, lw8_1, lw8_2, lw8_3, lw8_4, lw8_5, lw8_6])
    have cw9_3 : w9.cell? ⟨w1.heap.size + 1, 1, none⟩ = some (.int .i64 y) := (hw9.cell (p := ⟨w1.heap.size + 1, 1, none⟩) (by show w1.heap.size + 1 < _; first | omega | (simp; done) | (simp; omega))).trans (by simp [go_sem, cw8_0, cw8_1, cw8_2, cw8_3, cw8_4, cw8_5, cw8_6, cw8_7, cw8_8, cw8_9, cw8_10, cw8_11, cw8_12, cw8_13, lw8_0, lw8_1, lw8_2, lw8_3, lw8_4, lw8_5, lw8_6])
    have cw9_4 : w9.cell? ⟨w2.heap.size, 0, none⟩ = some (.int .i64 sn) := (hw9.cell (p := ⟨w2.heap.size, 0, none⟩) (by show w2.heap.size < _; first | omega | (simp; done) | (simp; omega))).trans (by simp [go_sem, cw8_0, cw8_1, cw8_2, cw8_3, cw8_4, cw8_5, cw8_6, cw8_7, cw8_8, cw8_9, cw8_10, cw8_11, cw8_12, cw8_13, lw8_0, lw8_1, lw8_2, lw8_3, lw8_4, lw8_5, lw8_6])
    have cw9_5 : w9.cell? ⟨w2.heap.size, 1, none⟩ = some (.int .i64 sd) := (hw9.cell (p := ⟨w2.heap.size, 1, none⟩) (by show w2.heap.size < _; first | omega | (simp; done) | (simp; omega))).trans (by simp [go_sem, cw8_0, cw8_1, cw8_2, cw8_3, cw8_4, cw8_5, cw8_6, cw8_7, cw8_8, cw8_9, cw8_10, cw8_11, cw8_12, cw8_13, lw8_0, lw8_1, lw8_2, lw8_3, lw8_4, lw8_5, lw8_6])
    have cw9_6 : w9.cell? ⟨w3.heap.size, 0, none⟩ = some (.int .i64 sn) := (hw9.cell (p := ⟨w3.heap.size, 0, none⟩) (by show w3.heap.size < _; first | omega | (simp; done) | (simp; omega))).trans (by simp [go_sem, cw8_0, cw8_1, cw8_2, cw8_3, cw8_4, cw8_5, cw8_6, cw8_7, cw8_8, cw8_9, cw8_10, cw8_11, cw8_12, cw8_13, lw8_0, lw8_1, lw8_2, lw8_3, lw8_4, lw8_5, lw8_6])
    have cw9_7 : w9.cell? ⟨w3.heap.size, 1, none⟩ = some (.int .i64 sd) := (hw9.cell (p := ⟨w3.heap.size, 1, none⟩) (by show w3.heap.size < _; first | omega | (simp; done) | (simp; omega))).trans (by simp [go_sem, cw8_0, cw8_1, cw8_2, cw8_3, cw8_4, cw8_5, cw8_6, cw8_7, cw8_8, cw8_9, cw8_10, cw8_11, cw8_12, cw8_13, lw8_0, lw8_1, lw8_2, lw8_3, lw8_4, lw8_5, lw8_6])
    have cw9_8 : w9.cell? ⟨w4.heap.size, 0, none⟩ = some (.int .i64 sn) := (hw9.cell (p := ⟨w4.heap.size, 0, none⟩) (by show w4.heap.size < _; first | omega | (simp; done) | (simp; omega))).trans (by simp [go_sem, cw8_0, cw8_1, cw8_2, cw8_3, cw8_4, cw8_5, cw8_6, cw8_7, cw8_8, cw8_9, cw8_10, cw8_11, cw8_12, cw8_13, lw8_0, lw8_1, lw8_2, lw8_3, lw8_4, lw8_5, lw8_6])
    have cw9_9 : w9.cell? ⟨w4.heap.size, 1, none⟩ = some (.int .i64 sd) := (hw9.cell (p := ⟨w4.heap.size, 1, none⟩) (by show w4.heap.size < _; first | omega | (simp; done) | (simp; omega))).trans (by simp [go_sem, cw8_0, cw8_1, cw8_2, cw8_3, cw8_4, cw8_5, cw8_6, cw8_7, cw8_8, cw8_9, cw8_10, cw8_11, cw8_12, cw8_13, lw8_0, lw8_1, lw8_2, lw8_3, lw8_4, lw8_5, lw8_6])
    have cw9_10 : w9.cell? ⟨w5.heap.size, 0, none⟩ = some (.int .i64 pn) := (hw9.cell (p := ⟨w5.heap.size, 0, none⟩) (by show w5.heap.size < _; first | omega | (simp; done) | (simp; omega))).trans (by simp [go_sem, cw8_0, cw8_1, cw8_2, cw8_3, cw8_4, cw8_5, cw8_6, cw8_7, cw8_8, cw8_9, cw8_10, cw8_11, cw8_12, cw8_13, lw8_0, lw8_1, lw8_2, lw8_3, lw8_4, lw8_5, lw8_6])
    have cw9_11 : w9.cell? ⟨w5.heap.size, 1, none⟩ = some (.int .i64 pd) := (hw9.cell (p := ⟨w5.heap.size, 1, none⟩) (by show w5.heap.size < _; first | omega | (simp; done) | (simp; omega))).trans (by simp [go_sem, cw8_0, cw8_1, cw8_2, cw8_3, cw8_4, cw8_5, cw8_6, cw8_7, cw8_8, cw8_9, cw8_10, cw8_11, cw8_12, cw8_13, lw8_0, lw8_1, lw8_2, lw8_3, lw8_4, lw8_5, lw8_6])
    have cw9_12 : w9.cell? ⟨w6.heap.size, 0, none⟩ = some (.int .i64 pn) := (hw9.cell (p := ⟨w6.heap.size, 0, none⟩) (by show w6.heap.size < _; first | omega | (simp; done) | (simp; omega))).trans (by simp [go_sem, cw8_0, cw8_1, cw8_2, cw8_3, cw8_4, cw8_5, cw8_6, cw8_7, cw8_8, cw8_9, cw8_10, cw8_11, cw8_12, cw8_13, lw8_0, lw8_1, lw8_2, lw8_3, lw8_4, lw8_5, lw8_6])
    have cw9_13 : w9.cell? ⟨w6.heap.size, 1, none⟩ = some (.int .i64 pd) := (hw9.cell (p := ⟨w6.heap.size, 1, none⟩) (by show w6.heap.size < _; first | omega | (simp; done) | (simp; omega))).trans (by simp [go_sem, cw8_0, cw8_1, cw8_2, cw8_3, cw8_4, cw8_5, cw8_6, cw8_7, cw8_8, cw8_9, cw8_10, cw8_11, cw8_12, cw8_13, lw8_0, lw8_1, lw8_2, lw8_3, lw8_4, lw8_5, lw8_6])
    have lw9_0 : w1.heap.size < w9.heap.size := by omega
    have lw9_1 : w1.heap.size + 1 < w9.heap.size := by omega
    have lw9_2 : w2.heap.size < w9.heap.size := by omega
    have lw9_3 : w3.heap.size < w9.heap.size := by omega
    have lw9_4 : w4.heap.size < w9.heap.size := by omega
    have lw9_5 : w5.heap.size < w9.heap.size := by omega
    have lw9_6 : w6.heap.size < w9.heap.size := by omega
    have Bw9 : Below w0.heap.size w0 w9 := Below.trans (by repeat (first | with_reducible exact Below.refl _ _ | with_reducible exact Bw8 | with_reducible refine Below.setCell ?_ (by first | omega | (simp; done) | (simp; omega)) _ | with_reducible refine bDrewN ?_ _ | with_reducible refine Below.drew ?_ | with_reducible refine Below.alloc ?_ (by first | omega | (simp; done) | (simp; omega)) _)) (hw9.mono (by first | omega | (simp; done) | (simp; omega)))
    have sBw9 := Bw9.size
    clear cw8_0 cw8_1 cw8_2 cw8_3 cw8_4 cw8_5 cw8_6 cw8_7 cw8_8 cw8_9 cw8_10 cw8_11 cw8_12 cw8_13 lw8_0 lw8_1 lw8_2 lw8_3 lw8_4 lw8_5 lw8_6
    clear hw9 zw8
    go_wp2
    go_ret
    exact ⟨by simp, (by repeat (first | with_reducible exact Below.refl _ _ | with_reducible exact Bw9 | with_reducible refine Below.setCell ?_ (by first | omega | (simp; done) | (simp; omega)) _ | with_reducible refine bDrewN ?_ _ | with_reducible refine Below.drew ?_ | with_reducible refine Below.alloc ?_ (by first | omega | (simp; done) | (simp; omega)) _))⟩
  · have K8 : Hid (∀ w, Calls Try.prog 22 #[.agg #[.int .i64 x, .int .i64 y], .agg #[.int .i64 a, .int .i64 b]] w fun e w' => e = .returned (.int .i64 (-cv)) ∧ Below w.heap.size w w') := g3 ▸ K8'
    have K9 : Hid (∀ w, Calls Try.prog 20 #[.agg #[.int .i64 sn, .int .i64 sd], .agg #[.int .i64 (-x), .int .i64 y]] w fun e w' => e = .returned (.tuple #[.agg #[.int .i64 a, .int .i64 b], .bool true]) ∧ Below w.heap.size w w') := g6
    clear D K8' g3 g6
    have ne : ¬ cv = -2 := by omega
    go_wp2_with fail
    refine (K1.out _).mono ?_
    rintro e w2 ⟨rfl, hw2⟩
    have zw2 := hw2.size
    try simp at zw2
    have cw2_0 : w2.cell? ⟨w1.heap.size, 0, none⟩ = some (.int .i64 a) := (hw2.cell (p := ⟨w1.heap.size, 0, none⟩) (by show w1.heap.size < _; first | omega | (simp; done) | (simp; omega))).trans (by simp [go_sem])
    have cw2_1 : w2.cell? ⟨w1.heap.size, 1, none⟩ = some (.int .i64 b) := (hw2.cell (p := ⟨w1.heap.size, 1, none⟩) (by show w1.heap.size < _; first | omega | (simp; done) | (simp; omega))).trans (by simp [go_sem])
    have cw2_2 : w2.cell? ⟨w1.heap.size + 1, 0, none⟩ = some (.int .i64 x) := (hw2.cell (p := ⟨w1.heap.size + 1, 0, none⟩) (by show w1.heap.size + 1 < _; first | omega | (simp; done) | (simp; omega))).trans (by simp [go_sem])
    have cw2_3 : w2.cell? ⟨w1.heap.size + 1, 1, none⟩ = some (.int .i64 y) := (hw2.cell (p := ⟨w1.heap.size + 1, 1, none⟩) (by show w1.heap.size + 1 < _; first | omega | (simp; done) | (simp; omega))).trans (by simp [go_sem])
    have lw2_0 : w1.heap.size < w2.heap.size := by omega
    have lw2_1 : w1.heap.size + 1 < w2.heap.size := by omega
    have Bw2 : Below w0.heap.size w0 w2 := Below.trans (by repeat (first | with_reducible exact Below.refl _ _ | with_reducible exact B1 | with_reducible refine Below.setCell ?_ (by first | omega | (simp; done) | (simp; omega)) _ | with_reducible refine bDrewN ?_ _ | with_reducible refine Below.drew ?_ | with_reducible refine Below.alloc ?_ (by first | omega | (simp; done) | (simp; omega)) _)) (hw2.mono (by first | omega | (simp; done) | (simp; omega)))
    have sBw2 := Bw2.size
    clear hw2
    go_wp2_with fail
    refine (K2.out _).mono ?_
    rintro e w3 ⟨rfl, hw3⟩
    have zw3 := hw3.size
    try simp at zw3
    have cw3_0 : w3.cell? ⟨w1.heap.size, 0, none⟩ = some (.int .i64 a) := (hw3.cell (p := ⟨w1.heap.size, 0, none⟩) (by show w1.heap.size < _; first | omega | (simp; done) | (simp; omega))).trans (by simp [go_sem, cw2_0, cw2_1, cw2_2, cw2_3, lw2_0, lw2_1])
    have cw3_1 : w3.cell? ⟨w1.heap.size, 1, none⟩ = some (.int .i64 b) := (hw3.cell (p := ⟨w1.heap.size, 1, none⟩) (by show w1.heap.size < _; first | omega | (simp; done) | (simp; omega))).trans (by simp [go_sem, cw2_0, cw2_1, cw2_2, cw2_3, lw2_0, lw2_1])
    have cw3_2 : w3.cell? ⟨w1.heap.size + 1, 0, none⟩ = some (.int .i64 x) := (hw3.cell (p := ⟨w1.heap.size + 1, 0, none⟩) (by show w1.heap.size + 1 < _; first | omega | (simp; done) | (simp; omega))).trans (by simp [go_sem, cw2_0, cw2_1, cw2_2, cw2_3, lw2_0, lw2_1])
    have cw3_3 : w3.cell? ⟨w1.heap.size + 1, 1, none⟩ = some (.int .i64 y) := (hw3.cell (p := ⟨w1.heap.size + 1, 1, none⟩) (by show w1.heap.size + 1 < _; first | omega | (simp; done) | (simp; omega))).trans (by simp [go_sem, cw2_0, cw2_1, cw2_2, cw2_3, lw2_0, lw2_1])
    have cw3_4 : w3.cell? ⟨w2.heap.size, 0, none⟩ = some (.int .i64 sn) := (hw3.cell (p := ⟨w2.heap.size, 0, none⟩) (by show w2.heap.size < _; first | omega | (simp; done) | (simp; omega))).trans (by simp [go_sem, cw2_0, cw2_1, cw2_2, cw2_3, lw2_0, lw2_1])
    have cw3_5 : w3.cell? ⟨w2.heap.size, 1, none⟩ = some (.int .i64 sd) := (hw3.cell (p := ⟨w2.heap.size, 1, none⟩) (by show w2.heap.size < _; first | omega | (simp; done) | (simp; omega))).trans (by simp [go_sem, cw2_0, cw2_1, cw2_2, cw2_3, lw2_0, lw2_1])
    have lw3_0 : w1.heap.size < w3.heap.size := by omega
    have lw3_1 : w1.heap.size + 1 < w3.heap.size := by omega
    have lw3_2 : w2.heap.size < w3.heap.size := by omega
    have Bw3 : Below w0.heap.size w0 w3 := Below.trans (by repeat (first | with_reducible exact Below.refl _ _ | with_reducible exact Bw2 | with_reducible refine Below.setCell ?_ (by first | omega | (simp; done) | (simp; omega)) _ | with_reducible refine bDrewN ?_ _ | with_reducible refine Below.drew ?_ | with_reducible refine Below.alloc ?_ (by first | omega | (simp; done) | (simp; omega)) _)) (hw3.mono (by first | omega | (simp; done) | (simp; omega)))
    have sBw3 := Bw3.size
    clear cw2_0 cw2_1 cw2_2 cw2_3 lw2_0 lw2_1
    clear hw3 zw2
    go_wp2_with fail
    refine (K3.out _).mono ?_
    rintro e w4 ⟨rfl, hw4⟩
    have zw4 := hw4.size
    try simp at zw4
    have cw4_0 : w4.cell? ⟨w1.heap.size, 0, none⟩ = some (.int .i64 a) := (hw4.cell (p := ⟨w1.heap.size, 0, none⟩) (by show w1.heap.size < _; first | omega | (simp; done) | (simp; omega))).trans (by simp [go_sem, cw3_0, cw3_1, cw3_2, cw3_3, cw3_4, cw3_5, lw3_0, lw3_1, lw3_2])
    have cw4_1 : w4.cell? ⟨w1.heap.size, 1, none⟩ = some (.int .i64 b) := (hw4.cell (p := ⟨w1.heap.size, 1, none⟩) (by show w1.heap.size < _; first | omega | (simp; done) | (simp; omega))).trans (by simp [go_sem, cw3_0, cw3_1, cw3_2, cw3_3, cw3_4, cw3_5, lw3_0, lw3_1, lw3_2])
    have cw4_2 : w4.cell? ⟨w1.heap.size + 1, 0, none⟩ = some (.int .i64 x) := (hw4.cell (p := ⟨w1.heap.size + 1, 0, none⟩) (by show w1.heap.size + 1 < _; first | omega | (simp; done) | (simp; omega))).trans (by simp [go_sem, cw3_0, cw3_1, cw3_2, cw3_3, cw3_4, cw3_5, lw3_0, lw3_1, lw3_2])
    have cw4_3 : w4.cell? ⟨w1.heap.size + 1, 1, none⟩ = some (.int .i64 y) := (hw4.cell (p := ⟨w1.heap.size + 1, 1, none⟩) (by show w1.heap.size + 1 < _; first | omega | (simp; done) | (simp; omega))).trans (by simp [go_sem, cw3_0, cw3_1, cw3_2, cw3_3, cw3_4, cw3_5, lw3_0, lw3_1, lw3_2])
    have cw4_4 : w4.cell? ⟨w2.heap.size, 0, none⟩ = some (.int .i64 sn) := (hw4.cell (p := ⟨w2.heap.size, 0, none⟩) (by show w2.heap.size < _; first | omega | (simp; done) | (simp; omega))).trans (by simp [go_sem, cw3_0, cw3_1, cw3_2, cw3_3, cw3_4, cw3_5, lw3_0, lw3_1, lw3_2])
    have cw4_5 : w4.cell? ⟨w2.heap.size, 1, none⟩ = some (.int .i64 sd) := (hw4.cell (p := ⟨w2.heap.size, 1, none⟩) (by show w2.heap.size < _; first | omega | (simp; done) | (simp; omega))).trans (by simp [go_sem, cw3_0, cw3_1, cw3_2, cw3_3, cw3_4, cw3_5, lw3_0, lw3_1, lw3_2])
    have cw4_6 : w4.cell? ⟨w3.heap.size, 0, none⟩ = some (.int .i64 sn) := (hw4.cell (p := ⟨w3.heap.size, 0, none⟩) (by show w3.heap.size < _; first | omega | (simp; done) | (simp; omega))).trans (by simp [go_sem, cw3_0, cw3_1, cw3_2, cw3_3, cw3_4, cw3_5, lw3_0, lw3_1, lw3_2])
    have cw4_7 : w4.cell? ⟨w3.heap.size, 1, none⟩ = some (.int .i64 sd) := (hw4.cell (p := ⟨w3.heap.size, 1, none⟩) (by show w3.heap.size < _; first | omega | (simp; done) | (simp; omega))).trans (by simp [go_sem, cw3_0, cw3_1, cw3_2, cw3_3, cw3_4, cw3_5, lw3_0, lw3_1, lw3_2])
    have lw4_0 : w1.heap.size < w4.heap.size := by omega
    have lw4_1 : w1.heap.size + 1 < w4.heap.size := by omega
    have lw4_2 : w2.heap.size < w4.heap.size := by omega
    have lw4_3 : w3.heap.size < w4.heap.size := by omega
    have Bw4 : Below w0.heap.size w0 w4 := Below.trans (by repeat (first | with_reducible exact Below.refl _ _ | with_reducible exact Bw3 | with_reducible refine Below.setCell ?_ (by first | omega | (simp; done) | (simp; omega)) _ | with_reducible refine bDrewN ?_ _ | with_reducible refine Below.drew ?_ | with_reducible refine Below.alloc ?_ (by first | omega | (simp; done) | (simp; omega)) _)) (hw4.mono (by first | omega | (simp; done) | (simp; omega)))
    have sBw4 := Bw4.size
    clear cw3_0 cw3_1 cw3_2 cw3_3 cw3_4 cw3_5 lw3_0 lw3_1 lw3_2
    clear hw4 zw3
    go_wp2_with fail
    refine (K4.out _).mono ?_
    rintro e w5 ⟨rfl, hw5⟩
    have zw5 := hw5.size
    try simp at zw5
    have cw5_0 : w5.cell? ⟨w1.heap.size, 0, none⟩ = some (.int .i64 a) := (hw5.cell (p := ⟨w1.heap.size, 0, none⟩) (by show w1.heap.size < _; first | omega | (simp; done) | (simp; omega))).trans (by simp [go_sem, cw4_0, cw4_1, cw4_2, cw4_3, cw4_4, cw4_5, cw4_6, cw4_7, lw4_0, lw4_1, lw4_2, lw4_3])
    have cw5_1 : w5.cell? ⟨w1.heap.size, 1, none⟩ = some (.int .i64 b) := (hw5.cell (p := ⟨w1.heap.size, 1, none⟩) (by show w1.heap.size < _; first | omega | (simp; done) | (simp; omega))).trans (by simp [go_sem, cw4_0, cw4_1, cw4_2, cw4_3, cw4_4, cw4_5, cw4_6, cw4_7, lw4_0, lw4_1, lw4_2, lw4_3])
    have cw5_2 : w5.cell? ⟨w1.heap.size + 1, 0, none⟩ = some (.int .i64 x) := (hw5.cell (p := ⟨w1.heap.size + 1, 0, none⟩) (by show w1.heap.size + 1 < _; first | omega | (simp; done) | (simp; omega))).trans (by simp [go_sem, cw4_0, cw4_1, cw4_2, cw4_3, cw4_4, cw4_5, cw4_6, cw4_7, lw4_0, lw4_1, lw4_2, lw4_3])
    have cw5_3 : w5.cell? ⟨w1.heap.size + 1, 1, none⟩ = some (.int .i64 y) := (hw5.cell (p := ⟨w1.heap.size + 1, 1, none⟩) (by show w1.heap.size + 1 < _; first | omega | (simp; done) | (simp; omega))).trans (by simp [go_sem, cw4_0, cw4_1, cw4_2, cw4_3, cw4_4, cw4_5, cw4_6, cw4_7, lw4_0, lw4_1, lw4_2, lw4_3])
    have cw5_4 : w5.cell? ⟨w2.heap.size, 0, none⟩ = some (.int .i64 sn) := (hw5.cell (p := ⟨w2.heap.size, 0, none⟩) (by show w2.heap.size < _; first | omega | (simp; done) | (simp; omega))).trans (by simp [go_sem, cw4_0, cw4_1, cw4_2, cw4_3, cw4_4, cw4_5, cw4_6, cw4_7, lw4_0, lw4_1, lw4_2, lw4_3])
    have cw5_5 : w5.cell? ⟨w2.heap.size, 1, none⟩ = some (.int .i64 sd) := (hw5.cell (p := ⟨w2.heap.size, 1, none⟩) (by show w2.heap.size < _; first | omega | (simp; done) | (simp; omega))).trans (by simp [go_sem, cw4_0, cw4_1, cw4_2, cw4_3, cw4_4, cw4_5, cw4_6, cw4_7, lw4_0, lw4_1, lw4_2, lw4_3])
    have cw5_6 : w5.cell? ⟨w3.heap.size, 0, none⟩ = some (.int .i64 sn) := (hw5.cell (p := ⟨w3.heap.size, 0, none⟩) (by show w3.heap.size < _; first | omega | (simp; done) | (simp; omega))).trans (by simp [go_sem, cw4_0, cw4_1, cw4_2, cw4_3, cw4_4, cw4_5, cw4_6, cw4_7, lw4_0, lw4_1, lw4_2, lw4_3])
    have cw5_7 : w5.cell? ⟨w3.heap.size, 1, none⟩ = some (.int .i64 sd) := (hw5.cell (p := ⟨w3.heap.size, 1, none⟩) (by show w3.heap.size < _; first | omega | (simp; done) | (simp; omega))).trans (by simp [go_sem, cw4_0, cw4_1, cw4_2, cw4_3, cw4_4, cw4_5, cw4_6, cw4_7, lw4_0, lw4_1, lw4_2, lw4_3])
    have cw5_8 : w5.cell? ⟨w4.heap.size, 0, none⟩ = some (.int .i64 sn) := (hw5.cell (p := ⟨w4.heap.size, 0, none⟩) (by show w4.heap.size < _; first | omega | (simp; done) | (simp; omega))).trans (by simp [go_sem, cw4_0, cw4_1, cw4_2, cw4_3, cw4_4, cw4_5, cw4_6, cw4_7, lw4_0, lw4_1, lw4_2, lw4_3])
    have cw5_9 : w5.cell? ⟨w4.heap.size, 1, none⟩ = some (.int .i64 sd) := (hw5.cell (p := ⟨w4.heap.size, 1, none⟩) (by show w4.heap.size < _; first | omega | (simp; done) | (simp; omega))).trans (by simp [go_sem, cw4_0, cw4_1, cw4_2, cw4_3, cw4_4, cw4_5, cw4_6, cw4_7, lw4_0, lw4_1, lw4_2, lw4_3])
    have lw5_0 : w1.heap.size < w5.heap.size := by omega
    have lw5_1 : w1.heap.size + 1 < w5.heap.size := by omega
    have lw5_2 : w2.heap.size < w5.heap.size := by omega
    have lw5_3 : w3.heap.size < w5.heap.size := by omega
    have lw5_4 : w4.heap.size < w5.heap.size := by omega
    have Bw5 : Below w0.heap.size w0 w5 := Below.trans (by repeat (first | with_reducible exact Below.refl _ _ | with_reducible exact Bw4 | with_reducible refine Below.setCell ?_ (by first | omega | (simp; done) | (simp; omega)) _ | with_reducible refine bDrewN ?_ _ | with_reducible refine Below.drew ?_ | with_reducible refine Below.alloc ?_ (by first | omega | (simp; done) | (simp; omega)) _)) (hw5.mono (by first | omega | (simp; done) | (simp; omega)))
    have sBw5 := Bw5.size
    clear cw4_0 cw4_1 cw4_2 cw4_3 cw4_4 cw4_5 cw4_6 cw4_7 lw4_0 lw4_1 lw4_2 lw4_3
    clear hw5 zw4
    go_wp2_with fail
    refine (K5.out _).mono ?_
    rintro e w6 ⟨rfl, hw6⟩
    have zw6 := hw6.size
    try simp at zw6
    have cw6_0 : w6.cell? ⟨w1.heap.size, 0, none⟩ = some (.int .i64 a) := (hw6.cell (p := ⟨w1.heap.size, 0, none⟩) (by show w1.heap.size < _; first | omega | (simp; done) | (simp; omega))).trans (by simp [go_sem, cw5_0, cw5_1, cw5_2, cw5_3, cw5_4, cw5_5, cw5_6, cw5_7, cw5_8, cw5_9, lw5_0, lw5_1, lw5_2, lw5_3, lw5_4])
    have cw6_1 : w6.cell? ⟨w1.heap.size, 1, none⟩ = some (.int .i64 b) := (hw6.cell (p := ⟨w1.heap.size, 1, none⟩) (by show w1.heap.size < _; first | omega | (simp; done) | (simp; omega))).trans (by simp [go_sem, cw5_0, cw5_1, cw5_2, cw5_3, cw5_4, cw5_5, cw5_6, cw5_7, cw5_8, cw5_9, lw5_0, lw5_1, lw5_2, lw5_3, lw5_4])
    have cw6_2 : w6.cell? ⟨w1.heap.size + 1, 0, none⟩ = some (.int .i64 x) := (hw6.cell (p := ⟨w1.heap.size + 1, 0, none⟩) (by show w1.heap.size + 1 < _; first | omega | (simp; done) | (simp; omega))).trans (by simp [go_sem, cw5_0, cw5_1, cw5_2, cw5_3, cw5_4, cw5_5, cw5_6, cw5_7, cw5_8, cw5_9, lw5_0, lw5_1, lw5_2, lw5_3, lw5_4])
    have cw6_3 : w6.cell? ⟨w1.heap.size + 1, 1, none⟩ = some (.int .i64 y) := (hw6.cell (p := ⟨w1.heap.size + 1, 1, none⟩) (by show w1.heap.size + 1 < _; first | omega | (simp; done) | (simp; omega))).trans (by simp [go_sem, cw5_0, cw5_1, cw5_2, cw5_3, cw5_4, cw5_5, cw5_6, cw5_7, cw5_8, cw5_9, lw5_0, lw5_1, lw5_2, lw5_3, lw5_4])
    have cw6_4 : w6.cell? ⟨w2.heap.size, 0, none⟩ = some (.int .i64 sn) := (hw6.cell (p := ⟨w2.heap.size, 0, none⟩) (by show w2.heap.size < _; first | omega | (simp; done) | (simp; omega))).trans (by simp [go_sem, cw5_0, cw5_1, cw5_2, cw5_3, cw5_4, cw5_5, cw5_6, cw5_7, cw5_8, cw5_9, lw5_0, lw5_1, lw5_2, lw5_3, lw5_4])
    have cw6_5 : w6.cell? ⟨w2.heap.size, 1, none⟩ = some (.int .i64 sd) := (hw6.cell (p := ⟨w2.heap.size, 1, none⟩) (by show w2.heap.size < _; first | omega | (simp; done) | (simp; omega))).trans (by simp [go_sem, cw5_0, cw5_1, cw5_2, cw5_3, cw5_4, cw5_5, cw5_6, cw5_7, cw5_8, cw5_9, lw5_0, lw5_1, lw5_2, lw5_3, lw5_4])
    have cw6_6 : w6.cell? ⟨w3.heap.size, 0, none⟩ = some (.int .i64 sn) := (hw6.cell (p := ⟨w3.heap.size, 0, none⟩) (by show w3.heap.size < _; first | omega | (simp; done) | (simp; omega))).trans (by simp [go_sem, cw5_0, cw5_1, cw5_2, cw5_3, cw5_4, cw5_5, cw5_6, cw5_7, cw5_8, cw5_9, lw5_0, lw5_1, lw5_2, lw5_3, lw5_4])
    have cw6_7 : w6.cell? ⟨w3.heap.size, 1, none⟩ = some (.int .i64 sd) := (hw6.cell (p := ⟨w3.heap.size, 1, none⟩) (by show w3.heap.size < _; first | omega | (simp; done) | (simp; omega))).trans (by simp [go_sem, cw5_0, cw5_1, cw5_2, cw5_3, cw5_4, cw5_5, cw5_6, cw5_7, cw5_8, cw5_9, lw5_0, lw5_1, lw5_2, lw5_3, lw5_4])
    have cw6_8 : w6.cell? ⟨w4.heap.size, 0, none⟩ = some (.int .i64 sn) := (hw6.cell (p := ⟨w4.heap.size, 0, none⟩) (by show w4.heap.size < _; first | omega | (simp; done) | (simp; omega))).trans (by simp [go_sem, cw5_0, cw5_1, cw5_2, cw5_3, cw5_4, cw5_5, cw5_6, cw5_7, cw5_8, cw5_9, lw5_0, lw5_1, lw5_2, lw5_3, lw5_4])
    have cw6_9 : w6.cell? ⟨w4.heap.size, 1, none⟩ = some (.int .i64 sd) := (hw6.cell (p := ⟨w4.heap.size, 1, none⟩) (by show w4.heap.size < _; first | omega | (simp; done) | (simp; omega))).trans (by simp [go_sem, cw5_0, cw5_1, cw5_2, cw5_3, cw5_4, cw5_5, cw5_6, cw5_7, cw5_8, cw5_9, lw5_0, lw5_1, lw5_2, lw5_3, lw5_4])
    have cw6_10 : w6.cell? ⟨w5.heap.size, 0, none⟩ = some (.int .i64 pn) := (hw6.cell (p := ⟨w5.heap.size, 0, none⟩) (by show w5.heap.size < _; first | omega | (simp; done) | (simp; omega))).trans (by simp [go_sem, cw5_0, cw5_1, cw5_2, cw5_3, cw5_4, cw5_5, cw5_6, cw5_7, cw5_8, cw5_9, lw5_0, lw5_1, lw5_2, lw5_3, lw5_4])
    have cw6_11 : w6.cell? ⟨w5.heap.size, 1, none⟩ = some (.int .i64 pd) := (hw6.cell (p := ⟨w5.heap.size, 1, none⟩) (by show w5.heap.size < _; first | omega | (simp; done) | (simp; omega))).trans (by simp [go_sem, cw5_0, cw5_1, cw5_2, cw5_3, cw5_4, cw5_5, cw5_6, cw5_7, cw5_8, cw5_9, lw5_0, lw5_1, lw5_2, lw5_3, lw5_4])
    have lw6_0 : w1.heap.size < w6.heap.size := by omega
    have lw6_1 : w1.heap.size + 1 < w6.heap.size := by omega
    have lw6_2 : w2.heap.size < w6.heap.size := by omega
    have lw6_3 : w3.heap.size < w6.heap.size := by omega
    have lw6_4 : w4.heap.size < w6.heap.size := by omega
    have lw6_5 : w5.heap.size < w6.heap.size := by omega
    have Bw6 : Below w0.heap.size w0 w6 := Below.trans (by repeat (first | with_reducible exact Below.refl _ _ | with_reducible exact Bw5 | with_reducible refine Below.setCell ?_ (by first | omega | (simp; done) | (simp; omega)) _ | with_reducible refine bDrewN ?_ _ | with_reducible refine Below.drew ?_ | with_reducible refine Below.alloc ?_ (by first | omega | (simp; done) | (simp; omega)) _)) (hw6.mono (by first | omega | (simp; done) | (simp; omega)))
    have sBw6 := Bw6.size
    clear cw5_0 cw5_1 cw5_2 cw5_3 cw5_4 cw5_5 cw5_6 cw5_7 cw5_8 cw5_9 lw5_0 lw5_1 lw5_2 lw5_3 lw5_4
    clear hw6 zw5
    go_wp2_with fail
    refine (K6.out _).mono ?_
    rintro e w7 ⟨rfl, hw7⟩
    have zw7 := hw7.size
    try simp at zw7
    have cw7_0 : w7.cell? ⟨w1.heap.size, 0, none⟩ = some (.int .i64 a) := (hw7.cell (p := ⟨w1.heap.size, 0, none⟩) (by show w1.heap.size < _; first | omega | (simp; done) | (simp; omega))).trans (by simp [go_sem, cw6_0, cw6_1, cw6_2, cw6_3, cw6_4, cw6_5, cw6_6, cw6_7, cw6_8, cw6_9, cw6_10, cw6_11, lw6_0, lw6_1, lw6_2, lw6_3, lw6_4, lw6_5])
    have cw7_1 : w7.cell? ⟨w1.heap.size, 1, none⟩ = some (.int .i64 b) := (hw7.cell (p := ⟨w1.heap.size, 1, none⟩) (by show w1.heap.size < _; first | omega | (simp; done) | (simp; omega))).trans (by simp [go_sem, cw6_0, cw6_1, cw6_2, cw6_3, cw6_4, cw6_5, cw6_6, cw6_7, cw6_8, cw6_9, cw6_10, cw6_11, lw6_0, lw6_1, lw6_2, lw6_3, lw6_4, lw6_5])
    have cw7_2 : w7.cell? ⟨w1.heap.size + 1, 0, none⟩ = some (.int .i64 x) := (hw7.cell (p := ⟨w1.heap.size + 1, 0, none⟩) (by show w1.heap.size + 1 < _; first | omega | (simp; done) | (simp; omega))).trans (by simp [go_sem, cw6_0, cw6_1, cw6_2, cw6_3, cw6_4, cw6_5, cw6_6, cw6_7, cw6_8, cw6_9, cw6_10, cw6_11, lw6_0, lw6_1, lw6_2, lw6_3, lw6_4, lw6_5])
    have cw7_3 : w7.cell? ⟨w1.heap.size + 1, 1, none⟩ = some (.int .i64 y) := (hw7.cell (p := ⟨w1.heap.size + 1, 1, none⟩) (by show w1.heap.size + 1 < _; first | omega | (simp; done) | (simp; omega))).trans (by simp [go_sem, cw6_0, cw6_1, cw6_2, cw6_3, cw6_4, cw6_5, cw6_6, cw6_7, cw6_8, cw6_9, cw6_10, cw6_11, lw6_0, lw6_1, lw6_2, lw6_3, lw6_4, lw6_5])
    have cw7_4 : w7.cell? ⟨w2.heap.size, 0, none⟩ = some (.int .i64 sn) := (hw7.cell (p := ⟨w2.heap.size, 0, none⟩) (by show w2.heap.size < _; first | omega | (simp; done) | (simp; omega))).trans (by simp [go_sem, cw6_0, cw6_1, cw6_2, cw6_3, cw6_4, cw6_5, cw6_6, cw6_7, cw6_8, cw6_9, cw6_10, cw6_11, lw6_0, lw6_1, lw6_2, lw6_3, lw6_4, lw6_5])
    have cw7_5 : w7.cell? ⟨w2.heap.size, 1, none⟩ = some (.int .i64 sd) := (hw7.cell (p := ⟨w2.heap.size, 1, none⟩) (by show w2.heap.size < _; first | omega | (simp; done) | (simp; omega))).trans (by simp [go_sem, cw6_0, cw6_1, cw6_2, cw6_3, cw6_4, cw6_5, cw6_6, cw6_7, cw6_8, cw6_9, cw6_10, cw6_11, lw6_0, lw6_1, lw6_2, lw6_3, lw6_4, lw6_5])
    have cw7_6 : w7.cell? ⟨w3.heap.size, 0, none⟩ = some (.int .i64 sn) := (hw7.cell (p := ⟨w3.heap.size, 0, none⟩) (by show w3.heap.size < _; first | omega | (simp; done) | (simp; omega))).trans (by simp [go_sem, cw6_0, cw6_1, cw6_2, cw6_3, cw6_4, cw6_5, cw6_6, cw6_7, cw6_8, cw6_9, cw6_10, cw6_11, lw6_0, lw6_1, lw6_2, lw6_3, lw6_4, lw6_5])
    have cw7_7 : w7.cell? ⟨w3.heap.size, 1, none⟩ = some (.int .i64 sd) := (hw7.cell (p := ⟨w3.heap.size, 1, none⟩) (by show w3.heap.size < _; first | omega | (simp; done) | (simp; omega))).trans (by simp [go_sem, cw6_0, cw6_1, cw6_2, cw6_3, cw6_4, cw6_5, cw6_6, cw6_7, cw6_8, cw6_9, cw6_10, cw6_11, lw6_0, lw6_1, lw6_2, lw6_3, lw6_4, lw6_5])
    have cw7_8 : w7.cell? ⟨w4.heap.size, 0, none⟩ = some (.int .i64 sn) := (hw7.cell (p := ⟨w4.heap.size, 0, none⟩) (by show w4.heap.size < _; first | omega | (simp; done) | (simp; omega))).trans (by simp [go_sem, cw6_0, cw6_1, cw6_2, cw6_3, cw6_4, cw6_5, cw6_6, cw6_7, cw6_8, cw6_9, cw6_10, cw6_11, lw6_0, lw6_1, lw6_2, lw6_3, lw6_4, lw6_5])
    have cw7_9 : w7.cell? ⟨w4.heap.size, 1, none⟩ = some (.int .i64 sd) := (hw7.cell (p := ⟨w4.heap.size, 1, none⟩) (by show w4.heap.size < _; first | omega | (simp; done) | (simp; omega))).trans (by simp [go_sem, cw6_0, cw6_1, cw6_2, cw6_3, cw6_4, cw6_5, cw6_6, cw6_7, cw6_8, cw6_9, cw6_10, cw6_11, lw6_0, lw6_1, lw6_2, lw6_3, lw6_4, lw6_5])
    have cw7_10 : w7.cell? ⟨w5.heap.size, 0, none⟩ = some (.int .i64 pn) := (hw7.cell (p := ⟨w5.heap.size, 0, none⟩) (by show w5.heap.size < _; first | omega | (simp; done) | (simp; omega))).trans (by simp [go_sem, cw6_0, cw6_1, cw6_2, cw6_3, cw6_4, cw6_5, cw6_6, cw6_7, cw6_8, cw6_9, cw6_10, cw6_11, lw6_0, lw6_1, lw6_2, lw6_3, lw6_4, lw6_5])
    have cw7_11 : w7.cell? ⟨w5.heap.size, 1, none⟩ = some (.int .i64 pd) := (hw7.cell (p := ⟨w5.heap.size, 1, none⟩) (by show w5.heap.size < _; first | omega | (simp; done) | (simp; omega))).trans (by simp [go_sem, cw6_0, cw6_1, cw6_2, cw6_3, cw6_4, cw6_5, cw6_6, cw6_7, cw6_8, cw6_9, cw6_10, cw6_11, lw6_0, lw6_1, lw6_2, lw6_3, lw6_4, lw6_5])
    have cw7_12 : w7.cell? ⟨w6.heap.size, 0, none⟩ = some (.int .i64 pn) := (hw7.cell (p := ⟨w6.heap.size, 0, none⟩) (by show w6.heap.size < _; first | omega | (simp; done) | (simp; omega))).trans (by simp [go_sem, cw6_0, cw6_1, cw6_2, cw6_3, cw6_4, cw6_5, cw6_6, cw6_7, cw6_8, cw6_9, cw6_10, cw6_11, lw6_0, lw6_1, lw6_2, lw6_3, lw6_4, lw6_5])
    have cw7_13 : w7.cell? ⟨w6.heap.size, 1, none⟩ = some (.int .i64 pd) := (hw7.cell (p := ⟨w6.heap.size, 1, none⟩) (by show w6.heap.size < _; first | omega | (simp; done) | (simp; omega))).trans (by simp [go_sem, cw6_0, cw6_1, cw6_2, cw6_3, cw6_4, cw6_5, cw6_6, cw6_7, cw6_8, cw6_9, cw6_10, cw6_11, lw6_0, lw6_1, lw6_2, lw6_3, lw6_4, lw6_5])
    have lw7_0 : w1.heap.size < w7.heap.size := by omega
    have lw7_1 : w1.heap.size + 1 < w7.heap.size := by omega
    have lw7_2 : w2.heap.size < w7.heap.size := by omega
    have lw7_3 : w3.heap.size < w7.heap.size := by omega
    have lw7_4 : w4.heap.size < w7.heap.size := by omega
    have lw7_5 : w5.heap.size < w7.heap.size := by omega
    have lw7_6 : w6.heap.size < w7.heap.size := by omega
    have Bw7 : Below w0.heap.size w0 w7 := Below.trans (by repeat (first | with_reducible exact Below.refl _ _ | with_reducible exact Bw6 | with_reducible refine Below.setCell ?_ (by first | omega | (simp; done) | (simp; omega)) _ | with_reducible refine bDrewN ?_ _ | with_reducible refine Below.drew ?_ | with_reducible refine Below.alloc ?_ (by first | omega | (simp; done) | (simp; omega)) _)) (hw7.mono (by first | omega | (simp; done) | (simp; omega)))
    have sBw7 := Bw7.size
    clear cw6_0 cw6_1 cw6_2 cw6_3 cw6_4 cw6_5 cw6_6 cw6_7 cw6_8 cw6_9 cw6_10 cw6_11 lw6_0 lw6_1 lw6_2 lw6_3 lw6_4 lw6_5
    clear hw7 zw6
    go_wp2_with fail
    refine (K7.out _).mono ?_
    rintro e w8 ⟨rfl, hw8⟩
    have zw8 := hw8.size
    try simp at zw8
    have cw8_0 : w8.cell? ⟨w1.heap.size, 0, none⟩ = some (.int .i64 a) := (hw8.cell (p := ⟨w1.heap.size, 0, none⟩) (by show w1.heap.size < _; first | omega | (simp; done) | (simp; omega))).trans (by simp [go_sem, cw7_0, cw7_1, cw7_2, cw7_3, cw7_4, cw7_5, cw7_6, cw7_7, cw7_8, cw7_9, cw7_10, cw7_11, cw7_12, cw7_13, lw7_0, lw7_1, lw7_2, lw7_3, lw7_4, lw7_5, lw7_6])
    have cw8_1 : w8.cell? ⟨w1.heap.size, 1, none⟩ = some (.int .i64 b) := (hw8.cell (p := ⟨w1.heap.size, 1, none⟩) (by show w1.heap.size < _; first | omega | (simp; done) | (simp; omega))).trans (by simp [go_sem, cw7_0, cw7_1, cw7_2, cw7_3, cw7_4, cw7_5, cw7_6, cw7_7, cw7_8, cw7_9, cw7_10, cw7_11, cw7_12, cw7_13, lw7_0, lw7_1, lw7_2, lw7_3, lw7_4, lw7_5, lw7_6])
    have cw8_2 : w8.cell? ⟨w1.heap.size + 1, 0, none⟩ = some (.int .i64 x) := (hw8.cell (p := ⟨w1.heap.size + 1, 0, none⟩) (by show w1.heap.size + 1 < _; first | omega | (simp; done) | (simp; omega))).trans (by simp [go_sem, cw7_0, cw7_1, cw7_2, cw7_3, cw7_4, cw7_5, cw7_6, cw7_7, cw7_8, cw7_9, cw7_10, cw7_11, cw7_12, cw7_13, lw7_0, lw7_1, lw7_2, lw7_3, lw7_4, lw7_5, lw7_6])
    have cw8_3 : w8.cell? ⟨w1.heap.size + 1, 1, none⟩ = some (.int .i64 y) := (hw8.cell (p := ⟨w1.heap.size + 1, 1, none⟩) (by show w1.heap.size + 1 < _; first | omega | (simp; done) | (simp; omega))).trans (by simp [go_sem, cw7_0, cw7_1, cw7_2, cw7_3, cw7_4, cw7_5, cw7_6, cw7_7, cw7_8, cw7_9, cw7_10, cw7_11, cw7_12, cw7_13, lw7_0, lw7_1, lw7_2, lw7_3, lw7_4, lw7_5, lw7_6])
    have cw8_4 : w8.cell? ⟨w2.heap.size, 0, none⟩ = some (.int .i64 sn) := (hw8.cell (p := ⟨w2.heap.size, 0, none⟩) (by show w2.heap.size < _; first | omega | (simp; done) | (simp; omega))).trans (by simp [go_sem, cw7_0, cw7_1, cw7_2, cw7_3, cw7_4, cw7_5, cw7_6, cw7_7, cw7_8, cw7_9, cw7_10, cw7_11, cw7_12, cw7_13, lw7_0, lw7_1, lw7_2, lw7_3, lw7_4, lw7_5, lw7_6])
    have cw8_5 : w8.cell? ⟨w2.heap.size, 1, none⟩ = some (.int .i64 sd) := (hw8.cell (p := ⟨w2.heap.size, 1, none⟩) (by show w2.heap.size < _; first | omega | (simp; done) | (simp; omega))).trans (by simp [go_sem, cw7_0, cw7_1, cw7_2, cw7_3, cw7_4, cw7_5, cw7_6, cw7_7, cw7_8, cw7_9, cw7_10, cw7_11, cw7_12, cw7_13, lw7_0, lw7_1, lw7_2, lw7_3, lw7_4, lw7_5, lw7_6])
    have cw8_6 : w8.cell? ⟨w3.heap.size, 0, none⟩ = some (.int .i64 sn) := (hw8.cell (p := ⟨w3.heap.size, 0, none⟩) (by show w3.heap.size < _; first | omega | (simp; done) | (simp; omega))).trans (by simp [go_sem, cw7_0, cw7_1, cw7_2, cw7_3, cw7_4, cw7_5, cw7_6, cw7_7, cw7_8, cw7_9, cw7_10, cw7_11, cw7_12, cw7_13, lw7_0, lw7_1, lw7_2, lw7_3, lw7_4, lw7_5, lw7_6])
    have cw8_7 : w8.cell? ⟨w3.heap.size, 1, none⟩ = some (.int .i64 sd) := (hw8.cell (p := ⟨w3.heap.size, 1, none⟩) (by show w3.heap.size < _; first | omega | (simp; done) | (simp; omega))).trans (by simp [go_sem, cw7_0, cw7_1, cw7_2, cw7_3, cw7_4, cw7_5, cw7_6, cw7_7, cw7_8, cw7_9, cw7_10, cw7_11, cw7_12, cw7_13, lw7_0, lw7_1, lw7_2, lw7_3, lw7_4, lw7_5, lw7_6])
    have cw8_8 : w8.cell? ⟨w4.heap.size, 0, none⟩ = some (.int .i64 sn) := (hw8.cell (p := ⟨w4.heap.size, 0, none⟩) (by show w4.heap.size < _; first | omega | (simp; done) | (simp; omega))).trans (by simp [go_sem, cw7_0, cw7_1, cw7_2, cw7_3, cw7_4, cw7_5, cw7_6, cw7_7, cw7_8, cw7_9, cw7_10, cw7_11, cw7_12, cw7_13, lw7_0, lw7_1, lw7_2, lw7_3, lw7_4, lw7_5, lw7_6])
    have cw8_9 : w8.cell? ⟨w4.heap.size, 1, none⟩ = some (.int .i64 sd) := (hw8.cell (p := ⟨w4.heap.size, 1, none⟩) (by show w4.heap.size < _; first | omega | (simp; done) | (simp; omega))).trans (by simp [go_sem, cw7_0, cw7_1, cw7_2, cw7_3, cw7_4, cw7_5, cw7_6, cw7_7, cw7_8, cw7_9, cw7_10, cw7_11, cw7_12, cw7_13, lw7_0, lw7_1, lw7_2, lw7_3, lw7_4, lw7_5, lw7_6])
    have cw8_10 : w8.cell? ⟨w5.heap.size, 0, none⟩ = some (.int .i64 pn) := (hw8.cell (p := ⟨w5.heap.size, 0, none⟩) (by show w5.heap.size < _; first | omega | (simp; done) | (simp; omega))).trans (by simp [go_sem, cw7_0, cw7_1, cw7_2, cw7_3, cw7_4, cw7_5, cw7_6, cw7_7, cw7_8, cw7_9, cw7_10, cw7_11, cw7_12, cw7_13, lw7_0, lw7_1, lw7_2, lw7_3, lw7_4, lw7_5, lw7_6])
    have cw8_11 : w8.cell? ⟨w5.heap.size, 1, none⟩ = some (.int .i64 pd) := (hw8.cell (p := ⟨w5.heap.size, 1, none⟩) (by show w5.heap.size < _; first | omega | (simp; done) | (simp; omega))).trans (by simp [go_sem, cw7_0, cw7_1, cw7_2, cw7_3, cw7_4, cw7_5, cw7_6, cw7_7, cw7_8, cw7_9, cw7_10, cw7_11, cw7_12, cw7_13, lw7_0, lw7_1, lw7_2, lw7_3, lw7_4, lw7_5, lw7_6])
    have cw8_12 : w8.cell? ⟨w6.heap.size, 0, none⟩ = some (.int .i64 pn) := (hw8.cell (p := ⟨w6.heap.size, 0, none⟩) (by show w6.heap.size < _; first | omega | (simp; done) | (simp; omega))).trans (by simp [go_sem, cw7_0, cw7_1, cw7_2, cw7_3, cw7_4, cw7_5, cw7_6, cw7_7, cw7_8, cw7_9, cw7_10, cw7_11, cw7_12, cw7_13, lw7_0, lw7_1, lw7_2, lw7_3, lw7_4, lw7_5, lw7_6])
    have cw8_13 : w8.cell? ⟨w6.heap.size, 1, none⟩ = some (.int .i64 pd) := (hw8.cell (p := ⟨w6.heap.size, 1, none⟩) (by show w6.heap.size < _; first | omega | (simp; done) | (simp; omega))).trans (by simp [go_sem, cw7_0, cw7_1, cw7_2, cw7_3, cw7_4, cw7_5, cw7_6, cw7_7, cw7_8, cw7_9, cw7_10, cw7_11, cw7_12, cw7_13, lw7_0, lw7_1, lw7_2, lw7_3, lw7_4, lw7_5, lw7_6])
    have lw8_0 : w1.heap.size < w8.heap.size := by omega
    have lw8_1 : w1.heap.size + 1 < w8.heap.size := by omega
    have lw8_2 : w2.heap.size < w8.heap.size := by omega
    have lw8_3 : w3.heap.size < w8.heap.size := by omega
    have lw8_4 : w4.heap.size < w8.heap.size := by omega
    have lw8_5 : w5.heap.size < w8.heap.size := by omega
    have lw8_6 : w6.heap.size < w8.heap.size := by omega
    have Bw8 : Below w0.heap.size w0 w8 := Below.trans (by repeat (first | with_reducible exact Below.refl _ _ | with_reducible exact Bw7 | with_reducible refine Below.setCell ?_ (by first | omega | (simp; done) | (simp; omega)) _ | with_reducible refine bDrewN ?_ _ | with_reducible refine Below.drew ?_ | with_reducible refine Below.alloc ?_ (by first | omega | (simp; done) | (simp; omega)) _)) (hw8.mono (by first | omega | (simp; done) | (simp; omega)))
    have sBw8 := Bw8.size
    clear cw7_0 cw7_1 cw7_2 cw7_3 cw7_4 cw7_5 cw7_6 cw7_7 cw7_8 cw7_9 cw7_10 cw7_11 cw7_12 cw7_13 lw7_0 lw7_1 lw7_2 lw7_3 lw7_4 lw7_5 lw7_6
    clear hw8 zw7
    go_wp2_with fail
    refine (K8.out _).mono ?_
    rintro e w9 ⟨rfl, hw9⟩
    have zw9 := hw9.size
    try simp at zw9
    have cw9_0 : w9.cell? ⟨w1.heap.size, 0, none⟩ = some (.int .i64 a) := (hw9.cell (p := ⟨w1.heap.size, 0, none⟩) (by show w1.heap.size < _; first | omega | (simp; done) | (simp; omega))).trans (by simp [go_sem, cw8_0, cw8_1, cw8_2, cw8_3, cw8_4, cw8_5, cw8_6, cw8_7, cw8_8, cw8_9, cw8_10, cw8_11, cw8_12, cw8_13, lw8_0, lw8_1, lw8_2, lw8_3, lw8_4, lw8_5, lw8_6])
    have cw9_1 : w9.cell? ⟨w1.heap.size, 1, none⟩ = some (.int .i64 b) := (hw9.cell (p := ⟨w1.heap.size, 1, none⟩) (by show w1.heap.size < _; first | omega | (simp; done) | (simp; omega))).trans (by simp [go_sem, cw8_0, cw8_1, cw8_2, cw8_3, cw8_4, cw8_5, cw8_6, cw8_7, cw8_8, cw8_9, cw8_10, cw8_11, cw8_12, cw8_13, lw8_0, lw8_1, lw8_2, lw8_3, lw8_4, lw8_5, lw8_6])
    have cw9_2 : w9.cell? ⟨w1.heap.size + 1, 0, none⟩ = some (.int .i64 x) := (hw9.cell (p := ⟨w1.heap.size + 1, 0, none⟩) (by show w1.heap.size + 1 < _; first | omega | (simp; done) | (simp; omega))).trans (by simp [go_sem, cw8_0, cw8_1, cw8_2, cw8_3, cw8_4, cw8_5, cw8_6, cw8_7, cw8_8, cw8_9, cw8_10, cw8_11, cw8_12, cw8_13, lw8_0, lw8_1, lw8_2, lw8_3, lw8_4, lw8_5, lw8_6])
    have cw9_3 : w9.cell? ⟨w1.heap.size + 1, 1, none⟩ = some (.int .i64 y) := (hw9.cell (p := ⟨w1.heap.size + 1, 1, none⟩) (by show w1.heap.size + 1 < _; first | omega | (simp; done) | (simp; omega))).trans (by simp [go_sem, cw8_0, cw8_1, cw8_2, cw8_3, cw8_4, cw8_5, cw8_6, cw8_7, cw8_8, cw8_9, cw8_10, cw8_11, cw8_12, cw8_13, lw8_0, lw8_1, lw8_2, lw8_3, lw8_4, lw8_5, lw8_6])
    have cw9_4 : w9.cell? ⟨w2.heap.size, 0, none⟩ = some (.int .i64 sn) := (hw9.cell (p := ⟨w2.heap.size, 0, none⟩) (by show w2.heap.size < _; first | omega | (simp; done) | (simp; omega))).trans (by simp [go_sem, cw8_0, cw8_1, cw8_2, cw8_3, cw8_4, cw8_5, cw8_6, cw8_7, cw8_8, cw8_9, cw8_10, cw8_11, cw8_12, cw8_13, lw8_0, lw8_1, lw8_2, lw8_3, lw8_4, lw8_5, lw8_6])
    have cw9_5 : w9.cell? ⟨w2.heap.size, 1, none⟩ = some (.int .i64 sd) := (hw9.cell (p := ⟨w2.heap.size, 1, none⟩) (by show w2.heap.size < _; first | omega | (simp; done) | (simp; omega))).trans (by simp [go_sem, cw8_0, cw8_1, cw8_2, cw8_3, cw8_4, cw8_5, cw8_6, cw8_7, cw8_8, cw8_9, cw8_10, cw8_11, cw8_12, cw8_13, lw8_0, lw8_1, lw8_2, lw8_3, lw8_4, lw8_5, lw8_6])
    have cw9_6 : w9.cell? ⟨w3.heap.size, 0, none⟩ = some (.int .i64 sn) := (hw9.cell (p := ⟨w3.heap.size, 0, none⟩) (by show w3.heap.size < _; first | omega | (simp; done) | (simp; omega))).trans (by simp [go_sem, cw8_0, cw8_1, cw8_2, cw8_3, cw8_4, cw8_5, cw8_6, cw8_7, cw8_8, cw8_9, cw8_10, cw8_11, cw8_12, cw8_13, lw8_0, lw8_1, lw8_2, lw8_3, lw8_4, lw8_5, lw8_6])
    have cw9_7 : w9.cell? ⟨w3.heap.size, 1, none⟩ = some (.int .i64 sd) := (hw9.cell (p := ⟨w3.heap.size, 1, none⟩) (by show w3.heap.size < _; first | omega | (simp; done) | (simp; omega))).trans (by simp [go_sem, cw8_0, cw8_1, cw8_2, cw8_3, cw8_4, cw8_5, cw8_6, cw8_7, cw8_8, cw8_9, cw8_10, cw8_11, cw8_12, cw8_13, lw8_0, lw8_1, lw8_2, lw8_3, lw8_4, lw8_5, lw8_6])
    have cw9_8 : w9.cell? ⟨w4.heap.size, 0, none⟩ = some (.int .i64 sn) := (hw9.cell (p := ⟨w4.heap.size, 0, none⟩) (by show w4.heap.size < _; first | omega | (simp; done) | (simp; omega))).trans (by simp [go_sem, cw8_0, cw8_1, cw8_2, cw8_3, cw8_4, cw8_5, cw8_6, cw8_7, cw8_8, cw8_9, cw8_10, cw8_11, cw8_12, cw8_13, lw8_0, lw8_1, lw8_2, lw8_3, lw8_4, lw8_5, lw8_6])
    have cw9_9 : w9.cell? ⟨w4.heap.size, 1, none⟩ = some (.int .i64 sd) := (hw9.cell (p := ⟨w4.heap.size, 1, none⟩) (by show w4.heap.size < _; first | omega | (simp; done) | (simp; omega))).trans (by simp [go_sem, cw8_0, cw8_1, cw8_2, cw8_3, cw8_4, cw8_5, cw8_6, cw8_7, cw8_8, cw8_9, cw8_10, cw8_11, cw8_12, cw8_13, lw8_0, lw8_1, lw8_2, lw8_3, lw8_4, lw8_5, lw8_6])
    have cw9_10 : w9.cell? ⟨w5.heap.size, 0, none⟩ = some (.int .i64 pn) := (hw9.cell (p := ⟨w5.heap.size, 0, none⟩) (by show w5.heap.size < _; first | omega | (simp; done) | (simp; omega))).trans (by simp [go_sem, cw8_0, cw8_1, cw8_2, cw8_3, cw8_4, cw8_5, cw8_6, cw8_7, cw8_8, cw8_9, cw8_10, cw8_11, cw8_12, cw8_13, lw8_0, lw8_1, lw8_2, lw8_3, lw8_4, lw8_5, lw8_6])
    have cw9_11 : w9.cell? ⟨w5.heap.size, 1, none⟩ = some (.int .i64 pd) := (hw9.cell (p := ⟨w5.heap.size, 1, none⟩) (by show w5.heap.size < _; first | omega | (simp; done) | (simp; omega))).trans (by simp [go_sem, cw8_0, cw8_1, cw8_2, cw8_3, cw8_4, cw8_5, cw8_6, cw8_7, cw8_8, cw8_9, cw8_10, cw8_11, cw8_12, cw8_13, lw8_0, lw8_1, lw8_2, lw8_3, lw8_4, lw8_5, lw8_6])
    have cw9_12 : w9.cell? ⟨w6.heap.size, 0, none⟩ = some (.int .i64 pn) := (hw9.cell (p := ⟨w6.heap.size, 0, none⟩) (by show w6.heap.size < _; first | omega | (simp; done) | (simp; omega))).trans (by simp [go_sem, cw8_0, cw8_1, cw8_2, cw8_3, cw8_4, cw8_5, cw8_6, cw8_7, cw8_8, cw8_9, cw8_10, cw8_11, cw8_12, cw8_13, lw8_0, lw8_1, lw8_2, lw8_3, lw8_4, lw8_5, lw8_6])
    have cw9_13 : w9.cell? ⟨w6.heap.size, 1, none⟩ = some (.int .i64 pd) := (hw9.cell (p := ⟨w6.heap.size, 1, none⟩) (by show w6.heap.size < _; first | omega | (simp; done) | (simp; omega))).trans (by simp [go_sem, cw8_0, cw8_1, cw8_2, cw8_3, cw8_4, cw8_5, cw8_6, cw8_7, cw8_8, cw8_9, cw8_10, cw8_11, cw8_12, cw8_13, lw8_0, lw8_1, lw8_2, lw8_3, lw8_4, lw8_5, lw8_6])
    have lw9_0 : w1.heap.size < w9.heap.size := by omega
    have lw9_1 : w1.heap.size + 1 < w9.heap.size := by omega
    have lw9_2 : w2.heap.size < w9.heap.size := by omega
    have lw9_3 : w3.heap.size < w9.heap.size := by omega
    have lw9_4 : w4.heap.size < w9.heap.size := by omega
    have lw9_5 : w5.heap.size < w9.heap.size := by omega
    have lw9_6 : w6.heap.size < w9.heap.size := by omega
    have Bw9 : Below w0.heap.size w0 w9 := Below.trans (by repeat (first | with_reducible exact Below.refl _ _ | with_reducible exact Bw8 | with_reducible refine Below.setCell ?_ (by first | omega | (simp; done) | (simp; omega)) _ | with_reducible refine bDrewN ?_ _ | with_reducible refine Below.drew ?_ | with_reducible refine Below.alloc ?_ (by first | omega | (simp; done) | (simp; omega)) _)) (hw9.mono (by first | omega | (simp; done) | (simp; omega)))
    have sBw9 := Bw9.size
    clear cw8_0 cw8_1 cw8_2 cw8_3 cw8_4 cw8_5 cw8_6 cw8_7 cw8_8 cw8_9 cw8_10 cw8_11 cw8_12 cw8_13 lw8_0 lw8_1 lw8_2 lw8_3 lw8_4 lw8_5 lw8_6
    clear hw9 zw8
    go_wp2_with fail
    refine (K9.out _).mono ?_
    rintro e w10 ⟨rfl, hw10⟩
    have zw10 := hw10.size
    try simp at zw10
    have cw10_0 : w10.cell? ⟨w1.heap.size, 0, none⟩ = some (.int .i64 a) := (hw10.cell (p := ⟨w1.heap.size, 0, none⟩) (by show w1.heap.size < _; first | omega | (simp; done) | (simp; omega))).trans (by simp [go_sem, cw9_0, cw9_1, cw9_2, cw9_3, cw9_4, cw9_5, cw9_6, cw9_7, cw9_8, cw9_9, cw9_10, cw9_11, cw9_12, cw9_13, lw9_0, lw9_1, lw9_2, lw9_3, lw9_4, lw9_5, lw9_6])
    have cw10_1 : w10.cell? ⟨w1.heap.size, 1, none⟩ = some (.int .i64 b) := (hw10.cell (p := ⟨w1.heap.size, 1, none⟩) (by show w1.heap.size < _; first | omega | (simp; done) | (simp; omega))).trans (by simp [go_sem, cw9_0, cw9_1, cw9_2, cw9_3, cw9_4, cw9_5, cw9_6, cw9_7, cw9_8, cw9_9, cw9_10, cw9_11, cw9_12, cw9_13, lw9_0, lw9_1, lw9_2, lw9_3, lw9_4, lw9_5, lw9_6])
    have cw10_2 : w10.cell? ⟨w1.heap.size + 1, 0, none⟩ = some (.int .i64 x) := (hw10.cell (p := ⟨w1.heap.size + 1, 0, none⟩) (by show w1.heap.size + 1 < _; first | omega | (simp; done) | (simp; omega))).trans (by simp [go_sem, cw9_0, cw9_1, cw9_2, cw9_3, cw9_4, cw9_5, cw9_6, cw9_7, cw9_8, cw9_9, cw9_10, cw9_11, cw9_12, cw9_13, lw9_0, lw9_1, lw9_2, lw9_3, lw9_4, lw9_5, lw9_6])
    have cw10_3 : w10.cell? ⟨w1.heap.size + 1, 1, none⟩ = some (.int .i64 y) := (hw10.cell (p := ⟨w1.heap.size + 1, 1, none⟩) (by show w1.heap.size + 1 < _; first | omega | (simp; done) | (simp; omega))).trans (by simp [go_sem, cw9_0, cw9_1, cw9_2, cw9_3, cw9_4, cw9_5, cw9_6, cw9_7, cw9_8, cw9_9, cw9_10, cw9_11, cw9_12, cw9_13, lw9_0, lw9_1, lw9_2, lw9_3, lw9_4, lw9_5, lw9_6])
    have cw10_4 : w10.cell? ⟨w2.heap.size, 0, none⟩ = some (.int .i64 sn) := (hw10.cell (p := ⟨w2.heap.size, 0, none⟩) (by show w2.heap.size < _; first | omega | (simp; done) | (simp; omega))).trans (by simp [go_sem, cw9_0, cw9_1, cw9_2, cw9_3, cw9_4, cw9_5, cw9_6, cw9_7, cw9_8, cw9_9, cw9_10, cw9_11, cw9_12, cw9_13, lw9_0, lw9_1, lw9_2, lw9_3, lw9_4, lw9_5, lw9_6])
    have cw10_5 : w10.cell? ⟨w2.heap.size, 1, none⟩ = some (.int .i64 sd) := (hw10.cell (p := ⟨w2.heap.size, 1, none⟩) (by show w2.heap.size < _; first | omega | (simp; done) | (simp; omega))).trans (by simp [go_sem, cw9_0, cw9_1, cw9_2, cw9_3, cw9_4, cw9_5, cw9_6, cw9_7, cw9_8, cw9_9, cw9_10, cw9_11, cw9_12, cw9_13, lw9_0, lw9_1, lw9_2, lw9_3, lw9_4, lw9_5, lw9_6])
    have cw10_6 : w10.cell? ⟨w3.heap.size, 0, none⟩ = some (.int .i64 sn) := (hw10.cell (p := ⟨w3.heap.size, 0, none⟩) (by show w3.heap.size < _; first | omega | (simp; done) | (simp; omega))).trans (by simp [go_sem, cw9_0, cw9_1, cw9_2, cw9_3, cw9_4, cw9_5, cw9_6, cw9_7, cw9_8, cw9_9, cw9_10, cw9_11, cw9_12, cw9_13, lw9_0, lw9_1, lw9_2, lw9_3, lw9_4, lw9_5, lw9_6])
    have cw10_7 : w10.cell? ⟨w3.heap.size, 1, none⟩ = some (.int .i64 sd) := (hw10.cell (p := ⟨w3.heap.size, 1, none⟩) (by show w3.heap.size < _; first | omega | (simp; done) | (simp; omega))).trans (by simp [go_sem, cw9_0, cw9_1, cw9_2, cw9_3, cw9_4, cw9_5, cw9_6, cw9_7, cw9_8, cw9_9, cw9_10, cw9_11, cw9_12, cw9_13, lw9_0, lw9_1, lw9_2, lw9_3, lw9_4, lw9_5, lw9_6])
    have cw10_8 : w10.cell? ⟨w4.heap.size, 0, none⟩ = some (.int .i64 sn) := (hw10.cell (p := ⟨w4.heap.size, 0, none⟩) (by show w4.heap.size < _; first | omega | (simp; done) | (simp; omega))).trans (by simp [go_sem, cw9_0, cw9_1, cw9_2, cw9_3, cw9_4, cw9_5, cw9_6, cw9_7, cw9_8, cw9_9, cw9_10, cw9_11, cw9_12, cw9_13, lw9_0, lw9_1, lw9_2, lw9_3, lw9_4, lw9_5, lw9_6])
    have cw10_9 : w10.cell? ⟨w4.heap.size, 1, none⟩ = some (.int .i64 sd) := (hw10.cell (p := ⟨w4.heap.size, 1, none⟩) (by show w4.heap.size < _; first | omega | (simp; done) | (simp; omega))).trans (by simp [go_sem, cw9_0, cw9_1, cw9_2, cw9_3, cw9_4, cw9_5, cw9_6, cw9_7, cw9_8, cw9_9, cw9_10, cw9_11, cw9_12, cw9_13, lw9_0, lw9_1, lw9_2, lw9_3, lw9_4, lw9_5, lw9_6])
    have cw10_10 : w10.cell? ⟨w5.heap.size, 0, none⟩ = some (.int .i64 pn) := (hw10.cell (p := ⟨w5.heap.size, 0, none⟩) (by show w5.heap.size < _; first | omega | (simp; done) | (simp; omega))).trans (by simp [go_sem, cw9_0, cw9_1, cw9_2, cw9_3, cw9_4, cw9_5, cw9_6, cw9_7, cw9_8, cw9_9, cw9_10, cw9_11, cw9_12, cw9_13, lw9_0, lw9_1, lw9_2, lw9_3, lw9_4, lw9_5, lw9_6])
    have cw10_11 : w10.cell? ⟨w5.heap.size, 1, none⟩ = some (.int .i64 pd) := (hw10.cell (p := ⟨w5.heap.size, 1, none⟩) (by show w5.heap.size < _; first | omega | (simp; done) | (simp; omega))).trans (by simp [go_sem, cw9_0, cw9_1, cw9_2, cw9_3, cw9_4, cw9_5, cw9_6, cw9_7, cw9_8, cw9_9, cw9_10, cw9_11, cw9_12, cw9_13, lw9_0, lw9_1, lw9_2, lw9_3, lw9_4, lw9_5, lw9_6])
    have cw10_12 : w10.cell? ⟨w6.heap.size, 0, none⟩ = some (.int .i64 pn) := (hw10.cell (p := ⟨w6.heap.size, 0, none⟩) (by show w6.heap.size < _; first | omega | (simp; done) | (simp; omega))).trans (by simp [go_sem, cw9_0, cw9_1, cw9_2, cw9_3, cw9_4, cw9_5, cw9_6, cw9_7, cw9_8, cw9_9, cw9_10, cw9_11, cw9_12, cw9_13, lw9_0, lw9_1, lw9_2, lw9_3, lw9_4, lw9_5, lw9_6])
    have cw10_13 : w10.cell? ⟨w6.heap.size, 1, none⟩ = some (.int .i64 pd) := (hw10.cell (p := ⟨w6.heap.size, 1, none⟩) (by show w6.heap.size < _; first | omega | (simp; done) | (simp; omega))).trans (by simp [go_sem, cw9_0, cw9_1, cw9_2, cw9_3, cw9_4, cw9_5, cw9_6, cw9_7, cw9_8, cw9_9, cw9_10, cw9_11, cw9_12, cw9_13, lw9_0, lw9_1, lw9_2, lw9_3, lw9_4, lw9_5, lw9_6])
    have lw10_0 : w1.heap.size < w10.heap.size := by omega
    have lw10_1 : w1.heap.size + 1 < w10.heap.size := by omega
    have lw10_2 : w2.heap.size < w10.heap.size := by omega
    have lw10_3 : w3.heap.size < w10.heap.size := by omega
    have lw10_4 : w4.heap.size < w10.heap.size := by omega
    have lw10_5 : w5.heap.size < w10.heap.size := by omega
    have lw10_6 : w6.heap.size < w10.heap.size := by omega
    have Bw10 : Below w0.heap.size w0 w10 := Below.trans (by repeat (first | with_reducible exact Below.refl _ _ | with_reducible exact Bw9 | with_reducible refine Below.setCell ?_ (by first | omega | (simp; done) | (simp; omega)) _ | with_reducible refine bDrewN ?_ _ | with_reducible refine Below.drew ?_ | with_reducible refine Below.alloc ?_ (by first | omega | (simp; done) | (simp; omega)) _)) (hw10.mono (by first | omega | (simp; done) | (simp; omega)))
    have sBw10 := Bw10.size
    clear cw9_0 cw9_1 cw9_2 cw9_3 cw9_4 cw9_5 cw9_6 cw9_7 cw9_8 cw9_9 cw9_10 cw9_11 cw9_12 cw9_13 lw9_0 lw9_1 lw9_2 lw9_3 lw9_4 lw9_5 lw9_6
    clear hw10 zw9
    go_wp2
    go_ret
    exact ⟨by simp, (by repeat (first | with_reducible exact Below.refl _ _ | with_reducible exact Bw10 | with_reducible refine Below.setCell ?_ (by first | omega | (simp; done) | (simp; omega)) _ | with_reducible refine bDrewN ?_ _ | with_reducible refine Below.drew ?_ | with_reducible refine Below.alloc ?_ (by first | omega | (simp; done) | (simp; omega)) _))⟩

theorem fnFracs_walk (w : World) (s : Option Addr) (n c : Nat) (hn : n ≤ 9223372036854775807) (R : Bytes w s n) :
    Calls Try.prog 4 #[.slice s n c] w fun e w' => e = .returned (.bool true) ∧ Below w.heap.size w w' := by
  by_cases h : n ≤ 1048576
  · exact fnFracs_near w s n c (by omega) (R.code h)
  · exact fnFracs_far w s n c (by omega)

set_option maxRecDepth 100000 in
theorem fnFracs_lifted (os : Os) (started : os.Started) (H : Type) (enc : TypeId × Value → H) :
    ReturnsInHanded {} Try.checked os 4 .any (Rows.fnFracsSpec.pre6 enc Try.prog Try.f4 Rows.fnFracsRow.domain false) (Rows.fnFracsSpec.post enc Try.prog Try.f4 false true false false) := by
  refine returnsInHanded_of_change (C := Try.checked) own started (by kernel_rfl) Try.func4
    (ChangeSpec.witness6 (enc := enc) (C := Try.checked) false ⟨#[], #[.slice none 0 0], []⟩ 8 (by kernel_rfl) (by kernel_rfl) (by kernel_rfl) (by kernel_rfl)) ?_
  intro W base args ds gs before hval0 hW hcnd _
  have hval : ∀ (j : Nat) t v, Try.f4.params[j]? = some t → args[j]? = some v → Value.okWide Try.prog W .any base t v := hval0
  have hW' := hW
  obtain ⟨p, q, hA0, hV, rfl, hfz, hnd⟩ := hW
  have hA : DataW.TrodAll enc Try.prog W 0 (fun _ => true) true Try.f4.params.toList args.toList ds p := hA0
  rw [Try.params4] at hA hval
  obtain ⟨v0, vs0, d0, ds0, p0, q0, hargs, rfl, rfl, h0, r0⟩ := trodAll_cons hA
  obtain ⟨rfl, rfl, rfl⟩ := trodAll_nil r0
  obtain rfl : args = #[v0] := by cases args; simp_all
  obtain ⟨rfl, rfl⟩ := trodVars_none hV
  have k0 := h0
  have lt0 : ∀ x ∈ p0, x.block < W.heap.size := by obtain ⟨m, hm⟩ := k0; exact DataW.trod_lt m _ _ _ hm
  obtain ⟨s0, n0, c0, rfl, m0, R0⟩ := open_code Try.underlying22 Try.underlying5 (by kernel_rfl) (hval 0 22 v0 rfl rfl) h0
  clear hA0 hval0
  refine (fnFracs_walk W s0 n0 c0 m0 R0).mono fun e W' ⟨he, bel⟩ => ?_
  subst he
  exact ⟨_, rfl, _, _, _, [], _, [], hW', trodAll_mk1 (shut_bool Try.underlying4 _), (trodAll_cons_mk (Below.trod laidOut (by kernel_rfl) (of_decide_eq_true (by kernel_rfl)) k0 bel lt0) trodAll_mk0), rfl, bel.frame _, fun h => by cases h⟩

theorem fnFracs_holds : Rows.FnFracsSaid :=
  OpenClaim.holds_of_wide 4 Try.f4 rfl rfl rfl rfl rfl rfl rfl ⟨rfl, rfl, rfl, rfl, rfl⟩ rfl rfl rfl rfl rfl (by kernel_rfl) Try.func4 (by kernel_rfl)
    (of_decide_eq_true (by kernel_rfl)) (by unfold Func.isWrapper; first | (rw [if_pos (by decide +kernel)]; kernel_rfl) | (rw [if_neg (by decide +kernel)]; exact ⟨rfl, rfl⟩))
    (fun os started H enc _ => fnFracs_lifted os started H enc)
#print axioms fnFracs_holds
end Go.Proofs.Ytjbljlajoalheaa
