/-
What is proved: every gas that is drawn from a code, right and in balance, keeps its atoms, nothing below 0; in balance already it stays as it is; no condition.
-/
import Derived.Test.YtnimndpphphcnaaBaG
import Derived.Test.YtnimndpphphcnaaBalS
import Derived.Test.YtnimndpphphcnaaBalI
import Derived.Test.YtnimndpphphcnaaOpen8
import Derived.Deep.DeepCutAuto
import Derived.Deep.QuietTactic
namespace Go.Proofs.Ytnimndpphphcnaa
set_option maxRecDepth 40000
open Go.ChangeShapes Go.WideShapes Go.ChangeAt Go.RowKit
set_option linter.unusedVariables false
set_option linter.unusedSimpArgs false

theorem bal_pack {a b c d n e : Int} {v : Value} (h : balV a b c d n e v) : v = .tuple #[.agg #[.int .i64 0, .int .i64 0, .int .i64 0, .int .i64 0], .int .i64 0, .bool false] ∨ ∃ A B C D X ov : Int, v = .tuple #[.agg #[.int .i64 A, .int .i64 B, .int .i64 C, .int .i64 D], .int .i64 ov, .bool true] ∧ a = A + X ∧ b = B + X ∧ c = C - X ∧ d = D - X ∧ (0 ≤ A ∧ A ≤ 20000) ∧ (0 ≤ B ∧ B ≤ 20000) ∧ (0 ≤ C ∧ C ≤ 20000) ∧ (0 ≤ D ∧ D ≤ 20000) ∧ (-10000 ≤ X ∧ X ≤ 10000) ∧ 0 ≤ ov ∧ (A ≤ 10000 → B ≤ 10000 → C ≤ 10000 → D ≤ 10000 → balV A B C D n e v) := by
  rcases h with ⟨h1, rfl⟩ | ⟨h1, X, ⟨x1, x2, x3, x4⟩, rfl⟩
  · exact Or.inl rfl
  · refine Or.inr ⟨a - X, b - X, c + X, d + X, X, overV a b c d n e X, rfl, ?_⟩
    have hb := h1
    unfold balB at hb
    simp only [Bool.and_eq_true, decide_eq_true_iff] at hb
    obtain ⟨⟨⟨a0, a1⟩, ⟨b0, b1⟩, ⟨c0, c1⟩, ⟨d0, d1⟩, n0, e0⟩, hr⟩ := hb
    have q1 : X ≤ a := by omega
    have q2 : X ≤ b := by omega
    have q3 : -X ≤ c := by omega
    have q4 : -X ≤ d := by omega
    refine ⟨by omega, by omega, by omega, by omega, by omega, by omega, by omega, by omega, by omega, x3, fun k1 k2 k3 k4 => ?_⟩
    have eo : ∀ y, overV (a - X) (b - X) (c + X) (d + X) n e y = overV a b c d n e (X + y) := fun y => by
      unfold overV
      rw [show a - X - y = a - (X + y) by omega, show b - X - y = b - (X + y) by omega, show c + X + y = c + (X + y) by omega, show d + X + y = d + (X + y) by omega]
    refine Or.inr ⟨?_, 0, ⟨by omega, by omega, ?_, fun y y1 y2 => ?_⟩, ?_⟩
    · unfold balB
      rw [decide_eq_true ⟨⟨by omega, k1⟩, ⟨by omega, k2⟩, ⟨by omega, k3⟩, ⟨by omega, k4⟩, n0, e0⟩, hr]
      rfl
    · rw [eo, Int.add_zero]; exact x3
    · rw [eo]; exact x4 _ (by omega) (by omega)
    · rw [eo, Int.add_zero, Int.sub_zero, Int.sub_zero, Int.add_zero, Int.add_zero]
set_option maxHeartbeats 400000 in
theorem bald_far (w : World) (s : Option Addr) (n c : Nat) (h : (1048576 : Int) < n) :
    Calls Try.prog 3 #[.slice s n c] w fun e w' => e = .returned (.bool true) ∧ Below w.heap.size w w' := by
  go_enter Try.func3, Try.ntmps3
  go_wp2_with fail
  refine (big_yes _ _ _ _ h).mono ?_
  rintro e w1 ⟨rfl, rfl⟩
  go_wp2
  go_ret
  exact ⟨rfl, Below.refl _ _⟩
set_option maxRecDepth 20000 in
set_option maxHeartbeats 16000000 in
theorem bald_near (w : World) (s : Option Addr) (n c : Nat) (h : (n : Int) ≤ 1048576) (HC : Hid (Code8 w s n)) :
    Calls Try.prog 3 #[.slice s n c] w fun e w' => e = .returned (.bool true) ∧ Below w.heap.size w w' := by
  go_enter Try.func3, Try.ntmps3
  go_wp2_with fail
  refine (big_no _ _ _ _ h).mono ?_
  rintro e w1 ⟨rfl, rfl⟩
  go_wp2_with fail
  refine (drawBalance_any HC).mono ?_
  rintro e w2 ⟨a0, a1, a2, a3, k0, k1, rfl, hk0, hk1, B2⟩
  obtain ⟨v, hv, SV⟩ := specBalance_any a0 a1 a2 a3 k0 k1 (wf_i64 hk0).1 (wf_i64 hk0).2 (wf_i64 hk1).1 (wf_i64 hk1).2
  obtain ⟨v', hv', IV⟩ := implBalance_any a0 a1 a2 a3 k0 k1 (wf_i64 hk0).1 (wf_i64 hk0).2 (wf_i64 hk1).1 (wf_i64 hk1).2
  obtain rfl := balV_one hv hv'
  have HB : Hid (Below w1.heap.size w1 w2) := B2
  have HS : Hid (∀ w, Calls Try.prog 9 #[.agg #[.int .i64 a0, .int .i64 a1, .int .i64 a2, .int .i64 a3], .agg #[.int .i64 k0, .int .i64 k1]] w fun r w' => r = .returned v ∧ Below w.heap.size w w') := SV
  have HI : Hid (∀ w, Calls Try.prog 10 #[.agg #[.int .i64 a0, .int .i64 a1, .int .i64 a2, .int .i64 a3], .agg #[.int .i64 k0, .int .i64 k1]] w fun r w' => r = .returned v ∧ Below w.heap.size w w') := IV
  have HJ : Hid (∀ b0 b1 b2 b3, balV b0 b1 b2 b3 k0 k1 v → ∀ w, Calls Try.prog 10 #[.agg #[.int .i64 b0, .int .i64 b1, .int .i64 b2, .int .i64 b3], .agg #[.int .i64 k0, .int .i64 k1]] w fun r w' => r = .returned v ∧ Below w.heap.size w w') := fun b0 b1 b2 b3 q => by
    obtain ⟨v2, hv2, J2⟩ := implBalance_any b0 b1 b2 b3 k0 k1 (wf_i64 hk0).1 (wf_i64 hk0).2 (wf_i64 hk1).1 (wf_i64 hk1).2
    obtain rfl := balV_one q hv2
    exact J2
  have HP := bal_pack hv
  clear SV IV hv hv' B2 HC hk0 hk1
  go_upto_region 4 with fail
  obtain ⟨wd, hwd⟩ : ∃ wd, wd = (w2.alloc (.cells #[.int .i64 a0, .int .i64 a1, .int .i64 a2, .int .i64 a3] 25)).alloc (.cells #[.int .i64 k0, .int .i64 k1] 27) := ⟨_, rfl⟩
  rw [← hwd]
  have Hg : Hid (Blk wd w2.heap.size [.int .i64 a0, .int .i64 a1, .int .i64 a2, .int .i64 a3]) := by show Blk _ _ _; rw [hwd]; exact (Blk.new w2 #[.int .i64 a0, .int .i64 a1, .int .i64 a2, .int .i64 a3] _).below (below0 _ _)
  have Hk : Hid (Blk wd (w2.heap.size + 1) [.int .i64 k0, .int .i64 k1]) := by show Blk _ _ _; rw [hwd]; have q := Blk.new (w2.alloc (.cells #[.int .i64 a0, .int .i64 a1, .int .i64 a2, .int .i64 a3] 25)) #[.int .i64 k0, .int .i64 k1] 27; simpa using q
  replace HB : Hid (Below w1.heap.size w1 wd) := by show Below _ _ _; rw [hwd]; exact HB.out.trans ((show Below w2.heap.size w2 _ from (by repeat (first | with_reducible exact Below.refl _ _ | with_reducible refine Below.setCell ?_ (by first | omega | (simp; done) | (simp; omega)) _ | with_reducible refine bDrewN ?_ _ | with_reducible refine Below.drew ?_ | with_reducible refine Below.alloc ?_ (by first | omega | (simp; done) | (simp; omega)) _))).mono HB.out.size)
  clear hwd
  obtain ⟨gg, hgg⟩ : ∃ g, g = w2.heap.size := ⟨_, rfl⟩
  rw [← hgg] at Hg Hk ⊢
  clear hgg
  obtain ⟨z_g, f_g, c_g⟩ := Hg.out
  have g0 : wd.cell? ⟨gg, 0, none⟩ = some (.int .i64 a0) := c_g 0 _ rfl
  have g1 : wd.cell? ⟨gg, 1, none⟩ = some (.int .i64 a1) := c_g 1 _ rfl
  have g2 : wd.cell? ⟨gg, 2, none⟩ = some (.int .i64 a2) := c_g 2 _ rfl
  have g3 : wd.cell? ⟨gg, 3, none⟩ = some (.int .i64 a3) := c_g 3 _ rfl
  clear f_g c_g
  obtain ⟨z_k, f_k, c_k⟩ := Hk.out
  have k0 : wd.cell? ⟨(gg + 1), 0, none⟩ = some (.int .i64 k0) := c_k 0 _ rfl
  have k1 : wd.cell? ⟨(gg + 1), 1, none⟩ = some (.int .i64 k1) := c_k 1 _ rfl
  clear f_k c_k
  go_wp2_with fail
  refine (HS.out _).mono ?_
  rintro e w3 ⟨rfl, h3⟩
  clear g0 g1 g2 g3 z_g
  clear k0 k1 z_k
  replace Hg : Hid (Blk w3 gg [.int .i64 a0, .int .i64 a1, .int .i64 a2, .int .i64 a3]) := Hg.out.below h3
  replace Hk : Hid (Blk w3 (gg + 1) [.int .i64 k0, .int .i64 k1]) := Hk.out.below h3
  replace HB : Hid (Below w1.heap.size w1 w3) := HB.out.trans (h3.mono HB.out.size)
  clear h3 HS
  rcases HP with rfl | ⟨A, B, C, D, X, ov, rfl, rfl, rfl, rfl, rfl, hA, hB, hC, hD, hX, ho, hv⟩
  · go_upto_region 5 with fail
    obtain ⟨w4, hw_⟩ : ∃ x_, x_ = w3.alloc (.cells #[.int .i64 0, .int .i64 0, .int .i64 0, .int .i64 0] 25) := ⟨_, rfl⟩
    rw [← hw_]
    replace Hg : Hid (Blk w4 gg [.int .i64 (a0), .int .i64 (a1), .int .i64 (a2), .int .i64 (a3)]) := by show Blk _ _ _; rw [hw_]; exact Hg.out.below (below0 _ _)
    replace Hk : Hid (Blk w4 (gg + 1) [.int .i64 k0, .int .i64 k1]) := by show Blk _ _ _; rw [hw_]; exact Hk.out.below (below0 _ _)
    have Hs : Hid (Blk w4 w3.heap.size [.int .i64 0, .int .i64 0, .int .i64 0, .int .i64 0]) := by show Blk _ _ _; rw [hw_]; exact Blk.new w3 #[.int .i64 0, .int .i64 0, .int .i64 0, .int .i64 0] _
    replace HB : Hid (Below w1.heap.size w1 w4) := by show Below _ _ _; rw [hw_]; exact HB.out.trans ((below0 _ _).mono HB.out.size)
    clear hw_
    obtain ⟨gs, hg_⟩ : ∃ g, g = w3.heap.size := ⟨_, rfl⟩
    rw [← hg_] at Hs ⊢
    clear hg_
    obtain ⟨z_g, f_g, c_g⟩ := Hg.out
    have g0 : w4.cell? ⟨gg, 0, none⟩ = some (.int .i64 a0) := c_g 0 _ rfl
    have g1 : w4.cell? ⟨gg, 1, none⟩ = some (.int .i64 a1) := c_g 1 _ rfl
    have g2 : w4.cell? ⟨gg, 2, none⟩ = some (.int .i64 a2) := c_g 2 _ rfl
    have g3 : w4.cell? ⟨gg, 3, none⟩ = some (.int .i64 a3) := c_g 3 _ rfl
    clear f_g c_g
    obtain ⟨z_k, f_k, c_k⟩ := Hk.out
    have k0 : w4.cell? ⟨(gg + 1), 0, none⟩ = some (.int .i64 k0) := c_k 0 _ rfl
    have k1 : w4.cell? ⟨(gg + 1), 1, none⟩ = some (.int .i64 k1) := c_k 1 _ rfl
    clear f_k c_k
    go_wp2_with fail
    refine (HI.out _).mono ?_
    rintro e w5 ⟨rfl, h5⟩
    replace HB : Hid (Below w1.heap.size w1 w5) := HB.out.trans (h5.mono HB.out.size)
    clear h5
    have BF := HB.out
    have sBF := BF.size
    go_wp2
    go_ret
    exact ⟨rfl, (by repeat (first | with_reducible exact Below.refl _ _ | with_reducible exact BF | with_reducible refine Below.setCell ?_ (by first | omega | (simp; done) | (simp; omega)) _ | with_reducible refine bDrewN ?_ _ | with_reducible refine Below.drew ?_ | with_reducible refine Below.alloc ?_ (by first | omega | (simp; done) | (simp; omega)) _))⟩
  · go_upto_region 5 with fail
    obtain ⟨w4, hw_⟩ : ∃ x_, x_ = w3.alloc (.cells #[.int .i64 A, .int .i64 B, .int .i64 C, .int .i64 D] 25) := ⟨_, rfl⟩
    rw [← hw_]
    replace Hg : Hid (Blk w4 gg [.int .i64 (A + X), .int .i64 (B + X), .int .i64 (C - X), .int .i64 (D - X)]) := by show Blk _ _ _; rw [hw_]; exact Hg.out.below (below0 _ _)
    replace Hk : Hid (Blk w4 (gg + 1) [.int .i64 k0, .int .i64 k1]) := by show Blk _ _ _; rw [hw_]; exact Hk.out.below (below0 _ _)
    have Hs : Hid (Blk w4 w3.heap.size [.int .i64 A, .int .i64 B, .int .i64 C, .int .i64 D]) := by show Blk _ _ _; rw [hw_]; exact Blk.new w3 #[.int .i64 A, .int .i64 B, .int .i64 C, .int .i64 D] _
    replace HB : Hid (Below w1.heap.size w1 w4) := by show Below _ _ _; rw [hw_]; exact HB.out.trans ((below0 _ _).mono HB.out.size)
    clear hw_
    obtain ⟨gs, hg_⟩ : ∃ g, g = w3.heap.size := ⟨_, rfl⟩
    rw [← hg_] at Hs ⊢
    clear hg_
    obtain ⟨z_g, f_g, c_g⟩ := Hg.out
    have g0 : w4.cell? ⟨gg, 0, none⟩ = some (.int .i64 (A + X)) := c_g 0 _ rfl
    have g1 : w4.cell? ⟨gg, 1, none⟩ = some (.int .i64 (B + X)) := c_g 1 _ rfl
    have g2 : w4.cell? ⟨gg, 2, none⟩ = some (.int .i64 (C - X)) := c_g 2 _ rfl
    have g3 : w4.cell? ⟨gg, 3, none⟩ = some (.int .i64 (D - X)) := c_g 3 _ rfl
    clear f_g c_g
    obtain ⟨z_k, f_k, c_k⟩ := Hk.out
    have k0 : w4.cell? ⟨(gg + 1), 0, none⟩ = some (.int .i64 k0) := c_k 0 _ rfl
    have k1 : w4.cell? ⟨(gg + 1), 1, none⟩ = some (.int .i64 k1) := c_k 1 _ rfl
    clear f_k c_k
    go_wp2_with fail
    refine (HI.out _).mono ?_
    rintro e w5 ⟨rfl, h5⟩
    clear g0 g1 g2 g3 z_g
    clear k0 k1 z_k
    replace Hg : Hid (Blk w5 gg [.int .i64 (A + X), .int .i64 (B + X), .int .i64 (C - X), .int .i64 (D - X)]) := Hg.out.below h5
    replace Hk : Hid (Blk w5 (gg + 1) [.int .i64 k0, .int .i64 k1]) := Hk.out.below h5
    replace HB : Hid (Below w1.heap.size w1 w5) := HB.out.trans (h5.mono HB.out.size)
    clear h5 HI Hs
    go_upto_region 6 with fail
    obtain ⟨w6, hw_⟩ : ∃ x_, x_ = w5.alloc (.cells #[.int .i64 A, .int .i64 B, .int .i64 C, .int .i64 D] 25) := ⟨_, rfl⟩
    rw [← hw_]
    replace Hg : Hid (Blk w6 gg [.int .i64 (A + X), .int .i64 (B + X), .int .i64 (C - X), .int .i64 (D - X)]) := by show Blk _ _ _; rw [hw_]; exact Hg.out.below (below0 _ _)
    replace Hk : Hid (Blk w6 (gg + 1) [.int .i64 k0, .int .i64 k1]) := by show Blk _ _ _; rw [hw_]; exact Hk.out.below (below0 _ _)
    have Hh : Hid (Blk w6 w5.heap.size [.int .i64 A, .int .i64 B, .int .i64 C, .int .i64 D]) := by show Blk _ _ _; rw [hw_]; exact Blk.new w5 #[.int .i64 A, .int .i64 B, .int .i64 C, .int .i64 D] _
    replace HB : Hid (Below w1.heap.size w1 w6) := by show Below _ _ _; rw [hw_]; exact HB.out.trans ((below0 _ _).mono HB.out.size)
    clear hw_
    obtain ⟨gh, hg_⟩ : ∃ g, g = w5.heap.size := ⟨_, rfl⟩
    rw [← hg_] at Hh ⊢
    clear hg_
    obtain ⟨z_g, f_g, c_g⟩ := Hg.out
    have g0 : w6.cell? ⟨gg, 0, none⟩ = some (.int .i64 (A + X)) := c_g 0 _ rfl
    have g1 : w6.cell? ⟨gg, 1, none⟩ = some (.int .i64 (B + X)) := c_g 1 _ rfl
    have g2 : w6.cell? ⟨gg, 2, none⟩ = some (.int .i64 (C - X)) := c_g 2 _ rfl
    have g3 : w6.cell? ⟨gg, 3, none⟩ = some (.int .i64 (D - X)) := c_g 3 _ rfl
    clear f_g c_g
    obtain ⟨z_h, f_h, c_h⟩ := Hh.out
    have h0 : w6.cell? ⟨gh, 0, none⟩ = some (.int .i64 A) := c_h 0 _ rfl
    have h1 : w6.cell? ⟨gh, 1, none⟩ = some (.int .i64 B) := c_h 1 _ rfl
    have h2 : w6.cell? ⟨gh, 2, none⟩ = some (.int .i64 C) := c_h 2 _ rfl
    have h3 : w6.cell? ⟨gh, 3, none⟩ = some (.int .i64 D) := c_h 3 _ rfl
    clear f_h c_h
    obtain ⟨hA0, hA1⟩ := hA
    obtain ⟨hB0, hB1⟩ := hB
    obtain ⟨hC0, hC1⟩ := hC
    obtain ⟨hD0, hD1⟩ := hD
    obtain ⟨hX0, hX1⟩ := hX
    go_upto_region 10 with fail
    have t1 : A + X + (C - X) = A + C := by omega
    have t2 : B + X + (D - X) = B + D := by omega
    have t3 : A + X + (B + X) + 2 * (C - X) = A + B + 2 * C := by omega
    have m1 : ∃ x, (if B < A then B else A) = x ∧ 0 ≤ x := ⟨_, rfl, by split <;> omega⟩
    have m2 : ∃ x, (if D < C then D else C) = x ∧ 0 ≤ x := ⟨_, rfl, by split <;> omega⟩
    obtain ⟨y1, e1, y10⟩ := m1
    obtain ⟨y2, e2, y20⟩ := m2
    have m3 : ∃ x, (if y2 < y1 then y2 else y1) = x ∧ 0 ≤ x := ⟨_, rfl, by split <;> omega⟩
    obtain ⟨y3, e3, y30⟩ := m3
    have HV : Hid (A ≤ 10000 → B ≤ 10000 → C ≤ 10000 → D ≤ 10000 → balV A B C D k0 k1 (.tuple #[.agg #[.int .i64 A, .int .i64 B, .int .i64 C, .int .i64 D], .int .i64 ov, .bool true])) := hv
    clear hv
    go_upto_region 12 with fail
    clear t1 t2 t3 e1 e2 e3 y10 y20 y30
    have BF := HB.out
    have sBF := BF.size
    by_cases kA : A ≤ 10000
    case neg =>
      have kA' : 10000 < A := by omega
      go_wp2
      go_ret
      exact ⟨rfl, BF⟩
    by_cases kB : B ≤ 10000
    case neg =>
      have kB' : 10000 < B := by omega
      go_wp2
      go_ret
      exact ⟨rfl, BF⟩
    by_cases kC : C ≤ 10000
    case neg =>
      have kC' : 10000 < C := by omega
      go_wp2
      go_ret
      exact ⟨rfl, BF⟩
    by_cases kD : D ≤ 10000
    case neg =>
      have kD' : 10000 < D := by omega
      go_wp2
      go_ret
      exact ⟨rfl, BF⟩
    have HJ2 := HJ.out A B C D (HV.out kA kB kC kD)
    clear HJ HV g0 g1 g2 g3 z_g Hg BF sBF
    obtain ⟨z_k, f_k, c_k⟩ := Hk.out
    have k0 : w6.cell? ⟨(gg + 1), 0, none⟩ = some (.int .i64 k0) := c_k 0 _ rfl
    have k1 : w6.cell? ⟨(gg + 1), 1, none⟩ = some (.int .i64 k1) := c_k 1 _ rfl
    clear f_k c_k
    go_wp2_with fail
    refine (HJ2 _).mono ?_
    rintro e w7 ⟨rfl, h7⟩
    clear h0 h1 h2 h3 z_h
    clear k0 k1 z_k
    replace Hh : Hid (Blk w7 gh [.int .i64 A, .int .i64 B, .int .i64 C, .int .i64 D]) := Hh.out.below h7
    replace HB : Hid (Below w1.heap.size w1 w7) := HB.out.trans (h7.mono HB.out.size)
    clear h7 HJ2 Hk
    obtain ⟨z_h, f_h, c_h⟩ := Hh.out
    have h0 : w7.cell? ⟨gh, 0, none⟩ = some (.int .i64 A) := c_h 0 _ rfl
    have h1 : w7.cell? ⟨gh, 1, none⟩ = some (.int .i64 B) := c_h 1 _ rfl
    have h2 : w7.cell? ⟨gh, 2, none⟩ = some (.int .i64 C) := c_h 2 _ rfl
    have h3 : w7.cell? ⟨gh, 3, none⟩ = some (.int .i64 D) := c_h 3 _ rfl
    clear f_h c_h
    have BF := HB.out
    have sBF := BF.size
    go_wp2
    go_ret
    exact ⟨rfl, (by repeat (first | with_reducible exact Below.refl _ _ | with_reducible exact BF | with_reducible refine Below.setCell ?_ (by first | omega | (simp; done) | (simp; omega)) _ | with_reducible refine bDrewN ?_ _ | with_reducible refine Below.drew ?_ | with_reducible refine Below.alloc ?_ (by first | omega | (simp; done) | (simp; omega)) _))⟩
theorem fnBalanced_walk (w : World) (s : Option Addr) (n c : Nat) (hn : n ≤ 9223372036854775807) (R : Bytes w s n) :
    Calls Try.prog 3 #[.slice s n c] w fun e w' => e = .returned (.bool true) ∧ Below w.heap.size w w' := by
  by_cases h : n ≤ 1048576
  · exact bald_near w s n c (by omega) (R.code h)
  · exact bald_far w s n c (by omega)

set_option maxRecDepth 100000 in
theorem fnBalanced_lifted (os : Os) (started : os.Started) (H : Type) (enc : TypeId × Value → H) :
    ReturnsInHanded {} Try.checked os 3 .any (Rows.fnBalancedSpec.pre6 enc Try.prog Try.f3 Rows.fnBalancedRow.domain false) (Rows.fnBalancedSpec.post enc Try.prog Try.f3 false true false false) := by
  refine returnsInHanded_of_change (C := Try.checked) own started (by kernel_rfl) Try.func3
    (ChangeSpec.witness6 (enc := enc) (C := Try.checked) false ⟨#[], #[.slice none 0 0], []⟩ 8 (by kernel_rfl) (by kernel_rfl) (by kernel_rfl) (by kernel_rfl)) ?_
  intro W base args ds gs before hval0 hW hcnd _
  have hval : ∀ (j : Nat) t v, Try.f3.params[j]? = some t → args[j]? = some v → Value.okWide Try.prog W .any base t v := hval0
  have hW' := hW
  obtain ⟨p, q, hA0, hV, rfl, hfz, hnd⟩ := hW
  have hA : DataW.TrodAll enc Try.prog W 0 (fun _ => true) true Try.f3.params.toList args.toList ds p := hA0
  rw [Try.params3] at hA hval
  obtain ⟨v0, vs0, d0, ds0, p0, q0, hargs, rfl, rfl, h0, r0⟩ := trodAll_cons hA
  obtain ⟨rfl, rfl, rfl⟩ := trodAll_nil r0
  obtain rfl : args = #[v0] := by cases args; simp_all
  obtain ⟨rfl, rfl⟩ := trodVars_none hV
  have k0 := h0
  have lt0 : ∀ x ∈ p0, x.block < W.heap.size := by obtain ⟨m, hm⟩ := k0; exact DataW.trod_lt m _ _ _ hm
  obtain ⟨s0, n0, c0, rfl, m0, R0⟩ := open_code Try.underlying22 Try.underlying5 (by kernel_rfl) (hval 0 22 v0 rfl rfl) h0
  clear hA0 hval0
  refine (fnBalanced_walk W s0 n0 c0 m0 R0).mono fun e W' ⟨he, bel⟩ => ?_
  subst he
  exact ⟨_, rfl, _, _, _, [], _, [], hW', trodAll_mk1 (shut_bool Try.underlying4 _), (trodAll_cons_mk (Below.trod laidOut (by kernel_rfl) (of_decide_eq_true (by kernel_rfl)) k0 bel lt0) trodAll_mk0), rfl, bel.frame _, fun h => by cases h⟩

theorem fnBalanced_holds : Rows.FnBalancedSaid :=
  OpenClaim.holds_of_wide 3 Try.f3 rfl rfl rfl rfl rfl rfl rfl ⟨rfl, rfl, rfl, rfl, rfl⟩ rfl rfl rfl rfl rfl (by kernel_rfl) Try.func3 (by kernel_rfl)
    (of_decide_eq_true (by kernel_rfl)) (by unfold Func.isWrapper; first | (rw [if_pos (by decide +kernel)]; kernel_rfl) | (rw [if_neg (by decide +kernel)]; exact ⟨rfl, rfl⟩))
    (fun os started H enc _ => fnBalanced_lifted os started H enc)
#print axioms fnBalanced_holds
end Go.Proofs.Ytnimndpphphcnaa
