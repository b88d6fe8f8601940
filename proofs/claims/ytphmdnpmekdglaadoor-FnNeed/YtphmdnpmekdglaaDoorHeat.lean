/-
What is proved: the heat of what is behind a fire, as both packages tell it, where the table of molecules holds what the program's text lays.
-/
import Derived.Test.YtphmdnpmekdglaaDoorFlueOk
namespace Go.Proofs.YtphmdnpmekdglaaDoor
set_option maxRecDepth 40000
open Go.RowKit
set_option linter.unusedVariables false

/-- The heat of the first k numbers. -/
def hsum (G : Nat → Int) : Nat → Int
  | 0 => 0
  | k + 1 => hsum G k + tb (k * 6 + 5) * G k
theorem tb_heat (i : Nat) (hi : i < 9) : 0 ≤ tb (i * 6 + 5) ∧ tb (i * 6 + 5) ≤ 394 := by
  have h1 : i = 0 ∨ i = 1 ∨ i = 2 ∨ i = 3 ∨ i = 4 ∨ i = 5 ∨ i = 6 ∨ i = 7 ∨ i = 8 := by omega
  rcases h1 with rfl | rfl | rfl | rfl | rfl | rfl | rfl | rfl | rfl <;> decide
theorem mul_heat {a n : Int} (ha : 0 ≤ a ∧ a ≤ 394) (hn : inF n) : 0 ≤ a * n ∧ a * n ≤ 394000000000000 := by
  obtain ⟨h1, h2⟩ := ha; obtain ⟨h3, h4⟩ := hn
  exact ⟨Int.mul_nonneg h1 h3, by
    have := Int.mul_le_mul h2 h4 h3 (by omega)
    omega⟩
theorem hsum_bd {G : Nat → Int} : ∀ k, k ≤ 9 → (∀ i, i < k → inF (G i)) → 0 ≤ hsum G k ∧ hsum G k ≤ 394000000000000 * (k : Int)
  | 0, _, _ => by simp [hsum]
  | k + 1, hk, h => by
    have a := hsum_bd k (by omega) fun i hi => h i (by omega)
    have b := mul_heat (tb_heat k (by omega)) (h k (by omega))
    simp only [hsum]
    omega
def heatV (G : Nat → Int) : Int := if elemOk G = true then hsum G 9 else -1
theorem hsum9 (g0 g1 g2 g3 g4 g5 g6 g7 g8 : Int) : hsum (nth g0 g1 g2 g3 g4 g5 g6 g7 g8) 9 = 394 * g0 + 111 * g1 + 242 * g3 + 297 * g5 := by
  have e0 : tb 5 = 394 := by decide
  have e1 : tb 11 = 111 := by decide
  have e2 : tb 17 = 0 := by decide
  have e3 : tb 23 = 242 := by decide
  have e4 : tb 29 = 0 := by decide
  have e5 : tb 35 = 297 := by decide
  have e6 : tb 41 = 0 := by decide
  have e7 : tb 47 = 0 := by decide
  have e8 : tb 53 = 0 := by decide
  simp [hsum, nth, e0, e1, e2, e3, e4, e5, e6, e7, e8]

set_option maxHeartbeats 2000000 in
theorem specHeatOf_any (g0 g1 g2 g3 g4 g5 g6 g7 g8 : Int) (w : World) :
    Calls Tryd.prog 22 #[.agg #[.int .i64 g0, .int .i64 g1, .int .i64 g2, .int .i64 g3, .int .i64 g4, .int .i64 g5, .int .i64 g6, .int .i64 g7, .int .i64 g8]] w fun e w' => e = .returned (.int .i64 (heatV (nth g0 g1 g2 g3 g4 g5 g6 g7 g8))) ∧ Below w.heap.size w w' := by
  have K : Hid (∀ w, Calls Tryd.prog 37 #[.agg #[.int .i64 g0, .int .i64 g1, .int .i64 g2, .int .i64 g3, .int .i64 g4, .int .i64 g5, .int .i64 g6, .int .i64 g7, .int .i64 g8]] w fun e w' => e = .returned (.bool (elemOk (nth g0 g1 g2 g3 g4 g5 g6 g7 g8))) ∧ Below w.heap.size w w') := fun w => l2FlueOk_any g0 g1 g2 g3 g4 g5 g6 g7 g8 w
  cases ho : elemOk (nth g0 g1 g2 g3 g4 g5 g6 g7 g8)
  · have e : heatV (nth g0 g1 g2 g3 g4 g5 g6 g7 g8) = -1 := by simp [heatV, ho]
    rw [e]; rw [ho] at K; clear e ho
    go_enter Tryd.func22, Tryd.ntmps22
    go_wp2_with fail
    refine (K.out _).mono ?_
    rintro e w1 ⟨rfl, hx⟩
    have B1 : Below w.heap.size w w1 := Below.trans (by repeat (first | with_reducible exact Below.refl _ _ | with_reducible refine Below.setCell ?_ (by first | omega | (simp; done) | (simp; omega)) _ | with_reducible refine bDrewN ?_ _ | with_reducible refine Below.drew ?_ | with_reducible refine Below.alloc ?_ (by first | omega | (simp; done) | (simp; omega)) _)) (hx.mono (by first | omega | (simp; done) | (simp; omega)))
    go_wp2
    go_ret
    exact ⟨rfl, B1⟩
  · have e : heatV (nth g0 g1 g2 g3 g4 g5 g6 g7 g8) = 394 * g0 + 111 * g1 + 242 * g3 + 297 * g5 := by simp [heatV, ho, hsum9]
    have hin := (elemOk_iff _).1 ho
    have h0 := hin 0 (by omega); have h1 := hin 1 (by omega); have h3 := hin 3 (by omega); have h5 := hin 5 (by omega)
    simp only [nth, inF] at h0 h1 h3 h5
    rw [e]; rw [ho] at K; clear e ho hin
    obtain ⟨i0, i0'⟩ := h0; obtain ⟨i1, i1'⟩ := h1; obtain ⟨i3, i3'⟩ := h3; obtain ⟨i5, i5'⟩ := h5
    go_enter Tryd.func22, Tryd.ntmps22
    go_wp2_with fail
    refine (K.out _).mono ?_
    rintro e w1 ⟨rfl, hx⟩
    obtain ⟨hc, hf⟩ := bcell hx
    have B1 : Below w.heap.size w w1 := Below.trans (by repeat (first | with_reducible exact Below.refl _ _ | with_reducible refine Below.setCell ?_ (by first | omega | (simp; done) | (simp; omega)) _ | with_reducible refine bDrewN ?_ _ | with_reducible refine Below.drew ?_ | with_reducible refine Below.alloc ?_ (by first | omega | (simp; done) | (simp; omega)) _)) (hx.mono (by first | omega | (simp; done) | (simp; omega)))
    go_wp2
    go_ret
    exact ⟨rfl, B1⟩

set_option maxHeartbeats 2000000 in
theorem implHeatOf_any (g0 g1 g2 g3 g4 g5 g6 g7 g8 : Int) (w : World) (hT : TabW w) :
    Calls Tryd.prog 16 #[.agg #[.int .i64 g0, .int .i64 g1, .int .i64 g2, .int .i64 g3, .int .i64 g4, .int .i64 g5, .int .i64 g6, .int .i64 g7, .int .i64 g8]] w fun e w' => e = .returned (.int .i64 (heatV (nth g0 g1 g2 g3 g4 g5 g6 g7 g8))) ∧ Below w.heap.size w w' := by
  have C : Hid (∀ w, Calls Tryd.prog 33 #[.agg #[.int .i64 g0, .int .i64 g1, .int .i64 g2, .int .i64 g3, .int .i64 g4, .int .i64 g5, .int .i64 g6, .int .i64 g7, .int .i64 g8]] w fun e w' => e = .returned (.agg #[.int .i64 g0, .int .i64 g1, .int .i64 g2, .int .i64 g3, .int .i64 g4, .int .i64 g5, .int .i64 g6, .int .i64 g7, .int .i64 g8]) ∧ Below w.heap.size w w') := fun w => counts_any g0 g1 g2 g3 g4 g5 g6 g7 g8 w
  have I : Hid (∀ (k : Nat), k < 9 → ∀ w, (Instr.index 54 (.agg #[.int .i64 g0, .int .i64 g1, .int .i64 g2, .int .i64 g3, .int .i64 g4, .int .i64 g5, .int .i64 g6, .int .i64 g7, .int .i64 g8]) (.int .i64 (k : Int))).run Tryd.prog w = .ok (.int .i64 (nth g0 g1 g2 g3 g4 g5 g6 g7 g8 k)) w) := fun k hk w => idx9 g0 g1 g2 g3 g4 g5 g6 g7 g8 k hk w
  have Y : Hid (∀ (x : Int) (w : World), 0 ≤ x → x ≤ 1000000000000 → Calls Tryd.prog 34 #[.int .i64 x, .int .i64 0, .int .i64 1000000000000] w fun e w' => e = .returned (.bool true) ∧ w' = w) := fun x w a b => within_yes x 0 1000000000000 w a b
  have N : Hid (∀ (x : Int) (w : World), x < 0 ∨ 1000000000000 < x → Calls Tryd.prog 34 #[.int .i64 x, .int .i64 0, .int .i64 1000000000000] w fun e w' => e = .returned (.bool false) ∧ w' = w) := fun x w a => within_no x 0 1000000000000 w a
  have EL : Hid (∀ w, TabW w → Calls Tryd.prog 12 #[.agg #[.int .i64 g0, .int .i64 g1, .int .i64 g2, .int .i64 g3, .int .i64 g4, .int .i64 g5, .int .i64 g6, .int .i64 g7, .int .i64 g8]] w fun e w' => e = .returned (elemV (nth g0 g1 g2 g3 g4 g5 g6 g7 g8)) ∧ Below w.heap.size w w') := fun w h => elements_core g0 g1 g2 g3 g4 g5 g6 g7 g8 w h N Y
  have HT : Hid (TabW w) := hT
  clear hT Y N
  cases ho : elemOk (nth g0 g1 g2 g3 g4 g5 g6 g7 g8)
  · have e : heatV (nth g0 g1 g2 g3 g4 g5 g6 g7 g8) = -1 := by simp [heatV, ho]
    have e2 : elemV (nth g0 g1 g2 g3 g4 g5 g6 g7 g8) = .tuple #[.agg #[.int .i64 0, .int .i64 0, .int .i64 0, .int .i64 0, .int .i64 0], .bool false] := by simp [elemV, ho]
    rw [e]; rw [e2] at EL; clear e e2 ho
    go_enter Tryd.func16, Tryd.ntmps16
    go_wp2_with fail
    refine (EL.out _ (HT.out.below (B := w.heap.size) (by repeat (first | with_reducible exact Below.refl _ _ | with_reducible refine Below.setCell ?_ (by first | omega | (simp; done) | (simp; omega)) _ | with_reducible refine bDrewN ?_ _ | with_reducible refine Below.drew ?_ | with_reducible refine Below.alloc ?_ (by first | omega | (simp; done) | (simp; omega)) _)) HT.out.1)).mono ?_
    rintro e w1 ⟨rfl, hx⟩
    have B1 : Below w.heap.size w w1 := Below.trans (by repeat (first | with_reducible exact Below.refl _ _ | with_reducible refine Below.setCell ?_ (by first | omega | (simp; done) | (simp; omega)) _ | with_reducible refine bDrewN ?_ _ | with_reducible refine Below.drew ?_ | with_reducible refine Below.alloc ?_ (by first | omega | (simp; done) | (simp; omega)) _)) (hx.mono (by first | omega | (simp; done) | (simp; omega)))
    have s1 := B1.size
    go_wp2
    go_ret
    exact ⟨rfl, (by repeat (first | with_reducible exact Below.refl _ _ | with_reducible exact B1 | with_reducible refine Below.setCell ?_ (by first | omega | (simp; done) | (simp; omega)) _ | with_reducible refine bDrewN ?_ _ | with_reducible refine Below.drew ?_ | with_reducible refine Below.alloc ?_ (by first | omega | (simp; done) | (simp; omega)) _))⟩
  · have e : heatV (nth g0 g1 g2 g3 g4 g5 g6 g7 g8) = hsum (nth g0 g1 g2 g3 g4 g5 g6 g7 g8) 9 := by simp [heatV, ho]
    have e2 : elemV (nth g0 g1 g2 g3 g4 g5 g6 g7 g8) = .tuple #[.agg #[.int .i64 (psum (nth g0 g1 g2 g3 g4 g5 g6 g7 g8) 0 9), .int .i64 (psum (nth g0 g1 g2 g3 g4 g5 g6 g7 g8) 1 9), .int .i64 (psum (nth g0 g1 g2 g3 g4 g5 g6 g7 g8) 2 9), .int .i64 (psum (nth g0 g1 g2 g3 g4 g5 g6 g7 g8) 3 9), .int .i64 (psum (nth g0 g1 g2 g3 g4 g5 g6 g7 g8) 4 9)], .bool true] := elem_yes ((elemOk_iff _).1 ho)
    have hin : Hid (∀ i, i < 9 → inF (nth g0 g1 g2 g3 g4 g5 g6 g7 g8 i)) := (elemOk_iff _).1 ho
    rw [e]; rw [e2] at EL; clear e e2 ho
    generalize nth g0 g1 g2 g3 g4 g5 g6 g7 g8 = G at *
    generalize psum G 0 9 = s0 at *
    generalize psum G 1 9 = s1 at *
    generalize psum G 2 9 = s2 at *
    generalize psum G 3 9 = s3 at *
    generalize psum G 4 9 = s4 at *
    go_enter Tryd.func16, Tryd.ntmps16
    go_wp2_with fail
    refine (EL.out _ (HT.out.below (B := w.heap.size) (by repeat (first | with_reducible exact Below.refl _ _ | with_reducible refine Below.setCell ?_ (by first | omega | (simp; done) | (simp; omega)) _ | with_reducible refine bDrewN ?_ _ | with_reducible refine Below.drew ?_ | with_reducible refine Below.alloc ?_ (by first | omega | (simp; done) | (simp; omega)) _)) HT.out.1)).mono ?_
    rintro e w1 ⟨rfl, hx⟩
    obtain ⟨hc, hf⟩ := bcell hx
    have B1 : Below w.heap.size w w1 := Below.trans (by repeat (first | with_reducible exact Below.refl _ _ | with_reducible refine Below.setCell ?_ (by first | omega | (simp; done) | (simp; omega)) _ | with_reducible refine bDrewN ?_ _ | with_reducible refine Below.drew ?_ | with_reducible refine Below.alloc ?_ (by first | omega | (simp; done) | (simp; omega)) _)) (hx.mono (by first | omega | (simp; done) | (simp; omega)))
    have z1 : w.heap.size < w1.heap.size := by have := hx.size; simp at this; omega
    have sz1 := B1.size
    go_wp2_with fail
    refine (C.out _).mono ?_
    rintro e w2 ⟨rfl, hx2⟩
    have B2 : Below w.heap.size w w2 := Below.trans (by repeat (first | with_reducible exact Below.refl _ _ | with_reducible exact B1 | with_reducible refine Below.setCell ?_ (by first | omega | (simp; done) | (simp; omega)) _ | with_reducible refine bDrewN ?_ _ | with_reducible refine Below.drew ?_ | with_reducible refine Below.alloc ?_ (by first | omega | (simp; done) | (simp; omega)) _)) (hx2.mono (by first | omega | (simp; done) | (simp; omega)))
    have T2 : Hid (TabW w2) := HT.out.below B2 HT.out.1
    clear hc hf hx hx2 B1 z1 sz1
    go_wp2_with fail
    go_loop [5, 17] (fun a i => ∃ k : Nat, k ≤ 9 ∧ i = .int .i64 k ∧ a = .int .i64 (hsum G k)) (fun _ i => 9 - (intOf i).toNat)
    case atStart => exact ⟨0, by omega, rfl, rfl⟩
    case round =>
      obtain ⟨k, hk, rfl, rfl⟩ := hrel
      by_cases h9 : k = 9
      · subst h9
        go_wp2
        go_ret
        exact ⟨rfl, B2⟩
      · have hk9 : k < 9 := by omega
        have hi := I.out k hk9
        have ki : (k : Int) < 9 := by omega
        obtain ⟨b1, b2⟩ := hsum_bd (G := G) k hk fun i hi => hin.out i (by omega)
        obtain ⟨m1, m2⟩ := mul_heat (tb_heat k hk9) (hin.out k hk9)
        have E : Hid (hsum G (k + 1) = hsum G k + tb (k * 6 + 5) * G k) := rfl
        have t5 := T2.out.2 (k * 6 + 5) (by omega)
        have bb : hsum G k ≤ 4000000000000000 := by omega
        generalize hsum G k = q at *
        generalize tb (k * 6 + 5) = a at *
        clear h9 hk b2
        go_wp2
        go_round
        case rel => exact ⟨k + 1, by omega, by go_num, by rw [E.out]⟩
        case measure => simp [intOf]; omega
end Go.Proofs.YtphmdnpmekdglaaDoor
