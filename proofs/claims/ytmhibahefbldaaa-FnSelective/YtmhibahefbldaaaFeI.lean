/-
What is proved: which relay clears a fault, as the program tells it.
-/
import Derived.Test.YtmhibahefbldaaaFe
import Derived.Test.YtmhibahefbldaaaRlI
namespace Go.Proofs.Ytmhibahefbldaaa
set_option maxRecDepth 40000
open Go.RowKit
set_option linter.unusedVariables false
set_option linter.unusedSimpArgs false

set_option maxRecDepth 20000 in
set_option maxHeartbeats 2000000 in
theorem implFeeder_any (s : Option Addr) (n c : Nat) (V : Nat → Int) (w : World) (hn : (n : Int) ≤ 1048576) (HR : Hid (RowI w s (n * 2) V)) :
    Calls Try.prog 30 #[.slice s n c] w fun e w' => e = .returned (.bool (feedB n V)) ∧ Below w.heap.size w w' := by
  go_enter Try.func30, Try.ntmps30
  go_wp2_with fail
  refine (within_is _ _ _ _).mono ?_
  rintro e w1 ⟨rfl, rfl⟩
  cases h0 : inB 1 20 (n : Int)
  · have HO : Hid (feedB n V = false) := feed_far (by have := inB_no h0; omega)
    go_wp2
    go_ret
    exact ⟨ret_bool HO.out.symm, (by repeat (first | with_reducible exact Below.refl _ _ | with_reducible refine Below.setCell ?_ (by first | omega | (simp; done) | (simp; omega)) _ | with_reducible refine bDrewN ?_ _ | with_reducible refine Below.drew ?_ | with_reducible refine Below.alloc ?_ (by first | omega | (simp; done) | (simp; omega)) _))⟩
  have H0 := inB_yes h0
  obtain ⟨n0, n1⟩ := H0
  go_wp2_with fail
  go_loopw [11] (fun i wr => ∃ k : Nat, k ≤ n ∧ i = .int .i64 k ∧ Hid (∀ j, j < k → relJ V j = true) ∧ Below w1.heap.size w1 wr) (fun i _ => n - (intOf i).toNat)
  case atStart => exact ⟨0, Nat.zero_le _, rfl, fun j hj => by omega, Below.refl _ _⟩
  case round =>
    obtain ⟨k, hk, rfl, HP, hB⟩ := hrel
    by_cases h1 : k < n
    · obtain ⟨g, o, rfl, hg, c0⟩ := HR.out (k * 2) (by omega)
      obtain ⟨g', o', e', hg1, c1⟩ := HR.out (k * 2 + 1) (by omega)
      cases e'
      have d0 : wr.cell? ⟨g, o + k * 2, none⟩ = some (.int .i64 (V (k * 2))) := (hB.cell (p := ⟨g, o + k * 2, none⟩) hg).trans c0
      have d1 : wr.cell? ⟨g, o + k * 2 + 1, none⟩ = some (.int .i64 (V (k * 2 + 1))) := (hB.cell (p := ⟨g, o + (k * 2 + 1), none⟩) hg).trans c1
      have zg : g < wr.heap.size := Nat.lt_of_lt_of_le hg hB.size
      have k1 : (k : Int) < (n : Int) := by omega
      have HB : Hid (Below w1.heap.size w1 wr) := hB
      have HJ : Hid (relJ V k = relB (V (k * 2)) (V (k * 2 + 1))) := rfl
      clear hB c0 c1 hg hg1
      go_wp2_with fail
      refine (timed_any _ _ _).mono ?_
      rintro e w2 ⟨rfl, h2⟩
      have B2 : Below w1.heap.size w1 w2 := HB.out.trans (Below.mono (Below.trans (by repeat (first | with_reducible exact Below.refl _ _ | with_reducible refine Below.setCell ?_ (by first | omega | (simp; done) | (simp; omega)) _ | with_reducible refine bDrewN ?_ _ | with_reducible refine Below.drew ?_ | with_reducible refine Below.alloc ?_ (by first | omega | (simp; done) | (simp; omega)) _)) (h2.mono (by first | omega | (simp; done) | (simp; omega)))) HB.out.size)
      clear h2
      go_wp2_with fail
      refine (timedRight_any _ _ _).mono ?_
      rintro e w3 ⟨rfl, h3⟩
      have B2 : Hid (Below w1.heap.size w1 w3) := B2.trans (h3.mono B2.size)
      clear h3
      cases q : relB (V (k * 2)) (V (k * 2 + 1))
      · have HO : Hid (feedB n V = false) := feed_no h1 (by rw [HJ.out]; exact q)
        have B2 := B2.out
        go_wp2
        go_ret
        exact ⟨ret_bool HO.out.symm, B2⟩
      · have HK : Hid (relJ V k = true) := HJ.out.trans q
        go_wp2
        go_roundw
        case rel => exact ⟨k + 1, by omega, by go_num, ball_succ HP.out HK.out, B2.out⟩
        case measure => first | (simp [intOf]; done) | (simp [intOf]; omega)
    · obtain rfl : k = n := by omega
      have HO : Hid (feedB k V = true) := feed_all (by omega) (by omega) HP.out
      go_wp2
      go_ret
      exact ⟨ret_bool HO.out.symm, hB⟩
set_option maxRecDepth 20000 in
set_option maxHeartbeats 4000000 in
theorem implCleared_any (s : Option Addr) (n c : Nat) (V : Nat → Int) (k a : Int) (w : World) (hn : (n : Int) ≤ 1048576) (hcap : n ≤ c) (HR : Hid (RowI w s (n * 2) V)) :
    Calls Try.prog 13 #[.slice s n c, .int .i64 k, .int .i64 a] w fun e w' => ∃ x, ClV n V k a x ∧ e = .returned (.int .i64 x) ∧ Below w.heap.size w w' := by
  go_enter Try.func13, Try.ntmps13
  go_wp2_with fail
  refine (implFeeder_any s n c V _ hn HR).mono ?_
  rintro e w1 ⟨rfl, B1⟩
  cases h0 : feedB n V
  · have HO : Hid (goC n V k a = false) := by show _ = _; unfold goC; rw [h0]; rfl
    go_wp2
    go_ret
    exact ⟨-1, .inl ⟨HO.out, rfl⟩, rfl, B1⟩
  obtain ⟨n0, n1, -⟩ := feed_yes h0
  have H0 : Hid (feedB n V = true) := h0
  clear h0
  go_wp2_with fail
  refine (within_is _ _ _ _).mono ?_
  rintro e w1 ⟨rfl, rfl⟩
  cases h1 : inB 0 ((n : Int) - 1) k
  · have HO : Hid (goC n V k a = false) := by show _ = _; unfold goC; rw [h1]; simp
    go_wp2
    go_ret
    exact ⟨-1, .inl ⟨HO.out, rfl⟩, rfl, B1⟩
  have k01 := inB_yes h1
  obtain ⟨K, rfl⟩ : ∃ K : Nat, k = (K : Int) := ⟨k.toNat, by omega⟩
  have H1 : Hid (inB 0 ((n : Int) - 1) (K : Int) = true) := h1
  clear h1
  have HB1 : Hid (Below w.heap.size w w1) := B1
  clear B1
  obtain ⟨k0, k1⟩ := k01
  go_wp2_with fail
  refine (currentOk_any _ _).mono ?_
  rintro e w1 ⟨rfl, rfl⟩
  cases h2 : inB 0 1000000 a
  · have HO : Hid (goC n V K a = false) := by show _ = _; unfold goC; rw [h2]; simp
    go_wp2
    go_ret
    exact ⟨-1, .inl ⟨HO.out, rfl⟩, rfl, HB1.out⟩
  have HO : Hid (goC n V K a = true) := by show _ = _; unfold goC; rw [h2, H0.out, H1.out]; rfl
  clear h2
  have c1 : (K : Int) + 1 ≤ (c : Int) := by omega
  go_wp2_with fail
  go_loopw [7, 8, 33] (fun p q i wr => ∃ j : Nat, j ≤ K + 1 ∧ i = .int .i64 j ∧ (∃ x y, p = .int .i64 x ∧ q = .int .i64 y ∧ Hid (Best V a 0 j x) ∧ Hid (∀ m : Nat, x = m → y = dl V a m) ∧ -1 ≤ x ∧ x ≤ 20 ∧ -1 ≤ y ∧ y ≤ 10000000000) ∧ Hid (Below w.heap.size w wr)) (fun _ _ i _ => K + 1 - (intOf i).toNat)
  case atStart => exact ⟨0, Nat.zero_le _, rfl, ⟨-1, 0, rfl, rfl, Best.none, (fun m hm => by omega), by omega, by omega, by omega, by omega⟩, HB1.out⟩
  case round =>
    obtain ⟨j, hj, rfl, ⟨x, y, rfl, rfl, HX, HY, x0, x1, y0, y1⟩, HW⟩ := hrel
    by_cases hlt : j < K + 1
    · have hB := HW.out
      obtain ⟨g, o, rfl, hg, c0⟩ := HR.out (j * 2) (by omega)
      obtain ⟨g', o', e', hg1, c1⟩ := HR.out (j * 2 + 1) (by omega)
      cases e'
      have d0 : wr.cell? ⟨g, o + j * 2, none⟩ = some (.int .i64 (V (j * 2))) := (hB.cell (p := ⟨g, o + j * 2, none⟩) hg).trans c0
      have d1 : wr.cell? ⟨g, o + j * 2 + 1, none⟩ = some (.int .i64 (V (j * 2 + 1))) := (hB.cell (p := ⟨g, o + (j * 2 + 1), none⟩) hg).trans c1
      have zg : g < wr.heap.size := Nat.lt_of_lt_of_le hg hB.size
      have j1 : (j : Int) < (K : Int) + 1 := by omega
      have HD : Hid (dl V a j = delV (V (j * 2)) (V (j * 2 + 1)) a) := rfl
      have dr := del_rng (V (j * 2)) (V (j * 2 + 1)) a
      obtain ⟨D, hD⟩ : ∃ D, delV (V (j * 2)) (V (j * 2 + 1)) a = D := ⟨_, rfl⟩
      have HI : Hid (∀ w, Calls Try.prog 9 #[.agg #[.int .i64 (V (j * 2)), .int .i64 (V (j * 2 + 1))], .int .i64 a] w fun e w' => e = .returned (.int .i64 D) ∧ Below w.heap.size w w') := fun w => hD ▸ implDelay_any _ _ a w
      rw [hD] at HD dr
      obtain ⟨dr0, dr1⟩ := dr
      clear hD hB c0 c1 hg hg1
      go_wp2_with fail
      refine (HI.out _).mono ?_
      rintro e w2 ⟨rfl, h2⟩
      have B2 : Hid (Below w.heap.size w w2) := HW.out.trans (Below.mono (Below.trans (by repeat (first | with_reducible exact Below.refl _ _ | with_reducible refine Below.setCell ?_ (by first | omega | (simp; done) | (simp; omega)) _ | with_reducible refine bDrewN ?_ _ | with_reducible refine Below.drew ?_ | with_reducible refine Below.alloc ?_ (by first | omega | (simp; done) | (simp; omega)) _)) (h2.mono (by first | omega | (simp; done) | (simp; omega)))) HW.out.size)
      clear h2
      by_cases q0 : 0 ≤ D
      case neg =>
        have b0 : decide (0 ≤ D) = false := decide_eq_false q0
        have HZ : Hid (Best V a 0 (j + 1) x) := HX.out.up_skip (.inl (by rw [HD.out]; omega))
        go_wp2
        go_roundw
        case rel => exact ⟨j + 1, by omega, by go_num, ⟨x, y, rfl, rfl, HZ.out, HY.out, x0, x1, y0, y1⟩, B2.out⟩
        case measure => first | (simp [intOf]; done) | (simp [intOf]; omega)
      by_cases q1 : x < 0
      · have HZ : Hid (Best V a 0 (j + 1) j) := HX.out.up_take (by omega) (by rw [HD.out]; exact q0) (.inl (by omega))
        go_wp2
        go_roundw
        case rel => exact ⟨j + 1, by omega, by go_num, ⟨j, D, rfl, rfl, HZ.out, (fun m hm => by have e : j = m := (by omega); rw [← e, HD.out]), by omega, by omega, by omega, by omega⟩, B2.out⟩
        case measure => first | (simp [intOf]; done) | (simp [intOf]; omega)
      · have b1 : decide (x < 0) = false := decide_eq_false q1
        obtain ⟨m, hm⟩ : ∃ m : Nat, x = m := ⟨x.toNat, by omega⟩
        have ym : Hid (y = dl V a m) := HY.out m hm
        have HM : Hid (x = (m : Int)) := hm
        clear hm
        by_cases q2 : D ≤ y
        · have HZ : Hid (Best V a 0 (j + 1) j) := HX.out.up_take (by omega) (by rw [HD.out]; exact q0) (.inr ⟨m, HM.out, by rw [HD.out, ← ym.out]; exact q2⟩)
          go_wp2
          go_roundw
          case rel => exact ⟨j + 1, by omega, by go_num, ⟨j, D, rfl, rfl, HZ.out, (fun m hm => by have e : j = m := (by omega); rw [← e, HD.out]), by omega, by omega, by omega, by omega⟩, B2.out⟩
          case measure => first | (simp [intOf]; done) | (simp [intOf]; omega)
        · have b2 : decide (D ≤ y) = false := decide_eq_false q2
          have HZ : Hid (Best V a 0 (j + 1) x) := HX.out.up_skip (.inr ⟨m, HM.out, by rw [HD.out, ← ym.out]; omega⟩)
          go_wp2
          go_roundw
          case rel => exact ⟨j + 1, by omega, by go_num, ⟨x, y, rfl, rfl, HZ.out, HY.out, x0, x1, y0, y1⟩, B2.out⟩
          case measure => first | (simp [intOf]; done) | (simp [intOf]; omega)
    · obtain rfl : j = K + 1 := by omega
      have BF := HW.out
      go_wp2
      go_ret
      exact ⟨x, .inr ⟨HO.out, by rw [Int.toNat_natCast]; exact HX.out⟩, rfl, BF⟩
end Go.Proofs.Ytmhibahefbldaaa
