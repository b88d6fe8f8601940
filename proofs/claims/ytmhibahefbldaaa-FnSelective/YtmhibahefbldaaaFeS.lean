/-
What is proved: which relay clears a fault, as the specification tells it.
-/
import Derived.Test.YtmhibahefbldaaaFe
import Derived.Test.YtmhibahefbldaaaRlS
namespace Go.Proofs.Ytmhibahefbldaaa
set_option maxRecDepth 40000
open Go.RowKit
set_option linter.unusedVariables false
set_option linter.unusedSimpArgs false

set_option maxRecDepth 20000 in
set_option maxHeartbeats 2000000 in
theorem specFeeder_any (s : Option Addr) (n c : Nat) (V : Nat → Int) (w : World) (hn : (n : Int) ≤ 1048576) (HR : Hid (RowI w s (n * 2) V)) :
    Calls Try.prog 28 #[.slice s n c] w fun e w' => e = .returned (.bool (feedB n V)) ∧ Below w.heap.size w w' := by
  go_enter Try.func28, Try.ntmps28
  go_wp2_with fail
  go_loopw [3] (fun i wr => ∃ k : Nat, k ≤ n ∧ i = .int .i64 k ∧ Hid (∀ j, j < k → relJ V j = true) ∧ Below w.heap.size w wr) (fun i _ => n - (intOf i).toNat)
  case atStart => exact ⟨0, Nat.zero_le _, rfl, fun j hj => by omega, Below.refl _ _⟩
  case round =>
    obtain ⟨k, hk, rfl, HP, hB⟩ := hrel
    by_cases h1 : k < n
    · obtain ⟨g, o, rfl, hg, c0⟩ := HR.out (k * 2) (by omega)
      obtain ⟨g', o', e', hg1, c1⟩ := HR.out (k * 2 + 1) (by omega)
      cases e'
      have d0 : wr.cell? ⟨g, o + k * 2, none⟩ = some (.int .i64 (V (k * 2))) := (hB.cell (p := ⟨g, o + k * 2, none⟩) hg).trans c0
      have d1 : wr.cell? ⟨g, o + k * 2 + 1, none⟩ = some (.int .i64 (V (k * 2 + 1))) := (hB.cell (p := ⟨g, o + (k * 2 + 1), none⟩) hg).trans c1
      have zg : g < wr.heap.size := Nat.lt_of_lt_of_le hg hB.size
      have k1 : (k : Int) < (n : Int) := by omega
      have HB : Hid (Below w.heap.size w wr) := hB
      have HJ : Hid (relJ V k = relB (V (k * 2)) (V (k * 2 + 1))) := rfl
      clear hB c0 c1 hg hg1
      go_wp2_with fail
      refine (l16Relay_any _ _ _).mono ?_
      rintro e w2 ⟨rfl, h2⟩
      have B2 : Hid (Below w.heap.size w w2) := HB.out.trans (h2.mono HB.out.size)
      clear h2
      cases q : relB (V (k * 2)) (V (k * 2 + 1))
      · have HO : Hid (feedB n V = false) := feed_no h1 (by rw [HJ.out]; exact q)
        have B2 := B2.out
        go_wp2
        go_ret
        exact ⟨ret_bool HO.out.symm, B2⟩
      · have HK : Hid (relJ V k = true) := HJ.out.trans q
        go_wp2
        go_roundw
        case rel => exact ⟨k + 1, by omega, by go_num, ball_succ HP.out HK.out, B2.out⟩
        case measure => first | (simp [intOf]; done) | (simp [intOf]; omega)
    · obtain rfl : k = n := by omega
      by_cases n0 : 0 < k
      case neg =>
        obtain rfl : k = 0 := by omega
        have HO : Hid (feedB 0 V = false) := feed_far (by omega)
        go_wp2
        go_ret
        exact ⟨ret_bool HO.out.symm, hB⟩
      have b0 : (0 : Int) < (k : Int) := by omega
      by_cases n1 : k ≤ 20
      · have HO : Hid (feedB k V = true) := feed_all n0 n1 HP.out
        have b1 : (k : Int) ≤ 20 := by omega
        go_wp2
        go_ret
        exact ⟨ret_bool HO.out.symm, hB⟩
      · have HO : Hid (feedB k V = false) := feed_far (by omega)
        have b1 : decide ((k : Int) ≤ 20) = false := decide_eq_false (by omega)
        go_wp2
        go_ret
        exact ⟨ret_bool HO.out.symm, hB⟩
set_option maxRecDepth 20000 in
set_option maxHeartbeats 4000000 in
theorem specCleared_any (s : Option Addr) (n c : Nat) (V : Nat → Int) (k a : Int) (w : World) (hn : (n : Int) ≤ 1048576) (hcap : n ≤ c) (HR : Hid (RowI w s (n * 2) V)) :
    Calls Try.prog 11 #[.slice s n c, .int .i64 k, .int .i64 a] w fun e w' => ∃ x, ClV n V k a x ∧ e = .returned (.int .i64 x) ∧ Below w.heap.size w w' := by
  go_enter Try.func11, Try.ntmps11
  go_wp2_with fail
  refine (specFeeder_any s n c V _ hn HR).mono ?_
  rintro e w1 ⟨rfl, B1⟩
  cases h0 : feedB n V
  · have HO : Hid (goC n V k a = false) := by show _ = _; unfold goC; rw [h0]; rfl
    go_wp2
    go_ret
    exact ⟨-1, .inl ⟨HO.out, rfl⟩, rfl, B1⟩
  obtain ⟨n0, n1, -⟩ := feed_yes h0
  have H0 : Hid (feedB n V = true) := h0
  clear h0
  go_wp2_with fail
  refine (l1In_is _ _ _ _).mono ?_
  rintro e w1 ⟨rfl, rfl⟩
  cases h1 : inB 0 ((n : Int) - 1) k
  · have HO : Hid (goC n V k a = false) := by show _ = _; unfold goC; rw [h1]; simp
    go_wp2
    go_ret
    exact ⟨-1, .inl ⟨HO.out, rfl⟩, rfl, B1⟩
  have k01 := inB_yes h1
  obtain ⟨K, rfl⟩ : ∃ K : Nat, k = (K : Int) := ⟨k.toNat, by omega⟩
  have H1 : Hid (inB 0 ((n : Int) - 1) (K : Int) = true) := h1
  clear h1
  have HB1 : Hid (Below w.heap.size w w1) := B1
  clear B1
  obtain ⟨k0, k1⟩ := k01
  go_wp2_with fail
  go_loopw [7, 8] (fun p i wr => ∃ j : Nat, j ≤ K + 1 ∧ i = .int .i64 ((j : Int) - 1) ∧ (∃ x, p = .int .i64 x ∧ Hid (Best V a j (K + 1) x)) ∧ Hid (Below w.heap.size w wr)) (fun _ i _ => (intOf i + 1).toNat)
  case atStart => exact ⟨K + 1, Nat.le_refl _, by go_num, ⟨-1, rfl, Best.none⟩, HB1.out⟩
  case round =>
    obtain ⟨j', hj', rfl, ⟨x, rfl, HX⟩, HW⟩ := hrel
    by_cases hlt : 0 < j'
    · obtain ⟨j, rfl⟩ : ∃ j, j' = j + 1 := ⟨j' - 1, by omega⟩
      have e1 : ((j + 1 : Nat) : Int) - 1 = (j : Int) := by omega
      rw [e1]
      clear e1
      have hB := HW.out
      obtain ⟨g, o, rfl, hg, c0⟩ := HR.out (j * 2) (by omega)
      obtain ⟨g', o', e', hg1, c1⟩ := HR.out (j * 2 + 1) (by omega)
      cases e'
      have d0 : wr.cell? ⟨g, o + j * 2, none⟩ = some (.int .i64 (V (j * 2))) := (hB.cell (p := ⟨g, o + j * 2, none⟩) hg).trans c0
      have d1 : wr.cell? ⟨g, o + j * 2 + 1, none⟩ = some (.int .i64 (V (j * 2 + 1))) := (hB.cell (p := ⟨g, o + (j * 2 + 1), none⟩) hg).trans c1
      have zg : g < wr.heap.size := Nat.lt_of_lt_of_le hg hB.size
      have j1 : (j : Int) < (n : Int) := by omega
      have HD : Hid (dl V a j = delV (V (j * 2)) (V (j * 2 + 1)) a) := rfl
      have dr := del_rng (V (j * 2)) (V (j * 2 + 1)) a
      obtain ⟨D, hD⟩ : ∃ D, delV (V (j * 2)) (V (j * 2 + 1)) a = D := ⟨_, rfl⟩
      have HI : Hid (∀ w, Calls Try.prog 7 #[.agg #[.int .i64 (V (j * 2)), .int .i64 (V (j * 2 + 1))], .int .i64 a] w fun e w' => e = .returned (.int .i64 D) ∧ Below w.heap.size w w') := fun w => hD ▸ specDelay_any _ _ a w
      rw [hD] at HD dr
      obtain ⟨dr0, dr1⟩ := dr
      clear hD hB c0 c1 hg hg1
      go_wp2_with fail
      refine (HI.out _).mono ?_
      rintro e w2 ⟨rfl, h2⟩
      have B2 : Hid (Below w.heap.size w w2) := HW.out.trans (h2.mono HW.out.size)
      clear h2 d0 d1
      by_cases q0 : 0 ≤ D
      case neg =>
        have b0 : decide (0 ≤ D) = false := decide_eq_false q0
        have HZ : Hid (Best V a j (K + 1) x) := HX.out.down_skip (.inl (by rw [HD.out]; omega))
        go_wp2
        go_roundw
        case rel => exact ⟨j, by omega, by go_num, ⟨x, rfl, HZ.out⟩, B2.out⟩
        case measure => first | (simp [intOf]; done) | (simp [intOf]; omega)
      rcases HX.out.rng with rfl | ⟨m, rfl, hm, hp⟩
      · have HZ : Hid (Best V a j (K + 1) j) := HX.out.down_take (by omega) (by rw [HD.out]; exact q0) (.inl rfl)
        go_wp2
        go_roundw
        case rel => exact ⟨j, by omega, by go_num, ⟨j, rfl, HZ.out⟩, B2.out⟩
        case measure => first | (simp [intOf]; done) | (simp [intOf]; omega)
      · have hB := B2.out
        have HR2 : Hid (RowI w (some ⟨g, o, none⟩) (n * 2) V) := HR
        obtain ⟨gm, om, eq1, hgm, e0⟩ := HR.out (m * 2) (by omega)
        cases eq1
        have hhgm := hgm
        obtain ⟨g', o', e', hgm1, e1⟩ := HR.out (m * 2 + 1) (by omega)
        cases e'
        have f0 : w2.cell? ⟨g, o + m * 2, none⟩ = some (.int .i64 (V (m * 2))) := (hB.cell (p := ⟨g, o + m * 2, none⟩) hhgm).trans e0
        have f1 : w2.cell? ⟨g, o + m * 2 + 1, none⟩ = some (.int .i64 (V (m * 2 + 1))) := (hB.cell (p := ⟨g, o + (m * 2 + 1), none⟩) hhgm).trans e1
        have yg : g < w2.heap.size := Nat.lt_of_lt_of_le hhgm hB.size
        have m1 : (m : Int) < (n : Int) := by omega
        have HE : Hid (dl V a m = delV (V (m * 2)) (V (m * 2 + 1)) a) := rfl
        have dm := del_rng (V (m * 2)) (V (m * 2 + 1)) a
        obtain ⟨E, hE⟩ : ∃ E, delV (V (m * 2)) (V (m * 2 + 1)) a = E := ⟨_, rfl⟩
        have HJ : Hid (∀ w, Calls Try.prog 7 #[.agg #[.int .i64 (V (m * 2)), .int .i64 (V (m * 2 + 1))], .int .i64 a] w fun e w' => e = .returned (.int .i64 E) ∧ Below w.heap.size w w') := fun w => hE ▸ specDelay_any _ _ a w
        rw [hE] at HE dm
        obtain ⟨dm0, dm1⟩ := dm
        clear hE hB e0 e1
        go_wp2_with fail
        refine (HJ.out _).mono ?_
        rintro e w3 ⟨rfl, h3⟩
        have B3 : Hid (Below w.heap.size w w3) := B2.out.trans (h3.mono B2.out.size)
        clear h3
        by_cases q2 : D < E
        · have HZ : Hid (Best V a j (K + 1) j) := HX.out.down_take (by omega) (by rw [HD.out]; exact q0) (.inr ⟨m, rfl, by rw [HD.out, HE.out]; exact q2⟩)
          go_wp2
          go_roundw
          case rel => exact ⟨j, by omega, by go_num, ⟨j, rfl, HZ.out⟩, B3.out⟩
          case measure => first | (simp [intOf]; done) | (simp [intOf]; omega)
        · have b2 : decide (D < E) = false := decide_eq_false q2
          have HZ : Hid (Best V a j (K + 1) m) := HX.out.down_skip (.inr ⟨m, rfl, by rw [HD.out, HE.out]; omega⟩)
          go_wp2
          go_roundw
          case rel => exact ⟨j, by omega, by go_num, ⟨m, rfl, HZ.out⟩, B3.out⟩
          case measure => first | (simp [intOf]; done) | (simp [intOf]; omega)
    · obtain rfl : j' = 0 := by omega
      have BF := HW.out
      have HF : Hid (ClV n V K a x) := by
        cases h2 : inB 0 1000000 a
        · refine .inl ⟨by unfold goC; rw [h2]; simp, ?_⟩
          rcases HX.out.rng with h | ⟨m, rfl, hm, hp⟩
          · exact h
          · exfalso
            have : dl V a m = -1 := del_off (by rw [h2]; simp)
            omega
        · exact .inr ⟨by unfold goC; rw [h2, H0.out, H1.out]; rfl, by rw [Int.toNat_natCast]; exact HX.out⟩
      go_wp2
      go_ret
      exact ⟨x, HF.out, rfl, BF⟩
end Go.Proofs.Ytmhibahefbldaaa
