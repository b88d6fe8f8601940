/-
What is proved: when loads are right, and how long machines stay on, as both packages say it.
-/
import Derived.Test.YtdlbniihgppodaaCq
import Derived.Test.YtdlbniihgppodaaLBE
import Derived.Deep.RegionHeld3
import Derived.BigQuiet
namespace Go.Proofs.Ytdlbniihgppodaa
set_option maxRecDepth 40000
open Go.ChangeShapes Go.WideShapes Go.ChangeAt Go.RowKit
set_option linter.unusedVariables false
set_option linter.unusedSimpArgs false

set_option maxRecDepth 20000 in
set_option maxHeartbeats 1000000 in
theorem loadsOk_any (s : Option Addr) (m c : Nat) (W : Nat → Int) (w : World) (hm : (m : Int) ≤ 1048576) (HR : Hid (RowI w s m W)) :
    Calls Try.prog 46 #[.slice s m c] w fun e w' => e = .returned (.bool (ldB m W)) ∧ w' = w := by
  go_enter Try.func46, Try.ntmps46
  go_wp2_with fail
  refine (within_is _ _ _ _).mono ?_
  rintro e w1 ⟨rfl, rfl⟩
  cases h0 : inB 1 5 (m : Int)
  · have HO : Hid (ldB m W = false) := by show _ = _; unfold ldB; rw [h0]; rfl
    go_wp2
    go_ret
    exact ⟨ret_bool HO.out.symm, rfl⟩
  have HO : Hid (ldB m W = allInB 0 300000 W m) := by show _ = _; unfold ldB; rw [h0]; rfl
  go_wp2_with fail
  refine (allWithin_any s m c W 0 300000 _ hm HR).mono ?_
  rintro e w2 ⟨rfl, rfl⟩
  go_wp2
  go_ret
  exact ⟨ret_bool HO.out.symm, rfl⟩
theorem ld_no {m k : Nat} {W : Nat → Int} (hk : k < m) (h : inB 0 300000 (W k) = false) : ldB m W = false := by
  unfold ldB allInB
  have : decide (∀ j, j < m → 0 ≤ W j ∧ W j ≤ 300000) = false := decide_eq_false fun q => by have := q k hk; have := inB_no h; omega
  rw [this]; simp
set_option maxRecDepth 20000 in
set_option maxHeartbeats 1000000 in
theorem l24Loads_any (s : Option Addr) (m c : Nat) (W : Nat → Int) (w : World) (hm : (m : Int) ≤ 1048576) (HR : Hid (RowI w s m W)) :
    Calls Try.prog 44 #[.slice s m c] w fun e w' => e = .returned (.bool (ldB m W)) ∧ w' = w := by
  go_enter Try.func44, Try.ntmps44
  go_wp2_with fail
  go_loop [3] (fun i => ∃ k : Nat, k ≤ m ∧ i = .int .i64 k ∧ Hid (∀ j, j < k → 0 ≤ W j ∧ W j ≤ 300000)) (fun i => m - (intOf i).toNat)
  case atStart => exact ⟨0, Nat.zero_le _, rfl, fun j hj => by omega⟩
  case round =>
    obtain ⟨k, hk, rfl, HP⟩ := hrel
    by_cases h1 : k < m
    · obtain ⟨g, o, rfl, hg, c0⟩ := HR.out k h1
      have k1 : (k : Int) < (m : Int) := by omega
      go_wp2_with fail
      refine (l1In_is _ _ _ _).mono ?_
      rintro e w2 ⟨rfl, rfl⟩
      cases e0 : inB 0 300000 (W k)
      · have HO : Hid (ldB m W = false) := ld_no h1 e0
        go_wp2
        go_ret
        exact ⟨ret_bool HO.out.symm, rfl⟩
      have HK : Hid (0 ≤ W k ∧ W k ≤ 300000) := inB_yes e0
      go_wp2
      go_round
      case rel => exact ⟨k + 1, by omega, by go_num, ball_succP HP.out HK.out⟩
      case measure => first | (simp [intOf]; done) | (simp [intOf]; omega)
    · obtain rfl : k = m := by omega
      have HF : Hid (ldB k W = inB 1 5 (k : Int)) := by show _ = _; unfold ldB allInB; rw [decide_eq_true HP.out, Bool.and_true]
      by_cases k0 : 1 ≤ k
      · have b0 : (1 : Int) ≤ (k : Int) := by omega
        by_cases k3 : k ≤ 5
        · have b1 : (k : Int) ≤ 5 := by omega
          have HO : Hid (ldB k W = true) := by show _ = _; rw [HF.out]; unfold inB; simp; omega
          go_wp2
          go_ret
          exact ⟨ret_bool HO.out.symm, rfl⟩
        · have b1 : decide ((k : Int) ≤ 5) = false := decide_eq_false (by omega)
          have HO : Hid (ldB k W = false) := by show _ = _; rw [HF.out]; unfold inB; simp; omega
          go_wp2
          go_ret
          exact ⟨ret_bool HO.out.symm, rfl⟩
      · have b0 : decide ((1 : Int) ≤ (k : Int)) = false := decide_eq_false (by omega)
        have HO : Hid (ldB k W = false) := by show _ = _; rw [HF.out]; unfold inB; simp; omega
        go_wp2
        go_ret
        exact ⟨ret_bool HO.out.symm, rfl⟩
def stayB (n : Nat) (V : Nat → Int × Int × Int × Int × Int) (m : Nat) (O : Nat → Nat → Bool) : Bool := decide (∀ i, i < n → ∀ t, t < m → stoB V O t i = true)
theorem stay_no {n m i t : Nat} {V : Nat → Int × Int × Int × Int × Int} {O : Nat → Nat → Bool} (hi : i < n) (ht : t < m) (h : stoB V O t i = false) : stayB n V m O = false := decide_eq_false fun q => by
  have := q i hi t ht
  rw [h] at this; cases this
theorem sto_on {V : Nat → Int × Int × Int × Int × Int} {O : Nat → Nat → Bool} {t i : Nat} (h : O t i = true) : stoB V O t i = true := by unfold stoB; rw [h]; rfl
theorem sto_off {V : Nat → Int × Int × Int × Int × Int} {O : Nat → Nat → Bool} {t i : Nat} {y : Int} (h : O t i = false) (hy : (V i).2.2.2.2 = y) : stoB V O t i = !(inB 1 (y - 1) (ranF O t i)) := by unfold stoB; rw [h, hy]; rfl
set_option maxRecDepth 20000 in
set_option maxHeartbeats 4000000 in
theorem l24Stays_any (s : Option Addr) (n c : Nat) (V : Nat → Int × Int × Int × Int × Int) (q : Option Addr) (m d : Nat) (K : Nat → Nat) (O : Nat → Nat → Bool) (w : World) (hn : (n : Int) ≤ 1048576) (hm : (m : Int) ≤ 1048576) (HK : Hid (∀ t, t < m → K t = n)) (HR : Hid (RowPlant w s n V)) (HO : Hid (RowLB w q m K O)) :
    Calls Try.prog 45 #[.slice s n c, .slice q m d] w fun e w' => e = .returned (.bool (stayB n V m O)) ∧ w' = w := by
  go_enter Try.func45, Try.ntmps45
  go_wp2_with fail
  go_loop [5] (fun i => ∃ k : Nat, k ≤ n ∧ i = .int .i64 k ∧ Hid (∀ j, j < k → ∀ t, t < m → stoB V O t j = true)) (fun i => n - (intOf i).toNat)
  case atStart => exact ⟨0, Nat.zero_le _, rfl, fun j hj => by omega⟩
  case round =>
    obtain ⟨k, hk, rfl, HP⟩ := hrel
    by_cases h1 : k < n
    case neg =>
      obtain rfl : k = n := by omega
      have HF : Hid (stayB k V m O = true) := decide_eq_true HP.out
      go_wp2
      go_ret
      exact ⟨ret_bool HF.out.symm, rfl⟩
    have k1 : (k : Int) < (n : Int) := by omega
    go_wp2_with fail
    go_loop [6, 7] (fun r i => ∃ t : Nat, t ≤ m ∧ i = .int .i64 t ∧ r = .int .i64 (ranF O t k) ∧ Hid (∀ j, j < t → stoB V O j k = true)) (fun _ i => m - (intOf i).toNat)
    case atStart => exact ⟨0, Nat.zero_le _, rfl, rfl, fun j hj => by omega⟩
    case round =>
      obtain ⟨t, ht, rfl, rfl, HT⟩ := hrel
      by_cases h2 : t < m
      case neg =>
        obtain rfl : t = m := by omega
        go_wp2
        go_round
        case rel => exact ⟨k + 1, by omega, by go_num, ball_succP HP.out HT.out⟩
        case measure => first | (simp [intOf]; done) | (simp [intOf]; omega)
      have t1 : (t : Int) < (m : Int) := by omega
      obtain ⟨g2, o2, a2, d2, rfl, hg2, e0, HB⟩ := HO.out t h2
      rw [HK.out t h2] at e0 HB
      obtain ⟨g3, o3, rfl, hg3, e1⟩ := HB k h1
      obtain ⟨g, o, rfl, hg, c0, c1, c2, c3, c4⟩ := HR.out k h1
      clear c0 c1 c2 c3 HB
      obtain ⟨y, hy⟩ : ∃ y, (V k).2.2.2.2 = y := ⟨_, rfl⟩
      rw [hy] at c4
      have hr := ran_in O t k
      obtain ⟨r, er⟩ : ∃ r, ranF O t k = r := ⟨_, rfl⟩
      have HN : Hid (ranF O (t + 1) k = if O t k = true then r + 1 else 0) := by rw [← er]; exact rfl
      have HY : Hid (O t k = false → stoB V O t k = !(inB 1 (y - 1) r)) := fun h => by rw [← er]; exact sto_off h hy
      have HNO : Hid (stoB V O t k = false → stayB n V m O = false) := stay_no h1 h2
      have HON : Hid (O t k = true → stoB V O t k = true) := sto_on
      rw [er] at hr ⊢
      obtain ⟨bo, hbo⟩ : ∃ z, O t k = z := ⟨_, rfl⟩
      rw [hbo] at e1 HN HY HON
      clear er hy hbo
      cases bo
      · have HS := HY.out rfl
        by_cases r0 : 0 < r
        · by_cases r1 : r < y
          · have HF : Hid (stayB n V m O = false) := HNO.out (by rw [HS]; unfold inB; rw [decide_eq_true (by omega : 1 ≤ r ∧ r ≤ y - 1)]; rfl)
            clear HS
            go_wp2
            go_ret
            exact ⟨ret_bool HF.out.symm, rfl⟩
          · have r1 : decide (r < y) = false := decide_eq_false r1
            have HF : Hid (stoB V O t k = true) := by show _ = _; rw [HS]; unfold inB; rw [decide_eq_false (by have := of_decide_eq_false r1; omega : ¬ (1 ≤ r ∧ r ≤ y - 1))]; rfl
            clear HS
            go_wp2
            go_round
            case rel => exact ⟨t + 1, by omega, by go_num, by rw [HN.out]; rfl, ball_succP HT.out HF.out⟩
            case measure => first | (simp [intOf]; done) | (simp [intOf]; omega)
        · have HF : Hid (stoB V O t k = true) := by show _ = _; rw [HS]; unfold inB; rw [decide_eq_false (by omega : ¬ (1 ≤ r ∧ r ≤ y - 1))]; rfl
          have r0 : decide (0 < r) = false := decide_eq_false r0
          clear HS
          go_wp2
          go_round
          case rel => exact ⟨t + 1, by omega, by go_num, by rw [HN.out]; rfl, ball_succP HT.out HF.out⟩
          case measure => first | (simp [intOf]; done) | (simp [intOf]; omega)
      · have HF : Hid (stoB V O t k = true) := HON.out rfl
        have r2 : r ≤ 1048576 := by omega
        go_wp2
        go_round
        case rel => exact ⟨t + 1, by omega, by go_num, by rw [HN.out]; go_num, ball_succP HT.out HF.out⟩
        case measure => first | (simp [intOf]; done) | (simp [intOf]; omega)
end Go.Proofs.Ytdlbniihgppodaa
