/-
What is proved: what the specification finds of limits and clocks.
-/
import Derived.Test.YtmoeoepinlcmdaaDoorCl
import Derived.Deep.RegionHeld3
import Derived.Deep.DeepCutAuto
import Derived.BigQuiet
namespace Go.Proofs.YtmoeoepinlcmdaaDoor
set_option maxRecDepth 40000
open Go.ChangeShapes Go.WideShapes Go.ChangeAt Go.RowKit
set_option linter.unusedVariables false
set_option linter.unusedSimpArgs false

theorem ball_succS {p : Nat → Prop} {k : Nat} (h : ∀ j, j < k → p j) (hk : p k) : ∀ j, j < k + 1 → p j := fun j hj => by
  by_cases e : j = k
  · exact e ▸ hk
  · exact h j (by omega)
set_option maxRecDepth 20000 in
set_option maxHeartbeats 8000000 in
theorem l25Ok_any (s t : Option Addr) (n c m d : Nat) (V : Nat → Int × Int) (U : Nat → Int × Bool) (w : World) (hn : (n : Int) ≤ 1048576) (hm : (m : Int) ≤ 1048576) (HR : Hid (RowLimit w s n V)) (HU : Hid (RowClock w t m U)) :
    Calls Tryd.prog 29 #[.slice s n c, .slice t m d] w fun e w' => e = .returned (.bool (clsB n V m U)) ∧ Below w.heap.size w w' := by
  by_cases n1 : 60 < n
  · have b1 : (60 : Int) < (n : Int) := by omega
    have HO : Hid (clsB n V m U = false) := cls_long n1
    go_enter Tryd.func29, Tryd.ntmps29
    go_wp2
    go_ret
    exact ⟨ret_bool HO.out.symm, (by repeat (first | with_reducible exact Below.refl _ _ | with_reducible refine Below.setCell ?_ (by first | omega | (simp; done) | (simp; omega)) _ | with_reducible refine bDrewN ?_ _ | with_reducible refine Below.drew ?_ | with_reducible refine Below.alloc ?_ (by first | omega | (simp; done) | (simp; omega)) _))⟩
  have b1 : decide ((60 : Int) < (n : Int)) = false := decide_eq_false (by omega)
  have n6 : n ≤ 60 := by omega
  go_enter Tryd.func29, Tryd.ntmps29
  go_wp2_with fail
  go_loopw [5] (fun i wr => ∃ k : Nat, k ≤ n ∧ i = .int .i64 k ∧ Hid (∀ j, j < k → limB (V j) = true) ∧ Below w.heap.size w wr) (fun i _ => n - (intOf i).toNat)
  case atStart => exact ⟨0, Nat.zero_le _, rfl, fun j hj => by omega, Below.refl _ _⟩
  case round =>
    obtain ⟨k, hk, rfl, HP, hB⟩ := hrel
    by_cases h1 : k < n
    · obtain ⟨g, o, rfl, hg, c0, c1⟩ := HR.out k h1
      replace c0 := (hB.cell (p := ⟨g, o + k * 2, none⟩) hg).trans c0
      replace c1 := (hB.cell (p := ⟨g, o + k * 2 + 1, none⟩) hg).trans c1
      obtain ⟨⟨a, b⟩, hV⟩ : ∃ z, V k = z := ⟨_, rfl⟩
      rw [hV] at c0 c1
      simp only at c0 c1
      have HV : Hid (V k = (a, b)) := hV
      have k1 : (k : Int) < (n : Int) := by omega
      clear hV
      go_wp2_with fail
      refine (l1In_is _ _ _ _).mono ?_
      rintro e wr ⟨rfl, rfl⟩
      cases e0 : inB 0 255 a
      · have HO : Hid (clsB n V m U = false) := cls_bad h1 (Or.inl (by rw [HV.out]; unfold limB; simp only; rw [e0]; rfl))
        go_wp2
        go_ret
        exact ⟨ret_bool HO.out.symm, (by repeat (first | with_reducible exact Below.refl _ _ | with_reducible exact hB | with_reducible refine Below.setCell ?_ (by first | omega | (simp; done) | (simp; omega)) _ | with_reducible refine bDrewN ?_ _ | with_reducible refine Below.drew ?_ | with_reducible refine Below.alloc ?_ (by first | omega | (simp; done) | (simp; omega)) _))⟩
      go_wp2_with fail
      refine (l1In_is _ _ _ _).mono ?_
      rintro e wr ⟨rfl, rfl⟩
      cases e1 : inB 1 10000 b
      · have HO : Hid (clsB n V m U = false) := cls_bad h1 (Or.inl (by rw [HV.out]; unfold limB; simp only; rw [e1]; simp))
        go_wp2
        go_ret
        exact ⟨ret_bool HO.out.symm, (by repeat (first | with_reducible exact Below.refl _ _ | with_reducible exact hB | with_reducible refine Below.setCell ?_ (by first | omega | (simp; done) | (simp; omega)) _ | with_reducible refine bDrewN ?_ _ | with_reducible refine Below.drew ?_ | with_reducible refine Below.alloc ?_ (by first | omega | (simp; done) | (simp; omega)) _))⟩
      have HK : Hid (∀ j, j < k + 1 → limB (V j) = true) := ball_succS HP.out (by rw [HV.out]; unfold limB; simp only; rw [e0, e1]; rfl)
      clear e0 e1
      go_wp2
      go_roundw
      case rel => exact ⟨k + 1, by omega, by go_num, HK, hB⟩
      case measure => first | (simp [intOf]; done) | (simp [intOf]; omega)
    · obtain rfl : k = n := by omega
      by_cases n2 : m = k
      · subst n2
        have HW : Hid (Below w.heap.size w wr) := hB
        clear hB h1
        go_wp2_with fail
        go_loopw [6] (fun i wq => ∃ k : Nat, k ≤ m ∧ i = .int .i64 k ∧ Hid (∀ j, j < k → clkB (V j) (U j) = true) ∧ Below w.heap.size w wq) (fun i _ => m - (intOf i).toNat)
        case atStart => exact ⟨0, Nat.zero_le _, rfl, fun j hj => by omega, HW.out⟩
        case round =>
          obtain ⟨k, hk, rfl, HQ, hB⟩ := hrel
          by_cases h1 : k < m
          · obtain ⟨g, o, rfl, hg, c0, c1⟩ := HR.out k h1
            obtain ⟨h, i, rfl, hh, d0, d1⟩ := HU.out k h1
            replace c1 := (hB.cell (p := ⟨g, o + k * 2 + 1, none⟩) hg).trans c1
            replace d0 := (hB.cell (p := ⟨h, i + k * 2, none⟩) hh).trans d0
            replace d1 := (hB.cell (p := ⟨h, i + k * 2 + 1, none⟩) hh).trans d1
            obtain ⟨⟨a, b⟩, hV⟩ : ∃ z, V k = z := ⟨_, rfl⟩
            obtain ⟨⟨r, l⟩, hU⟩ : ∃ z, U k = z := ⟨_, rfl⟩
            rw [hV] at c1
            rw [hU] at d0 d1
            simp only at c1 d0 d1
            have HV : Hid (clkB (V k) (U k) = (inB (-1) b r && (l == decide (r = b)))) := by show _ = _; rw [hV, hU]; rfl
            have k1 : (k : Int) < (m : Int) := by omega
            have zg := Nat.lt_of_lt_of_le hg hB.size
            have zh := Nat.lt_of_lt_of_le hh hB.size
            have HWQ : ∀ x y z W, Calls Tryd.prog 30 #[.int .i64 x, .int .i64 y, .int .i64 z] W fun e w' => e = .returned (.bool (inB y z x)) ∧ w' = W := fun x y z W => l1In_is x y z W
            clear hV hU hg hh c0
            cases e0 : inB (-1) b r
            · have HO : Hid (clsB m V m U = false) := cls_bad h1 (Or.inr (by rw [HV.out, e0]; rfl))
              have HI : ∀ W, Calls Tryd.prog 30 #[.int .i64 r, .int .i64 (-1), .int .i64 b] W fun e w' => e = .returned (.bool false) ∧ w' = W := fun W => by have := HWQ r (-1) b W; rw [e0] at this; exact this
              go_upto_region 13 with fail
              go_quiet (first | (go_at_call 30; exact Calls.quiet_of_same (HI _)))
              go_wp2
              go_ret
              exact ⟨ret_bool HO.out.symm, (by repeat (first | with_reducible exact Below.refl _ _ | with_reducible exact hB | with_reducible refine Below.setCell ?_ (by first | omega | (simp; done) | (simp; omega)) _ | with_reducible refine bDrewN ?_ _ | with_reducible refine Below.drew ?_ | with_reducible refine Below.alloc ?_ (by first | omega | (simp; done) | (simp; omega)) _))⟩
            · have HI : ∀ W, Calls Tryd.prog 30 #[.int .i64 r, .int .i64 (-1), .int .i64 b] W fun e w' => e = .returned (.bool true) ∧ w' = W := fun W => by have := HWQ r (-1) b W; rw [e0] at this; exact this
              have HE1 : Hid (∀ q, (l == decide (r = b)) = q → clkB (V k) (U k) = q) := fun q hq => by rw [HV.out, e0, hq]; cases q <;> rfl
              clear HV e0
              cases l
              · by_cases hrb : r = b
                · have hd : decide (r = b) = true := decide_eq_true hrb
                  have HZ : Hid (clkB (V k) (U k) = false) := HE1.out _ (by rw [hd]; rfl)
                  clear hd HE1
                  subst hrb
                  have HO : Hid (clsB m V m U = false) := cls_bad h1 (Or.inr HZ.out)
                  go_upto_region 13 with fail
                  go_quiet (first | (go_at_call 30; exact Calls.quiet_of_same (HI _)))
                  go_wp2
                  all_goals first | (exfalso; rename_i q; revert q; simp; omega) | (go_ret; exact ⟨ret_bool HO.out.symm, (by repeat (first | with_reducible exact Below.refl _ _ | with_reducible exact hB | with_reducible refine Below.setCell ?_ (by first | omega | (simp; done) | (simp; omega)) _ | with_reducible refine bDrewN ?_ _ | with_reducible refine Below.drew ?_ | with_reducible refine Below.alloc ?_ (by first | omega | (simp; done) | (simp; omega)) _))⟩)
                · have hd : decide (r = b) = false := decide_eq_false hrb
                  have HZ : Hid (clkB (V k) (U k) = true) := HE1.out _ (by rw [hd]; rfl)
                  clear hd HE1
                  have HK : Hid (∀ j, j < k + 1 → clkB (V j) (U j) = true) := ball_succS HQ.out HZ.out
                  go_upto_region 13 with fail
                  go_quiet (first | (go_at_call 30; exact Calls.quiet_of_same (HI _)))
                  go_wp2
                  go_roundw
                  case rel => exact ⟨k + 1, by omega, by go_num, HK, (by repeat (first | with_reducible exact Below.refl _ _ | with_reducible exact hB | with_reducible refine Below.setCell ?_ (by first | omega | (simp; done) | (simp; omega)) _ | with_reducible refine bDrewN ?_ _ | with_reducible refine Below.drew ?_ | with_reducible refine Below.alloc ?_ (by first | omega | (simp; done) | (simp; omega)) _))⟩
                  case measure => first | (simp [intOf]; done) | (simp [intOf]; omega)
              · by_cases hrb : r = b
                · have hd : decide (r = b) = true := decide_eq_true hrb
                  have HZ : Hid (clkB (V k) (U k) = true) := HE1.out _ (by rw [hd]; rfl)
                  clear hd HE1
                  subst hrb
                  have HK : Hid (∀ j, j < k + 1 → clkB (V j) (U j) = true) := ball_succS HQ.out HZ.out
                  go_upto_region 13 with fail
                  go_quiet (first | (go_at_call 30; exact Calls.quiet_of_same (HI _)))
                  go_wp2
                  go_roundw
                  case rel => exact ⟨k + 1, by omega, by go_num, HK, (by repeat (first | with_reducible exact Below.refl _ _ | with_reducible exact hB | with_reducible refine Below.setCell ?_ (by first | omega | (simp; done) | (simp; omega)) _ | with_reducible refine bDrewN ?_ _ | with_reducible refine Below.drew ?_ | with_reducible refine Below.alloc ?_ (by first | omega | (simp; done) | (simp; omega)) _))⟩
                  case measure => first | (simp [intOf]; done) | (simp [intOf]; omega)
                · have hd : decide (r = b) = false := decide_eq_false hrb
                  have HZ : Hid (clkB (V k) (U k) = false) := HE1.out _ (by rw [hd]; rfl)
                  clear hd HE1
                  have HO : Hid (clsB m V m U = false) := cls_bad h1 (Or.inr HZ.out)
                  go_upto_region 13 with fail
                  go_quiet (first | (go_at_call 30; exact Calls.quiet_of_same (HI _)))
                  go_wp2
                  all_goals first | (exfalso; rename_i q; revert q; simp; omega) | (go_ret; exact ⟨ret_bool HO.out.symm, (by repeat (first | with_reducible exact Below.refl _ _ | with_reducible exact hB | with_reducible refine Below.setCell ?_ (by first | omega | (simp; done) | (simp; omega)) _ | with_reducible refine bDrewN ?_ _ | with_reducible refine Below.drew ?_ | with_reducible refine Below.alloc ?_ (by first | omega | (simp; done) | (simp; omega)) _))⟩)
          · obtain rfl : k = m := by omega
            have HO : Hid (clsB k V k U = true) := cls_all n6 HP.out HQ.out
            go_wp2
            go_ret
            exact ⟨ret_bool HO.out.symm, (by repeat (first | with_reducible exact Below.refl _ _ | with_reducible exact hB | with_reducible refine Below.setCell ?_ (by first | omega | (simp; done) | (simp; omega)) _ | with_reducible refine bDrewN ?_ _ | with_reducible refine Below.drew ?_ | with_reducible refine Below.alloc ?_ (by first | omega | (simp; done) | (simp; omega)) _))⟩
      · have b2 : decide ((m : Int) = (k : Int)) = false := decide_eq_false (by omega)
        have HO : Hid (clsB k V m U = false) := cls_odd n2
        go_wp2
        go_ret
        exact ⟨ret_bool HO.out.symm, (by repeat (first | with_reducible exact Below.refl _ _ | with_reducible exact hB | with_reducible refine Below.setCell ?_ (by first | omega | (simp; done) | (simp; omega)) _ | with_reducible refine bDrewN ?_ _ | with_reducible refine Below.drew ?_ | with_reducible refine Below.alloc ?_ (by first | omega | (simp; done) | (simp; omega)) _))⟩
end Go.Proofs.YtmoeoepinlcmdaaDoor
