/-
What is proved: which wants go through, as the specification tells it.
-/
import Derived.Test.YtjkdnlnbkopbpaaPmI
namespace Go.Proofs.Ytjkdnlnbkopbpaa
set_option maxRecDepth 40000
open Go.ChangeShapes Go.WideShapes Go.ChangeAt Go.RowKit
set_option linter.unusedVariables false
set_option linter.unusedSimpArgs false

set_option maxRecDepth 20000 in
set_option maxHeartbeats 4000000 in
theorem specPermits_far (s t : Option Addr) (n c m d : Nat) (Wn : Nat → Bool) (V : Nat → Int) (w : World) (hn : (n : Int) ≤ 1048576) (hm : (m : Int) ≤ 1048576) (HW : Hid (RowB w s n Wn)) (HR : Hid (RowI w t (m * 2) V)) (h : ¬ (n ≤ 50 ∧ m ≤ 200)) : Calls Try.prog 6 #[.slice s n c, .slice t m d] w fun e w' => ∃ s' c', e = .returned (.slice s' (lenV n m) c') ∧ OwnB w.heap.size w' s' (lenV n m) (perV Wn V m) ∧ Below w.heap.size w w' := by
  have e : lenV n m = 0 := if_neg h
  rw [e]
  by_cases a : n ≤ 50
  · have a1 : ¬ m ≤ 200 := fun q => h ⟨a, q⟩
    have a2 : (200 : Int) < m := by omega
    have a3 : (n : Int) ≤ 50 := by omega
    go_enter Try.func6, Try.ntmps6
    go_wp2
    go_ret
    exact ⟨_, _, rfl, fun j hj => by omega, (by repeat (first | with_reducible exact Below.refl _ _ | with_reducible refine Below.setCell ?_ (by first | omega | (simp; done) | (simp; omega)) _ | with_reducible refine bDrewN ?_ _ | with_reducible refine Below.drew ?_ | with_reducible refine Below.alloc ?_ (by first | omega | (simp; done) | (simp; omega)) _))⟩
  · have a2 : (50 : Int) < n := by omega
    go_enter Try.func6, Try.ntmps6
    go_wp2
    go_ret
    exact ⟨_, _, rfl, fun j hj => by omega, (by repeat (first | with_reducible exact Below.refl _ _ | with_reducible refine Below.setCell ?_ (by first | omega | (simp; done) | (simp; omega)) _ | with_reducible refine bDrewN ?_ _ | with_reducible refine Below.drew ?_ | with_reducible refine Below.alloc ?_ (by first | omega | (simp; done) | (simp; omega)) _))⟩
set_option maxRecDepth 20000 in
set_option maxHeartbeats 8000000 in
theorem specPermits_near (s t : Option Addr) (n c m d : Nat) (Wn : Nat → Bool) (V : Nat → Int) (w : World) (hn : (n : Int) ≤ 1048576) (hm : (m : Int) ≤ 1048576) (HW : Hid (RowB w s n Wn)) (HR : Hid (RowI w t (m * 2) V)) (h : n ≤ 50 ∧ m ≤ 200) : Calls Try.prog 6 #[.slice s n c, .slice t m d] w fun e w' => ∃ s' c', e = .returned (.slice s' (lenV n m) c') ∧ OwnB w.heap.size w' s' (lenV n m) (perV Wn V m) ∧ Below w.heap.size w w' := by
  have e : lenV n m = n := if_pos h
  rw [e]
  obtain ⟨l1, l2⟩ := h
  have l3 : (n : Int) ≤ 50 := by omega
  have l4 : (m : Int) ≤ 200 := by omega
  clear e hn hm
  go_enter Try.func6, Try.ntmps6
  go_wp2_with fail
  go_loopw [5, 6] (fun v i wr => ∃ k : Nat, k ≤ n ∧ i = .int .i64 k ∧ MadeB w.heap.size w wr v k (perV Wn V m)) (fun _ i _ => n - (intOf i).toNat)
  case atStart => exact ⟨0, Nat.zero_le _, rfl, madeB_lit w _ (Nat.le_refl _)⟩
  case round =>
    obtain ⟨k, hk, rfl, hM⟩ := hrel
    have HM : Hid (MadeB w.heap.size w wr u5 k (perV Wn V m)) := hM
    obtain ⟨s', cap, rfl, ho⟩ := madeB_own hM
    have HO : Hid (OwnB w.heap.size wr s' k (perV Wn V m)) := ho
    have hB := hM.2
    have zB := hB.size
    clear hM ho
    by_cases h1 : k < n
    case neg =>
      obtain rfl : k = n := by omega
      go_wp2
      go_ret
      exact ⟨s', cap, rfl, HO.out, hB⟩
    case pos =>
      obtain ⟨g, o, rfl, hg, c0⟩ := HW.out k h1
      have d0 : wr.cell? ⟨g, o + k, none⟩ = some (.bool (Wn k)) := (hB.cell (p := ⟨g, o + k, none⟩) hg).trans c0
      have k1 : (k : Int) < (n : Int) := by omega
      have zg : g < wr.heap.size := Nat.lt_of_lt_of_le hg hB.size
      have HL : Hid (RowI wr t (m * 2) V) := HR.out.below hB
      have HP : Hid (perV Wn V m k = (Wn k && !(orTo (anyP V m (perV Wn V m) k) k))) := per_eq Wn V m k
      have HB : Hid (Below w.heap.size w wr) := hB
      clear c0 hg hB
      obtain ⟨wk, hwk⟩ : ∃ wk, Wn k = wk := ⟨_, rfl⟩
      rw [hwk] at HP d0
      clear hwk
      go_wp2_with fail
      go_loop [7, 8] (fun q i => ∃ j : Nat, j ≤ k ∧ i = .int .i64 j ∧ q = .bool (wk && !(orTo (anyP V m (perV Wn V m) k) j))) (fun _ i => k - (intOf i).toNat)
      case atStart => exact ⟨0, Nat.zero_le _, rfl, by simp [orTo]⟩
      case round =>
        obtain ⟨j, hj, rfl, rfl⟩ := hrel
        by_cases h2 : j < k
        case neg =>
          obtain rfl : j = k := by omega
          rw [← HP.out]
          obtain ⟨pk, hpk⟩ : ∃ pk, perV Wn V m j = pk := ⟨_, rfl⟩
          have EP : Hid (perV Wn V m j = pk) := hpk
          rw [hpk]
          clear hpk HP
          go_wp2_with (at_builtin; refine list_bool w.heap.size (.slice s' j cap) j (valB (perV Wn V m) j) (.tmp 44) (.tmp 46) (by rfl) (by rfl) (by rfl) (by rfl) HM.out.1 (by omega) zB ?_; intro g' cap' w7 hown7 hgrow7 hlt7)
          go_roundw
          case rel => exact ⟨j + 1, by omega, by go_num, madeB_on HM.out (Below.refl _ _) zB (by rw [EP.out]; exact hown7) hgrow7⟩
          case measure => simp [intOf]; omega
        case pos =>
          obtain ⟨b', e', hb', hl', c2, f2⟩ := HO.out j h2
          subst e'
          have k2 : (j : Int) < (k : Int) := by omega
          have HS : Hid (orTo (anyP V m (perV Wn V m) k) (j + 1) = (orTo (anyP V m (perV Wn V m) k) j || (perV Wn V m j && orTo (brP V j k) m))) := rfl
          obtain ⟨pj, hpj⟩ : ∃ pj, perV Wn V m j = pj := ⟨_, rfl⟩
          rw [hpj] at HS c2
          clear hpj hb' hl' f2 HP
          obtain ⟨oj, hoj⟩ : ∃ oj, orTo (anyP V m (perV Wn V m) k) j = oj := ⟨_, rfl⟩
          rw [hoj] at HS ⊢
          clear hoj
          cases pj
          · rw [Bool.false_and, Bool.or_false] at HS
            go_wp2
            go_round
            case rel => exact ⟨j + 1, by omega, by go_num, by rw [HS.out]⟩
            case measure => simp [intOf]; omega
          · rw [Bool.true_and] at HS
            go_wp2_with fail
            refine (l17Bars_any j k t m d V wr l4 HL).mono ?_
            rintro e w3 ⟨rfl, rfl⟩
            obtain ⟨bb, hbb⟩ : ∃ bb, orTo (brP V j k) m = bb := ⟨_, rfl⟩
            rw [hbb] at HS ⊢
            clear hbb
            cases bb
            · rw [Bool.or_false] at HS
              go_wp2
              go_round
              case rel => exact ⟨j + 1, by omega, by go_num, by rw [HS.out]⟩
              case measure => simp [intOf]; omega
            · rw [Bool.or_true] at HS
              go_wp2
              go_round
              case rel => exact ⟨j + 1, by omega, by go_num, by rw [HS.out]; simp⟩
              case measure => simp [intOf]; omega
theorem specPermits_any (s t : Option Addr) (n c m d : Nat) (Wn : Nat → Bool) (V : Nat → Int) (w : World) (hn : (n : Int) ≤ 1048576) (hm : (m : Int) ≤ 1048576) (HW : Hid (RowB w s n Wn)) (HR : Hid (RowI w t (m * 2) V)) : Calls Try.prog 6 #[.slice s n c, .slice t m d] w fun e w' => ∃ s' c', e = .returned (.slice s' (lenV n m) c') ∧ OwnB w.heap.size w' s' (lenV n m) (perV Wn V m) ∧ Below w.heap.size w w' := by
  by_cases h : n ≤ 50 ∧ m ≤ 200
  · exact specPermits_near s t n c m d Wn V w hn hm HW HR h
  · exact specPermits_far s t n c m d Wn V w hn hm HW HR h
end Go.Proofs.Ytjkdnlnbkopbpaa
