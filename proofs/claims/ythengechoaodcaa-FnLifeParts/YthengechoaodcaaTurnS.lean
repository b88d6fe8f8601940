/-
What is proved: the turnings of a course, as the specification tells them.
-/
import Derived.Test.YthengechoaodcaaTurn
namespace Go.Proofs.Ythengechoaodcaa
set_option maxRecDepth 40000
open Go.RowKit
set_option linter.unusedVariables false

set_option maxRecDepth 20000 in
set_option maxHeartbeats 8000000 in
theorem specTurn_in (s : Option Addr) (n c : Nat) (V : Nat → Int) (w : World) (hn : (n : Int) ≤ 400) (HR : Hid (RowI w s n V))
    (C : Hid (∀ w', Below w.heap.size w w' → Calls Try.prog 43 #[.slice s n c] w' fun e w'' => e = .returned (.bool true) ∧ w'' = w')) :
    Calls Try.prog 19 #[.slice s n c] w fun e w' => ∃ m U, m = (rests V n).length ∧ U = nthI (rests V n) ∧ ∃ s' c', e = .returned (.slice s' (turns m U m).length c') ∧ OwnI w.heap.size w' s' (turns m U m).length (nthI (turns m U m)) ∧ Below w.heap.size w w' := by
  go_enter Try.func19, Try.ntmps19
  go_wp2_with fail
  refine (C.out _ (by repeat (first | with_reducible exact Below.refl _ _ | with_reducible refine Below.setCell ?_ (by first | omega | (simp; done) | (simp; omega)) _ | with_reducible refine bDrewN ?_ _ | with_reducible refine Below.drew ?_ | with_reducible refine Below.alloc ?_ (by first | omega | (simp; done) | (simp; omega)) _))).mono ?_
  rintro e w0 ⟨rfl, hw0⟩
  subst hw0
  go_wp2_with fail
  go_loopw [4, 5] (fun v i wr => ∃ k : Nat, k ≤ n ∧ i = .int .i64 k ∧ MadeL (w.heap.size + 1) 0 0 (w.alloc (.cells #[] 2)) wr v (rests V k)) (fun _ i _ => n - (intOf i).toNat)
  case atStart => exact ⟨0, Nat.zero_le _, rfl, by have := madeL_lit (b0 := 0) (base := w.heap.size + 1) (w.alloc (.cells #[] 2)) (by simp); simpa [rests] using this⟩
  case round =>
    obtain ⟨k, hk, rfl, hM⟩ := hrel
    have HM : Hid (MadeL (w.heap.size + 1) 0 0 (w.alloc (.cells #[] 2)) wr u4 (rests V k)) := hM
    obtain ⟨hown, hB', -⟩ := hM
    have HO : Hid (wr.ownsRow (w.heap.size + 1) 2 1 u4 (rests V k).length (cellsOf (rests V k))) := hown
    have hl := rests_le V k
    have hB : Below w.heap.size w wr := (below0 w _).trans (hB'.mono (by omega))
    have zB := hB'.size
    simp at zB
    clear hown
    by_cases hlt : k < n
    · obtain ⟨g, o, rfl, hg, c0⟩ := HR.out k hlt
      have d0 : wr.cell? ⟨g, o + k, none⟩ = some (.int .i64 (V k)) := (hB.cell (p := ⟨g, o + k, none⟩) hg).trans c0
      have k1 : (k : Int) < (n : Int) := by omega
      rcases Nat.eq_zero_or_pos k with z | z
      · subst z
        have E : Hid (rests V (0 + 1) = rests V 0 ++ [V 0]) := rfl
        simp only [Nat.add_zero] at d0
        clear c0 hB
        go_wp2_with fail
        go_quiet (fail)
        go_wp2_with (at_builtin; refine list_i64h (w.heap.size + 1) u4 (rests V 0).length (cellsOf (rests V 0)) (.tmp 33) (.tmp 38) (by rfl) (by rfl) (by rfl) (by rfl) (own_drewN HO.out _) (by omega) (by simp; omega) ?_; intro g' cap' w3 hown3 hgrow3 hlt3 hat3)
        go_roundw
        case rel => exact ⟨0 + 1, by omega, by go_num, by rw [E.out]; exact madeL_on HM.out (below_drewN _ _) (by omega) (by omega) hown3 hgrow3 hat3⟩
        case measure => simp [intOf]; omega
      · obtain ⟨m, hm⟩ : ∃ m, k = m + 1 := ⟨k - 1, by omega⟩
        obtain ⟨g', o', e', hg', d1⟩ := HR.out m (by omega)
        cases e'
        have v1 : wr.cell? ⟨g, o + m, none⟩ = some (.int .i64 (V m)) := (hB.cell (p := ⟨g, o + m, none⟩) hg).trans d1
        have km : (k : Int) - 1 = (m : Int) := by omega
        have wm : IntKind.i64.wrap (m : Int) = (m : Int) := by rw [IntKind.wrap_i64]; omega
        have kz : ¬ (k : Int) = 0 := by omega
        have kzb : ((k : Int) == 0) = false := by simp; omega
        have mn : (m : Int) < (n : Int) := by omega
        have HM' : Hid (k = m + 1) := hm
        clear c0 hB d1 hm
        by_cases q : V k = V m
        · have E : Hid (rests V (k + 1) = rests V k) := by show _ = _; simp only [rests]; rw [if_neg (by rw [HM'.out] at q ⊢; simpa using q)]
          go_wp2_with fail
          go_quiet (fail)
          go_wp2
          go_roundw
          case rel => exact ⟨k + 1, by omega, by go_num, by rw [E.out]; exact madeL_drew HM.out _⟩
          case measure => simp [intOf]; omega
        · have qb : (V k != V m) = true := by simpa using q
          have E : Hid (rests V (k + 1) = rests V k ++ [V k]) := by show _ = _; simp only [rests]; rw [if_pos (by rw [HM'.out] at q ⊢; right; simpa using q)]
          go_wp2_with fail
          go_quiet (fail)
          go_wp2_with (at_builtin; refine list_i64h (w.heap.size + 1) u4 (rests V k).length (cellsOf (rests V k)) (.tmp 33) (.tmp 38) (by rfl) (by rfl) (by rfl) (by rfl) (own_drewN HO.out _) (by omega) (by simp; omega) ?_; intro g' cap' w3 hown3 hgrow3 hlt3 hat3)
          go_roundw
          case rel => exact ⟨k + 1, by omega, by go_num, by rw [E.out]; exact madeL_on HM.out (below_drewN _ _) (by omega) (by omega) hown3 hgrow3 hat3⟩
          case measure => simp [intOf]; omega
    · obtain rfl : k = n := by omega
      obtain ⟨s1, c1, rfl, O1, -⟩ := madeL_own HM.out
      obtain ⟨m, hm⟩ : ∃ m, m = (rests V k).length := ⟨_, rfl⟩
      obtain ⟨U, hU'⟩ : ∃ U, U = nthI (rests V k) := ⟨_, rfl⟩
      rw [← hm] at hl
      have HMU : Hid (m = (rests V k).length ∧ U = nthI (rests V k)) := ⟨hm, hU'⟩
      rw [← hm, ← hU'] at O1
      have HO1 : Hid (OwnI (w.heap.size + 1) wr s1 m U) := O1
      have HB1 : Hid (Below (w.heap.size + 1) (w.alloc (.cells #[] 2)) wr) := hB'
      have HBw : Hid (Below w.heap.size w wr) := hB
      obtain ⟨wq, hwq⟩ : ∃ wq, wq = wr := ⟨_, rfl⟩
      subst hwq
      rw [← hm]
      have HOut : Hid (MadeL w.heap.size w.heap.size wq.heap.size w wq (.slice (some ⟨w.heap.size, 0, none⟩) 0 0) []) := by
        refine ⟨?_, HBw.out, fun r hr => .inl (by simpa [Value.ownBlock] using hr.symm)⟩
        refine own_same (w := w.alloc (.cells #[] 2)) (madeL_lit (b0 := 0) w (Nat.le_refl _)).1 fun g hg => ?_
        have e : w.heap.size = g := by simpa [Value.ownBlock] using hg
        subst e
        exact HB1.out.block _ (by omega)
      have HS1 : Hid (∀ b o, s1 = some ⟨b, o, none⟩ → 0 < m → w.heap.size < b ∧ b < wq.heap.size) := fun b o e h0 => by
        obtain ⟨b', e', h1, h2, _⟩ := HO1.out 0 h0
        rw [e'] at e
        cases e
        exact ⟨by omega, h2⟩
      clear O1 hB hB' hm hU'
      have zW := HBw.out.size
      clear HM HO
      go_wp2_with fail
      go_loopw [3, 6] (fun v i wx => ∃ k : Nat, k ≤ m ∧ i = .int .i64 k ∧ MadeL w.heap.size w.heap.size wq.heap.size w wx v (turns m U k) ∧ RowI wx s1 m U ∧ wq.heap.size ≤ wx.heap.size) (fun _ i _ => m - (intOf i).toNat)
      case atStart => exact ⟨0, Nat.zero_le _, rfl, HOut.out, HO1.out.row, Nat.le_refl _⟩
      case round =>
        obtain ⟨k, hk, rfl, hM, hU, zx⟩ := hrel
        have HM : Hid (MadeL w.heap.size w.heap.size wq.heap.size w wr u3 (turns m U k)) := hM
        have HU : Hid (RowI wr s1 m U) := hU
        obtain ⟨hown, hB, hP⟩ := hM
        have HO : Hid (wr.ownsRow w.heap.size 2 1 u3 (turns m U k).length (cellsOf (turns m U k))) := hown
        have HP : Hid (∀ r, u3.ownBlock = some r → r = w.heap.size ∨ wq.heap.size ≤ r) := hP
        have hl := turns_le m U k
        have zB := hB.size
        clear hown hP hU
        by_cases hlt : k < m
        · have HN : Hid (∀ b o, s1 = some ⟨b, o, none⟩ → u3.ownBlock ≠ some b) := fun b o e q => by
            have h1 := HS1.out b o e (by omega)
            have h2 := HP.out b q
            omega
          obtain ⟨g, o, rfl, hg, c0⟩ := HU.out k hlt
          have d0 : wr.cell? ⟨g, o + k, none⟩ = some (.int .i64 (U k)) := c0
          have k1 : (k : Int) < (m : Int) := by omega
          have m4 : (m : Int) ≤ 400 := by omega
          rcases Nat.eq_zero_or_pos k with z | z
          · subst z
            have E : Hid (turns m U (0 + 1) = turns m U 0 ++ [U 0]) := by show _ = _; simp [turns, turnAt]
            simp only [Nat.add_zero] at d0
            clear c0 hB
            go_wp2_with fail
            go_quiet (fail)
            go_wp2_with (at_builtin; refine list_i64h w.heap.size u3 (turns m U 0).length (cellsOf (turns m U 0)) (.tmp 78) (.tmp 83) (by rfl) (by rfl) (by rfl) (by rfl) (own_drewN HO.out _) (by omega) (by simp; omega) ?_; intro g' cap' w3 hown3 hgrow3 hlt3 hat3)
            go_roundw
            case rel => exact ⟨0 + 1, by omega, by go_num, by rw [E.out]; exact madeL_on HM.out (below_drewN _ _) (by omega) (by omega) hown3 hgrow3 hat3, row_grown hgrow3 (HU.out.below (below_drewN _ _)) HN.out, Nat.le_trans zx hgrow3.size⟩
            case measure => simp [intOf]; omega
          · obtain ⟨j, hj⟩ : ∃ j, k = j + 1 := ⟨k - 1, by omega⟩
            obtain ⟨g', o', e', hg', d1⟩ := HU.out j (by omega)
            cases e'
            have v1 : wr.cell? ⟨g, o + j, none⟩ = some (.int .i64 (U j)) := d1
            have km : (k : Int) - 1 = (j : Int) := by omega
            have wm : IntKind.i64.wrap (j : Int) = (j : Int) := by rw [IntKind.wrap_i64]; omega
            have kz : ((k : Int) == 0) = false := by simp; omega
            have kz' : ¬ (k : Int) = 0 := by omega
            have mn : (j : Int) < (m : Int) := by omega
            have HJ : Hid (k = j + 1) := hj
            by_cases hl2 : k + 1 = m
            · have E : Hid (turns m U (k + 1) = turns m U k ++ [U k]) := by show _ = _; simp [turns, turnAt, hl2]
              have kl : ((k : Int) + 1 == (m : Int)) = true := by simp; omega
              have HL : Hid (k + 1 = m) := hl2
              clear c0 hB d1 hj hl2
              go_wp2_with fail
              go_quiet (fail)
              go_wp2_with (at_builtin; refine list_i64h w.heap.size u3 (turns m U k).length (cellsOf (turns m U k)) (.tmp 78) (.tmp 83) (by rfl) (by rfl) (by rfl) (by rfl) (own_drewN HO.out _) (by omega) (by simp; omega) ?_; intro g' cap' w3 hown3 hgrow3 hlt3 hat3)
              go_roundw
              case rel => exact ⟨k + 1, by omega, by go_num, by rw [E.out]; exact madeL_on HM.out (below_drewN _ _) (by omega) (by omega) hown3 hgrow3 hat3, row_grown hgrow3 (HU.out.below (below_drewN _ _)) HN.out, Nat.le_trans zx hgrow3.size⟩
              case measure => simp [intOf]; omega
            · obtain ⟨g', o', e', hg'', d2⟩ := HU.out (k + 1) (by omega)
              cases e'
              have v2 : wr.cell? ⟨g, o + (k + 1), none⟩ = some (.int .i64 (U (k + 1))) := d2
              have v3 : wr.cell? ⟨g, o + k + 1, none⟩ = some (.int .i64 (U (k + 1))) := v2
              have kl : ((k : Int) + 1 == (m : Int)) = false := by simp; omega
              have kl' : ¬ (k : Int) + 1 = (m : Int) := by omega
              have kk : (k : Int) + 1 < (m : Int) := by omega
              have HT : Hid (turnAt m U k = decide (decide (U j < U k) = decide (U (k + 1) < U k))) := by
                show _ = _
                unfold turnAt
                have e1 : k - 1 = j := by omega
                have e2 : ¬ k = 0 := by omega
                rw [e1]; simp [e2, hl2]
              clear c0 hB d1 d2 hj hl2
              by_cases p : U j < U k <;> by_cases q : U (k + 1) < U k
              · have pq : (decide (U j < U k) == decide (U (k + 1) < U k)) = true := by simp [p, q]
                have E : Hid (turns m U (k + 1) = turns m U k ++ [U k]) := by show _ = _; simp only [turns]; rw [HT.out]; simp [p, q]
                go_wp2_with fail
                go_quiet (fail)
                go_wp2_with (at_builtin; refine list_i64h w.heap.size u3 (turns m U k).length (cellsOf (turns m U k)) (.tmp 78) (.tmp 83) (by rfl) (by rfl) (by rfl) (by rfl) (own_drewN HO.out _) (by omega) (by simp; omega) ?_; intro g' cap' w3 hown3 hgrow3 hlt3 hat3)
                go_roundw
                case rel => exact ⟨k + 1, by omega, by go_num, by rw [E.out]; exact madeL_on HM.out (below_drewN _ _) (by omega) (by omega) hown3 hgrow3 hat3, row_grown hgrow3 (HU.out.below (below_drewN _ _)) HN.out, Nat.le_trans zx hgrow3.size⟩
                case measure => simp [intOf]; omega
              · have pq : (decide (U j < U k) == decide (U (k + 1) < U k)) = false := by simp [p, q]
                have E : Hid (turns m U (k + 1) = turns m U k) := by show _ = _; simp only [turns]; rw [HT.out]; simp [p, q]
                go_wp2_with fail
                go_quiet (fail)
                go_wp2
                go_roundw
                case rel => exact ⟨k + 1, by omega, by go_num, by rw [E.out]; exact madeL_drew HM.out _, HU.out.below (below_drewN _ _), zx⟩
                case measure => simp [intOf]; omega
              · have pq : (decide (U j < U k) == decide (U (k + 1) < U k)) = false := by simp [p, q]
                have E : Hid (turns m U (k + 1) = turns m U k) := by show _ = _; simp only [turns]; rw [HT.out]; simp [p, q]
                go_wp2_with fail
                go_quiet (fail)
                go_wp2
                go_roundw
                case rel => exact ⟨k + 1, by omega, by go_num, by rw [E.out]; exact madeL_drew HM.out _, HU.out.below (below_drewN _ _), zx⟩
                case measure => simp [intOf]; omega
              · have pq : (decide (U j < U k) == decide (U (k + 1) < U k)) = true := by simp [p, q]
                have E : Hid (turns m U (k + 1) = turns m U k ++ [U k]) := by show _ = _; simp only [turns]; rw [HT.out]; simp [p, q]
                go_wp2_with fail
                go_quiet (fail)
                go_wp2_with (at_builtin; refine list_i64h w.heap.size u3 (turns m U k).length (cellsOf (turns m U k)) (.tmp 78) (.tmp 83) (by rfl) (by rfl) (by rfl) (by rfl) (own_drewN HO.out _) (by omega) (by simp; omega) ?_; intro g' cap' w3 hown3 hgrow3 hlt3 hat3)
                go_roundw
                case rel => exact ⟨k + 1, by omega, by go_num, by rw [E.out]; exact madeL_on HM.out (below_drewN _ _) (by omega) (by omega) hown3 hgrow3 hat3, row_grown hgrow3 (HU.out.below (below_drewN _ _)) HN.out, Nat.le_trans zx hgrow3.size⟩
                case measure => simp [intOf]; omega
        · obtain rfl : k = m := by omega
          obtain ⟨s', cap, rfl, ho, -⟩ := madeL_own HM.out
          go_wp2
          go_ret
          exact ⟨k, U, HMU.out.1, HMU.out.2, s', cap, rfl, ho, hB⟩
end Go.Proofs.Ythengechoaodcaa
