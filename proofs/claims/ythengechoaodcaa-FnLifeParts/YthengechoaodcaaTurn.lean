/-
What is proved: what both packages leave of a course without its rests.
-/
import Derived.Test.YthengechoaodcaaOwnL
import Derived.Test.YthengechoaodcaaI64
import Derived.Test.YthengechoaodcaaAllIn
namespace Go.Proofs.Ythengechoaodcaa
set_option maxRecDepth 40000
open Go.RowKit
set_option linter.unusedVariables false

theorem madeL_drew {base b0 H : Nat} {w wr : World} {v : Value} {l : List Int} (h : MadeL base b0 H w wr v l) (q : Nat) : MadeL base b0 H w (wr.drewN q) v l := ⟨h.1, bDrewN h.2.1 q, h.2.2⟩
/-- The first k numbers of a course without those that are as the one ahead. -/
def rests (V : Nat → Int) : Nat → List Int
  | 0 => []
  | k + 1 => if k = 0 ∨ V k ≠ V (k - 1) then rests V k ++ [V k] else rests V k
theorem rests_le (V : Nat → Int) : ∀ k, (rests V k).length ≤ k
  | 0 => Nat.le_refl _
  | k + 1 => by
    have := rests_le V k
    unfold rests
    split
    · simp; omega
    · omega

set_option maxRecDepth 20000 in
set_option maxHeartbeats 2000000 in
theorem withoutRests_any (s : Option Addr) (n c : Nat) (V : Nat → Int) (w : World) (hn : (n : Int) ≤ 400) (HR : Hid (RowI w s n V)) :
    Calls Try.prog 45 #[.slice s n c] w fun e w' => ∃ s' c', e = .returned (.slice s' (rests V n).length c') ∧ OwnI w.heap.size w' s' (rests V n).length (nthI (rests V n)) ∧ Below w.heap.size w w' := by
  go_enter Try.func45, Try.ntmps45
  go_wp2_with fail
  go_loopw [3, 8] (fun v i wr => ∃ k : Nat, k ≤ n ∧ i = .int .i64 k ∧ MadeL w.heap.size 0 0 w wr v (rests V k)) (fun _ i _ => n - (intOf i).toNat)
  case atStart => exact ⟨0, Nat.zero_le _, rfl, madeL_nil w⟩
  case round =>
    obtain ⟨k, hk, rfl, hM⟩ := hrel
    have HM : Hid (MadeL w.heap.size 0 0 w wr u3 (rests V k)) := hM
    obtain ⟨hown, hB, -⟩ := hM
    have HO : Hid (wr.ownsRow w.heap.size 2 1 u3 (rests V k).length (cellsOf (rests V k))) := hown
    have hl := rests_le V k
    have zB := hB.size
    clear hown
    by_cases hlt : k < n
    · obtain ⟨g, o, rfl, hg, c0⟩ := HR.out k hlt
      have d0 : wr.cell? ⟨g, o + k, none⟩ = some (.int .i64 (V k)) := (hB.cell (p := ⟨g, o + k, none⟩) hg).trans c0
      have k1 : (k : Int) < (n : Int) := by omega
      rcases Nat.eq_zero_or_pos k with z | z
      · subst z
        have E : Hid (rests V (0 + 1) = rests V 0 ++ [V 0]) := rfl
        simp only [Nat.add_zero] at d0
        clear c0 hB
        go_wp2_with (at_builtin; refine list_i64h w.heap.size u3 (rests V 0).length (cellsOf (rests V 0)) (.tmp 24) (.tmp 26) (by rfl) (by rfl) (by rfl) (by rfl) HO.out (by omega) (by omega) ?_; intro g' cap' w3 hown3 hgrow3 hlt3 hat3)
        go_roundw
        case rel => exact ⟨0 + 1, by omega, by go_num, by rw [E.out]; exact madeL_on HM.out (Below.refl _ _) (by omega) (by omega) hown3 hgrow3 hat3⟩
        case measure => simp [intOf]; omega
      · obtain ⟨m, hm⟩ : ∃ m, k = m + 1 := ⟨k - 1, by omega⟩
        obtain ⟨g', o', e', hg', d1⟩ := HR.out m (by omega)
        cases e'
        have v1 : wr.cell? ⟨g, o + m, none⟩ = some (.int .i64 (V m)) := (hB.cell (p := ⟨g, o + m, none⟩) hg).trans d1
        have km : (k : Int) - 1 = (m : Int) := by omega
        have wm : IntKind.i64.wrap (m : Int) = (m : Int) := by rw [IntKind.wrap_i64]; omega
        have kz : ¬ (k : Int) = 0 := by omega
        have mn : (m : Int) < (n : Int) := by omega
        have HM' : Hid (k = m + 1) := hm
        clear c0 hB d1 hm
        by_cases q : V k = V m
        · have E : Hid (rests V (k + 1) = rests V k) := by show _ = _; simp only [rests]; rw [if_neg (by rw [HM'.out] at q ⊢; simpa using q)]
          go_wp2
          go_roundw
          case rel => exact ⟨k + 1, by omega, by go_num, by rw [E.out]; exact HM.out⟩
          case measure => simp [intOf]; omega
        · have qb : (V k != V m) = true := by simpa using q
          have E : Hid (rests V (k + 1) = rests V k ++ [V k]) := by show _ = _; simp only [rests]; rw [if_pos (by rw [HM'.out] at q ⊢; right; simpa using q)]
          go_wp2_with (at_builtin; refine list_i64h w.heap.size u3 (rests V k).length (cellsOf (rests V k)) (.tmp 24) (.tmp 26) (by rfl) (by rfl) (by rfl) (by rfl) HO.out (by omega) (by omega) ?_; intro g' cap' w3 hown3 hgrow3 hlt3 hat3)
          go_roundw
          case rel => exact ⟨k + 1, by omega, by go_num, by rw [E.out]; exact madeL_on HM.out (Below.refl _ _) (by omega) (by omega) hown3 hgrow3 hat3⟩
          case measure => simp [intOf]; omega
    · obtain rfl : k = n := by omega
      obtain ⟨s', cap, rfl, ho, -⟩ := madeL_own HM.out
      go_wp2
      go_ret
      exact ⟨s', cap, rfl, ho, hB⟩

/-- Whether the place k of m numbers is an end or a turning; the first k numbers' turnings. -/
def turnAt (m : Nat) (U : Nat → Int) (k : Nat) : Bool := decide (k = 0 ∨ k + 1 = m ∨ (decide (U (k - 1) < U k) = decide (U (k + 1) < U k)))
def turns (m : Nat) (U : Nat → Int) : Nat → List Int
  | 0 => []
  | k + 1 => if turnAt m U k = true then turns m U k ++ [U k] else turns m U k
theorem turns_le (m : Nat) (U : Nat → Int) : ∀ k, (turns m U k).length ≤ k
  | 0 => Nat.le_refl _
  | k + 1 => by
    have := turns_le m U k
    unfold turns
    split
    · simp; omega
    · omega

set_option maxRecDepth 20000 in
set_option maxHeartbeats 4000000 in
theorem implTurn_rest (s : Option Addr) (n c : Nat) (V : Nat → Int) (w : World) (hn : (n : Int) ≤ 400) (HR : Hid (RowI w s n V)) (m : Nat) (U : Nat → Int) (hm : m ≤ n)
    (C : Hid (Calls Try.prog 44 #[.slice s n c] w fun e w' => e = .returned (.bool true) ∧ w' = w))
    (R : Hid (Calls Try.prog 45 #[.slice s n c] w fun e w' => ∃ s' c', e = .returned (.slice s' m c') ∧ OwnI w.heap.size w' s' m U ∧ Below w.heap.size w w')) :
    Calls Try.prog 20 #[.slice s n c] w fun e w' => ∃ s' c', e = .returned (.slice s' (turns m U m).length c') ∧ OwnI w.heap.size w' s' (turns m U m).length (nthI (turns m U m)) ∧ Below w.heap.size w w' := by
  go_enter Try.func20, Try.ntmps20
  go_wp2_with fail
  refine C.out.mono ?_
  rintro e w ⟨rfl, rfl⟩
  go_wp2_with fail
  refine R.out.mono ?_
  rintro e w1 ⟨s1, c1, rfl, O1, B1⟩
  have HU : Hid (RowI w1 s1 m U) := O1.row
  have HB1 : Hid (Below w.heap.size w w1) := B1
  have zw := B1.size
  clear O1 B1
  go_wp2_with fail
  go_loopw [4, 15] (fun v i wr => ∃ k : Nat, k ≤ m ∧ i = .int .i64 k ∧ MadeL w1.heap.size 0 0 w1 wr v (turns m U k)) (fun _ i _ => m - (intOf i).toNat)
  case atStart => exact ⟨0, Nat.zero_le _, rfl, madeL_nil w1⟩
  case round =>
    obtain ⟨k, hk, rfl, hM⟩ := hrel
    have HM : Hid (MadeL w1.heap.size 0 0 w1 wr u4 (turns m U k)) := hM
    obtain ⟨hown, hB, -⟩ := hM
    have HO : Hid (wr.ownsRow w1.heap.size 2 1 u4 (turns m U k).length (cellsOf (turns m U k))) := hown
    have hl := turns_le m U k
    have zB := hB.size
    clear hown
    by_cases hlt : k < m
    · obtain ⟨g, o, rfl, hg, c0⟩ := HU.out k hlt
      have d0 : wr.cell? ⟨g, o + k, none⟩ = some (.int .i64 (U k)) := (hB.cell (p := ⟨g, o + k, none⟩) hg).trans c0
      have k1 : (k : Int) < (m : Int) := by omega
      have m4 : (m : Int) ≤ 400 := by omega
      rcases Nat.eq_zero_or_pos k with z | z
      · subst z
        have E : Hid (turns m U (0 + 1) = turns m U 0 ++ [U 0]) := by show _ = _; simp [turns, turnAt]
        simp only [Nat.add_zero] at d0
        clear c0 hB
        go_wp2_with fail
        go_quiet (fail)
        go_wp2_with (at_builtin; refine list_i64h w1.heap.size u4 (turns m U 0).length (cellsOf (turns m U 0)) (.tmp 47) (.tmp 49) (by rfl) (by rfl) (by rfl) (by rfl) (own_drewN HO.out _) (by omega) (by simp; omega) ?_; intro g' cap' w3 hown3 hgrow3 hlt3 hat3)
        go_roundw
        case rel => exact ⟨0 + 1, by omega, by go_num, by rw [E.out]; exact madeL_on HM.out (below_drewN _ _) (by omega) (by omega) hown3 hgrow3 hat3⟩
        case measure => simp [intOf]; omega
      · obtain ⟨j, hj⟩ : ∃ j, k = j + 1 := ⟨k - 1, by omega⟩
        obtain ⟨g', o', e', hg', d1⟩ := HU.out j (by omega)
        cases e'
        have v1 : wr.cell? ⟨g, o + j, none⟩ = some (.int .i64 (U j)) := (hB.cell (p := ⟨g, o + j, none⟩) hg).trans d1
        have km : (k : Int) - 1 = (j : Int) := by omega
        have wm : IntKind.i64.wrap (j : Int) = (j : Int) := by rw [IntKind.wrap_i64]; omega
        have kz : ((k : Int) == 0) = false := by simp; omega
        have kz' : ¬ (k : Int) = 0 := by omega
        have mn : (j : Int) < (m : Int) := by omega
        have HJ : Hid (k = j + 1) := hj
        by_cases hl2 : k + 1 = m
        · have E : Hid (turns m U (k + 1) = turns m U k ++ [U k]) := by show _ = _; simp [turns, turnAt, hl2]
          have kl : ((k : Int) == (m : Int) - 1) = true := by simp; omega
          have HL : Hid (k + 1 = m) := hl2
          clear c0 hB d1 hj hl2
          go_wp2_with fail
          go_quiet (fail)
          go_wp2_with (at_builtin; refine list_i64h w1.heap.size u4 (turns m U k).length (cellsOf (turns m U k)) (.tmp 47) (.tmp 49) (by rfl) (by rfl) (by rfl) (by rfl) (own_drewN HO.out _) (by omega) (by simp; omega) ?_; intro g' cap' w3 hown3 hgrow3 hlt3 hat3)
          go_roundw
          case rel => exact ⟨k + 1, by omega, by go_num, by rw [E.out]; exact madeL_on HM.out (below_drewN _ _) (by omega) (by omega) hown3 hgrow3 hat3⟩
          case measure => simp [intOf]; omega
        · obtain ⟨g', o', e', hg'', d2⟩ := HU.out (k + 1) (by omega)
          cases e'
          have v2 : wr.cell? ⟨g, o + (k + 1), none⟩ = some (.int .i64 (U (k + 1))) := (hB.cell (p := ⟨g, o + (k + 1), none⟩) hg).trans d2
          have v3 : wr.cell? ⟨g, o + k + 1, none⟩ = some (.int .i64 (U (k + 1))) := v2
          have kl : ((k : Int) == (m : Int) - 1) = false := by simp; omega
          have kl' : ¬ (k : Int) = (m : Int) - 1 := by omega
          have kk : (k : Int) + 1 < (m : Int) := by omega
          have HT : Hid (turnAt m U k = decide (decide (U j < U k) = decide (U (k + 1) < U k))) := by
            show _ = _
            unfold turnAt
            have e1 : k - 1 = j := by omega
            have e2 : ¬ k = 0 := by omega
            rw [e1]; simp [e2, hl2]
          clear c0 hB d1 d2 hj hl2
          by_cases p : U j < U k <;> by_cases q : U (k + 1) < U k
          · have pq : (decide (U j < U k) == decide (U (k + 1) < U k)) = true := by simp [p, q]
            have E : Hid (turns m U (k + 1) = turns m U k ++ [U k]) := by show _ = _; simp only [turns]; rw [HT.out]; simp [p, q]
            go_wp2_with fail
            go_quiet (fail)
            go_wp2_with (at_builtin; refine list_i64h w1.heap.size u4 (turns m U k).length (cellsOf (turns m U k)) (.tmp 47) (.tmp 49) (by rfl) (by rfl) (by rfl) (by rfl) (own_drewN HO.out _) (by omega) (by simp; omega) ?_; intro g' cap' w3 hown3 hgrow3 hlt3 hat3)
            go_roundw
            case rel => exact ⟨k + 1, by omega, by go_num, by rw [E.out]; exact madeL_on HM.out (below_drewN _ _) (by omega) (by omega) hown3 hgrow3 hat3⟩
            case measure => simp [intOf]; omega
          · have pq : (decide (U j < U k) == decide (U (k + 1) < U k)) = false := by simp [p, q]
            have E : Hid (turns m U (k + 1) = turns m U k) := by show _ = _; simp only [turns]; rw [HT.out]; simp [p, q]
            go_wp2_with fail
            go_quiet (fail)
            go_wp2
            go_roundw
            case rel => exact ⟨k + 1, by omega, by go_num, by rw [E.out]; exact madeL_drew HM.out _⟩
            case measure => simp [intOf]; omega
          · have pq : (decide (U j < U k) == decide (U (k + 1) < U k)) = false := by simp [p, q]
            have E : Hid (turns m U (k + 1) = turns m U k) := by show _ = _; simp only [turns]; rw [HT.out]; simp [p, q]
            go_wp2_with fail
            go_quiet (fail)
            go_wp2
            go_roundw
            case rel => exact ⟨k + 1, by omega, by go_num, by rw [E.out]; exact madeL_drew HM.out _⟩
            case measure => simp [intOf]; omega
          · have pq : (decide (U j < U k) == decide (U (k + 1) < U k)) = true := by simp [p, q]
            have E : Hid (turns m U (k + 1) = turns m U k ++ [U k]) := by show _ = _; simp only [turns]; rw [HT.out]; simp [p, q]
            go_wp2_with fail
            go_quiet (fail)
            go_wp2_with (at_builtin; refine list_i64h w1.heap.size u4 (turns m U k).length (cellsOf (turns m U k)) (.tmp 47) (.tmp 49) (by rfl) (by rfl) (by rfl) (by rfl) (own_drewN HO.out _) (by omega) (by simp; omega) ?_; intro g' cap' w3 hown3 hgrow3 hlt3 hat3)
            go_roundw
            case rel => exact ⟨k + 1, by omega, by go_num, by rw [E.out]; exact madeL_on HM.out (below_drewN _ _) (by omega) (by omega) hown3 hgrow3 hat3⟩
            case measure => simp [intOf]; omega
    · obtain rfl : k = m := by omega
      obtain ⟨s', cap, rfl, ho, -⟩ := madeL_own HM.out
      have B9 := HB1.out.trans (hB.mono zw)
      go_wp2
      go_ret
      exact ⟨s', cap, rfl, ho.mono zw, B9⟩
end Go.Proofs.Ythengechoaodcaa
