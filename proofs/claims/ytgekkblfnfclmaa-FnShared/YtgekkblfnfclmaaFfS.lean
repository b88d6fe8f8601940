/-
What is proved: the least fall, as the specification finds it.
-/
import Derived.Test.YtgekkblfnfclmaaUnS
import Derived.Deep.RegionHeld3
import Derived.Deep.DeepCutAuto
namespace Go.Proofs.Ytgekkblfnfclmaa
set_option maxRecDepth 40000
open Go.RowKit
set_option linter.unusedVariables false
set_option linter.unusedSimpArgs false

set_option maxHeartbeats 1000000 in
theorem specFall_far (s : Option Addr) (n c : Nat) (V : Nat → Int) (load : Int) (w : World) (hn : (50 : Int) < n) (hn' : (n : Int) ≤ 1048576) :
    Calls Try.prog 7 #[.slice s n c, .int .i64 load] w fun e w' => ∃ x, FV n V load x ∧ e = .returned (.int .i64 x) ∧ Below w.heap.size w w' := by
  go_enter Try.func7, Try.ntmps7
  go_wp2
  go_ret
  exact ⟨-1, .inl ⟨fun q => by have := q.1; omega, rfl⟩, rfl, (by repeat (first | with_reducible exact Below.refl _ _ | with_reducible refine Below.setCell ?_ (by first | omega | (simp; done) | (simp; omega)) _ | with_reducible refine bDrewN ?_ _ | with_reducible refine Below.drew ?_ | with_reducible refine Below.alloc ?_ (by first | omega | (simp; done) | (simp; omega)) _))⟩
set_option maxHeartbeats 1000000 in
theorem specFall_off (s : Option Addr) (n c : Nat) (V : Nat → Int) (load : Int) (w : World) (hn : (n : Int) ≤ 50) (hl : inB 0 50000000 load = false) :
    Calls Try.prog 7 #[.slice s n c, .int .i64 load] w fun e w' => ∃ x, FV n V load x ∧ e = .returned (.int .i64 x) ∧ Below w.heap.size w w' := by
  have NG : Hid (¬ goF n V load) := fun q => by have := inB_no hl; have := q.2.2; omega
  go_enter Try.func7, Try.ntmps7
  go_wp2_with fail
  refine (l1In_is _ _ _ _).mono ?_
  rintro e w1 ⟨rfl, rfl⟩
  rw [hl]
  go_wp2
  go_ret
  exact ⟨-1, .inl ⟨NG.out, rfl⟩, rfl, (by repeat (first | with_reducible exact Below.refl _ _ | with_reducible refine Below.setCell ?_ (by first | omega | (simp; done) | (simp; omega)) _ | with_reducible refine bDrewN ?_ _ | with_reducible refine Below.drew ?_ | with_reducible refine Below.alloc ?_ (by first | omega | (simp; done) | (simp; omega)) _))⟩
set_option maxRecDepth 20000 in
set_option maxHeartbeats 4000000 in
theorem specFall_on (s : Option Addr) (n c : Nat) (V : Nat → Int) (load : Int) (w : World) (hn : (n : Int) ≤ 50) (hl : inB 0 50000000 load = true) (HR : Hid (RowI w s (n * 2) V)) :
    Calls Try.prog 7 #[.slice s n c, .int .i64 load] w fun e w' => ∃ x, FV n V load x ∧ e = .returned (.int .i64 x) ∧ Below w.heap.size w w' := by
  obtain ⟨l0, l1⟩ := inB_yes hl
  go_enter Try.func7, Try.ntmps7
  go_wp2_with fail
  refine (l1In_is _ _ _ _).mono ?_
  rintro e w1 ⟨rfl, e1⟩
  subst w1
  rw [hl]
  go_wp2_with fail
  go_loopw [5] (fun i wr => ∃ k : Nat, k ≤ n ∧ i = .int .i64 k ∧ unitsTo V k = true ∧ Below w.heap.size w wr) (fun i _ => n - (intOf i).toNat)
  case atStart => exact ⟨0, Nat.zero_le _, rfl, rfl, Below.refl _ _⟩
  case round =>
    obtain ⟨k, hk, rfl, hu, hB⟩ := hrel
    have HU : Hid (unitsTo V k = true) := hu
    clear hu
    by_cases h1 : k < n
    · obtain ⟨g, o, rfl, hg, c0⟩ := HR.out (k * 2) (by omega)
      obtain ⟨g', o', e', hg', c1⟩ := HR.out (k * 2 + 1) (by omega)
      cases e'
      have d0 : wr.cell? ⟨g, o + k * 2, none⟩ = some (.int .i64 (V (k * 2))) := (hB.cell (p := ⟨g, o + k * 2, none⟩) hg).trans c0
      have d1 : wr.cell? ⟨g, o + k * 2 + 1, none⟩ = some (.int .i64 (V (k * 2 + 1))) := (hB.cell (p := ⟨g, o + (k * 2 + 1), none⟩) hg).trans c1
      have k1 : (k : Int) < (n : Int) := by omega
      have zg : g < wr.heap.size := Nat.lt_of_lt_of_le hg hB.size
      have HB : Hid (Below w.heap.size w wr) := hB
      have HN : Hid (k < n) := h1
      clear hB c0 c1 hg hg'
      go_wp2_with fail
      refine (l1In_is _ _ _ _).mono ?_
      rintro e w1 ⟨rfl, rfl⟩
      cases x0 : inB 0 1000000 (V (k * 2))
      · have NG : Hid (¬ goF n V load) := fun q => by
          have e := units_no (V := V) HN.out (by unfold unitB; rw [x0, Bool.false_and])
          have e2 := q.2.1; rw [e] at e2; cases e2
        go_wp2
        go_ret
        exact ⟨-1, .inl ⟨NG.out, rfl⟩, rfl, HB.out⟩
      go_wp2_with fail
      refine (l1In_is _ _ _ _).mono ?_
      rintro e w1 ⟨rfl, rfl⟩
      cases x1 : inB 1 1000 (V (k * 2 + 1))
      · have NG : Hid (¬ goF n V load) := fun q => by
          have e := units_no (V := V) HN.out (by unfold unitB; rw [x1, Bool.and_false])
          have e2 := q.2.1; rw [e] at e2; cases e2
        go_wp2
        go_ret
        exact ⟨-1, .inl ⟨NG.out, rfl⟩, rfl, HB.out⟩
      have HF : Hid (unitsTo V (k + 1) = true) := by
        show (unitsTo V k && unitB V k) = true
        unfold unitB
        rw [HU.out, x0, x1]
        rfl
      go_wp2
      go_round
      case rel => exact ⟨k + 1, by have := HN.out; omega, by go_num, HF.out, HB.out⟩
      case measure => have := HN.out; simp [intOf]; omega
    · obtain rfl : k = n := by omega
      have UA : Hid (∀ j, j < k → unitB V j = true) := units_at HU.out
      have AL : Hid (∀ f w', Below w.heap.size w w' → 0 ≤ f → f ≤ 1000000 → Calls Try.prog 21 #[.slice s k c, .int .i64 f] w' fun e w'' => e = .returned (.int .i64 (allV V f k)) ∧ Below w'.heap.size w' w'') := fun f w' hb f0 f1 => l10All_any s k c V f w' hn f0 f1 UA (HR.out.below hb)
      have HB : Hid (Below w.heap.size w wr) := hB
      clear hB
      obtain ⟨a, ha⟩ : ∃ a, allV V 1000000 k = a := ⟨_, rfl⟩
      have ab := all_bd (V := V) (f := 1000000) (by omega) (by omega) UA.out
      rw [ha] at ab
      go_wp2_with fail
      refine (AL.out 1000000 _ HB.out (by omega) (by omega)).mono ?_
      rintro r w2 ⟨rfl, h2⟩
      have B2 : Hid (Below w.heap.size w w2) := HB.out.trans (h2.mono HB.out.size)
      clear h2
      rw [ha]
      have HAA : Hid (allV V 1000000 k = a) := ha
      clear ha
      obtain ⟨ab1, ab2⟩ := ab
      by_cases hle : a < load
      · have NG : Hid (¬ goF k V load) := fun q => by have := q.2.2.2.2; have := HAA.out; omega
        go_wp2
        go_ret
        exact ⟨-1, .inl ⟨NG.out, rfl⟩, rfl, B2.out⟩
      have GO : goF k V load := ⟨by omega, HU.out, l0, l1, by have := HAA.out; omega⟩
      obtain ⟨L, hL⟩ := lf_some GO
      have HL : Hid (FV k V load L) := .inr ⟨GO, hL⟩
      have HI : Hid (∀ z, 0 ≤ z → z ≤ 1000000 → (load ≤ allV V z k ↔ L ≤ z)) := hL.2.2
      have L0 := hL.1
      have L1 := hL.2.1
      clear hL GO
      go_wp2_with fail
      go_loopw [6, 7] (fun i j wr => ∃ l h, i = .int .i64 l ∧ j = .int .i64 h ∧ -1 ≤ l ∧ l < L ∧ L ≤ h ∧ h ≤ 1000000 ∧ Below w.heap.size w wr) (fun i j _ => (intOf j - intOf i).toNat)
      case atStart => exact ⟨-1, 1000000, rfl, rfl, Int.le_refl _, by omega, L1, Int.le_refl _, B2.out⟩
      case round =>
        obtain ⟨l, h, rfl, rfl, r1, r2, r3, r4, hB⟩ := hrel
        have HW : Hid (Below w.heap.size w wr) := hB
        clear hB
        by_cases q : 1 < h - l
        · obtain ⟨z, hz⟩ : ∃ z, (l + h) / 2 = z := ⟨_, rfl⟩
          have z1 : l < z := by omega
          have z2 : z < h := by omega
          have hz2 : (l + h).tdiv 2 = z := by rw [Int.tdiv_eq_ediv_of_nonneg (by omega)]; exact hz
          have ab := all_bd (V := V) (f := z) (by omega) (by omega) UA.out
          obtain ⟨t, ht⟩ : ∃ t, allV V z k = t := ⟨_, rfl⟩
          have HT : Hid (load ≤ t ↔ L ≤ z) := ht ▸ HI.out z (by omega) (by omega)
          rw [ht] at ab
          obtain ⟨t1, t2⟩ := ab
          have AZ : Hid (∀ w', Below w.heap.size w w' → Calls Try.prog 21 #[.slice s k c, .int .i64 z] w' fun e w'' => e = .returned (.int .i64 t) ∧ Below w'.heap.size w' w'') := fun w' hb => ht ▸ AL.out z w' hb (by omega) (by omega)
          clear ht
          go_wp2_with fail
          refine (AZ.out _ HW.out).mono ?_
          rintro r w3 ⟨rfl, h3⟩
          have B3 : Hid (Below w.heap.size w w3) := HW.out.trans (h3.mono HW.out.size)
          clear h3
          by_cases u : load ≤ t
          · have lz : L ≤ z := HT.out.1 u
            go_wp2
            go_round
            case rel => exact ⟨l, z, rfl, rfl, r1, r2, lz, by omega, B3.out⟩
            case measure => simp [intOf]; omega
          · have lz : z < L := by
              rcases Int.lt_or_le z L with c | c
              · exact c
              · exact absurd (HT.out.2 c) u
            go_wp2
            go_round
            case rel => exact ⟨z, h, rfl, rfl, by omega, lz, r3, r4, B3.out⟩
            case measure => simp [intOf]; omega
        · obtain rfl : h = L := by omega
          go_wp2
          go_ret
          exact ⟨h, HL.out, rfl, HW.out⟩
theorem specFall_any (s : Option Addr) (n c : Nat) (V : Nat → Int) (load : Int) (w : World) (hn : (n : Int) ≤ 1048576) (HR : RowI w s (n * 2) V) :
    Calls Try.prog 7 #[.slice s n c, .int .i64 load] w fun e w' => ∃ x, FV n V load x ∧ e = .returned (.int .i64 x) ∧ Below w.heap.size w w' := by
  by_cases h : n ≤ 50
  · cases hl : inB 0 50000000 load
    · exact specFall_off s n c V load w (by omega) hl
    · exact specFall_on s n c V load w (by omega) hl HR
  · exact specFall_far s n c V load w (by omega) hn
end Go.Proofs.Ytgekkblfnfclmaa
