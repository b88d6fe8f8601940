/-
What is proved: when a map is right, as the program says it.
-/
import Derived.Test.YtbabedfbadlhjaaMap
namespace Go.Proofs.Ytbabedfbadlhjaa
set_option maxRecDepth 40000
open Go.RowKit
set_option linter.unusedVariables false
set_option linter.unusedSimpArgs false

set_option maxHeartbeats 1000000 in
theorem implMap_no (s : Option Addr) (n c : Nat) (w : World) (h : (n : Int) < 1 ∨ (12 : Int) < n) : Calls Try.prog 11 #[.slice s n c] w fun e w' => e = .returned (.bool false) ∧ Below w.heap.size w w' := by
  by_cases h1 : (n : Int) < 1
  · go_enter Try.func11, Try.ntmps11
    go_wp2
    go_ret
    exact ⟨rfl, (by repeat (first | with_reducible exact Below.refl _ _ | with_reducible refine Below.setCell ?_ (by first | omega | (simp; done) | (simp; omega)) _ | with_reducible refine bDrewN ?_ _ | with_reducible refine Below.drew ?_ | with_reducible refine Below.alloc ?_ (by first | omega | (simp; done) | (simp; omega)) _))⟩
  · have b1 : decide ((n : Int) < 1) = false := by simp; omega
    go_enter Try.func11, Try.ntmps11
    go_wp2
    go_ret
    exact ⟨rfl, (by repeat (first | with_reducible exact Below.refl _ _ | with_reducible refine Below.setCell ?_ (by first | omega | (simp; done) | (simp; omega)) _ | with_reducible refine bDrewN ?_ _ | with_reducible refine Below.drew ?_ | with_reducible refine Below.alloc ?_ (by first | omega | (simp; done) | (simp; omega)) _))⟩

set_option maxRecDepth 20000 in
set_option maxHeartbeats 4000000 in
theorem implMap_go (s : Option Addr) (n c : Nat) (S : Nat → Int) (K : Nat → Nat) (V : Nat → Nat → Int) (w : World) (h1 : (1 : Int) ≤ n) (h2 : (n : Int) ≤ 12) (HR : Hid (MapR w s n S K V)) :
    Calls Try.prog 11 #[.slice s n c] w fun e w' => e = .returned (.bool (lAll S K V n)) ∧ Below w.heap.size w w' := by
  have sto := store_sl
  go_enter Try.func11, Try.ntmps11
  go_wp2_with fail
  go_loopw [15] (fun i wr => ∃ k : Nat, k ≤ n ∧ i = .int .i64 k ∧ Below w.heap.size w wr ∧ Hid (lAll S K V k = true)) (fun i _ => n - (intOf i).toNat)
  case atStart => exact ⟨0, Nat.zero_le _, rfl, Below.refl _ _, rfl⟩
  case round =>
    obtain ⟨k, hk, rfl, hB, ho⟩ := hrel
    by_cases h1 : k < n
    · obtain ⟨g, o, t, c', rfl, hg, c0, c1, RK⟩ := HR.out k h1
      have u0 : wr.cell? ⟨g, o + k * 2, none⟩ = some (.int .i64 (S k)) := (hB.cell (p := ⟨g, o + k * 2, none⟩) hg).trans c0
      have u1 : wr.cell? ⟨g, o + k * 2 + 1, none⟩ = some (.slice t (K k) c') := (hB.cell (p := ⟨g, o + k * 2 + 1, none⟩) hg).trans c1
      have RW : Hid (RowI wr t (K k * 2) (V k)) := RK.below hB
      have k1 : (k : Int) < (n : Int) := by omega
      have zg : g < wr.heap.size := Nat.lt_of_lt_of_le hg hB.size
      have HN : Hid (k < n) := h1
      have HB : Hid (Below w.heap.size w wr) := hB
      clear c0 c1 RK
      go_upto_region 6 with fail
      obtain ⟨wl, hwl⟩ : ∃ wl, wl = wr.alloc (.cells #[.int .i64 (S k), .slice t (K k) c'] 29) := ⟨_, rfl⟩
      rw [← hwl]
      have l0 : wl.cell? ⟨wr.heap.size, 0, none⟩ = some (.int .i64 (S k)) := by rw [hwl]; simp [go_sem]
      have l1 : wl.cell? ⟨wr.heap.size, 1, none⟩ = some (.slice t (K k) c') := by rw [hwl]; simp [go_sem]
      have bl : Below wr.heap.size wr wl := by rw [hwl]; exact below0 _ _
      have zl : wr.heap.size < wl.heap.size := by rw [hwl]; simp
      have RL : Hid (RowI wl t (K k * 2) (V k)) := RW.out.below bl
      have BL : Below w.heap.size w wl := hB.trans (bl.mono hB.size)
      have sl := BL.size
      clear hwl u0 u1
      by_cases x1 : 1 ≤ S k ∧ S k ≤ 100000
      · go_wp2_with fail
        refine (within_yes _ _ _ _ x1.1 x1.2).mono ?_
        rintro e w1 ⟨rfl, rfl⟩
        go_wp2_with fail
        refine (implCurveOk_any t (K k) c' (V k) _ RL.out).mono ?_
        rintro e w2 ⟨rfl, h3⟩
        replace l0 := (h3.cell (p := ⟨wr.heap.size, 0, none⟩) zl).trans l0
        have B2 : Below w.heap.size w w2 := BL.trans (h3.mono sl)
        have b2 : Below wr.heap.size wr w2 := bl.trans (h3.mono (Nat.le_of_lt zl))
        have z2 := b2.size
        cases x2 : curveB (K k) (V k) with
        | false =>
          have no : Hid (lAll S K V n = false) := lAll_no (by unfold lineB; rw [x2]; simp) HN.out
          go_wp2
          go_ret
          exact ⟨ret_bool no.out.symm, (by repeat (first | with_reducible exact Below.refl _ _ | with_reducible exact B2 | with_reducible refine Below.setCell ?_ (by first | omega | (simp; done) | (simp; omega)) _ | with_reducible refine bDrewN ?_ _ | with_reducible refine Below.drew ?_ | with_reducible refine Below.alloc ?_ (by first | omega | (simp; done) | (simp; omega)) _))⟩
        | true =>
          rcases Nat.eq_zero_or_pos k with z | z
          · subst z
            have on : Hid (lAll S K V (0 + 1) = true) := lAll_on ho.out (by unfold lineB; rw [x2]; simp [x1])
            go_wp2_with (first | go_quiet (fail))
            go_round
            case rel => exact ⟨1, by omega, by go_num, (by repeat (first | with_reducible exact Below.refl _ _ | with_reducible exact B2 | with_reducible refine Below.setCell ?_ (by first | omega | (simp; done) | (simp; omega)) _ | with_reducible refine bDrewN ?_ _ | with_reducible refine Below.drew ?_ | with_reducible refine Below.alloc ?_ (by first | omega | (simp; done) | (simp; omega)) _)), on⟩
            case measure => simp [intOf]; omega
          · obtain ⟨m, rfl⟩ : ∃ m, k = m + 1 := ⟨k - 1, by omega⟩
            obtain ⟨g', o', t', c'', e', hg', c2, _, _⟩ := HR.out m (by omega)
            cases e'
            have u2 : w2.cell? ⟨g, o + m * 2, none⟩ = some (.int .i64 (S m)) := (B2.cell (p := ⟨g, o + m * 2, none⟩) hg').trans c2
            clear c2 hg'
            have ix : m + 1 - 1 = m := by omega
            by_cases x3 : S m < S (m + 1)
            · have on : Hid (lAll S K V (m + 1 + 1) = true) := lAll_on ho.out (by unfold lineB; rw [x2, ix]; simp [x1, x3])
              go_wp2_with (first | go_quiet (fail))
              go_round
              case rel => exact ⟨m + 1 + 1, by omega, by go_num, (by repeat (first | with_reducible exact Below.refl _ _ | with_reducible exact B2 | with_reducible refine Below.setCell ?_ (by first | omega | (simp; done) | (simp; omega)) _ | with_reducible refine bDrewN ?_ _ | with_reducible refine Below.drew ?_ | with_reducible refine Below.alloc ?_ (by first | omega | (simp; done) | (simp; omega)) _)), on⟩
              case measure => simp [intOf]; omega
            · have no : Hid (lAll S K V n = false) := lAll_no (k := m + 1) (by unfold lineB; rw [ix]; simp [x3]) HN.out
              go_wp2_with (first | go_quiet (fail))
              go_ret
              exact ⟨ret_bool no.out.symm, (by repeat (first | with_reducible exact Below.refl _ _ | with_reducible exact B2 | with_reducible refine Below.setCell ?_ (by first | omega | (simp; done) | (simp; omega)) _ | with_reducible refine bDrewN ?_ _ | with_reducible refine Below.drew ?_ | with_reducible refine Below.alloc ?_ (by first | omega | (simp; done) | (simp; omega)) _))⟩
      · have no : Hid (lAll S K V n = false) := lAll_no (by unfold lineB; rw [decide_eq_false x1]; rfl) HN.out
        go_wp2_with fail
        refine (within_no _ _ _ _ (by omega)).mono ?_
        rintro e w1 ⟨rfl, rfl⟩
        go_wp2
        go_ret
        exact ⟨ret_bool no.out.symm, (by repeat (first | with_reducible exact Below.refl _ _ | with_reducible exact BL | with_reducible refine Below.setCell ?_ (by first | omega | (simp; done) | (simp; omega)) _ | with_reducible refine bDrewN ?_ _ | with_reducible refine Below.drew ?_ | with_reducible refine Below.alloc ?_ (by first | omega | (simp; done) | (simp; omega)) _))⟩
    · obtain rfl : k = n := by omega
      go_wp2
      go_ret
      exact ⟨ret_bool (by rw [ho.out]), hB⟩
theorem implMapOk_any (s : Option Addr) (n c : Nat) (S : Nat → Int) (K : Nat → Nat) (V : Nat → Nat → Int) (w : World) (HR : Hid (MapR w s n S K V)) :
    Calls Try.prog 11 #[.slice s n c] w fun e w' => e = .returned (.bool (mapB n S K V)) ∧ Below w.heap.size w w' := by
  unfold mapB
  by_cases h : 1 ≤ n ∧ n ≤ 12
  · rw [decide_eq_true h, Bool.true_and]; exact implMap_go s n c S K V w (by omega) (by omega) HR
  · rw [decide_eq_false h, Bool.false_and]; exact implMap_no s n c w (by omega)
end Go.Proofs.Ytbabedfbadlhjaa
