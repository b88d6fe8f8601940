/-
What is proved: the specification's l6On at a right curve.
-/
import Derived.Test.YtbabedfbadlhjaaRatV
import Derived.Deep.DeepCutAuto
import Derived.Deep.RegionHeld3
namespace Go.Proofs.Ytbabedfbadlhjaa
set_option maxRecDepth 40000
open Go.RowKit
set_option linter.unusedVariables false
set_option linter.unusedSimpArgs false

set_option maxRecDepth 20000 in
set_option maxHeartbeats 4000000 in
theorem l6On_any (s : Option Addr) (n c : Nat) (V : Nat → Int) (y : Int) (w : World) (hc : curveB n V = true) (HR : Hid (RowI w s (n * 2) V)) : Calls Try.prog 49 #[.slice s n c, .int .i64 y] w fun e w' => (∃ r o, onV n V y o ∧ e = .returned (.float .f64 r) ∧ Fl r o) ∧ ∃ q, w' = w.drewN q := by
  have cv : ∀ k w, (convert 2 30 (.int .i64 k)).run Try.prog w = .ok (.float .f64 (itf k)) w := fun k w => conv_run k w
  have HC : Hid (curveB n V = true) := hc
  obtain ⟨n1, n2⟩ := curve_bounds hc
  have hn : (n : Int) ≤ 60 := by omega
  clear hc
  go_enter Try.func49, Try.ntmps49
  go_wp2_with fail
  go_loopw [5] (fun i wr => ∃ k : Nat, k ≤ n ∧ i = .int .i64 k ∧ (∃ q, wr = w.drewN q) ∧ Hid ((∀ a, a < k → V (a * 2) ≠ y) ∧ ∀ a, a + 1 < k → ¬ (V (a * 2) < y ∧ y < V ((a + 1) * 2)))) (fun i _ => n - (intOf i).toNat)
  case atStart => exact ⟨0, Nat.zero_le _, rfl, ⟨0, rfl⟩, fun a ha => by omega, fun a ha => by omega⟩
  case round =>
    obtain ⟨k, hk, rfl, hW, hP⟩ := hrel
    have HW : Hid (∃ q, wr = w.drewN q) := hW
    have hB : Below w.heap.size w wr := by obtain ⟨q, e⟩ := hW; rw [e]; exact bDrewN (Below.refl _ _) _
    clear hW
    by_cases h1 : k < n
    · obtain ⟨g, o, rfl, hg, c0⟩ := HR.out (k * 2) (by omega)
      obtain ⟨g', o', e', hg', c1⟩ := HR.out (k * 2 + 1) (by omega)
      cases e'
      have u0 : wr.cell? ⟨g, o + k * 2, none⟩ = some (.int .i64 (V (k * 2))) := (hB.cell (p := ⟨g, o + k * 2, none⟩) hg).trans c0
      have u1 : wr.cell? ⟨g, o + k * 2 + 1, none⟩ = some (.int .i64 (V (k * 2 + 1))) := (hB.cell (p := ⟨g, o + (k * 2 + 1), none⟩) hg).trans c1
      have k1 : (k : Int) < (n : Int) := by omega
      have HN : Hid (k < n) := h1
      clear c0 c1 hg'
      by_cases e1 : V (k * 2) = y
      · have b1 : (V (k * 2) == y) = true := by simp [e1]
        have HL : Hid (onV n V y (some (itf (V (k * 2 + 1))))) := .inl ⟨k, h1, e1, rfl⟩
        clear e1
        go_wp2
        exact bodyPost_ret (v := .float .f64 (itf (V (k * 2 + 1)))) (by simp [results, Try.results49, go_sem]) rfl ⟨⟨_, _, HL.out, rfl, itf_fl _⟩, HW.out⟩
      · have b1 : (V (k * 2) == y) = false := by simp [e1]
        rcases Nat.eq_zero_or_pos k with z | z
        · subst z
          have e1' : ∀ a, a < 0 + 1 → V (a * 2) ≠ y := fun a ha => by
            have ez : a = 0 := by omega
            rw [ez]; exact e1
          have PN : Hid ((∀ a, a < 0 + 1 → V (a * 2) ≠ y) ∧ ∀ a, a + 1 < 0 + 1 → ¬ (V (a * 2) < y ∧ y < V ((a + 1) * 2))) := ⟨e1', fun a ha => by omega⟩
          clear e1'
          simp only [Nat.zero_mul, Nat.add_zero, Nat.zero_add] at u0 u1 b1 e1
          go_wp2
          go_roundw
          case rel => exact ⟨1, by omega, by go_num, HW.out, PN⟩
          case measure => simp [intOf]; omega
        · obtain ⟨m, hm⟩ : ∃ m, k = m + 1 := ⟨k - 1, by omega⟩
          obtain ⟨g', o', e', hg', c2⟩ := HR.out (m * 2) (by omega)
          cases e'
          obtain ⟨g', o', e', hg', c3⟩ := HR.out (m * 2 + 1) (by omega)
          cases e'
          have u2 : wr.cell? ⟨g, o + m * 2, none⟩ = some (.int .i64 (V (m * 2))) := (hB.cell (p := ⟨g, o + m * 2, none⟩) hg).trans c2
          have u3 : wr.cell? ⟨g, o + m * 2 + 1, none⟩ = some (.int .i64 (V (m * 2 + 1))) := (hB.cell (p := ⟨g, o + (m * 2 + 1), none⟩) hg).trans c3
          clear c2 c3 hg'
          have P1 : Hid (∀ a, a < k + 1 → V (a * 2) ≠ y) := fun a ha => by
            by_cases q : a = k
            · subst q; exact e1
            · exact hP.out.1 a (by omega)
          by_cases e2 : V (m * 2) < y
          · by_cases e3 : y < V (k * 2)
            · have HL : Hid (onV n V y (betw V y m)) := .inr (.inl ⟨m, by have := HN.out; omega, e2, by rw [← hm]; exact e3, rfl⟩)
              obtain ⟨⟨i1, i2⟩, ⟨i3, i4⟩, _⟩ := knot_in HC.out (j := m) (by have := HN.out; omega)
              obtain ⟨⟨j1, j2⟩, ⟨j3, j4⟩, _⟩ := knot_in HC.out (j := k) HN.out
              have wd : IntKind.i64.wrap (V (k * 2 + 1) - V (m * 2 + 1)) = V (k * 2 + 1) - V (m * 2 + 1) := by rw [IntKind.wrap_i64]; omega
              have haL : (k : Int) - 1 = (m : Int) := by omega
              have hw : IntKind.i64.wrap (m : Int) = (m : Int) := by rw [IntKind.wrap_i64]; omega
              have PT : Hid (∀ q, Calls Try.prog 61 #[.float .f64 (itf (V (m * 2 + 1))), .float .f64 (itf (V (k * 2 + 1) - V (m * 2 + 1))), .int .i64 y, .int .i64 (V (m * 2)), .int .i64 (V (k * 2))] (wr.drewN q) fun e w' => ∃ r n, e = .returned (.float .f64 r) ∧ Fl r (betw V y m) ∧ w' = (wr.drewN q).drewN n) := fun q => by
                have := l6Part_any (itf_fl (V (m * 2 + 1))) (itf_fl (V (k * 2 + 1) - V (m * 2 + 1))) y (V (m * 2)) (V (k * 2)) (wr.drewN q) (by omega) (by omega) i1 i2 j1 j2
                rw [hm] at this ⊢
                exact this
              have k4 : (m : Int) < (n : Int) := by omega
              have k5 : (0 : Int) < (k : Int) := by omega
              clear i1 i2 i3 i4 j1 j2 j3 j4 hm z e1
              go_upto_region 7 with fail
              go_region_held3 (fun w' => w'.cell? ⟨g, o + k * 2, none⟩ = some (.int .i64 (V (k * 2))) ∧ w'.cell? ⟨g, o + k * 2 + 1, none⟩ = some (.int .i64 (V (k * 2 + 1))) ∧ w'.cell? ⟨g, o + m * 2, none⟩ = some (.int .i64 (V (m * 2))) ∧ w'.cell? ⟨g, o + m * 2 + 1, none⟩ = some (.int .i64 (V (m * 2 + 1)))) (first | (simp [go_sem, u0, u1, u2, u3]; done) | (simp [go_sem, *]; done)) (first
                | (go_at_call 61; refine (PT.out _).mono ?_; rintro e w3 ⟨r, m3, rfl, hr, rfl⟩))
              all_goals
                go_wp2
                exact bodyPost_ret (v := .float .f64 r) (by simp [results, Try.results49, go_sem]) rfl ⟨⟨_, _, HL.out, rfl, hr⟩, dq HW.out _⟩
            · subst hm
              have b3 : decide (y < V ((m + 1) * 2)) = false := by simp; omega
              have PN : Hid ((∀ a, a < m + 1 + 1 → V (a * 2) ≠ y) ∧ ∀ a, a + 1 < m + 1 + 1 → ¬ (V (a * 2) < y ∧ y < V ((a + 1) * 2))) := ⟨P1.out, fun a ha => by
                  by_cases q : a = m
                  · subst q; exact fun r => e3 r.2
                  · exact hP.out.2 a (by omega)⟩
              go_wp2
              go_roundw
              case rel => exact ⟨m + 1 + 1, by omega, by go_num, HW.out, PN⟩
              case measure => simp [intOf]; omega
          · subst hm
            have b2 : decide (V (m * 2) < y) = false := by simp; omega
            have PN : Hid ((∀ a, a < m + 1 + 1 → V (a * 2) ≠ y) ∧ ∀ a, a + 1 < m + 1 + 1 → ¬ (V (a * 2) < y ∧ y < V ((a + 1) * 2))) := ⟨P1.out, fun a ha => by
                by_cases q : a = m
                · subst q; exact fun r => e2 r.1
                · exact hP.out.2 a (by omega)⟩
            go_wp2
            go_roundw
            case rel => exact ⟨m + 1 + 1, by omega, by go_num, HW.out, PN⟩
            case measure => simp [intOf]; omega
    · obtain rfl : k = n := by omega
      have HL : Hid (onV k V y none) := .inr (.inr ⟨hP.out.1, hP.out.2, rfl⟩)
      go_wp2_with fail
      refine (l1NoneM_any _).mono ?_
      rintro e w3 ⟨r, m3, rfl, hr, rfl⟩
      go_wp2
      go_ret
      exact ⟨⟨r, _, HL.out, rfl, hr⟩, dq HW.out _⟩
end Go.Proofs.Ytbabedfbadlhjaa
