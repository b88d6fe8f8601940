/-
What is proved: when a map is right, as both packages say it.
-/
import Derived.Test.YtbabedfbadlhjaaMapR
import Derived.Test.YtbabedfbadlhjaaCurveQ
import Derived.Deep.DeepCutAuto
namespace Go.Proofs.Ytbabedfbadlhjaa
set_option maxRecDepth 40000
open Go.RowKit
set_option linter.unusedVariables false
set_option linter.unusedSimpArgs false

def lineB (S : Nat → Int) (K : Nat → Nat) (V : Nat → Nat → Int) (j : Nat) : Bool := decide (1 ≤ S j ∧ S j ≤ 100000) && (curveB (K j) (V j) && decide (j = 0 ∨ S (j - 1) < S j))
def lAll (S : Nat → Int) (K : Nat → Nat) (V : Nat → Nat → Int) : Nat → Bool
  | 0 => true
  | k + 1 => lAll S K V k && lineB S K V k
theorem lAll_no {S : Nat → Int} {K : Nat → Nat} {V : Nat → Nat → Int} {k : Nat} (h : lineB S K V k = false) : ∀ {n : Nat}, k < n → lAll S K V n = false
  | n + 1, hn => by
    unfold lAll
    by_cases e : k = n
    · subst e; rw [h, Bool.and_false]
    · rw [lAll_no h (by omega), Bool.false_and]
theorem lAll_on {S : Nat → Int} {K : Nat → Nat} {V : Nat → Nat → Int} {k : Nat} (h : lAll S K V k = true) (g : lineB S K V k = true) : lAll S K V (k + 1) = true := by unfold lAll; rw [h, g]; rfl
/-- A map is right. -/
def mapB (n : Nat) (S : Nat → Int) (K : Nat → Nat) (V : Nat → Nat → Int) : Bool := decide (1 ≤ n ∧ n ≤ 12) && lAll S K V n

set_option maxHeartbeats 1000000 in
theorem specMap_no (s : Option Addr) (n c : Nat) (w : World) (h : (n : Int) < 1 ∨ (12 : Int) < n) : Calls Try.prog 12 #[.slice s n c] w fun e w' => e = .returned (.bool false) ∧ ∃ m', w' = w.drewN m' := by
  by_cases h1 : (n : Int) < 1
  · go_enter Try.func12, Try.ntmps12
    go_wp2
    go_ret
    exact ⟨rfl, 0, rfl⟩
  · have b1 : decide ((n : Int) < 1) = false := by simp; omega
    go_enter Try.func12, Try.ntmps12
    go_wp2
    go_ret
    exact ⟨rfl, 0, rfl⟩

set_option maxRecDepth 20000 in
set_option maxHeartbeats 4000000 in
theorem specMap_go (s : Option Addr) (n c : Nat) (S : Nat → Int) (K : Nat → Nat) (V : Nat → Nat → Int) (w : World) (h1 : (1 : Int) ≤ n) (h2 : (n : Int) ≤ 12) (HR : Hid (MapR w s n S K V)) :
    Calls Try.prog 12 #[.slice s n c] w fun e w' => e = .returned (.bool (lAll S K V n)) ∧ ∃ m', w' = w.drewN m' := by
  have Y : Hid (∀ (x : Int) (w : World), (1 ≤ x ∧ x ≤ 100000) → Calls Try.prog 33 #[.int .i64 x, .int .i64 1, .int .i64 100000] w fun e w' => e = .returned (.bool true) ∧ w' = w) := fun x w h => l1In_yes x _ _ w h.1 h.2
  have N : Hid (∀ (x : Int) (w : World), ¬ (1 ≤ x ∧ x ≤ 100000) → Calls Try.prog 33 #[.int .i64 x, .int .i64 1, .int .i64 100000] w fun e w' => e = .returned (.bool false) ∧ w' = w) := fun x w h => l1In_no x _ _ w (by omega)
  go_enter Try.func12, Try.ntmps12
  go_wp2_with fail
  go_loopw [3] (fun i wr => ∃ k : Nat, k ≤ n ∧ i = .int .i64 k ∧ (∃ q, wr = w.drewN q) ∧ Hid (lAll S K V k = true)) (fun i _ => n - (intOf i).toNat)
  case atStart => exact ⟨0, Nat.zero_le _, rfl, ⟨0, rfl⟩, rfl⟩
  case round =>
    obtain ⟨k, hk, rfl, hW, ho⟩ := hrel
    have HW : Hid (∃ q, wr = w.drewN q) := hW
    have hB : Below w.heap.size w wr := by obtain ⟨q, e⟩ := hW; rw [e]; exact bDrewN (Below.refl _ _) _
    clear hW
    by_cases h1 : k < n
    · obtain ⟨g, o, t, c', rfl, hg, c0, c1, RK⟩ := HR.out k h1
      have u0 : wr.cell? ⟨g, o + k * 2, none⟩ = some (.int .i64 (S k)) := (hB.cell (p := ⟨g, o + k * 2, none⟩) hg).trans c0
      have u1 : wr.cell? ⟨g, o + k * 2 + 1, none⟩ = some (.slice t (K k) c') := (hB.cell (p := ⟨g, o + k * 2 + 1, none⟩) hg).trans c1
      have CQ : Hid (∀ m, Calls Try.prog 34 #[.slice t (K k) c'] (wr.drewN m) fun e w' => e = .returned (.bool (curveB (K k) (V k))) ∧ ∃ m', w' = (wr.drewN m).drewN m') := fun m => specCurveQ_any t (K k) c' (V k) (wr.drewN m) (RK.below (bDrewN hB _))
      have k1 : (k : Int) < (n : Int) := by omega
      have zg : g < wr.heap.size := Nat.lt_of_lt_of_le hg hB.size
      have HN : Hid (k < n) := h1
      clear c0 c1 hg RK
      by_cases x1 : 1 ≤ S k ∧ S k ≤ 100000
      · cases x2 : curveB (K k) (V k) with
        | false =>
          have no : Hid (lAll S K V n = false) := lAll_no (by unfold lineB; rw [x2]; simp) HN.out
          rw [x2] at CQ
          go_wp2_with fail
          go_quiet (first
            | (go_at_call 33; exact Calls.quiet_of_same (Y.out _ _ x1))
            | (go_at_call 34; exact Calls.quiet_of (CQ.out _)))
          go_wp2
          go_ret
          exact ⟨ret_bool no.out.symm, (by first | exact HW.out | exact dq HW.out _)⟩
        | true =>
          rw [x2] at CQ
          rcases Nat.eq_zero_or_pos k with z | z
          · subst z
            have on : Hid (lAll S K V (0 + 1) = true) := lAll_on ho.out (by unfold lineB; rw [x2]; simp [x1])
            simp only [Nat.zero_mul, Nat.add_zero, Nat.zero_add] at u0 u1
            go_wp2_with fail
            go_quiet (first
              | (go_at_call 33; exact Calls.quiet_of_same (Y.out _ _ x1))
              | (go_at_call 34; exact Calls.quiet_of (CQ.out _)))
            go_wp2
            go_round
            case rel => exact ⟨1, by omega, by go_num, (by first | exact HW.out | exact dq HW.out _), on⟩
            case measure => simp [intOf]; omega
          · obtain ⟨m, rfl⟩ : ∃ m, k = m + 1 := ⟨k - 1, by omega⟩
            obtain ⟨g', o', t', c'', e', hg', c2, _, _⟩ := HR.out m (by omega)
            cases e'
            have u2 : wr.cell? ⟨g, o + m * 2, none⟩ = some (.int .i64 (S m)) := (hB.cell (p := ⟨g, o + m * 2, none⟩) hg').trans c2
            clear c2 hg'
            have ix : m + 1 - 1 = m := by omega
            by_cases x3 : S m < S (m + 1)
            · have on : Hid (lAll S K V (m + 1 + 1) = true) := lAll_on ho.out (by unfold lineB; rw [x2, ix]; simp [x1, x3])
              go_wp2_with fail
              go_quiet (first
                | (go_at_call 33; exact Calls.quiet_of_same (Y.out _ _ x1))
                | (go_at_call 34; exact Calls.quiet_of (CQ.out _)))
              go_wp2
              go_round
              case rel => exact ⟨m + 1 + 1, by omega, by go_num, (by first | exact HW.out | exact dq HW.out _), on⟩
              case measure => simp [intOf]; omega
            · have no : Hid (lAll S K V n = false) := lAll_no (k := m + 1) (by unfold lineB; rw [ix]; simp [x3]) HN.out
              go_wp2_with fail
              go_quiet (first
                | (go_at_call 33; exact Calls.quiet_of_same (Y.out _ _ x1))
                | (go_at_call 34; exact Calls.quiet_of (CQ.out _)))
              go_wp2
              go_ret
              exact ⟨ret_bool no.out.symm, (by first | exact HW.out | exact dq HW.out _)⟩
      · have no : Hid (lAll S K V n = false) := lAll_no (by unfold lineB; rw [decide_eq_false x1]; rfl) HN.out
        go_wp2_with fail
        go_quiet (first
          | (go_at_call 33; exact Calls.quiet_of_same (N.out _ _ x1)))
        go_wp2
        go_ret
        exact ⟨ret_bool no.out.symm, (by first | exact HW.out | exact dq HW.out _)⟩
    · obtain rfl : k = n := by omega
      go_wp2
      go_ret
      exact ⟨ret_bool (by rw [ho.out]), (by first | exact HW.out | exact dq HW.out _)⟩
theorem specMapOk_any (s : Option Addr) (n c : Nat) (S : Nat → Int) (K : Nat → Nat) (V : Nat → Nat → Int) (w : World) (HR : Hid (MapR w s n S K V)) :
    Calls Try.prog 12 #[.slice s n c] w fun e w' => e = .returned (.bool (mapB n S K V)) ∧ ∃ m', w' = w.drewN m' := by
  unfold mapB
  by_cases h : 1 ≤ n ∧ n ≤ 12
  · rw [decide_eq_true h, Bool.true_and]; exact specMap_go s n c S K V w (by omega) (by omega) HR
  · rw [decide_eq_false h, Bool.false_and]; exact specMap_no s n c w (by omega)
end Go.Proofs.Ytbabedfbadlhjaa
