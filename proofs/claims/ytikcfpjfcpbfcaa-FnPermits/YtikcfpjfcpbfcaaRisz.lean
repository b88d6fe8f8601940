/-
What is proved: lists of int64s that rise, as both packages ask.
-/
import Derived.Test.YtikcfpjfcpbfcaaZcA
import Derived.Deep.RegionHeld3
import Derived.Deep.DeepCutAuto
import Derived.BigQuiet
namespace Go.Proofs.Ytikcfpjfcpbfcaa
set_option maxRecDepth 40000
open Go.ChangeShapes Go.WideShapes Go.ChangeAt Go.RowKit
set_option linter.unusedVariables false
set_option linter.unusedSimpArgs false

def risB (V : Nat → Int) (n : Nat) : Bool := decide (∀ j, j < n → j + 1 < n → V j < V (j + 1))
theorem ris_yes {V : Nat → Int} {n : Nat} (h : risB V n = true) : ∀ j, j + 1 < n → V j < V (j + 1) := fun j hj => (of_decide_eq_true h : ∀ j, j < n → j + 1 < n → V j < V (j + 1)) j (by omega) hj
theorem ris_len {V : Nat → Int} {n : Nat} {lo hi : Int} (h : risB V n = true) (ha : ∀ j, j < n → lo ≤ V j ∧ V j ≤ hi) (hp : lo ≤ hi + 1) : (n : Int) ≤ hi - lo + 1 := by
  have hr := ris_yes h
  have : ∀ j, j < n → lo + j ≤ V j := by
    intro j
    induction j with
    | zero => intro hj; have := ha 0 hj; simpa using this.1
    | succ j ih => intro hj; have := ih (by omega); have := hr j hj; omega
  rcases Nat.eq_zero_or_pos n with z | z
  · subst z; omega
  · have h1 := this (n - 1) (by omega)
    have h2 := ha (n - 1) (by omega)
    omega
set_option maxRecDepth 20000 in
set_option maxHeartbeats 1000000 in
theorem rises_any (s : Option Addr) (n c : Nat) (V : Nat → Int) (w : World) (hn : (n : Int) ≤ 1048576) (HR : Hid (RowI w s n V)) :
    Calls Try.prog 82 #[.slice s n c] w fun e w' => e = .returned (.bool (risB V n)) ∧ Below w.heap.size w w' := by
  go_enter Try.func82, Try.ntmps82
  go_wp2_with fail
  go_loopw [3] (fun i wr => ∃ k : Nat, 1 ≤ k ∧ (k ≤ n ∨ k = 1) ∧ i = .int .i64 k ∧ Hid (∀ j, j + 1 < k → V j < V (j + 1)) ∧ Below w.heap.size w wr) (fun i _ => n - (intOf i).toNat)
  case atStart => exact ⟨1, Nat.le_refl _, .inr rfl, rfl, fun j hj => by omega, Below.refl _ _⟩
  case round =>
    obtain ⟨k, k0, hk, rfl, HP, hB⟩ := hrel
    have HK : Hid (k ≤ n ∨ k = 1) := hk
    clear hk
    by_cases h1 : k < n
    · obtain ⟨m, hm⟩ : ∃ m, k = m + 1 := ⟨k - 1, by omega⟩
      obtain ⟨g, o, rfl, hg, c0⟩ := HR.out k h1
      obtain ⟨g', o', e', hg', c1⟩ := HR.out m (by omega)
      cases e'
      have d0 : wr.cell? ⟨g, o + k, none⟩ = some (.int .i64 (V k)) := (hB.cell (p := ⟨g, o + k, none⟩) hg).trans c0
      have d1 : wr.cell? ⟨g, o + m, none⟩ = some (.int .i64 (V m)) := (hB.cell (p := ⟨g, o + m, none⟩) hg).trans c1
      have k1 : (k : Int) < (n : Int) := by omega
      have km : (k : Int) - 1 = (m : Int) := by omega
      have wm : IntKind.i64.wrap (m : Int) = (m : Int) := by rw [IntKind.wrap_i64]; omega
      have mn : (m : Int) < (n : Int) := by omega
      have HM : Hid (k = m + 1) := hm
      have zW := hB.size
      clear hm c0 c1
      by_cases q : V m < V k
      · have q' : decide (V k ≤ V m) = false := decide_eq_false (by omega)
        have HN : Hid (∀ j, j + 1 < k + 1 → V j < V (j + 1)) := fun j hj => by
          by_cases e : j = m
          · subst e; rw [← HM.out]; exact q
          · exact HP.out j (by have := HM.out; omega)
        clear q
        go_wp2_with fail
        go_quiet (fail)
        go_wp2
        go_roundw
        case rel => exact ⟨k + 1, by omega, .inl (by omega), by go_num, HN.out, (by repeat (first | with_reducible exact Below.refl _ _ | with_reducible exact hB | with_reducible refine Below.setCell ?_ (by first | omega | (simp; done) | (simp; omega)) _ | with_reducible refine bDrewN ?_ _ | with_reducible refine Below.drew ?_ | with_reducible refine Below.alloc ?_ (by first | omega | (simp; done) | (simp; omega)) _))⟩
        case measure => first | (simp [intOf]; done) | (simp [intOf]; omega)
      · have q' : decide (V k ≤ V m) = true := decide_eq_true (by omega)
        have HO : Hid (risB V n = false) := decide_eq_false fun h => q (by rw [HM.out]; exact h m (by have := HM.out; omega) (by have := HM.out; omega))
        clear q
        go_wp2_with fail
        go_quiet (fail)
        go_wp2
        go_ret
        exact ⟨ret_bool HO.out.symm, (by repeat (first | with_reducible exact Below.refl _ _ | with_reducible exact hB | with_reducible refine Below.setCell ?_ (by first | omega | (simp; done) | (simp; omega)) _ | with_reducible refine bDrewN ?_ _ | with_reducible refine Below.drew ?_ | with_reducible refine Below.alloc ?_ (by first | omega | (simp; done) | (simp; omega)) _))⟩
    · have HO : Hid (risB V n = true) := decide_eq_true fun j _ hj => HP.out j (by rcases HK.out with h | h <;> omega)
      go_wp2
      go_ret
      exact ⟨ret_bool HO.out.symm, hB⟩
set_option maxRecDepth 20000 in
set_option maxHeartbeats 2000000 in
theorem l22Rises_any (s : Option Addr) (n c : Nat) (V : Nat → Int) (lo hi : Int) (w : World) (hn : (n : Int) ≤ 1048576) (HR : Hid (RowI w s n V)) :
    Calls Try.prog 85 #[.slice s n c, .int .i64 lo, .int .i64 hi] w fun e w' => e = .returned (.bool (risB V n && allInB lo hi V n)) ∧ Below w.heap.size w w' := by
  go_enter Try.func85, Try.ntmps85
  go_wp2_with fail
  go_loopw [7] (fun i wr => ∃ k : Nat, k ≤ n ∧ i = .int .i64 k ∧ Hid (∀ j, j + 1 < k → V j < V (j + 1)) ∧ Hid (∀ j, j < k → lo ≤ V j ∧ V j ≤ hi) ∧ Below w.heap.size w wr) (fun i _ => n - (intOf i).toNat)
  case atStart => exact ⟨0, Nat.zero_le _, rfl, fun j hj => by omega, fun j hj => by omega, Below.refl _ _⟩
  case round =>
    obtain ⟨k, hk, rfl, HP, HA, hB⟩ := hrel
    have zW := hB.size
    by_cases h1 : k < n
    · obtain ⟨g, o, rfl, hg, c0⟩ := HR.out k h1
      have d0 : wr.cell? ⟨g, o + k, none⟩ = some (.int .i64 (V k)) := (hB.cell (p := ⟨g, o + k, none⟩) hg).trans c0
      have k1 : (k : Int) < (n : Int) := by omega
      clear c0
      by_cases q : lo ≤ V k ∧ V k ≤ hi
      case neg =>
        have HO : Hid ((risB V n && allInB lo hi V n) = false) := by
          show _ = _
          have : allInB lo hi V n = false := decide_eq_false fun h => q (h k h1)
          rw [this]; simp
        have HW : ∀ w, Calls Try.prog 84 #[.int .i64 (V k), .int .i64 lo, .int .i64 hi] w fun e w' => e = .returned (.bool false) ∧ w' = w := fun w => l1In_no _ _ _ w (by omega)
        clear q
        go_wp2_with fail
        go_quiet (first | (go_at_call 84; refine Calls.quiet_of_same (HW _)))
        go_wp2
        go_ret
        exact ⟨ret_bool HO.out.symm, (by repeat (first | with_reducible exact Below.refl _ _ | with_reducible exact hB | with_reducible refine Below.setCell ?_ (by first | omega | (simp; done) | (simp; omega)) _ | with_reducible refine bDrewN ?_ _ | with_reducible refine Below.drew ?_ | with_reducible refine Below.alloc ?_ (by first | omega | (simp; done) | (simp; omega)) _))⟩
      have HW : ∀ w, Calls Try.prog 84 #[.int .i64 (V k), .int .i64 lo, .int .i64 hi] w fun e w' => e = .returned (.bool true) ∧ w' = w := fun w => l1In_yes _ _ _ w q.1 q.2
      have HA2 : Hid (∀ j, j < k + 1 → lo ≤ V j ∧ V j ≤ hi) := ball_succ HA.out q
      clear q
      by_cases z : k = 0
      · have kz : decide (0 < k) = false := decide_eq_false (by omega)
        have HN : Hid (∀ j, j + 1 < k + 1 → V j < V (j + 1)) := fun j hj => by omega
        clear z
        go_wp2_with fail
        go_quiet (first | (go_at_call 84; refine Calls.quiet_of_same (HW _)))
        go_wp2
        go_roundw
        case rel => exact ⟨k + 1, by omega, by go_num, HN.out, HA2.out, (by repeat (first | with_reducible exact Below.refl _ _ | with_reducible exact hB | with_reducible refine Below.setCell ?_ (by first | omega | (simp; done) | (simp; omega)) _ | with_reducible refine bDrewN ?_ _ | with_reducible refine Below.drew ?_ | with_reducible refine Below.alloc ?_ (by first | omega | (simp; done) | (simp; omega)) _))⟩
        case measure => first | (simp [intOf]; done) | (simp [intOf]; omega)
      · have kz : decide (0 < k) = true := decide_eq_true (by omega)
        obtain ⟨m, hm⟩ : ∃ m, k = m + 1 := ⟨k - 1, by omega⟩
        obtain ⟨g', o', e', hg', c1⟩ := HR.out m (by omega)
        cases e'
        have d1 : wr.cell? ⟨g, o + m, none⟩ = some (.int .i64 (V m)) := (hB.cell (p := ⟨g, o + m, none⟩) hg).trans c1
        have km : (k : Int) - 1 = (m : Int) := by omega
        have wm : IntKind.i64.wrap (m : Int) = (m : Int) := by rw [IntKind.wrap_i64]; omega
        have mn : (m : Int) < (n : Int) := by omega
        have HM : Hid (k = m + 1) := hm
        clear hm c1 z
        by_cases q : V m < V k
        · have q' : decide (V k ≤ V m) = false := decide_eq_false (by omega)
          have HN : Hid (∀ j, j + 1 < k + 1 → V j < V (j + 1)) := fun j hj => by
            by_cases e : j = m
            · subst e; rw [← HM.out]; exact q
            · exact HP.out j (by have := HM.out; omega)
          clear q
          go_wp2_with fail
          go_quiet (first | (go_at_call 84; refine Calls.quiet_of_same (HW _)))
          go_wp2
          go_roundw
          case rel => exact ⟨k + 1, by omega, by go_num, HN.out, HA2.out, (by repeat (first | with_reducible exact Below.refl _ _ | with_reducible exact hB | with_reducible refine Below.setCell ?_ (by first | omega | (simp; done) | (simp; omega)) _ | with_reducible refine bDrewN ?_ _ | with_reducible refine Below.drew ?_ | with_reducible refine Below.alloc ?_ (by first | omega | (simp; done) | (simp; omega)) _))⟩
          case measure => first | (simp [intOf]; done) | (simp [intOf]; omega)
        · have q' : decide (V k ≤ V m) = true := decide_eq_true (by omega)
          have HO : Hid ((risB V n && allInB lo hi V n) = false) := by
            show _ = _
            have : risB V n = false := decide_eq_false fun h => q (by rw [HM.out]; exact h m (by have := HM.out; omega) (by have := HM.out; omega))
            rw [this]; rfl
          clear q
          go_wp2_with fail
          go_quiet (first | (go_at_call 84; refine Calls.quiet_of_same (HW _)))
          go_wp2
          go_ret
          exact ⟨ret_bool HO.out.symm, (by repeat (first | with_reducible exact Below.refl _ _ | with_reducible exact hB | with_reducible refine Below.setCell ?_ (by first | omega | (simp; done) | (simp; omega)) _ | with_reducible refine bDrewN ?_ _ | with_reducible refine Below.drew ?_ | with_reducible refine Below.alloc ?_ (by first | omega | (simp; done) | (simp; omega)) _))⟩
    · obtain rfl : k = n := by omega
      have HO : Hid ((risB V k && allInB lo hi V k) = true) := by
        show _ = _
        have a1 : risB V k = true := decide_eq_true fun j _ hj => HP.out j hj
        have a2 : allInB lo hi V k = true := decide_eq_true HA.out
        rw [a1, a2]; rfl
      go_wp2
      go_ret
      exact ⟨ret_bool HO.out.symm, hB⟩
end Go.Proofs.Ytikcfpjfcpbfcaa
