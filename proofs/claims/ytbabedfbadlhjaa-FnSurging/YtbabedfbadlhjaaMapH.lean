/-
What is proved: the program's search for the lines at or around a speed.
-/
import Derived.Test.YtbabedfbadlhjaaMapI
import Derived.Test.YtbabedfbadlhjaaMapG
namespace Go.Proofs.Ytbabedfbadlhjaa
set_option maxRecDepth 40000
open Go.RowKit
set_option linter.unusedVariables false
set_option linter.unusedSimpArgs false

set_option maxHeartbeats 1000000 in
theorem atLeast_any (p q g o n c i : Nat) (x v : Int) (w : World) (hp : w.cell? ⟨p, 0, none⟩ = some (.slice (some ⟨g, o, none⟩) n c)) (hq : w.cell? ⟨q, 0, none⟩ = some (.int .i64 x)) (hi : i < n) (hn : (n : Int) ≤ 12) (u0 : w.cell? ⟨g, o + i * 2, none⟩ = some (.int .i64 v)) :
    Calls Try.prog 53 #[.int .i64 (i : Int), .pointer (some ⟨p, 0, none⟩), .pointer (some ⟨q, 0, none⟩)] w fun e w' => e = .returned (.bool (decide (x ≤ v))) ∧ ∃ m, w' = w.drewN m := by
  have k1 : (i : Int) < (n : Int) := by omega
  go_enter Try.func53, Try.ntmps53
  go_upto_region 1 with fail
  go_quiet (fail)
  go_wp2
  go_ret
  exact ⟨rfl, _, rfl⟩
set_option maxRecDepth 20000 in
set_option maxHeartbeats 2000000 in
theorem search_any (n L : Nat) (p q : Nat) (w : World) (hL : L ≤ n) (hn : (n : Int) ≤ 12)
    (M : Hid (∀ (z : Nat) w', (∃ m, w' = w.drewN m) → z < n → Calls Try.prog 53 #[.int .i64 (z : Int), .pointer (some ⟨p, 0, none⟩), .pointer (some ⟨q, 0, none⟩)] w' fun e w'' => e = .returned (.bool (decide (L ≤ z))) ∧ ∃ m, w'' = w'.drewN m)) :
    Calls Try.prog 52 #[.int .i64 (n : Int), .func (.func 53) #[] #[.pointer (some ⟨p, 0, none⟩), .pointer (some ⟨q, 0, none⟩)]] w fun e w' => e = .returned (.int .i64 (L : Int)) ∧ ∃ m, w' = w.drewN m := by
  go_enter Try.func52, Try.ntmps52
  go_wp2_with fail
  go_loopw [5, 6] (fun i j wr => ∃ l h : Nat, i = .int .i64 l ∧ j = .int .i64 h ∧ l ≤ L ∧ L ≤ h ∧ h ≤ n ∧ ∃ m, wr = w.drewN m) (fun i j _ => (intOf j - intOf i).toNat)
  case atStart => exact ⟨0, n, rfl, rfl, Nat.zero_le _, hL, Nat.le_refl _, 0, rfl⟩
  case round =>
    obtain ⟨l, h, rfl, rfl, r2, r3, r4, hW⟩ := hrel
    have HW : Hid (∃ m, wr = w.drewN m) := hW
    clear hW
    by_cases t : l < h
    · obtain ⟨z, hz⟩ : ∃ z : Nat, (l + h) / 2 = z := ⟨_, rfl⟩
      have z1 : l ≤ z := by omega
      have z2 : z < h := by omega
      have lh : (l : Int) < (h : Int) := by omega
      have l1 : (l : Int) + (h : Int) ≤ 24 := by omega
      have hz' : ((l : Int) + (h : Int)) / 2 = (z : Int) := by omega
      go_wp2_with fail
      refine (M.out z _ HW.out (by omega)).mono ?_
      rintro r w3 ⟨rfl, m3, rfl⟩
      have HW3 : Hid (∃ m, wr.drewN m3 = w.drewN m) := dq HW.out _
      clear hz' hz
      by_cases u : L ≤ z
      · have bu : decide (L ≤ z) = true := decide_eq_true u
        rw [bu]
        go_wp2
        go_round
        case rel => exact ⟨l, z, rfl, rfl, r2, u, by omega, HW3.out⟩
        case measure => simp [intOf]; omega
      · have bu : decide (L ≤ z) = false := decide_eq_false u
        rw [bu]
        go_wp2
        go_round
        case rel => exact ⟨z + 1, h, by go_num, rfl, by omega, r3, r4, HW3.out⟩
        case measure => simp [intOf]; omega
    · obtain rfl : l = L := by omega
      go_wp2
      go_ret
      exact ⟨rfl, HW.out⟩

theorem lines_least {n : Nat} {S : Nat → Int} {K : Nat → Nat} {V : Nat → Nat → Int} (hl : ∀ j, j < n → lineB S K V j = true) (x : Int) : ∃ L, L ≤ n ∧ ∀ i, i < n → (L ≤ i ↔ x ≤ S i) := by
  have key : ∀ m, m ≤ n → ∃ L, L ≤ m ∧ ∀ i, i < m → (L ≤ i ↔ x ≤ S i) := by
    intro m
    induction m with
    | zero => exact fun _ => ⟨0, Nat.le_refl _, fun i hi => by omega⟩
    | succ m ih =>
      intro hm
      obtain ⟨L, h1, h2⟩ := ih (by omega)
      by_cases e : L = m
      · by_cases q : x ≤ S m
        · refine ⟨m, by omega, fun i hi => ?_⟩
          by_cases r : i = m
          · subst r; exact ⟨fun _ => q, fun _ => Nat.le_refl _⟩
          · rw [← h2 i (by omega), e]
        · refine ⟨m + 1, Nat.le_refl _, fun i hi => ?_⟩
          by_cases r : i = m
          · subst r; exact ⟨fun _ => by omega, fun _ => absurd (by assumption) q⟩
          · have := h2 i (by omega)
            rw [e] at this
            exact ⟨fun _ => by omega, fun h => by have := this.2 h; omega⟩
      · refine ⟨L, by omega, fun i hi => ?_⟩
        by_cases r : i = m
        · subst r
          have a1 : x ≤ S L := (h2 L (by omega)).1 (Nat.le_refl _)
          have a2 := map_mono hl (i := L) (j := i) (by omega) (by omega)
          exact ⟨fun _ => by omega, fun _ => by omega⟩
        · exact h2 i (by omega)
  exact key n (Nat.le_refl _)
set_option maxHeartbeats 800000 in
theorem surge1_any (y : Int) (gt ot k c : Nat) (v : Int) (w : World) (hk : 0 < k) (hk2 : (k : Int) ≤ 60) (hg : gt < w.heap.size) (ct : w.cell? ⟨gt, ot, none⟩ = some (.int .i64 v)) :
    Calls Try.prog 38 #[.agg #[.int .i64 y, .slice (some ⟨gt, ot, none⟩) k c]] w fun e w' => e = .returned (.float .f64 (itf v)) ∧ Below w.heap.size w w' := by
  have cv : ∀ k w, (convert 2 30 (.int .i64 k)).run Try.prog w = .ok (.float .f64 (itf k)) w := fun k w => conv_run k w
  have k1 : (0 : Int) < (k : Int) := by omega
  have ct' : (w.alloc (.cells #[.int .i64 y, .slice (some ⟨gt, ot, none⟩) k c] 29)).cell? ⟨gt, ot, none⟩ = some (.int .i64 v) := ((below0 w _).cell (p := ⟨gt, ot, none⟩) hg).trans ct
  go_enter Try.func38, Try.ntmps38
  go_wp2
  go_ret
  exact ⟨rfl, (by repeat (first | with_reducible exact Below.refl _ _ | with_reducible refine Below.setCell ?_ (by first | omega | (simp; done) | (simp; omega)) _ | with_reducible refine bDrewN ?_ _ | with_reducible refine Below.drew ?_ | with_reducible refine Below.alloc ?_ (by first | omega | (simp; done) | (simp; omega)) _))⟩
end Go.Proofs.Ytbabedfbadlhjaa
