/-
What is proved: when a net is right, in numbers, and as both packages say it.
-/
import Derived.Test.YtjbmmjealkjghaaIsW
import Derived.Test.YtjbmmjealkjghaaAllIn
import Derived.Test.YtjbmmjealkjghaaNtT
import Derived.Deep.RegionHeld3
import Derived.Deep.DeepCutAuto
import Derived.BigQuiet
namespace Go.Proofs.Ytjbmmjealkjghaa
set_option maxRecDepth 40000
open Go.ChangeShapes Go.WideShapes Go.ChangeAt Go.RowKit
set_option linter.unusedVariables false
set_option linter.unusedSimpArgs false

def risB (V : Nat → Int) (n : Nat) : Bool := decide (∀ j, j < n → j + 1 < n → V j < V (j + 1))
def ducB (p : Int) (z : Int × Int) : Bool := inB 0 (p - 1) z.1 && (inB 0 (p - 1) z.2 && !decide (z.1 = z.2))
def netB (p : Int) (n : Nat) (D : Nat → Int × Int) (m : Nat) (S : Nat → Int) : Bool := inB 1 30 p && (decide (n ≤ 40) && (decide (∀ j, j < n → ducB p (D j) = true) && (risB S m && allInB 0 (p - 1) S m)))
theorem ris_yes {V : Nat → Int} {n : Nat} (h : risB V n = true) : ∀ j, j + 1 < n → V j < V (j + 1) := fun j hj => (of_decide_eq_true h : ∀ j, j < n → j + 1 < n → V j < V (j + 1)) j (by omega) hj
theorem net_yes {p : Int} {n : Nat} {D : Nat → Int × Int} {m : Nat} {S : Nat → Int} (h : netB p n D m S = true) : (1 ≤ p ∧ p ≤ 30) ∧ n ≤ 40 ∧ (∀ j, j < n → ducB p (D j) = true) ∧ risB S m = true ∧ ∀ j, j < m → 0 ≤ S j ∧ S j ≤ p - 1 := by
  unfold netB at h
  simp only [Bool.and_eq_true, decide_eq_true_iff] at h
  exact ⟨inB_yes h.1, h.2.1, h.2.2.1, h.2.2.2.1, allIn_yes h.2.2.2.2.symm⟩
theorem duc_yes {p : Int} {z : Int × Int} (h : ducB p z = true) : (0 ≤ z.1 ∧ z.1 ≤ p - 1) ∧ (0 ≤ z.2 ∧ z.2 ≤ p - 1) ∧ z.1 ≠ z.2 := by
  unfold ducB at h
  simp only [Bool.and_eq_true] at h
  exact ⟨inB_yes h.1, inB_yes h.2.1, by simpa using h.2.2⟩
theorem ris_len {V : Nat → Int} {n : Nat} {lo hi : Int} (h : risB V n = true) (ha : ∀ j, j < n → lo ≤ V j ∧ V j ≤ hi) (hp : lo ≤ hi + 1) : (n : Int) ≤ hi - lo + 1 := by
  have hr := ris_yes h
  have : ∀ j, j < n → lo + j ≤ V j := by
    intro j
    induction j with
    | zero => intro hj; have := ha 0 hj; simpa using this.1
    | succ j ih => intro hj; have := ih (by omega); have := hr j hj; omega
  rcases Nat.eq_zero_or_pos n with z | z
  · subst z; omega
  · have h1 := this (n - 1) (by omega)
    have h2 := ha (n - 1) (by omega)
    omega
set_option maxRecDepth 20000 in
set_option maxHeartbeats 1000000 in
theorem rises_any (s : Option Addr) (n c : Nat) (V : Nat → Int) (w : World) (hn : (n : Int) ≤ 1048576) (HR : Hid (RowI w s n V)) :
    Calls Try.prog 37 #[.slice s n c] w fun e w' => e = .returned (.bool (risB V n)) ∧ Below w.heap.size w w' := by
  go_enter Try.func37, Try.ntmps37
  go_wp2_with fail
  go_loopw [3] (fun i wr => ∃ k : Nat, 1 ≤ k ∧ (k ≤ n ∨ k = 1) ∧ i = .int .i64 k ∧ Hid (∀ j, j + 1 < k → V j < V (j + 1)) ∧ Below w.heap.size w wr) (fun i _ => n - (intOf i).toNat)
  case atStart => exact ⟨1, Nat.le_refl _, .inr rfl, rfl, fun j hj => by omega, Below.refl _ _⟩
  case round =>
    obtain ⟨k, k0, hk, rfl, HP, hB⟩ := hrel
    have HK : Hid (k ≤ n ∨ k = 1) := hk
    clear hk
    by_cases h1 : k < n
    · obtain ⟨m, hm⟩ : ∃ m, k = m + 1 := ⟨k - 1, by omega⟩
      obtain ⟨g, o, rfl, hg, c0⟩ := HR.out k h1
      obtain ⟨g', o', e', hg', c1⟩ := HR.out m (by omega)
      cases e'
      have d0 : wr.cell? ⟨g, o + k, none⟩ = some (.int .i64 (V k)) := (hB.cell (p := ⟨g, o + k, none⟩) hg).trans c0
      have d1 : wr.cell? ⟨g, o + m, none⟩ = some (.int .i64 (V m)) := (hB.cell (p := ⟨g, o + m, none⟩) hg).trans c1
      have k1 : (k : Int) < (n : Int) := by omega
      have km : (k : Int) - 1 = (m : Int) := by omega
      have wm : IntKind.i64.wrap (m : Int) = (m : Int) := by rw [IntKind.wrap_i64]; omega
      have mn : (m : Int) < (n : Int) := by omega
      have HM : Hid (k = m + 1) := hm
      have zW := hB.size
      clear hm c0 c1
      by_cases q : V m < V k
      · have q' : decide (V k ≤ V m) = false := decide_eq_false (by omega)
        have HN : Hid (∀ j, j + 1 < k + 1 → V j < V (j + 1)) := fun j hj => by
          by_cases e : j = m
          · subst e; rw [← HM.out]; exact q
          · exact HP.out j (by have := HM.out; omega)
        clear q
        go_wp2_with fail
        go_quiet (fail)
        go_wp2
        go_roundw
        case rel => exact ⟨k + 1, by omega, .inl (by omega), by go_num, HN.out, (by repeat (first | with_reducible exact Below.refl _ _ | with_reducible exact hB | with_reducible refine Below.setCell ?_ (by first | omega | (simp; done) | (simp; omega)) _ | with_reducible refine bDrewN ?_ _ | with_reducible refine Below.drew ?_ | with_reducible refine Below.alloc ?_ (by first | omega | (simp; done) | (simp; omega)) _))⟩
        case measure => first | (simp [intOf]; done) | (simp [intOf]; omega)
      · have q' : decide (V k ≤ V m) = true := decide_eq_true (by omega)
        have HO : Hid (risB V n = false) := decide_eq_false fun h => q (by rw [HM.out]; exact h m (by have := HM.out; omega) (by have := HM.out; omega))
        clear q
        go_wp2_with fail
        go_quiet (fail)
        go_wp2
        go_ret
        exact ⟨ret_bool HO.out.symm, (by repeat (first | with_reducible exact Below.refl _ _ | with_reducible exact hB | with_reducible refine Below.setCell ?_ (by first | omega | (simp; done) | (simp; omega)) _ | with_reducible refine bDrewN ?_ _ | with_reducible refine Below.drew ?_ | with_reducible refine Below.alloc ?_ (by first | omega | (simp; done) | (simp; omega)) _))⟩
    · have HO : Hid (risB V n = true) := decide_eq_true fun j _ hj => HP.out j (by rcases HK.out with h | h <;> omega)
      go_wp2
      go_ret
      exact ⟨ret_bool HO.out.symm, hB⟩
set_option maxRecDepth 20000 in
set_option maxHeartbeats 2000000 in
theorem l22Rises_any (s : Option Addr) (n c : Nat) (V : Nat → Int) (lo hi : Int) (w : World) (hn : (n : Int) ≤ 1048576) (HR : Hid (RowI w s n V)) :
    Calls Try.prog 33 #[.slice s n c, .int .i64 lo, .int .i64 hi] w fun e w' => e = .returned (.bool (risB V n && allInB lo hi V n)) ∧ Below w.heap.size w w' := by
  go_enter Try.func33, Try.ntmps33
  go_wp2_with fail
  go_loopw [7] (fun i wr => ∃ k : Nat, k ≤ n ∧ i = .int .i64 k ∧ Hid (∀ j, j + 1 < k → V j < V (j + 1)) ∧ Hid (∀ j, j < k → lo ≤ V j ∧ V j ≤ hi) ∧ Below w.heap.size w wr) (fun i _ => n - (intOf i).toNat)
  case atStart => exact ⟨0, Nat.zero_le _, rfl, fun j hj => by omega, fun j hj => by omega, Below.refl _ _⟩
  case round =>
    obtain ⟨k, hk, rfl, HP, HA, hB⟩ := hrel
    have zW := hB.size
    by_cases h1 : k < n
    · obtain ⟨g, o, rfl, hg, c0⟩ := HR.out k h1
      have d0 : wr.cell? ⟨g, o + k, none⟩ = some (.int .i64 (V k)) := (hB.cell (p := ⟨g, o + k, none⟩) hg).trans c0
      have k1 : (k : Int) < (n : Int) := by omega
      clear c0
      by_cases q : lo ≤ V k ∧ V k ≤ hi
      case neg =>
        have HO : Hid ((risB V n && allInB lo hi V n) = false) := by
          show _ = _
          have : allInB lo hi V n = false := decide_eq_false fun h => q (h k h1)
          rw [this]; simp
        have HW : ∀ w, Calls Try.prog 32 #[.int .i64 (V k), .int .i64 lo, .int .i64 hi] w fun e w' => e = .returned (.bool false) ∧ w' = w := fun w => l1In_no _ _ _ w (by omega)
        clear q
        go_wp2_with fail
        go_quiet (first | (go_at_call 32; refine Calls.quiet_of_same (HW _)))
        go_wp2
        go_ret
        exact ⟨ret_bool HO.out.symm, (by repeat (first | with_reducible exact Below.refl _ _ | with_reducible exact hB | with_reducible refine Below.setCell ?_ (by first | omega | (simp; done) | (simp; omega)) _ | with_reducible refine bDrewN ?_ _ | with_reducible refine Below.drew ?_ | with_reducible refine Below.alloc ?_ (by first | omega | (simp; done) | (simp; omega)) _))⟩
      have HW : ∀ w, Calls Try.prog 32 #[.int .i64 (V k), .int .i64 lo, .int .i64 hi] w fun e w' => e = .returned (.bool true) ∧ w' = w := fun w => l1In_yes _ _ _ w q.1 q.2
      have HA2 : Hid (∀ j, j < k + 1 → lo ≤ V j ∧ V j ≤ hi) := ball_succ HA.out q
      clear q
      by_cases z : k = 0
      · have kz : decide (0 < k) = false := decide_eq_false (by omega)
        have HN : Hid (∀ j, j + 1 < k + 1 → V j < V (j + 1)) := fun j hj => by omega
        clear z
        go_wp2_with fail
        go_quiet (first | (go_at_call 32; refine Calls.quiet_of_same (HW _)))
        go_wp2
        go_roundw
        case rel => exact ⟨k + 1, by omega, by go_num, HN.out, HA2.out, (by repeat (first | with_reducible exact Below.refl _ _ | with_reducible exact hB | with_reducible refine Below.setCell ?_ (by first | omega | (simp; done) | (simp; omega)) _ | with_reducible refine bDrewN ?_ _ | with_reducible refine Below.drew ?_ | with_reducible refine Below.alloc ?_ (by first | omega | (simp; done) | (simp; omega)) _))⟩
        case measure => first | (simp [intOf]; done) | (simp [intOf]; omega)
      · have kz : decide (0 < k) = true := decide_eq_true (by omega)
        obtain ⟨m, hm⟩ : ∃ m, k = m + 1 := ⟨k - 1, by omega⟩
        obtain ⟨g', o', e', hg', c1⟩ := HR.out m (by omega)
        cases e'
        have d1 : wr.cell? ⟨g, o + m, none⟩ = some (.int .i64 (V m)) := (hB.cell (p := ⟨g, o + m, none⟩) hg).trans c1
        have km : (k : Int) - 1 = (m : Int) := by omega
        have wm : IntKind.i64.wrap (m : Int) = (m : Int) := by rw [IntKind.wrap_i64]; omega
        have mn : (m : Int) < (n : Int) := by omega
        have HM : Hid (k = m + 1) := hm
        clear hm c1 z
        by_cases q : V m < V k
        · have q' : decide (V k ≤ V m) = false := decide_eq_false (by omega)
          have HN : Hid (∀ j, j + 1 < k + 1 → V j < V (j + 1)) := fun j hj => by
            by_cases e : j = m
            · subst e; rw [← HM.out]; exact q
            · exact HP.out j (by have := HM.out; omega)
          clear q
          go_wp2_with fail
          go_quiet (first | (go_at_call 32; refine Calls.quiet_of_same (HW _)))
          go_wp2
          go_roundw
          case rel => exact ⟨k + 1, by omega, by go_num, HN.out, HA2.out, (by repeat (first | with_reducible exact Below.refl _ _ | with_reducible exact hB | with_reducible refine Below.setCell ?_ (by first | omega | (simp; done) | (simp; omega)) _ | with_reducible refine bDrewN ?_ _ | with_reducible refine Below.drew ?_ | with_reducible refine Below.alloc ?_ (by first | omega | (simp; done) | (simp; omega)) _))⟩
          case measure => first | (simp [intOf]; done) | (simp [intOf]; omega)
        · have q' : decide (V k ≤ V m) = true := decide_eq_true (by omega)
          have HO : Hid ((risB V n && allInB lo hi V n) = false) := by
            show _ = _
            have : risB V n = false := decide_eq_false fun h => q (by rw [HM.out]; exact h m (by have := HM.out; omega) (by have := HM.out; omega))
            rw [this]; rfl
          clear q
          go_wp2_with fail
          go_quiet (first | (go_at_call 32; refine Calls.quiet_of_same (HW _)))
          go_wp2
          go_ret
          exact ⟨ret_bool HO.out.symm, (by repeat (first | with_reducible exact Below.refl _ _ | with_reducible exact hB | with_reducible refine Below.setCell ?_ (by first | omega | (simp; done) | (simp; omega)) _ | with_reducible refine bDrewN ?_ _ | with_reducible refine Below.drew ?_ | with_reducible refine Below.alloc ?_ (by first | omega | (simp; done) | (simp; omega)) _))⟩
    · obtain rfl : k = n := by omega
      have HO : Hid ((risB V k && allInB lo hi V k) = true) := by
        show _ = _
        have a1 : risB V k = true := decide_eq_true fun j _ hj => HP.out j hj
        have a2 : allInB lo hi V k = true := decide_eq_true HA.out
        rw [a1, a2]; rfl
      go_wp2
      go_ret
      exact ⟨ret_bool HO.out.symm, hB⟩
set_option maxHeartbeats 800000 in
theorem isPlace_any (p : Int) (s : Option Addr) (n c : Nat) (t : Option Addr) (m d : Nat) (x : Int) (w : World) (p0 : 1 ≤ p) (p1 : p ≤ 30) : Calls Try.prog 36 #[.agg #[.int .i64 p, .slice s n c, .slice t m d], .int .i64 x] w fun e w' => e = .returned (.bool (inB 0 (p - 1) x)) ∧ Below w.heap.size w w' := by
  go_enter Try.func36, Try.ntmps36
  go_wp2_with fail
  refine (within_is _ _ _ _).mono ?_
  rintro e w1 ⟨rfl, rfl⟩
  go_wp2
  go_ret
  exact ⟨rfl, (by repeat (first | with_reducible exact Below.refl _ _ | with_reducible refine Below.setCell ?_ (by first | omega | (simp; done) | (simp; omega)) _ | with_reducible refine bDrewN ?_ _ | with_reducible refine Below.drew ?_ | with_reducible refine Below.alloc ?_ (by first | omega | (simp; done) | (simp; omega)) _))⟩
set_option maxRecDepth 20000 in
set_option maxHeartbeats 4000000 in
theorem specNetOk_any (p : Int) (s : Option Addr) (n c : Nat) (D : Nat → Int × Int) (t : Option Addr) (m d : Nat) (S : Nat → Int) (w : World) (hn : (n : Int) ≤ 1048576) (hm : (m : Int) ≤ 1048576) (HD : Hid (RowDuct w s n D)) (HS : Hid (RowI w t m S)) :
    Calls Try.prog 9 #[.agg #[.int .i64 p, .slice s n c, .slice t m d]] w fun e w' => e = .returned (.bool (netB p n D m S)) ∧ Below w.heap.size w w' := by
  go_enter Try.func9, Try.ntmps9
  go_wp2_with fail
  refine (l1In_is _ _ _ _).mono ?_
  rintro e w1 ⟨rfl, rfl⟩
  cases h0 : inB 1 30 p
  · go_wp2
    go_ret
    exact ⟨ret_bool (by unfold netB; rw [h0]; rfl), (by repeat (first | with_reducible exact Below.refl _ _ | with_reducible refine Below.setCell ?_ (by first | omega | (simp; done) | (simp; omega)) _ | with_reducible refine bDrewN ?_ _ | with_reducible refine Below.drew ?_ | with_reducible refine Below.alloc ?_ (by first | omega | (simp; done) | (simp; omega)) _))⟩
  obtain ⟨p0, p1⟩ := inB_yes h0
  by_cases n1 : 40 < n
  · have b1 : (40 : Int) < (n : Int) := by omega
    have HO : Hid (netB p n D m S = false) := by show _ = _; unfold netB; rw [decide_eq_false (by omega : ¬ n ≤ 40)]; simp
    go_wp2
    go_ret
    exact ⟨ret_bool HO.out.symm, (by repeat (first | with_reducible exact Below.refl _ _ | with_reducible refine Below.setCell ?_ (by first | omega | (simp; done) | (simp; omega)) _ | with_reducible refine bDrewN ?_ _ | with_reducible refine Below.drew ?_ | with_reducible refine Below.alloc ?_ (by first | omega | (simp; done) | (simp; omega)) _))⟩
  have b1 : decide ((40 : Int) < (n : Int)) = false := decide_eq_false (by omega)
  have hn2 : (n : Int) ≤ 40 := by omega
  have HF : Hid (netB p n D m S = (decide (∀ j, j < n → ducB p (D j) = true) && (risB S m && allInB 0 (p - 1) S m))) := by show _ = _; unfold netB; rw [h0, decide_eq_true (by omega : n ≤ 40)]; simp
  have HN : Hid (∀ k, k < n → ducB p (D k) = false → netB p n D m S = false) := fun k hk e => by
    rw [HF.out, decide_eq_false (fun h => by have := h k hk; rw [e] at this; cases this)]; rfl
  clear h0 hn
  go_wp2_with fail
  go_loopw [3] (fun i wr => ∃ k : Nat, k ≤ n ∧ i = .int .i64 k ∧ Hid (∀ j, j < k → ducB p (D j) = true) ∧ wr.cell? ⟨w.heap.size, 0, none⟩ = some (.int .i64 p) ∧ wr.cell? ⟨w.heap.size, 1, none⟩ = some (.slice s n c) ∧ wr.cell? ⟨w.heap.size, 2, none⟩ = some (.slice t m d) ∧ w.heap.size < wr.heap.size ∧ Below w.heap.size w wr) (fun i _ => n - (intOf i).toNat)
  case atStart => exact ⟨0, Nat.zero_le _, rfl, fun j hj => by omega, by simp [go_sem], by simp [go_sem], by simp [go_sem], by simp, (by repeat (first | with_reducible exact Below.refl _ _ | with_reducible refine Below.setCell ?_ (by first | omega | (simp; done) | (simp; omega)) _ | with_reducible refine bDrewN ?_ _ | with_reducible refine Below.drew ?_ | with_reducible refine Below.alloc ?_ (by first | omega | (simp; done) | (simp; omega)) _))⟩
  case round =>
    obtain ⟨k, hk, rfl, HP, q0, q1, q2, zp, hB⟩ := hrel
    by_cases h1 : k < n
    · obtain ⟨g, o, rfl, hg, c0, c1⟩ := HD.out k h1
      replace c0 := (hB.cell (p := ⟨g, o + k * 2, none⟩) hg).trans c0
      replace c1 := (hB.cell (p := ⟨g, o + k * 2 + 1, none⟩) hg).trans c1
      obtain ⟨⟨a, b⟩, hV⟩ : ∃ z, D k = z := ⟨_, rfl⟩
      rw [hV] at c0 c1
      simp only at c0 c1
      have HV : Hid (D k = (a, b)) := hV
      have HJ : Hid (ducB p (a, b) = (inB 0 (p - 1) a && (inB 0 (p - 1) b && !decide (a = b)))) := rfl
      have zg : g < wr.heap.size := Nat.lt_of_lt_of_le hg hB.size
      have k1 : (k : Int) < (n : Int) := by omega
      have HB : Hid (Below w.heap.size w wr) := hB
      have zW : w.heap.size ≤ wr.heap.size := hB.size
      clear hV hg hB
      have B2 := HB.out
      go_wp2_with fail
      refine (l1In_is _ _ _ _).mono ?_
      rintro e w2 ⟨rfl, rfl⟩
      cases e0 : inB 0 (p - 1) a
      · have HO : Hid (netB p n D m S = false) := HN.out k h1 (by rw [HV.out, HJ.out, e0]; rfl)
        go_wp2
        go_ret
        exact ⟨ret_bool HO.out.symm, (by repeat (first | with_reducible exact Below.refl _ _ | with_reducible exact B2 | with_reducible refine Below.setCell ?_ (by first | omega | (simp; done) | (simp; omega)) _ | with_reducible refine bDrewN ?_ _ | with_reducible refine Below.drew ?_ | with_reducible refine Below.alloc ?_ (by first | omega | (simp; done) | (simp; omega)) _))⟩
      go_wp2_with fail
      refine (l1In_is _ _ _ _).mono ?_
      rintro e w2 ⟨rfl, rfl⟩
      cases e1 : inB 0 (p - 1) b
      · have HO : Hid (netB p n D m S = false) := HN.out k h1 (by rw [HV.out, HJ.out, e0, e1]; rfl)
        go_wp2
        go_ret
        exact ⟨ret_bool HO.out.symm, (by repeat (first | with_reducible exact Below.refl _ _ | with_reducible exact B2 | with_reducible refine Below.setCell ?_ (by first | omega | (simp; done) | (simp; omega)) _ | with_reducible refine bDrewN ?_ _ | with_reducible refine Below.drew ?_ | with_reducible refine Below.alloc ?_ (by first | omega | (simp; done) | (simp; omega)) _))⟩
      by_cases e2 : a = b
      · have e2' : (a == b) = true := by simpa using e2
        have HO : Hid (netB p n D m S = false) := HN.out k h1 (by rw [HV.out, HJ.out, e0, e1]; simp [e2])
        clear e2
        go_wp2
        go_ret
        exact ⟨ret_bool HO.out.symm, (by repeat (first | with_reducible exact Below.refl _ _ | with_reducible exact B2 | with_reducible refine Below.setCell ?_ (by first | omega | (simp; done) | (simp; omega)) _ | with_reducible refine bDrewN ?_ _ | with_reducible refine Below.drew ?_ | with_reducible refine Below.alloc ?_ (by first | omega | (simp; done) | (simp; omega)) _))⟩
      have e2' : (a == b) = false := by simpa using e2
      have HK : Hid (ducB p (D k) = true) := by show _ = _; rw [HV.out, HJ.out, e0, e1]; simp [e2]
      clear e2
      go_wp2
      go_roundw
      case rel => exact ⟨k + 1, by omega, by go_num, ball_succ HP.out HK.out, ((below0 wr _).cell (p := ⟨w.heap.size, 0, none⟩) zp).trans q0, ((below0 wr _).cell (p := ⟨w.heap.size, 1, none⟩) zp).trans q1, ((below0 wr _).cell (p := ⟨w.heap.size, 2, none⟩) zp).trans q2, by simp; omega, (by repeat (first | with_reducible exact Below.refl _ _ | with_reducible exact B2 | with_reducible refine Below.setCell ?_ (by first | omega | (simp; done) | (simp; omega)) _ | with_reducible refine bDrewN ?_ _ | with_reducible refine Below.drew ?_ | with_reducible refine Below.alloc ?_ (by first | omega | (simp; done) | (simp; omega)) _))⟩
      case measure => first | (simp [intOf]; done) | (simp [intOf]; omega)
    · obtain rfl : k = n := by omega
      have HE : Hid (netB p k D m S = (risB S m && allInB 0 (p - 1) S m)) := by show _ = _; rw [HF.out, decide_eq_true HP.out]; rfl
      have HS2 : Hid (RowI wr t m S) := HS.out.below hB
      go_wp2_with fail
      refine (l22Rises_any t m d S _ _ _ hm HS2).mono ?_
      rintro e w2 ⟨rfl, h2⟩
      have B2 : Below w.heap.size w w2 := hB.trans (h2.mono hB.size)
      go_wp2
      go_ret
      exact ⟨ret_bool HE.out.symm, (by repeat (first | with_reducible exact Below.refl _ _ | with_reducible exact B2 | with_reducible refine Below.setCell ?_ (by first | omega | (simp; done) | (simp; omega)) _ | with_reducible refine bDrewN ?_ _ | with_reducible refine Below.drew ?_ | with_reducible refine Below.alloc ?_ (by first | omega | (simp; done) | (simp; omega)) _))⟩
set_option maxRecDepth 20000 in
set_option maxHeartbeats 4000000 in
theorem implNetOk_any (p : Int) (s : Option Addr) (n c : Nat) (D : Nat → Int × Int) (t : Option Addr) (m d : Nat) (S : Nat → Int) (w : World) (hn : (n : Int) ≤ 1048576) (hm : (m : Int) ≤ 1048576) (HD : Hid (RowDuct w s n D)) (HS : Hid (RowI w t m S)) :
    Calls Try.prog 11 #[.agg #[.int .i64 p, .slice s n c, .slice t m d]] w fun e w' => e = .returned (.bool (netB p n D m S)) ∧ Below w.heap.size w w' := by
  go_enter Try.func11, Try.ntmps11
  go_wp2_with fail
  refine (within_is _ _ _ _).mono ?_
  rintro e w1 ⟨rfl, rfl⟩
  cases h0 : inB 1 30 p
  · go_wp2
    go_ret
    exact ⟨ret_bool (by unfold netB; rw [h0]; rfl), (by repeat (first | with_reducible exact Below.refl _ _ | with_reducible refine Below.setCell ?_ (by first | omega | (simp; done) | (simp; omega)) _ | with_reducible refine bDrewN ?_ _ | with_reducible refine Below.drew ?_ | with_reducible refine Below.alloc ?_ (by first | omega | (simp; done) | (simp; omega)) _))⟩
  obtain ⟨p0, p1⟩ := inB_yes h0
  by_cases n1 : 40 < n
  · have b1 : (40 : Int) < (n : Int) := by omega
    have HO : Hid (netB p n D m S = false) := by show _ = _; unfold netB; rw [decide_eq_false (by omega : ¬ n ≤ 40)]; simp
    go_wp2
    go_ret
    exact ⟨ret_bool HO.out.symm, (by repeat (first | with_reducible exact Below.refl _ _ | with_reducible refine Below.setCell ?_ (by first | omega | (simp; done) | (simp; omega)) _ | with_reducible refine bDrewN ?_ _ | with_reducible refine Below.drew ?_ | with_reducible refine Below.alloc ?_ (by first | omega | (simp; done) | (simp; omega)) _))⟩
  have b1 : decide ((40 : Int) < (n : Int)) = false := decide_eq_false (by omega)
  have hn2 : (n : Int) ≤ 40 := by omega
  have HF : Hid (netB p n D m S = (decide (∀ j, j < n → ducB p (D j) = true) && (risB S m && allInB 0 (p - 1) S m))) := by show _ = _; unfold netB; rw [h0, decide_eq_true (by omega : n ≤ 40)]; simp
  have HN : Hid (∀ k, k < n → ducB p (D k) = false → netB p n D m S = false) := fun k hk e => by
    rw [HF.out, decide_eq_false (fun h => by have := h k hk; rw [e] at this; cases this)]; rfl
  clear h0 hn
  go_wp2_with fail
  go_loopw [18] (fun i wr => ∃ k : Nat, k ≤ n ∧ i = .int .i64 k ∧ Hid (∀ j, j < k → ducB p (D j) = true) ∧ wr.cell? ⟨w.heap.size, 0, none⟩ = some (.int .i64 p) ∧ wr.cell? ⟨w.heap.size, 1, none⟩ = some (.slice s n c) ∧ wr.cell? ⟨w.heap.size, 2, none⟩ = some (.slice t m d) ∧ w.heap.size < wr.heap.size ∧ Below w.heap.size w wr) (fun i _ => n - (intOf i).toNat)
  case atStart => exact ⟨0, Nat.zero_le _, rfl, fun j hj => by omega, by simp [go_sem], by simp [go_sem], by simp [go_sem], by simp, (by repeat (first | with_reducible exact Below.refl _ _ | with_reducible refine Below.setCell ?_ (by first | omega | (simp; done) | (simp; omega)) _ | with_reducible refine bDrewN ?_ _ | with_reducible refine Below.drew ?_ | with_reducible refine Below.alloc ?_ (by first | omega | (simp; done) | (simp; omega)) _))⟩
  case round =>
    obtain ⟨k, hk, rfl, HP, q0, q1, q2, zp, hB⟩ := hrel
    by_cases h1 : k < n
    · obtain ⟨g, o, rfl, hg, c0, c1⟩ := HD.out k h1
      replace c0 := (hB.cell (p := ⟨g, o + k * 2, none⟩) hg).trans c0
      replace c1 := (hB.cell (p := ⟨g, o + k * 2 + 1, none⟩) hg).trans c1
      obtain ⟨⟨a, b⟩, hV⟩ : ∃ z, D k = z := ⟨_, rfl⟩
      rw [hV] at c0 c1
      simp only at c0 c1
      have HV : Hid (D k = (a, b)) := hV
      have HJ : Hid (ducB p (a, b) = (inB 0 (p - 1) a && (inB 0 (p - 1) b && !decide (a = b)))) := rfl
      have zg : g < wr.heap.size := Nat.lt_of_lt_of_le hg hB.size
      have k1 : (k : Int) < (n : Int) := by omega
      have HB : Hid (Below w.heap.size w wr) := hB
      have zW : w.heap.size ≤ wr.heap.size := hB.size
      clear hV hg hB
      go_upto_region 6 with fail
      obtain ⟨wa, hwa⟩ : ∃ wa, wa = wr.alloc (.cells #[.int .i64 a, .int .i64 b] 58) := ⟨_, rfl⟩
      rw [← hwa]
      have hb : Below wr.heap.size wr wa := by rw [hwa]; exact below0 _ _
      have a0 : wa.cell? ⟨wr.heap.size, 0, none⟩ = some (.int .i64 a) := by rw [hwa]; simp [go_sem]
      have a1 : wa.cell? ⟨wr.heap.size, 1, none⟩ = some (.int .i64 b) := by rw [hwa]; simp [go_sem]
      have za : wr.heap.size < wa.heap.size := by rw [hwa]; simp
      replace q0 := (hb.cell (p := ⟨w.heap.size, 0, none⟩) (show w.heap.size < wr.heap.size by omega)).trans q0
      replace q1 := (hb.cell (p := ⟨w.heap.size, 1, none⟩) (show w.heap.size < wr.heap.size by omega)).trans q1
      replace q2 := (hb.cell (p := ⟨w.heap.size, 2, none⟩) (show w.heap.size < wr.heap.size by omega)).trans q2
      have B2 : Below w.heap.size w wa := HB.out.trans (hb.mono zW)
      clear hwa hb c0 c1 zg
      go_wp2_with fail
      refine (isPlace_any p _ n c t m d a _ p0 p1).mono ?_
      rintro e w2 ⟨rfl, hb⟩
      replace a0 := (hb.cell (p := ⟨wr.heap.size, 0, none⟩) za).trans a0
      replace a1 := (hb.cell (p := ⟨wr.heap.size, 1, none⟩) za).trans a1
      replace q0 := (hb.cell (p := ⟨w.heap.size, 0, none⟩) (show w.heap.size < wa.heap.size by omega)).trans q0
      replace q1 := (hb.cell (p := ⟨w.heap.size, 1, none⟩) (show w.heap.size < wa.heap.size by omega)).trans q1
      replace q2 := (hb.cell (p := ⟨w.heap.size, 2, none⟩) (show w.heap.size < wa.heap.size by omega)).trans q2
      replace za := Nat.lt_of_lt_of_le za hb.size
      replace B2 : Below w.heap.size w w2 := B2.trans (hb.mono B2.size)
      clear hb
      cases e0 : inB 0 (p - 1) a
      · have HO : Hid (netB p n D m S = false) := HN.out k h1 (by rw [HV.out, HJ.out, e0]; rfl)
        go_wp2
        go_ret
        exact ⟨ret_bool HO.out.symm, (by repeat (first | with_reducible exact Below.refl _ _ | with_reducible exact B2 | with_reducible refine Below.setCell ?_ (by first | omega | (simp; done) | (simp; omega)) _ | with_reducible refine bDrewN ?_ _ | with_reducible refine Below.drew ?_ | with_reducible refine Below.alloc ?_ (by first | omega | (simp; done) | (simp; omega)) _))⟩
      go_wp2_with fail
      refine (isPlace_any p _ n c t m d b _ p0 p1).mono ?_
      rintro e w3 ⟨rfl, hb⟩
      replace a0 := (hb.cell (p := ⟨wr.heap.size, 0, none⟩) za).trans a0
      replace a1 := (hb.cell (p := ⟨wr.heap.size, 1, none⟩) za).trans a1
      replace q0 := (hb.cell (p := ⟨w.heap.size, 0, none⟩) (show w.heap.size < w2.heap.size by omega)).trans q0
      replace q1 := (hb.cell (p := ⟨w.heap.size, 1, none⟩) (show w.heap.size < w2.heap.size by omega)).trans q1
      replace q2 := (hb.cell (p := ⟨w.heap.size, 2, none⟩) (show w.heap.size < w2.heap.size by omega)).trans q2
      replace za := Nat.lt_of_lt_of_le za hb.size
      replace B2 : Below w.heap.size w w3 := B2.trans (hb.mono B2.size)
      clear hb
      cases e1 : inB 0 (p - 1) b
      · have HO : Hid (netB p n D m S = false) := HN.out k h1 (by rw [HV.out, HJ.out, e0, e1]; rfl)
        go_wp2
        go_ret
        exact ⟨ret_bool HO.out.symm, (by repeat (first | with_reducible exact Below.refl _ _ | with_reducible exact B2 | with_reducible refine Below.setCell ?_ (by first | omega | (simp; done) | (simp; omega)) _ | with_reducible refine bDrewN ?_ _ | with_reducible refine Below.drew ?_ | with_reducible refine Below.alloc ?_ (by first | omega | (simp; done) | (simp; omega)) _))⟩
      by_cases e2 : a = b
      · have e2' : (a == b) = true := by simpa using e2
        have HO : Hid (netB p n D m S = false) := HN.out k h1 (by rw [HV.out, HJ.out, e0, e1]; simp [e2])
        clear e2
        go_wp2
        go_ret
        exact ⟨ret_bool HO.out.symm, (by repeat (first | with_reducible exact Below.refl _ _ | with_reducible exact B2 | with_reducible refine Below.setCell ?_ (by first | omega | (simp; done) | (simp; omega)) _ | with_reducible refine bDrewN ?_ _ | with_reducible refine Below.drew ?_ | with_reducible refine Below.alloc ?_ (by first | omega | (simp; done) | (simp; omega)) _))⟩
      have e2' : (a == b) = false := by simpa using e2
      have HK : Hid (ducB p (D k) = true) := by show _ = _; rw [HV.out, HJ.out, e0, e1]; simp [e2]
      clear e2
      go_wp2
      go_roundw
      case rel => exact ⟨k + 1, by omega, by go_num, ball_succ HP.out HK.out, q0, q1, q2, by omega, (by repeat (first | with_reducible exact Below.refl _ _ | with_reducible exact B2 | with_reducible refine Below.setCell ?_ (by first | omega | (simp; done) | (simp; omega)) _ | with_reducible refine bDrewN ?_ _ | with_reducible refine Below.drew ?_ | with_reducible refine Below.alloc ?_ (by first | omega | (simp; done) | (simp; omega)) _))⟩
      case measure => first | (simp [intOf]; done) | (simp [intOf]; omega)
    · obtain rfl : k = n := by omega
      have HE : Hid (netB p k D m S = (risB S m && allInB 0 (p - 1) S m)) := by show _ = _; rw [HF.out, decide_eq_true HP.out]; rfl
      have HS2 : Hid (RowI wr t m S) := HS.out.below hB
      go_wp2_with fail
      refine (rises_any t m d S _ hm HS2).mono ?_
      rintro e w2 ⟨rfl, h2⟩
      have B2 : Below w.heap.size w w2 := hB.trans (h2.mono hB.size)
      replace q0 := (h2.cell (p := ⟨w.heap.size, 0, none⟩) zp).trans q0
      replace q2 := (h2.cell (p := ⟨w.heap.size, 2, none⟩) zp).trans q2
      cases e0 : risB S m
      · have HO : Hid (netB p k D m S = false) := by show _ = _; rw [HE.out, e0]; rfl
        go_wp2
        go_ret
        exact ⟨ret_bool HO.out.symm, (by repeat (first | with_reducible exact Below.refl _ _ | with_reducible exact B2 | with_reducible refine Below.setCell ?_ (by first | omega | (simp; done) | (simp; omega)) _ | with_reducible refine bDrewN ?_ _ | with_reducible refine Below.drew ?_ | with_reducible refine Below.alloc ?_ (by first | omega | (simp; done) | (simp; omega)) _))⟩
      have HO : Hid (netB p k D m S = allInB 0 (p - 1) S m) := by show _ = _; rw [HE.out, e0]; rfl
      have HS3 : Hid (RowI w2 t m S) := HS.out.below B2
      clear h2
      go_wp2_with fail
      refine (allWithin_any t m d S _ _ _ hm HS3).mono ?_
      rintro e w3 ⟨rfl, rfl⟩
      go_wp2
      go_ret
      exact ⟨ret_bool HO.out.symm, (by repeat (first | with_reducible exact Below.refl _ _ | with_reducible exact B2 | with_reducible refine Below.setCell ?_ (by first | omega | (simp; done) | (simp; omega)) _ | with_reducible refine bDrewN ?_ _ | with_reducible refine Below.drew ?_ | with_reducible refine Below.alloc ?_ (by first | omega | (simp; done) | (simp; omega)) _))⟩
end Go.Proofs.Ytjbmmjealkjghaa
