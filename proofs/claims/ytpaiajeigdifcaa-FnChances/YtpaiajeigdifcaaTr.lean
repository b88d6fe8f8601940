/-
What is proved: when a tree is right, in numbers, and as both packages say it.
-/
import Derived.Test.YtpaiajeigdifcaaRis
import Derived.Test.YtpaiajeigdifcaaTrT
import Derived.Deep.RegionHeld3
import Derived.Deep.DeepCutAuto
import Derived.BigQuiet
namespace Go.Proofs.Ytpaiajeigdifcaa
set_option maxRecDepth 40000
open Go.ChangeShapes Go.WideShapes Go.ChangeAt Go.RowKit
set_option linter.unusedVariables false
set_option linter.unusedSimpArgs false

def gatB (hi need : Int) (k : Nat) (v : Nat → Int) : Bool := inB 1 12 (k : Int) && (inB 1 (k : Int) need && (risB v k && allInB 0 hi v k))
def treeB (x : Int) (n : Nat) (X : Nat → Int) (K : Nat → Nat) (V : Nat → Nat → Int) : Bool := inB 1 10 x && (inB 1 20 (n : Int) && decide (∀ j, j < n → gatB (x + j - 1) (X j) (K j) (V j) = true))
theorem gat_yes {hi need : Int} {k : Nat} {v : Nat → Int} (h : gatB hi need k v = true) : (1 ≤ k ∧ k ≤ 12) ∧ (1 ≤ need ∧ need ≤ k) ∧ risB v k = true ∧ ∀ j, j < k → 0 ≤ v j ∧ v j ≤ hi := by
  unfold gatB at h
  simp only [Bool.and_eq_true] at h
  have h0 := inB_yes h.1
  exact ⟨by omega, inB_yes h.2.1, h.2.2.1, allIn_yes h.2.2.2.symm⟩
theorem tree_yes {x : Int} {n : Nat} {X : Nat → Int} {K : Nat → Nat} {V : Nat → Nat → Int} (h : treeB x n X K V = true) : (1 ≤ x ∧ x ≤ 10) ∧ (1 ≤ n ∧ n ≤ 20) ∧ ∀ j, j < n → gatB (x + j - 1) (X j) (K j) (V j) = true := by
  unfold treeB at h
  simp only [Bool.and_eq_true, decide_eq_true_iff] at h
  have h1 := inB_yes h.2.1
  exact ⟨inB_yes h.1, by omega, h.2.2⟩
set_option maxRecDepth 20000 in
set_option maxHeartbeats 2000000 in
theorem rightBehind_any (need : Int) (t : Option Addr) (k d : Nat) (v : Nat → Int) (h : Int) (w : World) (h0 : 0 ≤ h) (h1 : h ≤ 1000) (HR : Hid (RowI w t k v)) :
    Calls Try.prog 75 #[.agg #[.int .i64 need, .slice t k d], .int .i64 h] w fun e w' => e = .returned (.bool (gatB (h - 1) need k v)) ∧ Below w.heap.size w w' := by
  go_enter Try.func75, Try.ntmps75
  go_wp2_with fail
  refine (within_is _ _ _ _).mono ?_
  rintro e w1 ⟨rfl, rfl⟩
  cases e0 : inB 1 12 (k : Int)
  · go_wp2
    go_ret
    exact ⟨ret_bool (by unfold gatB; rw [e0]; rfl), (by repeat (first | with_reducible exact Below.refl _ _ | with_reducible refine Below.setCell ?_ (by first | omega | (simp; done) | (simp; omega)) _ | with_reducible refine bDrewN ?_ _ | with_reducible refine Below.drew ?_ | with_reducible refine Below.alloc ?_ (by first | omega | (simp; done) | (simp; omega)) _))⟩
  obtain ⟨k0, k1⟩ := inB_yes e0
  go_wp2_with fail
  obtain ⟨wa, hwa⟩ : ∃ x, x = w.alloc (.cells #[.int .i64 need, .slice t k d] 87) := ⟨_, rfl⟩
  rw [← hwa]
  have B0 : Below w.heap.size w wa := by rw [hwa]; exact (by repeat (first | with_reducible exact Below.refl _ _ | with_reducible refine Below.setCell ?_ (by first | omega | (simp; done) | (simp; omega)) _ | with_reducible refine bDrewN ?_ _ | with_reducible refine Below.drew ?_ | with_reducible refine Below.alloc ?_ (by first | omega | (simp; done) | (simp; omega)) _))
  have a0 : wa.cell? ⟨w.heap.size, 0, none⟩ = some (.int .i64 need) := by rw [hwa]; simp [go_sem]
  have a1 : wa.cell? ⟨w.heap.size, 1, none⟩ = some (.slice t k d) := by rw [hwa]; simp [go_sem]
  have za : w.heap.size < wa.heap.size := by rw [hwa]; simp
  clear hwa
  refine (rises_any t k d v _ (by omega) (HR.out.below B0)).mono ?_
  rintro e w2 ⟨rfl, h2⟩
  replace a0 := (h2.cell (p := ⟨w.heap.size, 0, none⟩) za).trans a0
  replace a1 := (h2.cell (p := ⟨w.heap.size, 1, none⟩) za).trans a1
  replace B0 : Below w.heap.size w w2 := B0.trans (h2.mono B0.size)
  replace za := Nat.lt_of_lt_of_le za h2.size
  clear h2
  cases e1 : risB v k
  · go_wp2
    go_ret
    exact ⟨ret_bool (by unfold gatB; rw [e1]; simp), B0⟩
  go_wp2_with fail
  refine (allWithin_any t k d v _ _ _ (by omega) (HR.out.below B0)).mono ?_
  rintro e w3 ⟨rfl, rfl⟩
  cases e2 : allInB 0 (h - 1) v k
  · go_wp2
    go_ret
    exact ⟨ret_bool (by unfold gatB; rw [e2]; simp), B0⟩
  go_wp2_with fail
  refine (within_is _ _ _ _).mono ?_
  rintro e w3 ⟨rfl, rfl⟩
  go_wp2
  go_ret
  exact ⟨ret_bool (by unfold gatB; rw [e0, e1, e2]; simp), B0⟩
set_option maxRecDepth 20000 in
set_option maxHeartbeats 4000000 in
theorem specTreeOk_any (x : Int) (s : Option Addr) (n c : Nat) (X : Nat → Int) (K : Nat → Nat) (V : Nat → Nat → Int) (w : World) (HR : Hid (RowGat w s n X K V)) :
    Calls Try.prog 49 #[.agg #[.int .i64 x, .slice s n c]] w fun e w' => e = .returned (.bool (treeB x n X K V)) ∧ Below w.heap.size w w' := by
  go_enter Try.func49, Try.ntmps49
  go_wp2_with fail
  refine (l1In_is _ _ _ _).mono ?_
  rintro e w1 ⟨rfl, rfl⟩
  cases h0 : inB 1 10 x
  · go_wp2
    go_ret
    exact ⟨ret_bool (by unfold treeB; rw [h0]; rfl), (by repeat (first | with_reducible exact Below.refl _ _ | with_reducible refine Below.setCell ?_ (by first | omega | (simp; done) | (simp; omega)) _ | with_reducible refine bDrewN ?_ _ | with_reducible refine Below.drew ?_ | with_reducible refine Below.alloc ?_ (by first | omega | (simp; done) | (simp; omega)) _))⟩
  obtain ⟨p0, p1⟩ := inB_yes h0
  by_cases n0 : n < 1
  · have b1 : (n : Int) < 1 := by omega
    have HO : Hid (treeB x n X K V = false) := by show _ = _; unfold treeB; have : inB 1 20 (n : Int) = false := by { unfold inB; simp; omega }; rw [this]; simp
    go_wp2
    go_ret
    exact ⟨ret_bool HO.out.symm, (by repeat (first | with_reducible exact Below.refl _ _ | with_reducible refine Below.setCell ?_ (by first | omega | (simp; done) | (simp; omega)) _ | with_reducible refine bDrewN ?_ _ | with_reducible refine Below.drew ?_ | with_reducible refine Below.alloc ?_ (by first | omega | (simp; done) | (simp; omega)) _))⟩
  have b0 : decide ((n : Int) < 1) = false := decide_eq_false (by omega)
  by_cases n1 : 20 < n
  · have b1 : (20 : Int) < (n : Int) := by omega
    have HO : Hid (treeB x n X K V = false) := by show _ = _; unfold treeB; have : inB 1 20 (n : Int) = false := by { unfold inB; simp; omega }; rw [this]; simp
    go_wp2
    go_ret
    exact ⟨ret_bool HO.out.symm, (by repeat (first | with_reducible exact Below.refl _ _ | with_reducible refine Below.setCell ?_ (by first | omega | (simp; done) | (simp; omega)) _ | with_reducible refine bDrewN ?_ _ | with_reducible refine Below.drew ?_ | with_reducible refine Below.alloc ?_ (by first | omega | (simp; done) | (simp; omega)) _))⟩
  have b1 : decide ((20 : Int) < (n : Int)) = false := decide_eq_false (by omega)
  have hn1 : inB 1 20 (n : Int) = true := by unfold inB; simp; omega
  have hn2 : (n : Int) ≤ 20 := by omega
  have HF : Hid (treeB x n X K V = decide (∀ j, j < n → gatB (x + j - 1) (X j) (K j) (V j) = true)) := by show _ = _; unfold treeB; rw [h0, hn1]; simp
  have HN : Hid (∀ k, k < n → gatB (x + k - 1) (X k) (K k) (V k) = false → treeB x n X K V = false) := fun k hk e => by
    rw [HF.out, decide_eq_false (fun h => by have := h k hk; rw [e] at this; cases this)]
  clear h0 hn1
  go_wp2_with fail
  go_loopw [3] (fun i wr => ∃ k : Nat, k ≤ n ∧ i = .int .i64 k ∧ Hid (∀ j, j < k → gatB (x + j - 1) (X j) (K j) (V j) = true) ∧ wr.cell? ⟨w.heap.size, 0, none⟩ = some (.int .i64 x) ∧ wr.cell? ⟨w.heap.size, 1, none⟩ = some (.slice s n c) ∧ w.heap.size < wr.heap.size ∧ Below w.heap.size w wr) (fun i _ => n - (intOf i).toNat)
  case atStart => exact ⟨0, Nat.zero_le _, rfl, fun j hj => by omega, by simp [go_sem], by simp [go_sem], by simp, (by repeat (first | with_reducible exact Below.refl _ _ | with_reducible refine Below.setCell ?_ (by first | omega | (simp; done) | (simp; omega)) _ | with_reducible refine bDrewN ?_ _ | with_reducible refine Below.drew ?_ | with_reducible refine Below.alloc ?_ (by first | omega | (simp; done) | (simp; omega)) _))⟩
  case round =>
    obtain ⟨k, hk, rfl, HP, q0, q1, zp, hB⟩ := hrel
    by_cases h1 : k < n
    · obtain ⟨g, o, a, d, rfl, hg, c0, c1, hr⟩ := HR.out k h1
      replace c0 := (hB.cell (p := ⟨g, o + k * 2, none⟩) hg).trans c0
      replace c1 := (hB.cell (p := ⟨g, o + k * 2 + 1, none⟩) hg).trans c1
      obtain ⟨y, hy⟩ : ∃ y, X k = y := ⟨_, rfl⟩
      obtain ⟨m, hm⟩ : ∃ m, K k = m := ⟨_, rfl⟩
      rw [hy] at c0
      rw [hm] at c1 hr
      have HV : Hid (gatB (x + k - 1) (X k) (K k) (V k) = gatB (x + k - 1) y m (V k)) := by show _ = _; rw [hy, hm]
      have HI : Hid (RowI w a m (V k)) := hr
      have zg : g < wr.heap.size := Nat.lt_of_lt_of_le hg hB.size
      have k1 : (k : Int) < (n : Int) := by omega
      have HB : Hid (Below w.heap.size w wr) := hB
      have zW : w.heap.size ≤ wr.heap.size := hB.size
      clear hy hm hr hg hB
      go_upto_region 7 with fail
      obtain ⟨wa, hwa⟩ : ∃ wa, wa = wr.alloc (.cells #[.int .i64 y, .slice a m d] 87) := ⟨_, rfl⟩
      rw [← hwa]
      have hb : Below wr.heap.size wr wa := by rw [hwa]; exact below0 _ _
      have a0 : wa.cell? ⟨wr.heap.size, 0, none⟩ = some (.int .i64 y) := by rw [hwa]; simp [go_sem]
      have a1 : wa.cell? ⟨wr.heap.size, 1, none⟩ = some (.slice a m d) := by rw [hwa]; simp [go_sem]
      have za : wr.heap.size < wa.heap.size := by rw [hwa]; simp
      replace q0 := (hb.cell (p := ⟨w.heap.size, 0, none⟩) zp).trans q0
      replace q1 := (hb.cell (p := ⟨w.heap.size, 1, none⟩) zp).trans q1
      have B2 : Below w.heap.size w wa := HB.out.trans (hb.mono zW)
      clear hwa hb c0 c1 zg
      by_cases m0 : m < 1
      · have b2 : (m : Int) < 1 := by omega
        have HO : Hid (treeB x n X K V = false) := HN.out k h1 (by rw [HV.out]; unfold gatB; have : inB 1 12 (m : Int) = false := by { unfold inB; simp; omega }; rw [this]; rfl)
        go_wp2
        go_ret
        exact ⟨ret_bool HO.out.symm, (by repeat (first | with_reducible exact Below.refl _ _ | with_reducible exact B2 | with_reducible refine Below.setCell ?_ (by first | omega | (simp; done) | (simp; omega)) _ | with_reducible refine bDrewN ?_ _ | with_reducible refine Below.drew ?_ | with_reducible refine Below.alloc ?_ (by first | omega | (simp; done) | (simp; omega)) _))⟩
      have b2 : decide ((m : Int) < 1) = false := decide_eq_false (by omega)
      by_cases m1 : 12 < m
      · have b3 : (12 : Int) < (m : Int) := by omega
        have HO : Hid (treeB x n X K V = false) := HN.out k h1 (by rw [HV.out]; unfold gatB; have : inB 1 12 (m : Int) = false := by { unfold inB; simp; omega }; rw [this]; rfl)
        go_wp2
        go_ret
        exact ⟨ret_bool HO.out.symm, (by repeat (first | with_reducible exact Below.refl _ _ | with_reducible exact B2 | with_reducible refine Below.setCell ?_ (by first | omega | (simp; done) | (simp; omega)) _ | with_reducible refine bDrewN ?_ _ | with_reducible refine Below.drew ?_ | with_reducible refine Below.alloc ?_ (by first | omega | (simp; done) | (simp; omega)) _))⟩
      have b3 : decide ((12 : Int) < (m : Int)) = false := decide_eq_false (by omega)
      have m12 : inB 1 12 (m : Int) = true := by unfold inB; simp; omega
      go_wp2_with fail
      refine (l1In_is _ _ _ _).mono ?_
      rintro e wa ⟨rfl, rfl⟩
      cases e0 : inB 1 (m : Int) y
      · have HO : Hid (treeB x n X K V = false) := HN.out k h1 (by rw [HV.out]; unfold gatB; rw [m12, e0]; rfl)
        go_wp2
        go_ret
        exact ⟨ret_bool HO.out.symm, (by repeat (first | with_reducible exact Below.refl _ _ | with_reducible exact B2 | with_reducible refine Below.setCell ?_ (by first | omega | (simp; done) | (simp; omega)) _ | with_reducible refine bDrewN ?_ _ | with_reducible refine Below.drew ?_ | with_reducible refine Below.alloc ?_ (by first | omega | (simp; done) | (simp; omega)) _))⟩
      have HI2 : Hid (RowI wa a m (V k)) := HI.out.below B2
      go_wp2_with fail
      refine (l22Rises_any a m d (V k) _ _ _ (by omega) HI2).mono ?_
      rintro e w2 ⟨rfl, h2⟩
      replace q0 := (h2.cell (p := ⟨w.heap.size, 0, none⟩) (show w.heap.size < wa.heap.size by omega)).trans q0
      replace q1 := (h2.cell (p := ⟨w.heap.size, 1, none⟩) (show w.heap.size < wa.heap.size by omega)).trans q1
      have zW2 : wa.heap.size ≤ w2.heap.size := h2.size
      replace B2 : Below w.heap.size w w2 := B2.trans (h2.mono B2.size)
      clear h2 a0 a1
      have HQ : Hid (gatB (x + k - 1) (X k) (K k) (V k) = (risB (V k) m && allInB 0 (x + k - 1) (V k) m)) := by show _ = _; rw [HV.out]; unfold gatB; rw [m12, e0]; rfl
      cases e1 : (risB (V k) m && allInB 0 (x + k - 1) (V k) m)
      · have HO : Hid (treeB x n X K V = false) := HN.out k h1 (by rw [HQ.out, e1])
        go_wp2
        go_ret
        exact ⟨ret_bool HO.out.symm, (by repeat (first | with_reducible exact Below.refl _ _ | with_reducible exact B2 | with_reducible refine Below.setCell ?_ (by first | omega | (simp; done) | (simp; omega)) _ | with_reducible refine bDrewN ?_ _ | with_reducible refine Below.drew ?_ | with_reducible refine Below.alloc ?_ (by first | omega | (simp; done) | (simp; omega)) _))⟩
      have HK : Hid (gatB (x + k - 1) (X k) (K k) (V k) = true) := by show _ = _; rw [HQ.out, e1]
      go_wp2
      go_roundw
      case rel => exact ⟨k + 1, by omega, by go_num, ball_succ HP.out HK.out, q0, q1, by omega, (by repeat (first | with_reducible exact Below.refl _ _ | with_reducible exact B2 | with_reducible refine Below.setCell ?_ (by first | omega | (simp; done) | (simp; omega)) _ | with_reducible refine bDrewN ?_ _ | with_reducible refine Below.drew ?_ | with_reducible refine Below.alloc ?_ (by first | omega | (simp; done) | (simp; omega)) _))⟩
      case measure => first | (simp [intOf]; done) | (simp [intOf]; omega)
    · obtain rfl : k = n := by omega
      have HO : Hid (treeB x k X K V = true) := by show _ = _; rw [HF.out, decide_eq_true HP.out]
      go_wp2
      go_ret
      exact ⟨ret_bool HO.out.symm, (by repeat (first | with_reducible exact Below.refl _ _ | with_reducible exact hB | with_reducible refine Below.setCell ?_ (by first | omega | (simp; done) | (simp; omega)) _ | with_reducible refine bDrewN ?_ _ | with_reducible refine Below.drew ?_ | with_reducible refine Below.alloc ?_ (by first | omega | (simp; done) | (simp; omega)) _))⟩
set_option maxRecDepth 20000 in
set_option maxHeartbeats 4000000 in
theorem implTreeOk_any (x : Int) (s : Option Addr) (n c : Nat) (X : Nat → Int) (K : Nat → Nat) (V : Nat → Nat → Int) (w : World) (HR : Hid (RowGat w s n X K V)) :
    Calls Try.prog 46 #[.agg #[.int .i64 x, .slice s n c]] w fun e w' => e = .returned (.bool (treeB x n X K V)) ∧ Below w.heap.size w w' := by
  go_enter Try.func46, Try.ntmps46
  go_wp2_with fail
  refine (within_is _ _ _ _).mono ?_
  rintro e w1 ⟨rfl, rfl⟩
  cases h0 : inB 1 10 x
  · go_wp2
    go_ret
    exact ⟨ret_bool (by unfold treeB; rw [h0]; rfl), (by repeat (first | with_reducible exact Below.refl _ _ | with_reducible refine Below.setCell ?_ (by first | omega | (simp; done) | (simp; omega)) _ | with_reducible refine bDrewN ?_ _ | with_reducible refine Below.drew ?_ | with_reducible refine Below.alloc ?_ (by first | omega | (simp; done) | (simp; omega)) _))⟩
  obtain ⟨p0, p1⟩ := inB_yes h0
  go_wp2_with fail
  refine (within_is _ _ _ _).mono ?_
  rintro e w2 ⟨rfl, rfl⟩
  cases hn1 : inB 1 20 (n : Int)
  · go_wp2
    go_ret
    exact ⟨ret_bool (by unfold treeB; rw [hn1]; simp), (by repeat (first | with_reducible exact Below.refl _ _ | with_reducible refine Below.setCell ?_ (by first | omega | (simp; done) | (simp; omega)) _ | with_reducible refine bDrewN ?_ _ | with_reducible refine Below.drew ?_ | with_reducible refine Below.alloc ?_ (by first | omega | (simp; done) | (simp; omega)) _))⟩
  obtain ⟨n0', n1'⟩ := inB_yes hn1
  have hn2 : (n : Int) ≤ 20 := by omega
  have HF : Hid (treeB x n X K V = decide (∀ j, j < n → gatB (x + j - 1) (X j) (K j) (V j) = true)) := by show _ = _; unfold treeB; rw [h0, hn1]; simp
  have HN : Hid (∀ k, k < n → gatB (x + k - 1) (X k) (K k) (V k) = false → treeB x n X K V = false) := fun k hk e => by
    rw [HF.out, decide_eq_false (fun h => by have := h k hk; rw [e] at this; cases this)]
  clear h0 hn1
  go_wp2_with fail
  go_loopw [19] (fun i wr => ∃ k : Nat, k ≤ n ∧ i = .int .i64 k ∧ Hid (∀ j, j < k → gatB (x + j - 1) (X j) (K j) (V j) = true) ∧ wr.cell? ⟨w.heap.size, 0, none⟩ = some (.int .i64 x) ∧ wr.cell? ⟨w.heap.size, 1, none⟩ = some (.slice s n c) ∧ w.heap.size < wr.heap.size ∧ Below w.heap.size w wr) (fun i _ => n - (intOf i).toNat)
  case atStart => exact ⟨0, Nat.zero_le _, rfl, fun j hj => by omega, by simp [go_sem], by simp [go_sem], by simp, (by repeat (first | with_reducible exact Below.refl _ _ | with_reducible refine Below.setCell ?_ (by first | omega | (simp; done) | (simp; omega)) _ | with_reducible refine bDrewN ?_ _ | with_reducible refine Below.drew ?_ | with_reducible refine Below.alloc ?_ (by first | omega | (simp; done) | (simp; omega)) _))⟩
  case round =>
    obtain ⟨k, hk, rfl, HP, q0, q1, zp, hB⟩ := hrel
    by_cases h1 : k < n
    · obtain ⟨g, o, a, d, rfl, hg, c0, c1, hr⟩ := HR.out k h1
      replace c0 := (hB.cell (p := ⟨g, o + k * 2, none⟩) hg).trans c0
      replace c1 := (hB.cell (p := ⟨g, o + k * 2 + 1, none⟩) hg).trans c1
      obtain ⟨y, hy⟩ : ∃ y, X k = y := ⟨_, rfl⟩
      obtain ⟨m, hm⟩ : ∃ m, K k = m := ⟨_, rfl⟩
      rw [hy] at c0
      rw [hm] at c1 hr
      have HV : Hid (gatB (x + k - 1) (X k) (K k) (V k) = gatB (x + k - 1) y m (V k)) := by show _ = _; rw [hy, hm]
      have HI : Hid (RowI w a m (V k)) := hr
      have zg : g < wr.heap.size := Nat.lt_of_lt_of_le hg hB.size
      have k1 : (k : Int) < (n : Int) := by omega
      have HB : Hid (Below w.heap.size w wr) := hB
      have zW : w.heap.size ≤ wr.heap.size := hB.size
      clear hy hm hr hg hB
      go_upto_region 6 with fail
      obtain ⟨wa, hwa⟩ : ∃ wa, wa = wr.alloc (.cells #[.int .i64 y, .slice a m d] 87) := ⟨_, rfl⟩
      rw [← hwa]
      have hb : Below wr.heap.size wr wa := by rw [hwa]; exact below0 _ _
      have a0 : wa.cell? ⟨wr.heap.size, 0, none⟩ = some (.int .i64 y) := by rw [hwa]; simp [go_sem]
      have a1 : wa.cell? ⟨wr.heap.size, 1, none⟩ = some (.slice a m d) := by rw [hwa]; simp [go_sem]
      have za : wr.heap.size < wa.heap.size := by rw [hwa]; simp
      replace q0 := (hb.cell (p := ⟨w.heap.size, 0, none⟩) zp).trans q0
      replace q1 := (hb.cell (p := ⟨w.heap.size, 1, none⟩) zp).trans q1
      have B2 : Below w.heap.size w wa := HB.out.trans (hb.mono zW)
      clear hwa hb c0 c1 zg
      go_wp2_with fail
      refine (rightBehind_any y a m d (V k) (x + k) _ (by omega) (by omega) (HI.out.below B2)).mono ?_
      rintro e w2 ⟨rfl, h2⟩
      replace q0 := (h2.cell (p := ⟨w.heap.size, 0, none⟩) (show w.heap.size < wa.heap.size by omega)).trans q0
      replace q1 := (h2.cell (p := ⟨w.heap.size, 1, none⟩) (show w.heap.size < wa.heap.size by omega)).trans q1
      have zW2 : wa.heap.size ≤ w2.heap.size := h2.size
      replace B2 : Below w.heap.size w w2 := B2.trans (h2.mono B2.size)
      clear h2 a0 a1
      cases e1 : gatB (x + k - 1) y m (V k)
      · have HO : Hid (treeB x n X K V = false) := HN.out k h1 (by rw [HV.out, e1])
        go_wp2
        go_ret
        exact ⟨ret_bool HO.out.symm, (by repeat (first | with_reducible exact Below.refl _ _ | with_reducible exact B2 | with_reducible refine Below.setCell ?_ (by first | omega | (simp; done) | (simp; omega)) _ | with_reducible refine bDrewN ?_ _ | with_reducible refine Below.drew ?_ | with_reducible refine Below.alloc ?_ (by first | omega | (simp; done) | (simp; omega)) _))⟩
      have HK : Hid (gatB (x + k - 1) (X k) (K k) (V k) = true) := by show _ = _; rw [HV.out, e1]
      go_wp2
      go_roundw
      case rel => exact ⟨k + 1, by omega, by go_num, ball_succ HP.out HK.out, q0, q1, by omega, (by repeat (first | with_reducible exact Below.refl _ _ | with_reducible exact B2 | with_reducible refine Below.setCell ?_ (by first | omega | (simp; done) | (simp; omega)) _ | with_reducible refine bDrewN ?_ _ | with_reducible refine Below.drew ?_ | with_reducible refine Below.alloc ?_ (by first | omega | (simp; done) | (simp; omega)) _))⟩
      case measure => first | (simp [intOf]; done) | (simp [intOf]; omega)
    · obtain rfl : k = n := by omega
      have HO : Hid (treeB x k X K V = true) := by show _ = _; rw [HF.out, decide_eq_true HP.out]
      go_wp2
      go_ret
      exact ⟨ret_bool HO.out.symm, (by repeat (first | with_reducible exact Below.refl _ _ | with_reducible exact hB | with_reducible refine Below.setCell ?_ (by first | omega | (simp; done) | (simp; omega)) _ | with_reducible refine bDrewN ?_ _ | with_reducible refine Below.drew ?_ | with_reducible refine Below.alloc ?_ (by first | omega | (simp; done) | (simp; omega)) _))⟩
end Go.Proofs.Ytpaiajeigdifcaa
