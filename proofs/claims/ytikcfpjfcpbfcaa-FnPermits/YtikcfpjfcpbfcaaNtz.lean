/-
What is proved: when a net is right, in numbers, and as both packages say it.
-/
import Derived.Test.YtikcfpjfcpbfcaaZcA
import Derived.Test.YtikcfpjfcpbfcaaNtTz
import Derived.Test.YtikcfpjfcpbfcaaRisz
import Derived.Deep.RegionHeld3
import Derived.Deep.DeepCutAuto
import Derived.BigQuiet
namespace Go.Proofs.Ytikcfpjfcpbfcaa
set_option maxRecDepth 40000
open Go.ChangeShapes Go.WideShapes Go.ChangeAt Go.RowKit
set_option linter.unusedVariables false
set_option linter.unusedSimpArgs false

def ducB (p : Int) (z : Int × Int) : Bool := inB 0 (p - 1) z.1 && (inB 0 (p - 1) z.2 && !decide (z.1 = z.2))
def netB (p : Int) (n : Nat) (D : Nat → Int × Int) (m : Nat) (S : Nat → Int) : Bool := inB 1 30 p && (decide (n ≤ 40) && (decide (∀ j, j < n → ducB p (D j) = true) && (risB S m && allInB 0 (p - 1) S m)))
theorem net_yes {p : Int} {n : Nat} {D : Nat → Int × Int} {m : Nat} {S : Nat → Int} (h : netB p n D m S = true) : (1 ≤ p ∧ p ≤ 30) ∧ n ≤ 40 ∧ (∀ j, j < n → ducB p (D j) = true) ∧ risB S m = true ∧ ∀ j, j < m → 0 ≤ S j ∧ S j ≤ p - 1 := by
  unfold netB at h
  simp only [Bool.and_eq_true, decide_eq_true_iff] at h
  exact ⟨inB_yes h.1, h.2.1, h.2.2.1, h.2.2.2.1, allIn_yes h.2.2.2.2.symm⟩
theorem duc_yes {p : Int} {z : Int × Int} (h : ducB p z = true) : (0 ≤ z.1 ∧ z.1 ≤ p - 1) ∧ (0 ≤ z.2 ∧ z.2 ≤ p - 1) ∧ z.1 ≠ z.2 := by
  unfold ducB at h
  simp only [Bool.and_eq_true] at h
  exact ⟨inB_yes h.1, inB_yes h.2.1, by simpa using h.2.2⟩
set_option maxHeartbeats 800000 in
theorem isPlace_any (p : Int) (s : Option Addr) (n c : Nat) (t : Option Addr) (m d : Nat) (x : Int) (w : World) (p0 : 1 ≤ p) (p1 : p ≤ 30) : Calls Try.prog 75 #[.agg #[.int .i64 p, .slice s n c, .slice t m d], .int .i64 x] w fun e w' => e = .returned (.bool (inB 0 (p - 1) x)) ∧ Below w.heap.size w w' := by
  go_enter Try.func75, Try.ntmps75
  go_wp2_with fail
  refine (within_is _ _ _ _).mono ?_
  rintro e w1 ⟨rfl, rfl⟩
  go_wp2
  go_ret
  exact ⟨rfl, (by repeat (first | with_reducible exact Below.refl _ _ | with_reducible refine Below.setCell ?_ (by first | omega | (simp; done) | (simp; omega)) _ | with_reducible refine bDrewN ?_ _ | with_reducible refine Below.drew ?_ | with_reducible refine Below.alloc ?_ (by first | omega | (simp; done) | (simp; omega)) _))⟩
set_option maxRecDepth 20000 in
set_option maxHeartbeats 4000000 in
theorem specNetOk_any (p : Int) (s : Option Addr) (n c : Nat) (D : Nat → Int × Int) (t : Option Addr) (m d : Nat) (S : Nat → Int) (w : World) (hn : (n : Int) ≤ 1048576) (hm : (m : Int) ≤ 1048576) (HD : Hid (RowDuct w s n D)) (HS : Hid (RowI w t m S)) :
    Calls Try.prog 66 #[.agg #[.int .i64 p, .slice s n c, .slice t m d]] w fun e w' => e = .returned (.bool (netB p n D m S)) ∧ Below w.heap.size w w' := by
  go_enter Try.func66, Try.ntmps66
  go_wp2_with fail
  refine (l1In_is _ _ _ _).mono ?_
  rintro e w1 ⟨rfl, rfl⟩
  cases h0 : inB 1 30 p
  · go_wp2
    go_ret
    exact ⟨ret_bool (by unfold netB; rw [h0]; rfl), (by repeat (first | with_reducible exact Below.refl _ _ | with_reducible refine Below.setCell ?_ (by first | omega | (simp; done) | (simp; omega)) _ | with_reducible refine bDrewN ?_ _ | with_reducible refine Below.drew ?_ | with_reducible refine Below.alloc ?_ (by first | omega | (simp; done) | (simp; omega)) _))⟩
  obtain ⟨p0, p1⟩ := inB_yes h0
  by_cases n1 : 40 < n
  · have b1 : (40 : Int) < (n : Int) := by omega
    have HO : Hid (netB p n D m S = false) := by show _ = _; unfold netB; rw [decide_eq_false (by omega : ¬ n ≤ 40)]; simp
    go_wp2
    go_ret
    exact ⟨ret_bool HO.out.symm, (by repeat (first | with_reducible exact Below.refl _ _ | with_reducible refine Below.setCell ?_ (by first | omega | (simp; done) | (simp; omega)) _ | with_reducible refine bDrewN ?_ _ | with_reducible refine Below.drew ?_ | with_reducible refine Below.alloc ?_ (by first | omega | (simp; done) | (simp; omega)) _))⟩
  have b1 : decide ((40 : Int) < (n : Int)) = false := decide_eq_false (by omega)
  have hn2 : (n : Int) ≤ 40 := by omega
  have HF : Hid (netB p n D m S = (decide (∀ j, j < n → ducB p (D j) = true) && (risB S m && allInB 0 (p - 1) S m))) := by show _ = _; unfold netB; rw [h0, decide_eq_true (by omega : n ≤ 40)]; simp
  have HN : Hid (∀ k, k < n → ducB p (D k) = false → netB p n D m S = false) := fun k hk e => by
    rw [HF.out, decide_eq_false (fun h => by have := h k hk; rw [e] at this; cases this)]; rfl
  clear h0 hn
  go_wp2_with fail
  go_loopw [3] (fun i wr => ∃ k : Nat, k ≤ n ∧ i = .int .i64 k ∧ Hid (∀ j, j < k → ducB p (D j) = true) ∧ wr.cell? ⟨w.heap.size, 0, none⟩ = some (.int .i64 p) ∧ wr.cell? ⟨w.heap.size, 1, none⟩ = some (.slice s n c) ∧ wr.cell? ⟨w.heap.size, 2, none⟩ = some (.slice t m d) ∧ w.heap.size < wr.heap.size ∧ Below w.heap.size w wr) (fun i _ => n - (intOf i).toNat)
  case atStart => exact ⟨0, Nat.zero_le _, rfl, fun j hj => by omega, by simp [go_sem], by simp [go_sem], by simp [go_sem], by simp, (by repeat (first | with_reducible exact Below.refl _ _ | with_reducible refine Below.setCell ?_ (by first | omega | (simp; done) | (simp; omega)) _ | with_reducible refine bDrewN ?_ _ | with_reducible refine Below.drew ?_ | with_reducible refine Below.alloc ?_ (by first | omega | (simp; done) | (simp; omega)) _))⟩
  case round =>
    obtain ⟨k, hk, rfl, HP, q0, q1, q2, zp, hB⟩ := hrel
    by_cases h1 : k < n
    · obtain ⟨g, o, rfl, hg, c0, c1⟩ := HD.out k h1
      replace c0 := (hB.cell (p := ⟨g, o + k * 2, none⟩) hg).trans c0
      replace c1 := (hB.cell (p := ⟨g, o + k * 2 + 1, none⟩) hg).trans c1
      obtain ⟨⟨a, b⟩, hV⟩ : ∃ z, D k = z := ⟨_, rfl⟩
      rw [hV] at c0 c1
      simp only at c0 c1
      have HV : Hid (D k = (a, b)) := hV
      have HJ : Hid (ducB p (a, b) = (inB 0 (p - 1) a && (inB 0 (p - 1) b && !decide (a = b)))) := rfl
      have zg : g < wr.heap.size := Nat.lt_of_lt_of_le hg hB.size
      have k1 : (k : Int) < (n : Int) := by omega
      have HB : Hid (Below w.heap.size w wr) := hB
      have zW : w.heap.size ≤ wr.heap.size := hB.size
      clear hV hg hB
      have B2 := HB.out
      go_wp2_with fail
      refine (l1In_is _ _ _ _).mono ?_
      rintro e w2 ⟨rfl, rfl⟩
      cases e0 : inB 0 (p - 1) a
      · have HO : Hid (netB p n D m S = false) := HN.out k h1 (by rw [HV.out, HJ.out, e0]; rfl)
        go_wp2
        go_ret
        exact ⟨ret_bool HO.out.symm, (by repeat (first | with_reducible exact Below.refl _ _ | with_reducible exact B2 | with_reducible refine Below.setCell ?_ (by first | omega | (simp; done) | (simp; omega)) _ | with_reducible refine bDrewN ?_ _ | with_reducible refine Below.drew ?_ | with_reducible refine Below.alloc ?_ (by first | omega | (simp; done) | (simp; omega)) _))⟩
      go_wp2_with fail
      refine (l1In_is _ _ _ _).mono ?_
      rintro e w2 ⟨rfl, rfl⟩
      cases e1 : inB 0 (p - 1) b
      · have HO : Hid (netB p n D m S = false) := HN.out k h1 (by rw [HV.out, HJ.out, e0, e1]; rfl)
        go_wp2
        go_ret
        exact ⟨ret_bool HO.out.symm, (by repeat (first | with_reducible exact Below.refl _ _ | with_reducible exact B2 | with_reducible refine Below.setCell ?_ (by first | omega | (simp; done) | (simp; omega)) _ | with_reducible refine bDrewN ?_ _ | with_reducible refine Below.drew ?_ | with_reducible refine Below.alloc ?_ (by first | omega | (simp; done) | (simp; omega)) _))⟩
      by_cases e2 : a = b
      · have e2' : (a == b) = true := by simpa using e2
        have HO : Hid (netB p n D m S = false) := HN.out k h1 (by rw [HV.out, HJ.out, e0, e1]; simp [e2])
        clear e2
        go_wp2
        go_ret
        exact ⟨ret_bool HO.out.symm, (by repeat (first | with_reducible exact Below.refl _ _ | with_reducible exact B2 | with_reducible refine Below.setCell ?_ (by first | omega | (simp; done) | (simp; omega)) _ | with_reducible refine bDrewN ?_ _ | with_reducible refine Below.drew ?_ | with_reducible refine Below.alloc ?_ (by first | omega | (simp; done) | (simp; omega)) _))⟩
      have e2' : (a == b) = false := by simpa using e2
      have HK : Hid (ducB p (D k) = true) := by show _ = _; rw [HV.out, HJ.out, e0, e1]; simp [e2]
      clear e2
      go_wp2
      go_roundw
      case rel => exact ⟨k + 1, by omega, by go_num, ball_succ HP.out HK.out, ((below0 wr _).cell (p := ⟨w.heap.size, 0, none⟩) zp).trans q0, ((below0 wr _).cell (p := ⟨w.heap.size, 1, none⟩) zp).trans q1, ((below0 wr _).cell (p := ⟨w.heap.size, 2, none⟩) zp).trans q2, by simp; omega, (by repeat (first | with_reducible exact Below.refl _ _ | with_reducible exact B2 | with_reducible refine Below.setCell ?_ (by first | omega | (simp; done) | (simp; omega)) _ | with_reducible refine bDrewN ?_ _ | with_reducible refine Below.drew ?_ | with_reducible refine Below.alloc ?_ (by first | omega | (simp; done) | (simp; omega)) _))⟩
      case measure => first | (simp [intOf]; done) | (simp [intOf]; omega)
    · obtain rfl : k = n := by omega
      have HE : Hid (netB p k D m S = (risB S m && allInB 0 (p - 1) S m)) := by show _ = _; rw [HF.out, decide_eq_true HP.out]; rfl
      have HS2 : Hid (RowI wr t m S) := HS.out.below hB
      go_wp2_with fail
      refine (l22Rises_any t m d S _ _ _ hm HS2).mono ?_
      rintro e w2 ⟨rfl, h2⟩
      have B2 : Below w.heap.size w w2 := hB.trans (h2.mono hB.size)
      go_wp2
      go_ret
      exact ⟨ret_bool HE.out.symm, (by repeat (first | with_reducible exact Below.refl _ _ | with_reducible exact B2 | with_reducible refine Below.setCell ?_ (by first | omega | (simp; done) | (simp; omega)) _ | with_reducible refine bDrewN ?_ _ | with_reducible refine Below.drew ?_ | with_reducible refine Below.alloc ?_ (by first | omega | (simp; done) | (simp; omega)) _))⟩
set_option maxRecDepth 20000 in
set_option maxHeartbeats 4000000 in
theorem implNetOk_any (p : Int) (s : Option Addr) (n c : Nat) (D : Nat → Int × Int) (t : Option Addr) (m d : Nat) (S : Nat → Int) (w : World) (hn : (n : Int) ≤ 1048576) (hm : (m : Int) ≤ 1048576) (HD : Hid (RowDuct w s n D)) (HS : Hid (RowI w t m S)) :
    Calls Try.prog 74 #[.agg #[.int .i64 p, .slice s n c, .slice t m d]] w fun e w' => e = .returned (.bool (netB p n D m S)) ∧ Below w.heap.size w w' := by
  go_enter Try.func74, Try.ntmps74
  go_wp2_with fail
  refine (within_is _ _ _ _).mono ?_
  rintro e w1 ⟨rfl, rfl⟩
  cases h0 : inB 1 30 p
  · go_wp2
    go_ret
    exact ⟨ret_bool (by unfold netB; rw [h0]; rfl), (by repeat (first | with_reducible exact Below.refl _ _ | with_reducible refine Below.setCell ?_ (by first | omega | (simp; done) | (simp; omega)) _ | with_reducible refine bDrewN ?_ _ | with_reducible refine Below.drew ?_ | with_reducible refine Below.alloc ?_ (by first | omega | (simp; done) | (simp; omega)) _))⟩
  obtain ⟨p0, p1⟩ := inB_yes h0
  by_cases n1 : 40 < n
  · have b1 : (40 : Int) < (n : Int) := by omega
    have HO : Hid (netB p n D m S = false) := by show _ = _; unfold netB; rw [decide_eq_false (by omega : ¬ n ≤ 40)]; simp
    go_wp2
    go_ret
    exact ⟨ret_bool HO.out.symm, (by repeat (first | with_reducible exact Below.refl _ _ | with_reducible refine Below.setCell ?_ (by first | omega | (simp; done) | (simp; omega)) _ | with_reducible refine bDrewN ?_ _ | with_reducible refine Below.drew ?_ | with_reducible refine Below.alloc ?_ (by first | omega | (simp; done) | (simp; omega)) _))⟩
  have b1 : decide ((40 : Int) < (n : Int)) = false := decide_eq_false (by omega)
  have hn2 : (n : Int) ≤ 40 := by omega
  have HF : Hid (netB p n D m S = (decide (∀ j, j < n → ducB p (D j) = true) && (risB S m && allInB 0 (p - 1) S m))) := by show _ = _; unfold netB; rw [h0, decide_eq_true (by omega : n ≤ 40)]; simp
  have HN : Hid (∀ k, k < n → ducB p (D k) = false → netB p n D m S = false) := fun k hk e => by
    rw [HF.out, decide_eq_false (fun h => by have := h k hk; rw [e] at this; cases this)]; rfl
  clear h0 hn
  go_wp2_with fail
  go_loopw [18] (fun i wr => ∃ k : Nat, k ≤ n ∧ i = .int .i64 k ∧ Hid (∀ j, j < k → ducB p (D j) = true) ∧ wr.cell? ⟨w.heap.size, 0, none⟩ = some (.int .i64 p) ∧ wr.cell? ⟨w.heap.size, 1, none⟩ = some (.slice s n c) ∧ wr.cell? ⟨w.heap.size, 2, none⟩ = some (.slice t m d) ∧ w.heap.size < wr.heap.size ∧ Below w.heap.size w wr) (fun i _ => n - (intOf i).toNat)
  case atStart => exact ⟨0, Nat.zero_le _, rfl, fun j hj => by omega, by simp [go_sem], by simp [go_sem], by simp [go_sem], by simp, (by repeat (first | with_reducible exact Below.refl _ _ | with_reducible refine Below.setCell ?_ (by first | omega | (simp; done) | (simp; omega)) _ | with_reducible refine bDrewN ?_ _ | with_reducible refine Below.drew ?_ | with_reducible refine Below.alloc ?_ (by first | omega | (simp; done) | (simp; omega)) _))⟩
  case round =>
    obtain ⟨k, hk, rfl, HP, q0, q1, q2, zp, hB⟩ := hrel
    by_cases h1 : k < n
    · obtain ⟨g, o, rfl, hg, c0, c1⟩ := HD.out k h1
      replace c0 := (hB.cell (p := ⟨g, o + k * 2, none⟩) hg).trans c0
      replace c1 := (hB.cell (p := ⟨g, o + k * 2 + 1, none⟩) hg).trans c1
      obtain ⟨⟨a, b⟩, hV⟩ : ∃ z, D k = z := ⟨_, rfl⟩
      rw [hV] at c0 c1
      simp only at c0 c1
      have HV : Hid (D k = (a, b)) := hV
      have HJ : Hid (ducB p (a, b) = (inB 0 (p - 1) a && (inB 0 (p - 1) b && !decide (a = b)))) := rfl
      have zg : g < wr.heap.size := Nat.lt_of_lt_of_le hg hB.size
      have k1 : (k : Int) < (n : Int) := by omega
      have HB : Hid (Below w.heap.size w wr) := hB
      have zW : w.heap.size ≤ wr.heap.size := hB.size
      clear hV hg hB
      go_upto_region 6 with fail
      obtain ⟨wa, hwa⟩ : ∃ wa, wa = wr.alloc (.cells #[.int .i64 a, .int .i64 b] 106) := ⟨_, rfl⟩
      rw [← hwa]
      have hb : Below wr.heap.size wr wa := by rw [hwa]; exact below0 _ _
      have a0 : wa.cell? ⟨wr.heap.size, 0, none⟩ = some (.int .i64 a) := by rw [hwa]; simp [go_sem]
      have a1 : wa.cell? ⟨wr.heap.size, 1, none⟩ = some (.int .i64 b) := by rw [hwa]; simp [go_sem]
      have za : wr.heap.size < wa.heap.size := by rw [hwa]; simp
      replace q0 := (hb.cell (p := ⟨w.heap.size, 0, none⟩) (show w.heap.size < wr.heap.size by omega)).trans q0
      replace q1 := (hb.cell (p := ⟨w.heap.size, 1, none⟩) (show w.heap.size < wr.heap.size by omega)).trans q1
      replace q2 := (hb.cell (p := ⟨w.heap.size, 2, none⟩) (show w.heap.size < wr.heap.size by omega)).trans q2
      have B2 : Below w.heap.size w wa := HB.out.trans (hb.mono zW)
      clear hwa hb c0 c1 zg
      go_wp2_with fail
      refine (isPlace_any p _ n c t m d a _ p0 p1).mono ?_
      rintro e w2 ⟨rfl, hb⟩
      replace a0 := (hb.cell (p := ⟨wr.heap.size, 0, none⟩) za).trans a0
      replace a1 := (hb.cell (p := ⟨wr.heap.size, 1, none⟩) za).trans a1
      replace q0 := (hb.cell (p := ⟨w.heap.size, 0, none⟩) (show w.heap.size < wa.heap.size by omega)).trans q0
      replace q1 := (hb.cell (p := ⟨w.heap.size, 1, none⟩) (show w.heap.size < wa.heap.size by omega)).trans q1
      replace q2 := (hb.cell (p := ⟨w.heap.size, 2, none⟩) (show w.heap.size < wa.heap.size by omega)).trans q2
      replace za := Nat.lt_of_lt_of_le za hb.size
      replace B2 : Below w.heap.size w w2 := B2.trans (hb.mono B2.size)
      clear hb
      cases e0 : inB 0 (p - 1) a
      · have HO : Hid (netB p n D m S = false) := HN.out k h1 (by rw [HV.out, HJ.out, e0]; rfl)
        go_wp2
        go_ret
        exact ⟨ret_bool HO.out.symm, (by repeat (first | with_reducible exact Below.refl _ _ | with_reducible exact B2 | with_reducible refine Below.setCell ?_ (by first | omega | (simp; done) | (simp; omega)) _ | with_reducible refine bDrewN ?_ _ | with_reducible refine Below.drew ?_ | with_reducible refine Below.alloc ?_ (by first | omega | (simp; done) | (simp; omega)) _))⟩
      go_wp2_with fail
      refine (isPlace_any p _ n c t m d b _ p0 p1).mono ?_
      rintro e w3 ⟨rfl, hb⟩
      replace a0 := (hb.cell (p := ⟨wr.heap.size, 0, none⟩) za).trans a0
      replace a1 := (hb.cell (p := ⟨wr.heap.size, 1, none⟩) za).trans a1
      replace q0 := (hb.cell (p := ⟨w.heap.size, 0, none⟩) (show w.heap.size < w2.heap.size by omega)).trans q0
      replace q1 := (hb.cell (p := ⟨w.heap.size, 1, none⟩) (show w.heap.size < w2.heap.size by omega)).trans q1
      replace q2 := (hb.cell (p := ⟨w.heap.size, 2, none⟩) (show w.heap.size < w2.heap.size by omega)).trans q2
      replace za := Nat.lt_of_lt_of_le za hb.size
      replace B2 : Below w.heap.size w w3 := B2.trans (hb.mono B2.size)
      clear hb
      cases e1 : inB 0 (p - 1) b
      · have HO : Hid (netB p n D m S = false) := HN.out k h1 (by rw [HV.out, HJ.out, e0, e1]; rfl)
        go_wp2
        go_ret
        exact ⟨ret_bool HO.out.symm, (by repeat (first | with_reducible exact Below.refl _ _ | with_reducible exact B2 | with_reducible refine Below.setCell ?_ (by first | omega | (simp; done) | (simp; omega)) _ | with_reducible refine bDrewN ?_ _ | with_reducible refine Below.drew ?_ | with_reducible refine Below.alloc ?_ (by first | omega | (simp; done) | (simp; omega)) _))⟩
      by_cases e2 : a = b
      · have e2' : (a == b) = true := by simpa using e2
        have HO : Hid (netB p n D m S = false) := HN.out k h1 (by rw [HV.out, HJ.out, e0, e1]; simp [e2])
        clear e2
        go_wp2
        go_ret
        exact ⟨ret_bool HO.out.symm, (by repeat (first | with_reducible exact Below.refl _ _ | with_reducible exact B2 | with_reducible refine Below.setCell ?_ (by first | omega | (simp; done) | (simp; omega)) _ | with_reducible refine bDrewN ?_ _ | with_reducible refine Below.drew ?_ | with_reducible refine Below.alloc ?_ (by first | omega | (simp; done) | (simp; omega)) _))⟩
      have e2' : (a == b) = false := by simpa using e2
      have HK : Hid (ducB p (D k) = true) := by show _ = _; rw [HV.out, HJ.out, e0, e1]; simp [e2]
      clear e2
      go_wp2
      go_roundw
      case rel => exact ⟨k + 1, by omega, by go_num, ball_succ HP.out HK.out, q0, q1, q2, by omega, (by repeat (first | with_reducible exact Below.refl _ _ | with_reducible exact B2 | with_reducible refine Below.setCell ?_ (by first | omega | (simp; done) | (simp; omega)) _ | with_reducible refine bDrewN ?_ _ | with_reducible refine Below.drew ?_ | with_reducible refine Below.alloc ?_ (by first | omega | (simp; done) | (simp; omega)) _))⟩
      case measure => first | (simp [intOf]; done) | (simp [intOf]; omega)
    · obtain rfl : k = n := by omega
      have HE : Hid (netB p k D m S = (risB S m && allInB 0 (p - 1) S m)) := by show _ = _; rw [HF.out, decide_eq_true HP.out]; rfl
      have HS2 : Hid (RowI wr t m S) := HS.out.below hB
      go_wp2_with fail
      refine (rises_any t m d S _ hm HS2).mono ?_
      rintro e w2 ⟨rfl, h2⟩
      have B2 : Below w.heap.size w w2 := hB.trans (h2.mono hB.size)
      replace q0 := (h2.cell (p := ⟨w.heap.size, 0, none⟩) zp).trans q0
      replace q2 := (h2.cell (p := ⟨w.heap.size, 2, none⟩) zp).trans q2
      cases e0 : risB S m
      · have HO : Hid (netB p k D m S = false) := by show _ = _; rw [HE.out, e0]; rfl
        go_wp2
        go_ret
        exact ⟨ret_bool HO.out.symm, (by repeat (first | with_reducible exact Below.refl _ _ | with_reducible exact B2 | with_reducible refine Below.setCell ?_ (by first | omega | (simp; done) | (simp; omega)) _ | with_reducible refine bDrewN ?_ _ | with_reducible refine Below.drew ?_ | with_reducible refine Below.alloc ?_ (by first | omega | (simp; done) | (simp; omega)) _))⟩
      have HO : Hid (netB p k D m S = allInB 0 (p - 1) S m) := by show _ = _; rw [HE.out, e0]; rfl
      have HS3 : Hid (RowI w2 t m S) := HS.out.below B2
      clear h2
      go_wp2_with fail
      refine (allWithin_any t m d S _ _ _ hm HS3).mono ?_
      rintro e w3 ⟨rfl, rfl⟩
      go_wp2
      go_ret
      exact ⟨ret_bool HO.out.symm, (by repeat (first | with_reducible exact Below.refl _ _ | with_reducible exact B2 | with_reducible refine Below.setCell ?_ (by first | omega | (simp; done) | (simp; omega)) _ | with_reducible refine bDrewN ?_ _ | with_reducible refine Below.drew ?_ | with_reducible refine Below.alloc ?_ (by first | omega | (simp; done) | (simp; omega)) _))⟩
end Go.Proofs.Ytikcfpjfcpbfcaa
