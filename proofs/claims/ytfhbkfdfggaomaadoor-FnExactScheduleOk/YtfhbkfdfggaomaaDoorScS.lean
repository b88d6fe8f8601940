/-
What is proved: what the specification says of beginnings.
-/
import Derived.Test.YtfhbkfdfggaomaaDoorScI
import Derived.Deep.RegionHeld3
import Derived.Deep.DeepCutAuto
import Derived.BigQuiet
namespace Go.Proofs.YtfhbkfdfggaomaaDoor
set_option maxRecDepth 40000
open Go.ChangeShapes Go.WideShapes Go.ChangeAt Go.RowKit
set_option linter.unusedVariables false
set_option linter.unusedSimpArgs false

theorem sch_range {n m k : Nat} {X : Nat → Int} {K : Nat → Nat} {V : Nat → Nat → Int} {cr : Int} {B : Nat → Int} (hk : k < m) (h : ¬ (0 ≤ B k ∧ B k ≤ 100000)) : schB n X K V cr m B = false := by
  have : allInB 0 100000 B m = false := decide_eq_false (fun q => h (q k hk))
  unfold schB
  rw [this]
  simp
theorem sch_plan {n m k : Nat} {X : Nat → Int} {K : Nat → Nat} {V : Nat → Nat → Int} {cr : Int} {B : Nat → Int} (hk : k < n) (h : plnB n X K V cr B k = false) : schB n X K V cr m B = false := by
  have : decide (∀ j, j < n → plnB n X K V cr B j = true) = false := decide_eq_false (fun q => by have := q k hk; rw [h] at this; cases this)
  unfold schB
  rw [this]
  simp
theorem sch_all {n : Nat} {X : Nat → Int} {K : Nat → Nat} {V : Nat → Nat → Int} {cr : Int} {B : Nat → Int} (h0 : jobsB n X K V = true) (h1 : inB 1 10 cr = true) (h2 : ∀ j, j < n → 0 ≤ B j ∧ B j ≤ 100000) (h3 : ∀ j, j < n → plnB n X K V cr B j = true) : schB n X K V cr n B = true := by
  unfold schB
  rw [h0, h1, decide_eq_true rfl, decide_eq_true h3]
  have : allInB 0 100000 B n = true := decide_eq_true h2
  rw [this]
  rfl
set_option maxRecDepth 20000 in
set_option maxHeartbeats 8000000 in
theorem specScheduleOk_any (s t : Option Addr) (n c m d : Nat) (X : Nat → Int) (K : Nat → Nat) (V : Nat → Nat → Int) (cr : Int) (B : Nat → Int) (w : World) (hn : (n : Int) ≤ 1048576) (hm : (m : Int) ≤ 1048576) (HK : Hid (∀ i, i < n → (K i : Int) ≤ 1048576)) (HR : Hid (RowJbs w s n X K V)) (HT : Hid (RowI w t m B)) :
    Calls Tryd.prog 42 #[.slice s n c, .int .i64 cr, .slice t m d] w fun e w' => e = .returned (.bool (schB n X K V cr m B)) ∧ Below w.heap.size w w' := by
  go_enter Tryd.func42, Tryd.ntmps42
  go_wp2_with fail
  refine (l25Jobs_any s n c X K V _ hn HK HR).mono ?_
  rintro e w2 ⟨rfl, h2⟩
  have B1 : Below w.heap.size w w2 := h2
  clear h2
  cases hc : jobsB n X K V
  · have HO : Hid (schB n X K V cr m B = false) := by show _ = _; unfold schB; rw [hc]; rfl
    go_wp2
    go_ret
    exact ⟨ret_bool HO.out.symm, B1⟩
  go_wp2_with fail
  refine (l1In_is _ _ _ _).mono ?_
  rintro e w2 ⟨rfl, rfl⟩
  cases h0 : inB 1 10 cr
  · have HO : Hid (schB n X K V cr m B = false) := by show _ = _; unfold schB; rw [hc, h0]; rfl
    go_wp2
    go_ret
    exact ⟨ret_bool HO.out.symm, B1⟩
  by_cases nm : m = n
  case neg =>
    have b2 : decide ((m : Int) = (n : Int)) = false := decide_eq_false (by omega)
    have HO : Hid (schB n X K V cr m B = false) := by show _ = _; unfold schB; rw [hc, h0, decide_eq_false nm]; rfl
    go_wp2
    go_ret
    exact ⟨ret_bool HO.out.symm, B1⟩
  subst nm
  have n4 := (jobs_yes hc).1
  have n5 : (m : Int) ≤ 40 := by omega
  have HJ := (jobs_yes hc).2
  have HALL : Hid ((∀ j, j < m → 0 ≤ B j ∧ B j ≤ 100000) → (∀ j, j < m → plnB m X K V cr B j = true) → schB m X K V cr m B = true) := sch_all hc h0
  have HGJ : Hid (∀ j, j < m → (1 ≤ X j ∧ X j ≤ 1000)) := fun j hj => (job_yes (HJ j hj)).1
  have HGV : Hid (∀ j, j < m → ∀ i, i < K j → 0 ≤ V j i ∧ V j i < (j : Int)) := fun j hj i hi => by have := (job_yes (HJ j hj)).2.2 i hi; omega
  have HB1 : Hid (Below w.heap.size w w2) := B1
  clear hc h0 HJ B1
  go_wp2_with fail
  go_loopw [7] (fun i wr => ∃ k : Nat, k ≤ m ∧ i = .int .i64 k ∧ Hid (∀ j, j < k → (0 ≤ B j ∧ B j ≤ 100000) ∧ rdyF X B (V j) (K j) ≤ B j) ∧ Below w.heap.size w wr) (fun i _ => m - (intOf i).toNat)
  case atStart => exact ⟨0, Nat.zero_le _, rfl, fun j hj => by omega, HB1.out⟩
  case round =>
    obtain ⟨k, hk, rfl, HP, hB⟩ := hrel
    by_cases h1 : k < m
    · obtain ⟨h, i, rfl, zh, d0⟩ := HT.out k h1
      replace d0 := (hB.cell (p := ⟨h, i + k, none⟩) zh).trans d0
      have k1 : (k : Int) < (m : Int) := by omega
      have HRG : Hid (inB 0 100000 (B k) = false → schB m X K V cr m B = false) := fun z => sch_range h1 (of_decide_eq_false z)
      have HRI : Hid (inB 0 100000 (B k) = true → 0 ≤ B k ∧ B k ≤ 100000) := fun z => inB_yes z
      have HNX : Hid ((0 ≤ B k ∧ B k ≤ 100000) → rdyF X B (V k) (K k) ≤ B k → ∀ j, j < k + 1 → (0 ≤ B j ∧ B j ≤ 100000) ∧ rdyF X B (V j) (K j) ≤ B j) := fun z1 z2 => ball_succJ HP.out ⟨z1, z2⟩
      have HBV : ∀ i, i < K k → 0 ≤ B (V k i).toNat := fun i hi => by have := HGV.out k h1 i hi; exact (HP.out (V k i).toNat (by omega)).1.1
      have HFR : Hid (0 ≤ B k → freB X B (V k) (K k) (B k) = decide (rdyF X B (V k) (K k) ≤ B k)) := fun z => free_rdy z HBV
      have HEA : Hid (¬ rdyF X B (V k) (K k) ≤ B k → schB m X K V cr m B = false) := fun z => sch_plan h1 (pln_early (by omega))
      have HCF : Hid (∀ w1, Below w.heap.size w w1 → Calls Tryd.prog 75 #[.slice s m c, .slice (some ⟨h, i, none⟩) m d, .int .i64 k, .int .i64 (B k)] w1 fun e w' => e = .returned (.bool (freB X B (V k) (K k) (B k))) ∧ Below w1.heap.size w1 w') := fun w1 hb => l25Free_any s _ m c d X K V B k (B k) w1 h1 n5 (HK.out k h1) (fun i hi => by
        have q1 := HGV.out k h1 i hi
        have q2 := (HP.out (V k i).toNat (by omega)).1
        have q3 := HGJ.out (V k i).toNat (by omega)
        exact ⟨by omega, q3, by omega⟩) (HR.out.below hb) (HT.out.below hb)
      obtain ⟨y, hy⟩ : ∃ y, B k = y := ⟨_, rfl⟩
      rw [hy] at d0 HRG HRI HNX HFR HEA HCF
      clear hy HBV
      go_wp2_with fail
      refine (l1In_is _ _ _ _).mono ?_
      rintro e wr ⟨rfl, rfl⟩
      cases e0 : inB 0 100000 y
      · have HO : Hid (schB m X K V cr m B = false) := HRG.out e0
        go_wp2
        go_ret
        exact ⟨ret_bool HO.out.symm, (by repeat (first | with_reducible exact Below.refl _ _ | with_reducible exact hB | with_reducible refine Below.setCell ?_ (by first | omega | (simp; done) | (simp; omega)) _ | with_reducible refine bDrewN ?_ _ | with_reducible refine Below.drew ?_ | with_reducible refine Below.alloc ?_ (by first | omega | (simp; done) | (simp; omega)) _))⟩
      have yb := HRI.out e0
      rw [HFR.out yb.1] at HCF
      clear e0
      go_wp2_with fail
      refine (HCF.out _ hB).mono ?_
      rintro e w4 ⟨rfl, h4⟩
      have B4 : Below w.heap.size w w4 := hB.trans (h4.mono hB.size)
      clear h4
      by_cases t0 : rdyF X B (V k) (K k) ≤ y
      · rw [decide_eq_true t0]
        have HZ : Hid (∀ j, j < k + 1 → (0 ≤ B j ∧ B j ≤ 100000) ∧ rdyF X B (V j) (K j) ≤ B j) := HNX.out yb t0
        clear t0
        go_wp2
        go_roundw
        case rel => exact ⟨k + 1, by omega, by go_num, HZ, (by repeat (first | with_reducible exact Below.refl _ _ | with_reducible exact B4 | with_reducible refine Below.setCell ?_ (by first | omega | (simp; done) | (simp; omega)) _ | with_reducible refine bDrewN ?_ _ | with_reducible refine Below.drew ?_ | with_reducible refine Below.alloc ?_ (by first | omega | (simp; done) | (simp; omega)) _))⟩
        case measure => first | (simp [intOf]; done) | (simp [intOf]; omega)
      · rw [decide_eq_false t0]
        have HO : Hid (schB m X K V cr m B = false) := HEA.out (by omega)
        clear t0
        go_wp2
        go_ret
        exact ⟨ret_bool HO.out.symm, (by repeat (first | with_reducible exact Below.refl _ _ | with_reducible exact B4 | with_reducible refine Below.setCell ?_ (by first | omega | (simp; done) | (simp; omega)) _ | with_reducible refine bDrewN ?_ _ | with_reducible refine Below.drew ?_ | with_reducible refine Below.alloc ?_ (by first | omega | (simp; done) | (simp; omega)) _))⟩
    · obtain rfl : k = m := by omega
      have HBM : Hid (∀ j, j < k → 0 ≤ B j ∧ B j ≤ 100000) := fun j hj => (HP.out j hj).1
      have HRM : Hid (∀ j, j < k → rdyF X B (V j) (K j) ≤ B j) := fun j hj => (HP.out j hj).2
      have HW : Hid (Below w.heap.size w wr) := hB
      clear hB h1 HP
      go_wp2_with fail
      go_loopw [8] (fun i wq => ∃ j : Nat, j ≤ k ∧ i = .int .i64 j ∧ Hid (∀ q, q < j → plnB k X K V cr B q = true) ∧ Below w.heap.size w wq) (fun i _ => k - (intOf i).toNat)
      case atStart => exact ⟨0, Nat.zero_le _, rfl, fun j hj => by omega, HW.out⟩
      case round =>
        obtain ⟨j, hj, rfl, HQ, hB⟩ := hrel
        by_cases h1 : j < k
        · obtain ⟨h, i, rfl, zh, d0⟩ := HT.out j h1
          replace d0 := (hB.cell (p := ⟨h, i + j, none⟩) zh).trans d0
          have j1 : (j : Int) < (k : Int) := by omega
          have HCB : Hid (∀ w1, Below w.heap.size w w1 → Calls Tryd.prog 76 #[.slice s k c, .slice (some ⟨h, i, none⟩) k d, .int .i64 (B j)] w1 fun e w' => e = .returned (.int .i64 (busI X B (B j) k)) ∧ Below w1.heap.size w1 w') := fun w1 hb => by
            rw [← bus_same k (fun i hi => (HBM.out i hi).1)]
            exact l25Busy_any s _ k c d X K V B (B j) w1 n5 (fun q hq => ⟨HGJ.out q hq, by have := HBM.out q hq; omega⟩) (HR.out.below hb) (HT.out.below hb)
          have HMA : Hid (cr < busI X B (B j) k → schB k X K V cr k B = false) := fun z => sch_plan h1 (pln_many z)
          have HGO : Hid (¬ cr < busI X B (B j) k → ∀ q, q < j + 1 → plnB k X K V cr B q = true) := fun z => ball_succJ HQ.out (pln_good (by have := HRM.out j h1; omega) z)
          obtain ⟨y, hy⟩ : ∃ y, B j = y := ⟨_, rfl⟩
          rw [hy] at d0 HCB HMA HGO
          obtain ⟨u, hu⟩ : ∃ u, busI X B y k = u := ⟨_, rfl⟩
          rw [hu] at HCB HMA HGO
          clear hy hu
          go_wp2_with fail
          refine (HCB.out _ hB).mono ?_
          rintro e w4 ⟨rfl, h4⟩
          have B4 : Below w.heap.size w w4 := hB.trans (h4.mono hB.size)
          clear h4
          by_cases t0 : cr < u
          · have HO : Hid (schB k X K V cr k B = false) := HMA.out t0
            go_wp2
            go_ret
            exact ⟨ret_bool HO.out.symm, (by repeat (first | with_reducible exact Below.refl _ _ | with_reducible exact B4 | with_reducible refine Below.setCell ?_ (by first | omega | (simp; done) | (simp; omega)) _ | with_reducible refine bDrewN ?_ _ | with_reducible refine Below.drew ?_ | with_reducible refine Below.alloc ?_ (by first | omega | (simp; done) | (simp; omega)) _))⟩
          · have HZ : Hid (∀ q, q < j + 1 → plnB k X K V cr B q = true) := HGO.out (by omega)
            go_wp2
            go_roundw
            case rel => exact ⟨j + 1, by omega, by go_num, HZ, (by repeat (first | with_reducible exact Below.refl _ _ | with_reducible exact B4 | with_reducible refine Below.setCell ?_ (by first | omega | (simp; done) | (simp; omega)) _ | with_reducible refine bDrewN ?_ _ | with_reducible refine Below.drew ?_ | with_reducible refine Below.alloc ?_ (by first | omega | (simp; done) | (simp; omega)) _))⟩
            case measure => first | (simp [intOf]; done) | (simp [intOf]; omega)
        · obtain rfl : j = k := by omega
          have HO : Hid (schB j X K V cr j B = true) := HALL.out HBM.out HQ.out
          go_wp2
          go_ret
          exact ⟨ret_bool HO.out.symm, hB⟩
end Go.Proofs.YtfhbkfdfggaomaaDoor
