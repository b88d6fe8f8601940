/-
What is proved: FnSchedules: the schedule of drawn jobs is one, ends when it says, and not ahead of the critical row; with as many crews as jobs it ends just then; no drawn other list of beginnings that is a schedule ends ahead of the critical row; where the variables of errors hold what the program's text lays (the card ties that).
-/
import Derived.Test.YtffjhbgnhnnfiaaDoorSkN
import Derived.Test.YtffjhbgnhnnfiaaDoorScD
import Derived.Test.YtffjhbgnhnnfiaaDoorCrI
import Derived.Test.YtffjhbgnhnnfiaaDoorQfA
import Derived.Test.YtffjhbgnhnnfiaaDoorSdI
import Derived.Test.YtffjhbgnhnnfiaaDoorSdS
import Derived.Test.YtffjhbgnhnnfiaaDoorQfB
import Derived.Test.YtffjhbgnhnnfiaaDoorQfC
import Derived.Test.YtffjhbgnhnnfiaaDoorLaid
import Derived.Stop.LaidErr
import Derived.LaidHandle
import Derived.Deep.DeepCutAuto
import Derived.Deep.RegionHeldLaw
import Derived.BigQuiet
namespace Go.Proofs.YtffjhbgnhnnfiaaDoor
set_option maxRecDepth 40000
open Go.ChangeShapes Go.WideShapes Go.ChangeAt Go.RowKit
set_option linter.unusedVariables false
set_option linter.unusedSimpArgs false

theorem mx_max (a b : Int) : mxI a b = max a b := by unfold mxI; split <;> omega
set_option maxHeartbeats 400000 in
theorem fsch_far (w : World) (s : Option Addr) (n c : Nat) (h : (1048576 : Int) < n) :
    Calls Tryd.prog 3 #[.slice s n c] w fun e w' => e = .returned (.bool true) ∧ Below w.heap.size w w' := by
  go_enter Tryd.func3, Tryd.ntmps3
  go_wp2_with fail
  refine (big_yes _ _ _ _ h).mono ?_
  rintro e w1 ⟨rfl, rfl⟩
  go_wp2
  go_ret
  exact ⟨rfl, Below.refl _ _⟩
set_option maxRecDepth 20000 in
set_option maxHeartbeats 16000000 in
theorem fsch_near (w : World) (s : Option Addr) (n c : Nat) (h0 : (n : Int) ≤ 1048576) (HC : Hid (Code8 w s n)) (HE : Hid (ErrS w)) :
    Calls Tryd.prog 3 #[.slice s n c] w fun e w' => e = .returned (.bool true) ∧ Below w.heap.size w w' := by
  go_enter Tryd.func3, Tryd.ntmps3
  go_wp2_with fail
  refine (big_no _ _ _ _ h0).mono ?_
  rintro e w1 ⟨rfl, rfl⟩
  rename World => w
  go_wp2_with fail
  refine (drawScheduleOk_any HC).mono ?_
  rintro e w2 ⟨t, m, cap, cr, t2, m2, cap2, X, K, V, U, rfl, m41, m42, hK, RJ, RU, B2⟩
  have HJ : Hid (RowJbs w2 t m X K V) := RJ
  have HU : Hid (RowI w2 t2 m2 U) := RU
  have HB : Hid (Below w.heap.size w w2) := B2
  have HX : Hid (ErrS w2) := HE.out.below B2
  have HK : Hid (∀ i, i < m → (K i : Int) ≤ 1048576) := fun i hi => by have := hK i hi; omega
  obtain ⟨FI, HFI⟩ := sched_ex m X K V cr
  have HF : Hid (∀ r, (∀ j, j < m → (itr m X K V cr r).1 j ≠ nob) → ∀ j, j < m → (itr m X K V cr r).1 j = FI j) := HFI
  clear RJ RU B2 hK HE HC h0 HFI
  obtain ⟨CV, hCV⟩ : ∃ z, criV m X K V = z := ⟨_, rfl⟩
  have HCV : Hid (criV m X K V = CV) := hCV
  obtain ⟨EV, hEV⟩ : ∃ z, sdE m X K V cr FI = z := ⟨_, rfl⟩
  have HEV : Hid (sdE m X K V cr FI = EV) := hEV
  obtain ⟨sn, hsn⟩ : ∃ z, sdN m X K V cr = z := ⟨_, rfl⟩
  have HSN : Hid (sdN m X K V cr = sn) := hsn
  obtain ⟨sb, hsb⟩ : ∃ z, schB m X K V cr m2 U = z := ⟨_, rfl⟩
  have HSB : Hid (schB m X K V cr m2 U = sb) := hsb
  clear hCV hEV hsn hsb
  go_wp2_with fail
  refine (specCritical_any t m cap X K V _ (by omega) HK HJ).mono ?_
  rintro e w3 ⟨rfl, h3⟩
  rw [HCV.out]
  have HJ3 : Hid (RowJbs w3 t m X K V) := HJ.out.below h3
  have HU3 : Hid (RowI w3 t2 m2 U) := HU.out.below h3
  have HB3 : Hid (Below w.heap.size w w3) := HB.out.trans (h3.mono HB.out.size)
  have HX3 : Hid (ErrS w3) := HX.out.below h3
  clear HJ HU HB HX
  clear h3
  go_wp2_with fail
  refine (implCritical_any t m cap X K V _ (by omega) HK HJ3 HX3.out.jobs).mono ?_
  rintro e w4 ⟨rfl, h4⟩
  rw [HCV.out]
  have HJ4 : Hid (RowJbs w4 t m X K V) := HJ3.out.below h4
  have HU4 : Hid (RowI w4 t2 m2 U) := HU3.out.below h4
  have HB4 : Hid (Below w.heap.size w w4) := HB3.out.trans (h4.mono HB3.out.size)
  have HX4 : Hid (ErrS w4) := HX3.out.below h4
  clear HJ3 HU3 HB3 HX3
  clear h4
  go_wp2_with fail
  refine (implSchedule_any t m cap X K V cr FI _ (by omega) HK HF HJ4 HX4.out.jobs).mono ?_
  rintro e w5 ⟨s5, c5, rfl, O5, h5⟩
  rw [HEV.out, HSN.out]
  rw [HSN.out] at O5
  have HO5 : Hid (RowI w5 s5 sn FI) := O5.row
  have HJ5 : Hid (RowJbs w5 t m X K V) := HJ4.out.below h5
  have HU5 : Hid (RowI w5 t2 m2 U) := HU4.out.below h5
  have HB5 : Hid (Below w.heap.size w w5) := HB4.out.trans (h5.mono HB4.out.size)
  have HX5 : Hid (ErrS w5) := HX4.out.below h5
  clear HJ4 HU4 HB4 HX4
  clear h5 O5
  go_wp2_with fail
  refine (specSchedule_any t m cap X K V cr FI _ (by omega) HK HF HJ5).mono ?_
  rintro e w6 ⟨s6, c6, rfl, O6, h6⟩
  rw [HEV.out, HSN.out]
  have HO6 : Hid (RowI w6 s5 sn FI) := HO5.out.below h6
  have HJ6 : Hid (RowJbs w6 t m X K V) := HJ5.out.below h6
  have HU6 : Hid (RowI w6 t2 m2 U) := HU5.out.below h6
  have HB6 : Hid (Below w.heap.size w w6) := HB5.out.trans (h6.mono HB5.out.size)
  have HX6 : Hid (ErrS w6) := HX5.out.below h6
  clear HJ5 HU5 HB5 HX5
  clear h6 O6 HO5
  go_wp2_with fail
  refine (implScheduleOk_any t t2 m cap m2 cap2 X K V cr U _ (by omega) (by omega) HK HJ6 HU6 HX6).mono ?_
  rintro e w7 ⟨rfl, h7⟩
  rw [HSB.out]
  have HO7 : Hid (RowI w7 s5 sn FI) := HO6.out.below h7
  have HJ7 : Hid (RowJbs w7 t m X K V) := HJ6.out.below h7
  have HU7 : Hid (RowI w7 t2 m2 U) := HU6.out.below h7
  have HB7 : Hid (Below w.heap.size w w7) := HB6.out.trans (h7.mono HB6.out.size)
  have HX7 : Hid (ErrS w7) := HX6.out.below h7
  clear HJ6 HU6 HB6 HX6
  clear h7 HO6
  go_wp2_with fail
  refine (specScheduleOk_any t t2 m cap m2 cap2 X K V cr U _ (by omega) (by omega) HK HJ7 HU7).mono ?_
  rintro e w8 ⟨rfl, h8⟩
  rw [HSB.out]
  have HO8 : Hid (RowI w8 s5 sn FI) := HO7.out.below h8
  have HJ8 : Hid (RowJbs w8 t m X K V) := HJ7.out.below h8
  have HU8 : Hid (RowI w8 t2 m2 U) := HU7.out.below h8
  have HB8 : Hid (Below w.heap.size w w8) := HB7.out.trans (h8.mono HB7.out.size)
  have HX8 : Hid (ErrS w8) := HX7.out.below h8
  clear HJ7 HU7 HB7 HX7
  clear h8 HO7
  have hbb : (sb != sb) = false := by simp
  have HBX : Hid (sb = true → ∀ j, j < m → 1 ≤ X j ∧ X j ≤ 1000) := fun q => by
    have p := HSB.out
    rw [q] at p
    obtain ⟨a1, -, -, -⟩ := sch_yes p
    exact (pre_jobs a1).2.1
  have HBU : Hid (sb = true → ∀ j, j < m2 → 0 ≤ U j ∧ U j ≤ 100000) := fun q => by
    have p := HSB.out
    rw [q] at p
    exact (sch_yes p).2.2.2
  have HML : Hid (sb = true → m2 = m ∧ CV ≤ lastF X U m2) := fun q => by
    have p := HSB.out
    rw [q] at p
    have := sch_last p
    rw [HCV.out] at this
    exact this
  go_wp2_with fail
  go_loopw [12, 14] (fun a i wy => ∃ (k : Nat) (ac : Int), k ≤ m2 ∧ i = .int .i64 k ∧ a = .int .i64 ac ∧ Hid (lastF X U k = ac) ∧ Hid (Below w8.heap.size w8 wy)) (fun _ i _ => m2 - (intOf i).toNat)
  case atStart => exact ⟨0, 0, by omega, rfl, rfl, rfl, Below.refl _ _⟩
  case round =>
    obtain ⟨i, ac, hi, rfl, rfl, HAC, HW⟩ := hrel
    rename World => wx
    cases sb
    case false =>
      go_upto_region 20 with fail
      cases hsd : sdB m X K V cr
      case false =>
        obtain rfl : EV = -1 := by rw [← HEV.out]; unfold sdE; rw [hsd]; rfl
        have HBZ : Hid (Below w.heap.size w wx) := HB8.out.trans (HW.out.mono HB8.out.size)
        clear hsd
        go_wp2
        go_ret
        exact ⟨rfl, HBZ.out⟩
      case true =>
        obtain ⟨p1, p2, p3, p4⟩ := sched_right hsd HF.out
        obtain rfl : sn = m := by rw [← HSN.out]; unfold sdN; rw [hsd]; rfl
        have hEL : lastF X FI sn = EV := by rw [← HEV.out]; unfold sdE; rw [hsd]; rfl
        have HEL : Hid (lastF X FI sn = EV) := hEL
        have hE0 : 0 ≤ EV := by rw [← hEL]; exact last_nn sn
        have hEC : CV ≤ EV := by rw [← HCV.out, ← hEL]; exact (sch_last p1).2
        have HSC : Hid (schB sn X K V cr sn FI = true) := p1
        have HEQ : Hid ((sn : Int) ≤ cr → EV = CV) := fun q => by rw [← hEL, ← HCV.out]; exact p2 q
        have HBL : Hid (∀ j, j < sn → 0 ≤ FI j ∧ FI j ≤ 100000) := fun j hj => by have := p3 j hj; omega
        have HBX2 : Hid (∀ j, j < sn → 1 ≤ X j ∧ X j ≤ 1000) := p4
        clear hsd p1 p2 p3 p4 hEL
        go_wp2_with fail
        go_loopw [15, 16] (fun a i wy => ∃ (k : Nat) (ac : Int), k ≤ sn ∧ i = .int .i64 k ∧ a = .int .i64 ac ∧ Hid (lastF X FI k = ac) ∧ Hid (Below w8.heap.size w8 wy)) (fun _ i _ => sn - (intOf i).toNat)
        case atStart => exact ⟨0, 0, by omega, rfl, rfl, rfl, HW⟩
        case round =>
          clear HW
          obtain ⟨i, ac, hi, rfl, rfl, HAC, HW⟩ := hrel
          rename World => wx
          by_cases h1 : i < sn
          case pos =>
            have i1 : (i : Int) < (sn : Int) := by omega
            have hi2 := h1
            have him := h1
            have HBX := HBX2
            obtain ⟨gl, ol, el, zl, cl_⟩ := HO8.out i hi2
            subst el
            obtain ⟨gj, oj, aj, cj, ej, zj, cj0, cj1, -⟩ := HJ8.out i him
            subst ej
            replace cl_ := (HW.out.cell (p := ⟨gl, ol + i, none⟩) zl).trans cl_
            replace cj0 := (HW.out.cell (p := ⟨gj, oj + i * 2, none⟩) zj).trans cj0
            have HL1 : Hid (wx.cell? ⟨gl, ol + i, none⟩ = some (.int .i64 (FI i)) ∧ gl < wx.heap.size ∧ wx.cell? ⟨gj, oj + i * 2, none⟩ = some (.int .i64 (X i)) ∧ gj < wx.heap.size) := ⟨cl_, Nat.lt_of_lt_of_le zl HW.out.size, cj0, Nat.lt_of_lt_of_le zj HW.out.size⟩
            obtain ⟨bF0, bF1⟩ := HBL.out i hi2
            obtain ⟨bX0, bX1⟩ := HBX.out i him
            obtain ⟨fi, hfi⟩ : ∃ z, FI i = z := ⟨_, rfl⟩
            obtain ⟨xi, hxi⟩ : ∃ z, X i = z := ⟨_, rfl⟩
            obtain ⟨mv, hmv⟩ : ∃ z : Int, max ac (fi + xi) = z := ⟨_, rfl⟩
            have HMV : Hid (max ac (fi + xi) = mv) := hmv
            have HLN : Hid (lastF X FI (i + 1) = mv) := by show _ = _; show mxI (lastF X FI i) (FI i + X i) = mv; rw [HAC.out, mx_max, hfi, hxi]; exact hmv
            rw [hfi] at bF0 bF1 HL1
            rw [hxi] at bX0 bX1 HL1
            clear cl_ zl cj0 cj1 zj hmv hfi hxi
            go_upto_region 26 with fail
            refine wp_region_held_drew (S := fun w' => w'.cell? ⟨gl, ol + i, none⟩ = some (.int .i64 fi) ∧ gl < w'.heap.size ∧ w'.cell? ⟨gj, oj + i * 2, none⟩ = some (.int .i64 xi) ∧ gj < w'.heap.size) (by kernel_rfl) ?_ (fun hHeld => ?_)
            · exact HL1.out
            obtain ⟨v0, hv0⟩ : ∃ z, z = wx.drew := ⟨_, rfl⟩
            try rw [← hv0] at hHeld
            rw [← hv0]
            have bv0 : Below wx.heap.size wx v0 := by rw [hv0]; exact Below.drew (Below.refl _ _)
            clear hv0
            have HL2 : Hid (v0.cell? ⟨gl, ol + i, none⟩ = some (.int .i64 fi) ∧ gl < v0.heap.size ∧ v0.cell? ⟨gj, oj + i * 2, none⟩ = some (.int .i64 xi) ∧ gj < v0.heap.size) := ⟨(bv0.cell (p := ⟨gl, ol + i, none⟩) HL1.out.2.1).trans HL1.out.1, Nat.lt_of_lt_of_le HL1.out.2.1 bv0.size, (bv0.cell (p := ⟨gj, oj + i * 2, none⟩) HL1.out.2.2.2).trans HL1.out.2.2.1, Nat.lt_of_lt_of_le HL1.out.2.2.2 bv0.size⟩
            have HW9 : Hid (Below w8.heap.size w8 v0) := HW.out.trans (bv0.mono HW.out.size)
            clear bv0 HL1
            refine wpAnyH_take (i := 0) (v := .int .i64 ac) rfl (by kernel_rfl) (by kernel_rfl) (by kernel_rfl) (fun _ _ _ h => h) (Or.inl ⟨by kernel_rfl, ?_⟩) hHeld ?_
            · intro w' hSw
              obtain ⟨hc0, hz0, hc1, hz1⟩ := hSw
              first | (go_simp; done) | (go_simp; with_reducible rfl) | (go_simp; rw [IntKind.wrap_i64]; omega) | (go_simp; omega)
            simp only [Act.put, List.setIfInBounds_toArray, List.set_cons_zero, List.set_cons_succ]
            refine wpAnyH_take (i := 1) (v := .slice (some ⟨gl, ol, none⟩) sn c5) rfl (by kernel_rfl) (by kernel_rfl) (by kernel_rfl) (fun _ _ _ h => h) (Or.inl ⟨by kernel_rfl, ?_⟩) hHeld ?_
            · intro w' hSw
              obtain ⟨hc0, hz0, hc1, hz1⟩ := hSw
              first | (go_simp; done) | (go_simp; with_reducible rfl) | (go_simp; rw [IntKind.wrap_i64]; omega) | (go_simp; omega)
            simp only [Act.put, List.setIfInBounds_toArray, List.set_cons_zero, List.set_cons_succ]
            refine wpAnyH_take (i := 2) (v := .int .i64 (i : Int)) rfl (by kernel_rfl) (by kernel_rfl) (by kernel_rfl) (fun _ _ _ h => h) (Or.inl ⟨by kernel_rfl, ?_⟩) hHeld ?_
            · intro w' hSw
              obtain ⟨hc0, hz0, hc1, hz1⟩ := hSw
              first | (go_simp; done) | (go_simp; with_reducible rfl) | (go_simp; rw [IntKind.wrap_i64]; omega) | (go_simp; omega)
            simp only [Act.put, List.setIfInBounds_toArray, List.set_cons_zero, List.set_cons_succ]
            refine wpAnyH_take (i := 3) (v := .pointer (some ⟨gl, ol + i, none⟩)) rfl (by kernel_rfl) (by kernel_rfl) (by kernel_rfl) (fun _ _ _ h => h) (Or.inl ⟨by kernel_rfl, ?_⟩) hHeld ?_
            · intro w' hSw
              obtain ⟨hc0, hz0, hc1, hz1⟩ := hSw
              first | (go_simp; done) | (go_simp; with_reducible rfl) | (go_simp; rw [IntKind.wrap_i64]; omega) | (go_simp; omega)
            simp only [Act.put, List.setIfInBounds_toArray, List.set_cons_zero, List.set_cons_succ]
            refine wpAnyH_take (i := 4) (v := .int .i64 fi) rfl (by kernel_rfl) (by kernel_rfl) (by kernel_rfl) (fun _ _ _ h => h) (Or.inl ⟨by kernel_rfl, ?_⟩) hHeld ?_
            · intro w' hSw
              obtain ⟨hc0, hz0, hc1, hz1⟩ := hSw
              first | (go_simp; done) | (go_simp; with_reducible rfl) | (go_simp; rw [IntKind.wrap_i64]; omega) | (go_simp; omega)
            simp only [Act.put, List.setIfInBounds_toArray, List.set_cons_zero, List.set_cons_succ]
            refine wpAnyH_take (i := 5) (v := .slice (some ⟨gj, oj, none⟩) sn cap) rfl (by kernel_rfl) (by kernel_rfl) (by kernel_rfl) (fun _ _ _ h => h) (Or.inl ⟨by kernel_rfl, ?_⟩) hHeld ?_
            · intro w' hSw
              obtain ⟨hc0, hz0, hc1, hz1⟩ := hSw
              first | (go_simp; done) | (go_simp; with_reducible rfl) | (go_simp; rw [IntKind.wrap_i64]; omega) | (go_simp; omega)
            simp only [Act.put, List.setIfInBounds_toArray, List.set_cons_zero, List.set_cons_succ]
            refine wpAnyH_take (i := 6) (v := .int .i64 (i : Int)) rfl (by kernel_rfl) (by kernel_rfl) (by kernel_rfl) (fun _ _ _ h => h) (Or.inl ⟨by kernel_rfl, ?_⟩) hHeld ?_
            · intro w' hSw
              obtain ⟨hc0, hz0, hc1, hz1⟩ := hSw
              first | (go_simp; done) | (go_simp; with_reducible rfl) | (go_simp; rw [IntKind.wrap_i64]; omega) | (go_simp; omega)
            simp only [Act.put, List.setIfInBounds_toArray, List.set_cons_zero, List.set_cons_succ]
            refine wpAnyH_take (i := 7) (v := .pointer (some ⟨gj, oj + i * 2, none⟩)) rfl (by kernel_rfl) (by kernel_rfl) (by kernel_rfl) (fun _ _ _ h => h) (Or.inl ⟨by kernel_rfl, ?_⟩) hHeld ?_
            · intro w' hSw
              obtain ⟨hc0, hz0, hc1, hz1⟩ := hSw
              first | (go_simp; done) | (go_simp; with_reducible rfl) | (go_simp; rw [IntKind.wrap_i64]; omega) | (go_simp; omega)
            simp only [Act.put, List.setIfInBounds_toArray, List.set_cons_zero, List.set_cons_succ]
            refine wpAnyH_take (i := 8) (v := .pointer (some ⟨gj, oj + i * 2, none⟩)) rfl (by kernel_rfl) (by kernel_rfl) (by kernel_rfl) (fun _ _ _ h => h) (Or.inl ⟨by kernel_rfl, ?_⟩) hHeld ?_
            · intro w' hSw
              obtain ⟨hc0, hz0, hc1, hz1⟩ := hSw
              first | (go_simp; done) | (go_simp; with_reducible rfl) | (go_simp; rw [IntKind.wrap_i64]; omega) | (go_simp; omega)
            simp only [Act.put, List.setIfInBounds_toArray, List.set_cons_zero, List.set_cons_succ]
            refine wpAnyH_take (i := 9) (v := .int .i64 xi) rfl (by kernel_rfl) (by kernel_rfl) (by kernel_rfl) (fun _ _ _ h => h) (Or.inl ⟨by kernel_rfl, ?_⟩) hHeld ?_
            · intro w' hSw
              obtain ⟨hc0, hz0, hc1, hz1⟩ := hSw
              first | (go_simp; done) | (go_simp; with_reducible rfl) | (go_simp; rw [IntKind.wrap_i64]; omega) | (go_simp; omega)
            simp only [Act.put, List.setIfInBounds_toArray, List.set_cons_zero, List.set_cons_succ]
            refine wpAnyH_take (i := 10) (v := .int .i64 (fi + xi)) rfl (by kernel_rfl) (by kernel_rfl) (by kernel_rfl) (fun _ _ _ h => h) (Or.inl ⟨by kernel_rfl, ?_⟩) hHeld ?_
            · intro w' hSw
              obtain ⟨hc0, hz0, hc1, hz1⟩ := hSw
              first | (go_simp; done) | (go_simp; with_reducible rfl) | (go_simp; rw [IntKind.wrap_i64]; omega) | (go_simp; omega)
            simp only [Act.put, List.setIfInBounds_toArray, List.set_cons_zero, List.set_cons_succ]
            refine wpAnyH_take (i := 11) (v := .int .i64 mv) rfl (by kernel_rfl) (by kernel_rfl) (by kernel_rfl) (fun _ _ _ h => h) (Or.inl ⟨by kernel_rfl, ?_⟩) hHeld ?_
            · intro w' hSw
              obtain ⟨hc0, hz0, hc1, hz1⟩ := hSw
              (go_simp; exact HMV.out)
            simp only [Act.put, List.setIfInBounds_toArray, List.set_cons_zero, List.set_cons_succ]
            refine wpAnyH_ready (rs := [12]) (by kernel_rfl) (by simp) ?_
            refine AllReadyH.cons rfl (fun KK hK => ?_) AllReadyH.nil
            go_simp
            refine hK.out _ _ hHeld (fun hHeld => ?_)
            clear hK KK
            refine wpAnyH_done (by kernel_rfl) ?_ _
            clear hHeld
            go_wp2
            go_roundw
            case rel => exact ⟨i + 1, mv, by omega, by go_num, rfl, HLN, HW9⟩
            case measure => first | (simp [intOf]; done) | (simp [intOf]; omega)
          case neg =>
            obtain rfl : i = sn := by omega
            obtain rfl : ac = EV := by rw [← HAC.out]; exact HEL.out
            have HOx : Hid (RowI wx s5 i FI) := HO8.out.below HW.out
            have bA : Below wx.heap.size wx (wx.alloc (.cells #[] 2)) := below0 _ _
            have HOa : Hid (RowI (wx.alloc (.cells #[] 2)) s5 i FI) := HOx.out.below bA
            go_wp2_with (at_builtin; refine joinJ_int wx.heap.size (.slice (some ⟨wx.heap.size, 0, none⟩) 0 0) 0 (fun _ => 0) (.tmp 114) (.tmp 115) s5 i c5 FI (by rfl) (by rfl) (by rfl) (by rfl) (Lst.lit wx _ _ 2 1 _ (Nat.le_refl _)) (by omega) (by omega) (by simp) HOa.out ?_; intro v9 w9 l9 b9; obtain ⟨t9, c9, e9⟩ := Lst.form l9; subst e9; have Hl9 : Hid (Lst wx.heap.size 2 1 w9 (.slice t9 (0 + i) c9) (0 + i) (catU (fun _ => 0) (0 * 1) FI)) := l9; have Hb9 : Hid (Below wx.heap.size (wx.alloc (.cells #[] 2)) w9) := b9; clear l9 b9)
            have bW : Below w8.heap.size w8 w9 := HW.out.trans ((bA.trans Hb9.out).mono HW.out.size)
            have HJ9 : Hid (RowJbs w9 t i X K V) := HJ8.out.below bW
            have HX9 : Hid (ErrS w9) := HX8.out.below bW
            have HL9 : Hid (RowI w9 t9 i FI) := by
              obtain ⟨t', c', e', hO⟩ := Lst.own Hl9.out
              cases e'
              rw [Nat.mul_one, Nat.zero_add] at hO
              exact hO.row.congr fun j _ => by unfold catU; rw [if_neg (by omega), show j - 0 * 1 = j by omega]
            have HB9 : Hid (Below w.heap.size w w9) := HB8.out.trans (bW.mono HB8.out.size)
            clear bW Hl9 Hb9 HOa HOx bA
            try rw [Nat.zero_add]
            refine (implScheduleOk_any t t9 i cap i c9 X K V cr FI _ (by omega) (by omega) HK HJ9 HL9 HX9).mono ?_
            rintro e w10 ⟨rfl, h10⟩
            rw [HSC.out]
            have HBZ : Hid (Below w.heap.size w w10) := HB9.out.trans (h10.mono HB9.out.size)
            have hne : (ac != ac) = false := by simp
            have hlt : decide (ac < CV) = false := decide_eq_false (by omega)
            clear h10
            by_cases hcr : cr < (i : Int)
            · go_wp2
              go_ret
              exact ⟨rfl, HBZ.out⟩
            · have hee : ac = CV := HEQ.out (by omega)
              have heb : (ac == CV) = true := by simp [hee]
              have hcd : decide (cr < (i : Int)) = false := decide_eq_false hcr
              clear hee
              go_wp2
              go_ret
              first | exact ⟨rfl, HBZ.out⟩ | exact ⟨ret_bool heb, HBZ.out⟩ | exact ⟨by rw [heb], HBZ.out⟩
    case true =>
      have HBX := (show Hid (∀ j, j < m → 1 ≤ X j ∧ X j ≤ 1000) from HBX.out rfl)
      have HBU := (show Hid (∀ j, j < m2 → 0 ≤ U j ∧ U j ≤ 100000) from HBU.out rfl)
      by_cases h1 : i < m2
      case pos =>
        have i1 : (i : Int) < (m2 : Int) := by omega
        have hi2 := h1
        have him : i < m := by have := (HML.out rfl).1; omega
        have imi : (i : Int) < (m : Int) := by omega
        obtain ⟨gl, ol, el, zl, cl_⟩ := HU8.out i hi2
        subst el
        obtain ⟨gj, oj, aj, cj, ej, zj, cj0, cj1, -⟩ := HJ8.out i him
        subst ej
        replace cl_ := (HW.out.cell (p := ⟨gl, ol + i, none⟩) zl).trans cl_
        replace cj0 := (HW.out.cell (p := ⟨gj, oj + i * 2, none⟩) zj).trans cj0
        have HL1 : Hid (wx.cell? ⟨gl, ol + i, none⟩ = some (.int .i64 (U i)) ∧ gl < wx.heap.size ∧ wx.cell? ⟨gj, oj + i * 2, none⟩ = some (.int .i64 (X i)) ∧ gj < wx.heap.size) := ⟨cl_, Nat.lt_of_lt_of_le zl HW.out.size, cj0, Nat.lt_of_lt_of_le zj HW.out.size⟩
        obtain ⟨bF0, bF1⟩ := HBU.out i hi2
        obtain ⟨bX0, bX1⟩ := HBX.out i him
        obtain ⟨fi, hfi⟩ : ∃ z, U i = z := ⟨_, rfl⟩
        obtain ⟨xi, hxi⟩ : ∃ z, X i = z := ⟨_, rfl⟩
        obtain ⟨mv, hmv⟩ : ∃ z : Int, max ac (fi + xi) = z := ⟨_, rfl⟩
        have HMV : Hid (max ac (fi + xi) = mv) := hmv
        have HLN : Hid (lastF X U (i + 1) = mv) := by show _ = _; show mxI (lastF X U i) (U i + X i) = mv; rw [HAC.out, mx_max, hfi, hxi]; exact hmv
        rw [hfi] at bF0 bF1 HL1
        rw [hxi] at bX0 bX1 HL1
        clear cl_ zl cj0 cj1 zj hmv hfi hxi
        go_upto_region 17 with fail
        refine wp_region_held_drew (S := fun w' => w'.cell? ⟨gl, ol + i, none⟩ = some (.int .i64 fi) ∧ gl < w'.heap.size ∧ w'.cell? ⟨gj, oj + i * 2, none⟩ = some (.int .i64 xi) ∧ gj < w'.heap.size) (by kernel_rfl) ?_ (fun hHeld => ?_)
        · exact HL1.out
        obtain ⟨v0, hv0⟩ : ∃ z, z = wx.drew := ⟨_, rfl⟩
        try rw [← hv0] at hHeld
        rw [← hv0]
        have bv0 : Below wx.heap.size wx v0 := by rw [hv0]; exact Below.drew (Below.refl _ _)
        clear hv0
        have HL2 : Hid (v0.cell? ⟨gl, ol + i, none⟩ = some (.int .i64 fi) ∧ gl < v0.heap.size ∧ v0.cell? ⟨gj, oj + i * 2, none⟩ = some (.int .i64 xi) ∧ gj < v0.heap.size) := ⟨(bv0.cell (p := ⟨gl, ol + i, none⟩) HL1.out.2.1).trans HL1.out.1, Nat.lt_of_lt_of_le HL1.out.2.1 bv0.size, (bv0.cell (p := ⟨gj, oj + i * 2, none⟩) HL1.out.2.2.2).trans HL1.out.2.2.1, Nat.lt_of_lt_of_le HL1.out.2.2.2 bv0.size⟩
        have HW9 : Hid (Below w8.heap.size w8 v0) := HW.out.trans (bv0.mono HW.out.size)
        clear bv0 HL1
        refine wpAnyH_take (i := 0) (v := .int .i64 ac) rfl (by kernel_rfl) (by kernel_rfl) (by kernel_rfl) (fun _ _ _ h => h) (Or.inl ⟨by kernel_rfl, ?_⟩) hHeld ?_
        · intro w' hSw
          obtain ⟨hc0, hz0, hc1, hz1⟩ := hSw
          first | (go_simp; done) | (go_simp; with_reducible rfl) | (go_simp; rw [IntKind.wrap_i64]; omega) | (go_simp; omega)
        simp only [Act.put, List.setIfInBounds_toArray, List.set_cons_zero, List.set_cons_succ]
        refine wpAnyH_take (i := 1) (v := .slice (some ⟨gl, ol, none⟩) m2 cap2) rfl (by kernel_rfl) (by kernel_rfl) (by kernel_rfl) (fun _ _ _ h => h) (Or.inl ⟨by kernel_rfl, ?_⟩) hHeld ?_
        · intro w' hSw
          obtain ⟨hc0, hz0, hc1, hz1⟩ := hSw
          first | (go_simp; done) | (go_simp; with_reducible rfl) | (go_simp; rw [IntKind.wrap_i64]; omega) | (go_simp; omega)
        simp only [Act.put, List.setIfInBounds_toArray, List.set_cons_zero, List.set_cons_succ]
        refine wpAnyH_take (i := 2) (v := .int .i64 (i : Int)) rfl (by kernel_rfl) (by kernel_rfl) (by kernel_rfl) (fun _ _ _ h => h) (Or.inl ⟨by kernel_rfl, ?_⟩) hHeld ?_
        · intro w' hSw
          obtain ⟨hc0, hz0, hc1, hz1⟩ := hSw
          first | (go_simp; done) | (go_simp; with_reducible rfl) | (go_simp; rw [IntKind.wrap_i64]; omega) | (go_simp; omega)
        simp only [Act.put, List.setIfInBounds_toArray, List.set_cons_zero, List.set_cons_succ]
        refine wpAnyH_take (i := 3) (v := .pointer (some ⟨gl, ol + i, none⟩)) rfl (by kernel_rfl) (by kernel_rfl) (by kernel_rfl) (fun _ _ _ h => h) (Or.inl ⟨by kernel_rfl, ?_⟩) hHeld ?_
        · intro w' hSw
          obtain ⟨hc0, hz0, hc1, hz1⟩ := hSw
          first | (go_simp; done) | (go_simp; with_reducible rfl) | (go_simp; rw [IntKind.wrap_i64]; omega) | (go_simp; omega)
        simp only [Act.put, List.setIfInBounds_toArray, List.set_cons_zero, List.set_cons_succ]
        refine wpAnyH_take (i := 4) (v := .int .i64 fi) rfl (by kernel_rfl) (by kernel_rfl) (by kernel_rfl) (fun _ _ _ h => h) (Or.inl ⟨by kernel_rfl, ?_⟩) hHeld ?_
        · intro w' hSw
          obtain ⟨hc0, hz0, hc1, hz1⟩ := hSw
          first | (go_simp; done) | (go_simp; with_reducible rfl) | (go_simp; rw [IntKind.wrap_i64]; omega) | (go_simp; omega)
        simp only [Act.put, List.setIfInBounds_toArray, List.set_cons_zero, List.set_cons_succ]
        refine wpAnyH_take (i := 5) (v := .slice (some ⟨gj, oj, none⟩) m cap) rfl (by kernel_rfl) (by kernel_rfl) (by kernel_rfl) (fun _ _ _ h => h) (Or.inl ⟨by kernel_rfl, ?_⟩) hHeld ?_
        · intro w' hSw
          obtain ⟨hc0, hz0, hc1, hz1⟩ := hSw
          first | (go_simp; done) | (go_simp; with_reducible rfl) | (go_simp; rw [IntKind.wrap_i64]; omega) | (go_simp; omega)
        simp only [Act.put, List.setIfInBounds_toArray, List.set_cons_zero, List.set_cons_succ]
        refine wpAnyH_take (i := 6) (v := .int .i64 (i : Int)) rfl (by kernel_rfl) (by kernel_rfl) (by kernel_rfl) (fun _ _ _ h => h) (Or.inl ⟨by kernel_rfl, ?_⟩) hHeld ?_
        · intro w' hSw
          obtain ⟨hc0, hz0, hc1, hz1⟩ := hSw
          first | (go_simp; done) | (go_simp; with_reducible rfl) | (go_simp; rw [IntKind.wrap_i64]; omega) | (go_simp; omega)
        simp only [Act.put, List.setIfInBounds_toArray, List.set_cons_zero, List.set_cons_succ]
        refine wpAnyH_take (i := 7) (v := .pointer (some ⟨gj, oj + i * 2, none⟩)) rfl (by kernel_rfl) (by kernel_rfl) (by kernel_rfl) (fun _ _ _ h => h) (Or.inl ⟨by kernel_rfl, ?_⟩) hHeld ?_
        · intro w' hSw
          obtain ⟨hc0, hz0, hc1, hz1⟩ := hSw
          first | (go_simp; done) | (go_simp; with_reducible rfl) | (go_simp; rw [IntKind.wrap_i64]; omega) | (go_simp; omega)
        simp only [Act.put, List.setIfInBounds_toArray, List.set_cons_zero, List.set_cons_succ]
        refine wpAnyH_take (i := 8) (v := .pointer (some ⟨gj, oj + i * 2, none⟩)) rfl (by kernel_rfl) (by kernel_rfl) (by kernel_rfl) (fun _ _ _ h => h) (Or.inl ⟨by kernel_rfl, ?_⟩) hHeld ?_
        · intro w' hSw
          obtain ⟨hc0, hz0, hc1, hz1⟩ := hSw
          first | (go_simp; done) | (go_simp; with_reducible rfl) | (go_simp; rw [IntKind.wrap_i64]; omega) | (go_simp; omega)
        simp only [Act.put, List.setIfInBounds_toArray, List.set_cons_zero, List.set_cons_succ]
        refine wpAnyH_take (i := 9) (v := .int .i64 xi) rfl (by kernel_rfl) (by kernel_rfl) (by kernel_rfl) (fun _ _ _ h => h) (Or.inl ⟨by kernel_rfl, ?_⟩) hHeld ?_
        · intro w' hSw
          obtain ⟨hc0, hz0, hc1, hz1⟩ := hSw
          first | (go_simp; done) | (go_simp; with_reducible rfl) | (go_simp; rw [IntKind.wrap_i64]; omega) | (go_simp; omega)
        simp only [Act.put, List.setIfInBounds_toArray, List.set_cons_zero, List.set_cons_succ]
        refine wpAnyH_take (i := 10) (v := .int .i64 (fi + xi)) rfl (by kernel_rfl) (by kernel_rfl) (by kernel_rfl) (fun _ _ _ h => h) (Or.inl ⟨by kernel_rfl, ?_⟩) hHeld ?_
        · intro w' hSw
          obtain ⟨hc0, hz0, hc1, hz1⟩ := hSw
          first | (go_simp; done) | (go_simp; with_reducible rfl) | (go_simp; rw [IntKind.wrap_i64]; omega) | (go_simp; omega)
        simp only [Act.put, List.setIfInBounds_toArray, List.set_cons_zero, List.set_cons_succ]
        refine wpAnyH_take (i := 11) (v := .int .i64 mv) rfl (by kernel_rfl) (by kernel_rfl) (by kernel_rfl) (fun _ _ _ h => h) (Or.inl ⟨by kernel_rfl, ?_⟩) hHeld ?_
        · intro w' hSw
          obtain ⟨hc0, hz0, hc1, hz1⟩ := hSw
          (go_simp; exact HMV.out)
        simp only [Act.put, List.setIfInBounds_toArray, List.set_cons_zero, List.set_cons_succ]
        refine wpAnyH_ready (rs := [12]) (by kernel_rfl) (by simp) ?_
        refine AllReadyH.cons rfl (fun KK hK => ?_) AllReadyH.nil
        go_simp
        refine hK.out _ _ hHeld (fun hHeld => ?_)
        clear hK KK
        refine wpAnyH_done (by kernel_rfl) ?_ _
        clear hHeld
        go_wp2
        go_roundw
        case rel => exact ⟨i + 1, mv, by omega, by go_num, rfl, HLN, HW9⟩
        case measure => first | (simp [intOf]; done) | (simp [intOf]; omega)
      case neg =>
        obtain rfl : i = m2 := by omega
        have hle : CV ≤ ac := by rw [← HAC.out]; exact (HML.out rfl).2
        have hld : decide (ac < CV) = false := decide_eq_false (by omega)
        go_upto_region 20 with fail
        cases hsd : sdB m X K V cr
        case false =>
          obtain rfl : EV = -1 := by rw [← HEV.out]; unfold sdE; rw [hsd]; rfl
          have HBZ : Hid (Below w.heap.size w wx) := HB8.out.trans (HW.out.mono HB8.out.size)
          clear hsd
          go_wp2
          go_ret
          exact ⟨rfl, HBZ.out⟩
        case true =>
          obtain ⟨p1, p2, p3, p4⟩ := sched_right hsd HF.out
          obtain rfl : sn = m := by rw [← HSN.out]; unfold sdN; rw [hsd]; rfl
          have hEL : lastF X FI sn = EV := by rw [← HEV.out]; unfold sdE; rw [hsd]; rfl
          have HEL : Hid (lastF X FI sn = EV) := hEL
          have hE0 : 0 ≤ EV := by rw [← hEL]; exact last_nn sn
          have hEC : CV ≤ EV := by rw [← HCV.out, ← hEL]; exact (sch_last p1).2
          have HSC : Hid (schB sn X K V cr sn FI = true) := p1
          have HEQ : Hid ((sn : Int) ≤ cr → EV = CV) := fun q => by rw [← hEL, ← HCV.out]; exact p2 q
          have HBL : Hid (∀ j, j < sn → 0 ≤ FI j ∧ FI j ≤ 100000) := fun j hj => by have := p3 j hj; omega
          have HBX2 : Hid (∀ j, j < sn → 1 ≤ X j ∧ X j ≤ 1000) := p4
          clear hsd p1 p2 p3 p4 hEL
          go_wp2_with fail
          go_loopw [15, 16] (fun a i wy => ∃ (k : Nat) (ac : Int), k ≤ sn ∧ i = .int .i64 k ∧ a = .int .i64 ac ∧ Hid (lastF X FI k = ac) ∧ Hid (Below w8.heap.size w8 wy)) (fun _ i _ => sn - (intOf i).toNat)
          case atStart => exact ⟨0, 0, by omega, rfl, rfl, rfl, HW⟩
          case round =>
            clear HW
            obtain ⟨i, ac, hi, rfl, rfl, HAC, HW⟩ := hrel
            rename World => wx
            by_cases h1 : i < sn
            case pos =>
              have i1 : (i : Int) < (sn : Int) := by omega
              have hi2 := h1
              have him := h1
              have HBX := HBX2
              obtain ⟨gl, ol, el, zl, cl_⟩ := HO8.out i hi2
              subst el
              obtain ⟨gj, oj, aj, cj, ej, zj, cj0, cj1, -⟩ := HJ8.out i him
              subst ej
              replace cl_ := (HW.out.cell (p := ⟨gl, ol + i, none⟩) zl).trans cl_
              replace cj0 := (HW.out.cell (p := ⟨gj, oj + i * 2, none⟩) zj).trans cj0
              have HL1 : Hid (wx.cell? ⟨gl, ol + i, none⟩ = some (.int .i64 (FI i)) ∧ gl < wx.heap.size ∧ wx.cell? ⟨gj, oj + i * 2, none⟩ = some (.int .i64 (X i)) ∧ gj < wx.heap.size) := ⟨cl_, Nat.lt_of_lt_of_le zl HW.out.size, cj0, Nat.lt_of_lt_of_le zj HW.out.size⟩
              obtain ⟨bF0, bF1⟩ := HBL.out i hi2
              obtain ⟨bX0, bX1⟩ := HBX.out i him
              obtain ⟨fi, hfi⟩ : ∃ z, FI i = z := ⟨_, rfl⟩
              obtain ⟨xi, hxi⟩ : ∃ z, X i = z := ⟨_, rfl⟩
              obtain ⟨mv, hmv⟩ : ∃ z : Int, max ac (fi + xi) = z := ⟨_, rfl⟩
              have HMV : Hid (max ac (fi + xi) = mv) := hmv
              have HLN : Hid (lastF X FI (i + 1) = mv) := by show _ = _; show mxI (lastF X FI i) (FI i + X i) = mv; rw [HAC.out, mx_max, hfi, hxi]; exact hmv
              rw [hfi] at bF0 bF1 HL1
              rw [hxi] at bX0 bX1 HL1
              clear cl_ zl cj0 cj1 zj hmv hfi hxi
              go_upto_region 26 with fail
              refine wp_region_held_drew (S := fun w' => w'.cell? ⟨gl, ol + i, none⟩ = some (.int .i64 fi) ∧ gl < w'.heap.size ∧ w'.cell? ⟨gj, oj + i * 2, none⟩ = some (.int .i64 xi) ∧ gj < w'.heap.size) (by kernel_rfl) ?_ (fun hHeld => ?_)
              · exact HL1.out
              obtain ⟨v0, hv0⟩ : ∃ z, z = wx.drew := ⟨_, rfl⟩
              try rw [← hv0] at hHeld
              rw [← hv0]
              have bv0 : Below wx.heap.size wx v0 := by rw [hv0]; exact Below.drew (Below.refl _ _)
              clear hv0
              have HL2 : Hid (v0.cell? ⟨gl, ol + i, none⟩ = some (.int .i64 fi) ∧ gl < v0.heap.size ∧ v0.cell? ⟨gj, oj + i * 2, none⟩ = some (.int .i64 xi) ∧ gj < v0.heap.size) := ⟨(bv0.cell (p := ⟨gl, ol + i, none⟩) HL1.out.2.1).trans HL1.out.1, Nat.lt_of_lt_of_le HL1.out.2.1 bv0.size, (bv0.cell (p := ⟨gj, oj + i * 2, none⟩) HL1.out.2.2.2).trans HL1.out.2.2.1, Nat.lt_of_lt_of_le HL1.out.2.2.2 bv0.size⟩
              have HW9 : Hid (Below w8.heap.size w8 v0) := HW.out.trans (bv0.mono HW.out.size)
              clear bv0 HL1
              refine wpAnyH_take (i := 0) (v := .int .i64 ac) rfl (by kernel_rfl) (by kernel_rfl) (by kernel_rfl) (fun _ _ _ h => h) (Or.inl ⟨by kernel_rfl, ?_⟩) hHeld ?_
              · intro w' hSw
                obtain ⟨hc0, hz0, hc1, hz1⟩ := hSw
                first | (go_simp; done) | (go_simp; with_reducible rfl) | (go_simp; rw [IntKind.wrap_i64]; omega) | (go_simp; omega)
              simp only [Act.put, List.setIfInBounds_toArray, List.set_cons_zero, List.set_cons_succ]
              refine wpAnyH_take (i := 1) (v := .slice (some ⟨gl, ol, none⟩) sn c5) rfl (by kernel_rfl) (by kernel_rfl) (by kernel_rfl) (fun _ _ _ h => h) (Or.inl ⟨by kernel_rfl, ?_⟩) hHeld ?_
              · intro w' hSw
                obtain ⟨hc0, hz0, hc1, hz1⟩ := hSw
                first | (go_simp; done) | (go_simp; with_reducible rfl) | (go_simp; rw [IntKind.wrap_i64]; omega) | (go_simp; omega)
              simp only [Act.put, List.setIfInBounds_toArray, List.set_cons_zero, List.set_cons_succ]
              refine wpAnyH_take (i := 2) (v := .int .i64 (i : Int)) rfl (by kernel_rfl) (by kernel_rfl) (by kernel_rfl) (fun _ _ _ h => h) (Or.inl ⟨by kernel_rfl, ?_⟩) hHeld ?_
              · intro w' hSw
                obtain ⟨hc0, hz0, hc1, hz1⟩ := hSw
                first | (go_simp; done) | (go_simp; with_reducible rfl) | (go_simp; rw [IntKind.wrap_i64]; omega) | (go_simp; omega)
              simp only [Act.put, List.setIfInBounds_toArray, List.set_cons_zero, List.set_cons_succ]
              refine wpAnyH_take (i := 3) (v := .pointer (some ⟨gl, ol + i, none⟩)) rfl (by kernel_rfl) (by kernel_rfl) (by kernel_rfl) (fun _ _ _ h => h) (Or.inl ⟨by kernel_rfl, ?_⟩) hHeld ?_
              · intro w' hSw
                obtain ⟨hc0, hz0, hc1, hz1⟩ := hSw
                first | (go_simp; done) | (go_simp; with_reducible rfl) | (go_simp; rw [IntKind.wrap_i64]; omega) | (go_simp; omega)
              simp only [Act.put, List.setIfInBounds_toArray, List.set_cons_zero, List.set_cons_succ]
              refine wpAnyH_take (i := 4) (v := .int .i64 fi) rfl (by kernel_rfl) (by kernel_rfl) (by kernel_rfl) (fun _ _ _ h => h) (Or.inl ⟨by kernel_rfl, ?_⟩) hHeld ?_
              · intro w' hSw
                obtain ⟨hc0, hz0, hc1, hz1⟩ := hSw
                first | (go_simp; done) | (go_simp; with_reducible rfl) | (go_simp; rw [IntKind.wrap_i64]; omega) | (go_simp; omega)
              simp only [Act.put, List.setIfInBounds_toArray, List.set_cons_zero, List.set_cons_succ]
              refine wpAnyH_take (i := 5) (v := .slice (some ⟨gj, oj, none⟩) sn cap) rfl (by kernel_rfl) (by kernel_rfl) (by kernel_rfl) (fun _ _ _ h => h) (Or.inl ⟨by kernel_rfl, ?_⟩) hHeld ?_
              · intro w' hSw
                obtain ⟨hc0, hz0, hc1, hz1⟩ := hSw
                first | (go_simp; done) | (go_simp; with_reducible rfl) | (go_simp; rw [IntKind.wrap_i64]; omega) | (go_simp; omega)
              simp only [Act.put, List.setIfInBounds_toArray, List.set_cons_zero, List.set_cons_succ]
              refine wpAnyH_take (i := 6) (v := .int .i64 (i : Int)) rfl (by kernel_rfl) (by kernel_rfl) (by kernel_rfl) (fun _ _ _ h => h) (Or.inl ⟨by kernel_rfl, ?_⟩) hHeld ?_
              · intro w' hSw
                obtain ⟨hc0, hz0, hc1, hz1⟩ := hSw
                first | (go_simp; done) | (go_simp; with_reducible rfl) | (go_simp; rw [IntKind.wrap_i64]; omega) | (go_simp; omega)
              simp only [Act.put, List.setIfInBounds_toArray, List.set_cons_zero, List.set_cons_succ]
              refine wpAnyH_take (i := 7) (v := .pointer (some ⟨gj, oj + i * 2, none⟩)) rfl (by kernel_rfl) (by kernel_rfl) (by kernel_rfl) (fun _ _ _ h => h) (Or.inl ⟨by kernel_rfl, ?_⟩) hHeld ?_
              · intro w' hSw
                obtain ⟨hc0, hz0, hc1, hz1⟩ := hSw
                first | (go_simp; done) | (go_simp; with_reducible rfl) | (go_simp; rw [IntKind.wrap_i64]; omega) | (go_simp; omega)
              simp only [Act.put, List.setIfInBounds_toArray, List.set_cons_zero, List.set_cons_succ]
              refine wpAnyH_take (i := 8) (v := .pointer (some ⟨gj, oj + i * 2, none⟩)) rfl (by kernel_rfl) (by kernel_rfl) (by kernel_rfl) (fun _ _ _ h => h) (Or.inl ⟨by kernel_rfl, ?_⟩) hHeld ?_
              · intro w' hSw
                obtain ⟨hc0, hz0, hc1, hz1⟩ := hSw
                first | (go_simp; done) | (go_simp; with_reducible rfl) | (go_simp; rw [IntKind.wrap_i64]; omega) | (go_simp; omega)
              simp only [Act.put, List.setIfInBounds_toArray, List.set_cons_zero, List.set_cons_succ]
              refine wpAnyH_take (i := 9) (v := .int .i64 xi) rfl (by kernel_rfl) (by kernel_rfl) (by kernel_rfl) (fun _ _ _ h => h) (Or.inl ⟨by kernel_rfl, ?_⟩) hHeld ?_
              · intro w' hSw
                obtain ⟨hc0, hz0, hc1, hz1⟩ := hSw
                first | (go_simp; done) | (go_simp; with_reducible rfl) | (go_simp; rw [IntKind.wrap_i64]; omega) | (go_simp; omega)
              simp only [Act.put, List.setIfInBounds_toArray, List.set_cons_zero, List.set_cons_succ]
              refine wpAnyH_take (i := 10) (v := .int .i64 (fi + xi)) rfl (by kernel_rfl) (by kernel_rfl) (by kernel_rfl) (fun _ _ _ h => h) (Or.inl ⟨by kernel_rfl, ?_⟩) hHeld ?_
              · intro w' hSw
                obtain ⟨hc0, hz0, hc1, hz1⟩ := hSw
                first | (go_simp; done) | (go_simp; with_reducible rfl) | (go_simp; rw [IntKind.wrap_i64]; omega) | (go_simp; omega)
              simp only [Act.put, List.setIfInBounds_toArray, List.set_cons_zero, List.set_cons_succ]
              refine wpAnyH_take (i := 11) (v := .int .i64 mv) rfl (by kernel_rfl) (by kernel_rfl) (by kernel_rfl) (fun _ _ _ h => h) (Or.inl ⟨by kernel_rfl, ?_⟩) hHeld ?_
              · intro w' hSw
                obtain ⟨hc0, hz0, hc1, hz1⟩ := hSw
                (go_simp; exact HMV.out)
              simp only [Act.put, List.setIfInBounds_toArray, List.set_cons_zero, List.set_cons_succ]
              refine wpAnyH_ready (rs := [12]) (by kernel_rfl) (by simp) ?_
              refine AllReadyH.cons rfl (fun KK hK => ?_) AllReadyH.nil
              go_simp
              refine hK.out _ _ hHeld (fun hHeld => ?_)
              clear hK KK
              refine wpAnyH_done (by kernel_rfl) ?_ _
              clear hHeld
              go_wp2
              go_roundw
              case rel => exact ⟨i + 1, mv, by omega, by go_num, rfl, HLN, HW9⟩
              case measure => first | (simp [intOf]; done) | (simp [intOf]; omega)
            case neg =>
              obtain rfl : i = sn := by omega
              obtain rfl : ac = EV := by rw [← HAC.out]; exact HEL.out
              have HOx : Hid (RowI wx s5 i FI) := HO8.out.below HW.out
              have bA : Below wx.heap.size wx (wx.alloc (.cells #[] 2)) := below0 _ _
              have HOa : Hid (RowI (wx.alloc (.cells #[] 2)) s5 i FI) := HOx.out.below bA
              go_wp2_with (at_builtin; refine joinJ_int wx.heap.size (.slice (some ⟨wx.heap.size, 0, none⟩) 0 0) 0 (fun _ => 0) (.tmp 114) (.tmp 115) s5 i c5 FI (by rfl) (by rfl) (by rfl) (by rfl) (Lst.lit wx _ _ 2 1 _ (Nat.le_refl _)) (by omega) (by omega) (by simp) HOa.out ?_; intro v9 w9 l9 b9; obtain ⟨t9, c9, e9⟩ := Lst.form l9; subst e9; have Hl9 : Hid (Lst wx.heap.size 2 1 w9 (.slice t9 (0 + i) c9) (0 + i) (catU (fun _ => 0) (0 * 1) FI)) := l9; have Hb9 : Hid (Below wx.heap.size (wx.alloc (.cells #[] 2)) w9) := b9; clear l9 b9)
              have bW : Below w8.heap.size w8 w9 := HW.out.trans ((bA.trans Hb9.out).mono HW.out.size)
              have HJ9 : Hid (RowJbs w9 t i X K V) := HJ8.out.below bW
              have HX9 : Hid (ErrS w9) := HX8.out.below bW
              have HL9 : Hid (RowI w9 t9 i FI) := by
                obtain ⟨t', c', e', hO⟩ := Lst.own Hl9.out
                cases e'
                rw [Nat.mul_one, Nat.zero_add] at hO
                exact hO.row.congr fun j _ => by unfold catU; rw [if_neg (by omega), show j - 0 * 1 = j by omega]
              have HB9 : Hid (Below w.heap.size w w9) := HB8.out.trans (bW.mono HB8.out.size)
              clear bW Hl9 Hb9 HOa HOx bA
              try rw [Nat.zero_add]
              refine (implScheduleOk_any t t9 i cap i c9 X K V cr FI _ (by omega) (by omega) HK HJ9 HL9 HX9).mono ?_
              rintro e w10 ⟨rfl, h10⟩
              rw [HSC.out]
              have HBZ : Hid (Below w.heap.size w w10) := HB9.out.trans (h10.mono HB9.out.size)
              have hne : (ac != ac) = false := by simp
              have hlt : decide (ac < CV) = false := decide_eq_false (by omega)
              clear h10
              by_cases hcr : cr < (i : Int)
              · go_wp2
                go_ret
                exact ⟨rfl, HBZ.out⟩
              · have hee : ac = CV := HEQ.out (by omega)
                have heb : (ac == CV) = true := by simp [hee]
                have hcd : decide (cr < (i : Int)) = false := decide_eq_false hcr
                clear hee
                go_wp2
                go_ret
                first | exact ⟨rfl, HBZ.out⟩ | exact ⟨ret_bool heb, HBZ.out⟩ | exact ⟨by rw [heb], HBZ.out⟩
theorem fnSchedules_walk (w : World) (s : Option Addr) (n c : Nat) (hn : n ≤ 9223372036854775807) (R : Bytes w s n) (HWd : ErrS w) :
    Calls Tryd.prog 3 #[.slice s n c] w fun e w' => e = .returned (.bool true) ∧ Below w.heap.size w w' := by
  by_cases h : n ≤ 1048576
  · exact fsch_near w s n c (by omega) (R.code h) HWd
  · exact fsch_far w s n c (by omega)

theorem fnSchedules_star : "*" ++ "errors.errorString" = "*errors.errorString" := by decide
theorem fnSchedules_ptr (u : TypeId) (h : Tryd.prog.typeName? 3 u = some "*errors.errorString") : u = 122 :=
  typeName_ptr_named (nm := "errors.errorString") (by rw [fnSchedules_star]; kernel_rfl) (by kernel_rfl) (by decide) u (by rw [fnSchedules_star]; exact h)
theorem fnSchedules_lt {W : World} {g : Nat} {v : Value} (h : W.cell? ⟨g, 0, none⟩ = some v) : g < W.heap.size := by
  rcases Nat.lt_or_ge g W.heap.size with k | k
  · exact k
  · simp [World.cell?, Array.getElem?_eq_none k] at h
theorem fnSchedules_errs {W : World} (h : laidMetH Tryd.prog Rows.fnSchedulesRow.laid W) : ErrS W := by
  have h' : laidMet Tryd.prog Rows.fnSchedulesRow.laid.tail W ∧ handlesMet Tryd.prog (Rows.fnSchedulesRow.laid.take 1) W := h
  obtain ⟨name, u, ty, e1, e2, e3, e4, e5⟩ := h'.2 _ (List.mem_singleton.2 rfl)
  have en : name = [101, 114, 114, 111, 114] := (Option.some.inj e1).symm
  subst en
  have eu : u = 109 := by
    have h2 : some u = some 109 := e2.symm.trans (by kernel_rfl)
    exact Option.some.inj h2
  subst eu
  have sz : Tryd.prog.types.size = 162 := by kernel_rfl
  have one : ((List.range 162).filter fun t => Tryd.prog.rowNamed t [101, 114, 114, 111, 114]) = [54] := by kernel_rfl
  have hm : ty ∈ (List.range 162).filter fun t => Tryd.prog.rowNamed t [101, 114, 114, 111, 114] := List.mem_filter.2 ⟨List.mem_range.2 (by rw [← sz]; exact e3), e4⟩
  rw [one] at hm
  obtain rfl := List.mem_singleton.1 hm
  have hh : typeHandle Tryd.prog 54 = .pointer (some ⟨6, 54, none⟩) := by kernel_rfl
  rw [hh] at e5
  have ce : W.cell? ⟨5, 0, none⟩ = some (.iface 109 (.agg #[.pointer (some ⟨6, 54, none⟩)])) := by simpa using World.var?_cell (g := 5) (by kernel_rfl) e5 0
  have l0 := h'.1
  obtain ⟨a0, s0, hv0, -, -, -⟩ := laid_sentinel (g := 0) (ti := 54) (tp := 122) (te := 145) (ts := 9) l0 (by kernel_rfl) (by kernel_rfl) Tryd.underlying54 fnSchedules_ptr Tryd.underlying122 Tryd.underlying145 rfl rfl Tryd.underlying9 (by kernel_rfl) (by kernel_rfl)
  have c0 : W.cell? ⟨0, 0, none⟩ = some (.iface 122 (.pointer (some a0))) := by simpa using World.var?_cell (g := 0) (by kernel_rfl) hv0 0
  have l1 := cells_of_tail l0
  obtain ⟨a1, s1, hv1, -, -, -⟩ := laid_sentinel (g := 1) (ti := 54) (tp := 122) (te := 145) (ts := 9) l1 (by kernel_rfl) (by kernel_rfl) Tryd.underlying54 fnSchedules_ptr Tryd.underlying122 Tryd.underlying145 rfl rfl Tryd.underlying9 (by kernel_rfl) (by kernel_rfl)
  have c1 : W.cell? ⟨1, 0, none⟩ = some (.iface 122 (.pointer (some a1))) := by simpa using World.var?_cell (g := 1) (by kernel_rfl) hv1 0
  have l2 := cells_of_tail l1
  obtain ⟨a2, s2, hv2, -, -, -⟩ := laid_sentinel (g := 2) (ti := 54) (tp := 122) (te := 145) (ts := 9) l2 (by kernel_rfl) (by kernel_rfl) Tryd.underlying54 fnSchedules_ptr Tryd.underlying122 Tryd.underlying145 rfl rfl Tryd.underlying9 (by kernel_rfl) (by kernel_rfl)
  have c2 : W.cell? ⟨2, 0, none⟩ = some (.iface 122 (.pointer (some a2))) := by simpa using World.var?_cell (g := 2) (by kernel_rfl) hv2 0
  have l3 := cells_of_tail l2
  obtain ⟨a3, s3, hv3, -, -, -⟩ := laid_sentinel (g := 3) (ti := 54) (tp := 122) (te := 145) (ts := 9) l3 (by kernel_rfl) (by kernel_rfl) Tryd.underlying54 fnSchedules_ptr Tryd.underlying122 Tryd.underlying145 rfl rfl Tryd.underlying9 (by kernel_rfl) (by kernel_rfl)
  have c3 : W.cell? ⟨3, 0, none⟩ = some (.iface 122 (.pointer (some a3))) := by simpa using World.var?_cell (g := 3) (by kernel_rfl) hv3 0
  have l4 := cells_of_tail l3
  obtain ⟨a4, s4, hv4, -, -, -⟩ := laid_sentinel (g := 4) (ti := 54) (tp := 122) (te := 145) (ts := 9) l4 (by kernel_rfl) (by kernel_rfl) Tryd.underlying54 fnSchedules_ptr Tryd.underlying122 Tryd.underlying145 rfl rfl Tryd.underlying9 (by kernel_rfl) (by kernel_rfl)
  have c4 : W.cell? ⟨4, 0, none⟩ = some (.iface 122 (.pointer (some a4))) := by simpa using World.var?_cell (g := 4) (by kernel_rfl) hv4 0
  exact ⟨⟨fnSchedules_lt ce, ce⟩, ⟨fnSchedules_lt c0, _, _, c0⟩, ⟨fnSchedules_lt c1, _, _, c1⟩, ⟨fnSchedules_lt c2, _, _, c2⟩, ⟨fnSchedules_lt c3, _, _, c3⟩, ⟨fnSchedules_lt c4, _, _, c4⟩⟩
theorem fnSchedules_vars {H : Type} {enc : TypeId × Value → H} {P : Program} {w : World} {sp : Nat → Bool} : ∀ {ns : List String} {gs : List (DataW H)} {ps : List MemPlace}, DataW.TrodVars enc P w sp ns gs ps → gs.length = ns.length
  | [], [], _, _ => rfl
  | [], _ :: _, _, h => h.elim
  | _ :: _, [], _, h => h.elim
  | _ :: _, _ :: _, _, ⟨_, _, _, _, _, _, _, _, _, _, hs, _⟩ => by simp [fnSchedules_vars hs]
theorem fnSchedules_contract (H : Type) (enc : TypeId × Value → H) (W : World) (base : Nat) (args : Array Value) (ds gs : List (DataW H)) (before : List MemPlace)
    (hval : ∀ (j : Nat) t v, Tryd.f3.params[j]? = some t → args[j]? = some v → Value.okWide Tryd.prog W .any base t v)
    (hW : DataW.Whole enc Tryd.prog Tryd.f3.params.toList Rows.fnSchedulesSpec.vars false W args.toList ds gs before) (hL : laidMetH Tryd.prog Rows.fnSchedulesRow.laid W) :
    Calls Tryd.prog 3 args W fun e W' => ∃ v, e = .returned v ∧ Rows.fnSchedulesSpec.post enc Tryd.prog Tryd.f3 false true false false W args v W' := by
  have hW' := hW
  obtain ⟨p, q, hA0, hV, rfl, hfz, hnd⟩ := hW
  have hA : DataW.TrodAll enc Tryd.prog W 0 (fun _ => true) true Tryd.f3.params.toList args.toList ds p := hA0
  rw [Tryd.params3] at hA hval
  obtain ⟨v0, vs0, d0, ds0, p0, q0, hargs, rfl, rfl, h0, r0⟩ := trodAll_cons hA
  obtain ⟨rfl, rfl, rfl⟩ := trodAll_nil r0
  obtain rfl : args = #[v0] := by cases args; simp_all
  have hV2 := hV
  have hlen := fnSchedules_vars hV
  obtain ⟨y0, y1, y2, y3, y4, rfl⟩ : ∃ y0 y1 y2 y3 y4, gs = [y0, y1, y2, y3, y4] := by
    have hl : gs.length = 5 := hlen.trans (by kernel_rfl)
    rcases gs with _ | ⟨y0, _ | ⟨y1, _ | ⟨y2, _ | ⟨y3, _ | ⟨y4, _ | ⟨z, r⟩⟩⟩⟩⟩⟩
    · cases hl
    · cases hl
    · cases hl
    · cases hl
    · cases hl
    · exact ⟨_, _, _, _, _, rfl⟩
    · simp at hl
  have k0 := h0
  have lt0 : ∀ x ∈ p0, x.block < W.heap.size := by obtain ⟨m, hm⟩ := k0; exact DataW.trod_lt m _ _ _ hm
  obtain ⟨s0, n0, c0, rfl, m0, R0⟩ := open_code Tryd.underlying22 Tryd.underlying5 (by kernel_rfl) (hval 0 22 v0 rfl rfl) h0
  clear hA0
  refine (fnSchedules_walk W s0 n0 c0 m0 R0 (fnSchedules_errs hL)).mono fun e W' ⟨he, bel⟩ => ?_
  subst he
  exact ⟨_, rfl, _, _, _, [], _, q, hW', trodAll_mk1 (shut_bool Tryd.underlying4 _), (trodAll_cons_mk (Below.trod laidOut (by kernel_rfl) (of_decide_eq_true (by kernel_rfl)) k0 bel lt0) trodAll_mk0), Below.trodVars laidOut bel (by kernel_rfl) hV2, bel.frame _, fun h => by cases h⟩
set_option maxRecDepth 100000 in
theorem fnSchedules_lifted (os : Os) (started : os.Started) (H : Type) (enc : TypeId × Value → H) (F : Stop.Interp) :
    ReturnsInHanded {} Tryd.checked os 3 .any ((OpenSpec.ofChange Rows.fnSchedulesSpec).preRow enc Tryd.prog Tryd.f3 Rows.fnSchedulesRow.domain false Rows.fnSchedulesRow.laid) (((OpenSpec.ofChange Rows.fnSchedulesSpec).at F).post enc Tryd.prog Tryd.f3 false true false false) := by
  refine returnsInHanded_of_row (C := Tryd.checked) (s := OpenSpec.ofChange Rows.fnSchedulesSpec) own started (by kernel_rfl) Tryd.func3
    (witness_row_at (enc := enc) (C := Tryd.checked) false ({ World.holding Tryd.prog os ⟨#[.cells #[.string { data := #[110, 111, 116, 32, 97, 115, 32, 109, 97, 110, 121, 32, 97, 115, 32, 116, 104, 101, 114, 101, 32, 109, 97, 121, 32, 98, 101] }] 145, .cells #[.string { data := #[97, 32, 110, 117, 109, 98, 101, 114, 32, 116, 104, 97, 116, 32, 105, 115, 32, 111, 117, 116, 32, 111, 102, 32, 105, 116, 115, 32, 98, 111, 117, 110, 100, 115] }] 145, .cells #[.string { data := #[97, 32, 106, 111, 98, 32, 116, 104, 97, 116, 32, 99, 111, 109, 101, 115, 32, 98, 101, 104, 105, 110, 100, 32, 119, 104, 97, 116, 32, 100, 111, 101, 115, 32, 110, 111, 116, 32, 115, 116, 97, 110, 100, 32, 97, 104, 101, 97, 100, 32, 111, 102, 32, 105, 116] }] 145, .cells #[.string { data := #[97, 32, 106, 111, 98, 32, 116, 104, 97, 116, 32, 98, 101, 103, 105, 110, 115, 32, 97, 104, 101, 97, 100, 32, 111, 102, 32, 97, 110, 32, 101, 110, 100, 32, 116, 104, 97, 116, 32, 105, 116, 32, 119, 97, 105, 116, 115, 32, 102, 111, 114] }] 145, .cells #[.string { data := #[109, 111, 114, 101, 32, 106, 111, 98, 115, 32, 117, 110, 100, 101, 114, 32, 119, 97, 121, 32, 116, 104, 97, 110, 32, 99, 114, 101, 119, 115] }] 145], #[], []⟩ with heap := (((((((World.holding Tryd.prog os ⟨#[.cells #[.string { data := #[110, 111, 116, 32, 97, 115, 32, 109, 97, 110, 121, 32, 97, 115, 32, 116, 104, 101, 114, 101, 32, 109, 97, 121, 32, 98, 101] }] 145, .cells #[.string { data := #[97, 32, 110, 117, 109, 98, 101, 114, 32, 116, 104, 97, 116, 32, 105, 115, 32, 111, 117, 116, 32, 111, 102, 32, 105, 116, 115, 32, 98, 111, 117, 110, 100, 115] }] 145, .cells #[.string { data := #[97, 32, 106, 111, 98, 32, 116, 104, 97, 116, 32, 99, 111, 109, 101, 115, 32, 98, 101, 104, 105, 110, 100, 32, 119, 104, 97, 116, 32, 100, 111, 101, 115, 32, 110, 111, 116, 32, 115, 116, 97, 110, 100, 32, 97, 104, 101, 97, 100, 32, 111, 102, 32, 105, 116] }] 145, .cells #[.string { data := #[97, 32, 106, 111, 98, 32, 116, 104, 97, 116, 32, 98, 101, 103, 105, 110, 115, 32, 97, 104, 101, 97, 100, 32, 111, 102, 32, 97, 110, 32, 101, 110, 100, 32, 116, 104, 97, 116, 32, 105, 116, 32, 119, 97, 105, 116, 115, 32, 102, 111, 114] }] 145, .cells #[.string { data := #[109, 111, 114, 101, 32, 106, 111, 98, 115, 32, 117, 110, 100, 101, 114, 32, 119, 97, 121, 32, 116, 104, 97, 110, 32, 99, 114, 101, 119, 115] }] 145], #[], []⟩).heap.modify 5 fun | .cells _ t frozen => .cells #[.iface 109 (.agg #[.pointer (some ⟨6, 54, none⟩)])] t frozen | o => o).modify 0 fun | .cells _ t frozen => .cells #[.iface 122 (.pointer (some ⟨(World.holding Tryd.prog default ⟨#[], #[], []⟩).heap.size + 0, 0, none⟩))] t frozen | o => o).modify 1 fun | .cells _ t frozen => .cells #[.iface 122 (.pointer (some ⟨(World.holding Tryd.prog default ⟨#[], #[], []⟩).heap.size + 1, 0, none⟩))] t frozen | o => o).modify 2 fun | .cells _ t frozen => .cells #[.iface 122 (.pointer (some ⟨(World.holding Tryd.prog default ⟨#[], #[], []⟩).heap.size + 2, 0, none⟩))] t frozen | o => o).modify 3 fun | .cells _ t frozen => .cells #[.iface 122 (.pointer (some ⟨(World.holding Tryd.prog default ⟨#[], #[], []⟩).heap.size + 3, 0, none⟩))] t frozen | o => o).modify 4 fun | .cells _ t frozen => .cells #[.iface 122 (.pointer (some ⟨(World.holding Tryd.prog default ⟨#[], #[], []⟩).heap.size + 4, 0, none⟩))] t frozen | o => o) }) #[.slice none 0 0] rfl (by kernel_rfl) (by kernel_rfl) (by kernel_rfl)
      (OpenSpec.preRow_of_B rfl 8 (by kernel_rfl) (by kernel_rfl) (laidMetH_of_parts (laidMet_of_run' 8 (by kernel_rfl) (by kernel_rfl)) (by kernel_rfl)))) ?_
  intro W base args ds gs before hval hW _ _ _ hL _ _
  exact fnSchedules_contract H enc W base args ds gs before hval hW hL
theorem fnSchedules_said : Rows.FnSchedulesSaid :=
  OpenClaim.holds_of_cond 3 Tryd.f3 rfl rfl rfl rfl rfl rfl rfl ⟨rfl, rfl, rfl, rfl, rfl⟩ rfl rfl rfl rfl rfl (by kernel_rfl) Tryd.func3 (by kernel_rfl)
    (of_decide_eq_true (by kernel_rfl)) (by unfold Func.isWrapper; first | (rw [if_pos (by decide +kernel)]; kernel_rfl) | (rw [if_neg (by decide +kernel)]; exact ⟨rfl, rfl⟩))
    (fun os started H enc _ F => by rw [OpenClaim.pre_eq_preRow]; exact fnSchedules_lifted os started H enc F)
theorem fnSchedules_plain (f : FuncId) (fn : Func) (hf : Tryd.pinned.checked.prog.funcNamed Rows.fnSchedulesRow.func = some f) (hfn : Tryd.pinned.checked.prog.funcs[f]? = some fn) :
    true = Tryd.pinned.checked.prog.looks [] ∧ ∀ (j : Nat) t, fn.params[j]? = some t → Tryd.pinned.checked.prog.wantsStandIn t = false := by
  obtain rfl : f = 3 := Option.some.inj ((show Tryd.prog.funcNamed Rows.fnSchedulesRow.func = some 3 by kernel_rfl).symm.trans hf) |>.symm
  obtain rfl : fn = Tryd.f3 := (Option.some.inj (Tryd.func3.symm.trans hfn)).symm
  refine ⟨by kernel_rfl, fun j t ht => ?_⟩
  have hall : Tryd.f3.params.toList.all (fun t => !Tryd.prog.wantsStandIn t) = true := by kernel_rfl
  have hmem := Array.mem_of_getElem? ht
  have := List.all_eq_true.1 hall t (Array.mem_toList_iff.2 hmem)
  have this2 : Tryd.prog.wantsStandIn t = false := by simpa using this
  exact this2
theorem fnSchedules_holds : Rows.FnSchedulesCardSaid :=
  Claim7.holds_tied_plain_at .later [] _ _ _ _ fnSchedules_said (fun _ h => by cases h) (by kernel_rfl) (fun _ h => by cases h) fnSchedules_row_tie rfl ⟨rfl, rfl⟩ (by kernel_rfl) rfl fnSchedules_plain (by kernel_rfl)
#print axioms fnSchedules_holds
end Go.Proofs.YtffjhbgnhnnfiaaDoor
