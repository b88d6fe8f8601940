/-
What is proved: FnSwings: the swings of a course that is drawn from any code, each as often as it has halves, are together as long as the way from each turning to the next, and none is longer than from the least number to the greatest; no condition.
-/
import Derived.Test.YthengechoaodcaaSwM
import Derived.Test.YthengechoaodcaaSwD
import Derived.Test.YthengechoaodcaaRnI
import Derived.Test.YthengechoaodcaaOpen8
import Derived.Deep.RegionHeldLaw
import Derived.BigQuiet
namespace Go.Proofs.Ythengechoaodcaa
set_option maxRecDepth 40000
open Go.ChangeShapes Go.WideShapes Go.ChangeAt Go.RowKit
set_option linter.unusedVariables false
set_option linter.unusedSimpArgs false

set_option maxHeartbeats 400000 in
theorem swings_far (w : World) (s : Option Addr) (n c : Nat) (h : (1048576 : Int) < n) :
    Calls Try.prog 4 #[.slice s n c] w fun e w' => e = .returned (.bool true) ∧ Below w.heap.size w w' := by
  go_enter Try.func4, Try.ntmps4
  go_wp2_with fail
  refine (big_yes _ _ _ _ h).mono ?_
  rintro e w1 ⟨rfl, rfl⟩
  go_wp2
  go_ret
  exact ⟨rfl, Below.refl _ _⟩
theorem abs_apt {x y z : Int} (h : x - y = z) : (if z < 0 then -z else z) = apt x y := by
  subst h
  unfold apt
  split <;> split <;> omega
theorem wayT_bd {T : List Int} (h : In2 (-100000) 100000 T) (hl : T.length ≤ 400) : ∀ k, k < T.length ∨ k = 0 → 0 ≤ sumW (restS T k) ∧ sumW (restS T k) ≤ 200000000 := fun k hk => by
  have h1 := sumW_bd (restS T k) (rest_rng h k hk)
  rw [rest_len] at h1
  omega
set_option maxRecDepth 20000 in
set_option maxHeartbeats 8000000 in
theorem swings_near (w : World) (s : Option Addr) (n c : Nat) (hn : (n : Int) ≤ 1048576) (HC : Hid (Code8 w s n)) :
    Calls Try.prog 4 #[.slice s n c] w fun e w' => e = .returned (.bool true) ∧ Below w.heap.size w w' := by
  go_enter Try.func4, Try.ntmps4
  go_wp2_with fail
  refine (big_no _ _ _ _ hn).mono ?_
  rintro e w1 ⟨rfl, rfl⟩
  rename World => w
  go_wp2_with fail
  refine (drawRain_any HC).mono ?_
  rintro e w2 h2
  unfold TrnPost at h2
  obtain ⟨t, m, cap, U, rfl, hm, R2, B2⟩ := h2
  have HV : Hid (RowI w2 t m U) := R2
  have HB : Hid (Below w.heap.size w w2) := B2
  clear R2 B2 HC
  go_wp2_with fail
  refine (specTurnings_any t m cap U w2 (by omega) HV).mono ?_
  rintro e w3 ⟨sa, ca, rfl, OA, b3⟩
  replace HV : Hid (RowI w3 t m U) := HV.out.below b3
  replace HB : Hid (Below w.heap.size w w3) := HB.out.trans (b3.mono HB.out.size)
  have HA : Hid (RowI w3 sa (turnL m U).length (nthI (turnL m U))) := OA.row
  clear OA b3
  go_wp2_with fail
  refine (implTurnings_any t m cap U w3 (by omega) HV).mono ?_
  rintro e w4 ⟨sb, cb, rfl, OB, b4⟩
  replace HV : Hid (RowI w4 t m U) := HV.out.below b4
  replace HB : Hid (Below w.heap.size w w4) := HB.out.trans (b4.mono HB.out.size)
  replace HA : Hid (RowI w4 sa (turnL m U).length (nthI (turnL m U))) := HA.out.below b4
  have HT4 := turnL_400 m U
  have HRC : Hid (∀ W, RowI W t m U → Calls Try.prog 11 #[.slice t m cap] W fun e w' => RainP W (rainL (turnL m U)) e w') := fun W h => implRain_any t m cap U W (by omega) h
  have HAL : Hid (Alt (turnL m U).reverse) := turnL_alt m U
  have HBd : Hid (In2 (-100000) 100000 (turnL m U)) := turnL_bd m U
  have HO : Hid (RowI w4 sb (turnL m U).length (nthI (turnL m U))) := OB.row
  clear OB b4
  generalize turnL m U = T at *
  go_wp2_with fail
  refine (sameInts_any sb sa T.length cb ca (nthI T) w4 (by omega) HO HA).mono ?_
  rintro e w5 ⟨rfl, b5⟩
  replace HV : Hid (RowI w5 t m U) := HV.out.below b5
  replace HB : Hid (Below w.heap.size w w5) := HB.out.trans (b5.mono HB.out.size)
  replace HA : Hid (RowI w5 sa T.length (nthI T)) := HA.out.below b5
  clear b5 HO
  have HWB : Hid (∀ k, k < T.length ∨ k = 0 → 0 ≤ sumW (restS T k) ∧ sumW (restS T k) ≤ 200000000) := wayT_bd HBd.out HT4
  go_wp2_with fail
  go_loopw [6, 7, 8, 9] (fun vw vl vh i wx => ∃ (k : Nat) (lo hi : Int), k ≤ T.length ∧ i = .int .i64 k ∧ vw = .int .i64 (sumW (restS T (k - 1))) ∧ vl = .int .i64 lo ∧ vh = .int .i64 hi ∧ Hid (∀ j, j < k → lo ≤ nthI T j ∧ nthI T j ≤ hi) ∧ (-100000 ≤ lo ∧ lo ≤ 100000) ∧ (-100000 ≤ hi ∧ hi ≤ 100000) ∧ Hid (Below w5.heap.size w5 wx)) (fun _ _ _ i _ => T.length - (intOf i).toNat)
  case atStart => exact ⟨0, 0, 0, Nat.zero_le _, rfl, rfl, rfl, rfl, fun j hj => by omega, by omega, by omega, Below.refl _ _⟩
  case round =>
    obtain ⟨k, lo, hi, hk, rfl, rfl, rfl, rfl, HJ, hlo, hhi, HX⟩ := hrel
    by_cases hlt : k < T.length
    case neg =>
      obtain rfl : k = T.length := by omega
      have HIN : Hid (In2 lo hi T) := fun x hx => by
        obtain ⟨j, hj, e⟩ := List.mem_iff_getElem.1 hx
        have h9 := HJ.out j hj
        have : nthI T j = x := by unfold nthI; rw [List.getD_eq_getElem?_getD, List.getElem?_eq_getElem hj]; exact e
        rw [this] at h9
        exact h9
      have HG : Hid (∀ p, p ∈ rainL T → Gd lo hi p) := rainL_rng HIN.out
      have HG2 : Hid (∀ j, 0 ≤ sumW ((rainL T).take j) ∧ sumW ((rainL T).take j) ≤ 160000000) := fun j => by
        have h1 := sumW_bd ((rainL T).take j) (fun p hp => rainL_rng HBd.out p (List.mem_of_mem_take hp))
        have h2 := rainL_le T
        have h3 : ((rainL T).take j).length ≤ (rainL T).length := by rw [List.length_take]; omega
        omega
      have HTOT : Hid (sumW (rainL T) = sumW (restS T (T.length - 1))) := rain_total HAL.out
      obtain ⟨tot, htot⟩ : ∃ z, sumW (restS T (T.length - 1)) = z := ⟨_, rfl⟩
      have htb : 0 ≤ tot ∧ tot ≤ 200000000 := by rw [← htot]; exact HWB.out _ (by omega)
      have hL4 : (rainL T).length ≤ 400 := by have := rainL_le T; omega
      rw [htot] at HTOT
      rw [htot]
      have HV8 : Hid (RowI wr t m U) := HV.out.below HX.out
      have HB8 : Hid (Below w.heap.size w wr) := HB.out.trans (HX.out.mono HB.out.size)
      clear HJ hk hlt htot HA HV HB HX HAL HIN HBd
      rename World => wa
      go_wp2_with fail
      refine (HRC.out _ HV8.out).mono ?_
      rintro e wb hR
      unfold RainP at hR
      obtain ⟨so, co, rfl, hO, bb⟩ := hR
      have HS : Hid (RowSwing wb so (rainL T).length (fun j => (rainL T).getD j (0, 0))) := hO.row
      replace HB8 : Hid (Below w.heap.size w wb) := HB8.out.trans (bb.mono HB8.out.size)
      clear hO bb HV8 HRC
      generalize rainL T = Q at *
      go_wp2_with fail
      go_loopw [6, 11] (fun vw i wx => ∃ (j : Nat), j ≤ Q.length ∧ i = .int .i64 j ∧ vw = .int .i64 (tot - sumW (Q.take j)) ∧ Hid (Below wb.heap.size wb wx)) (fun _ i _ => Q.length - (intOf i).toNat)
      case atStart => exact ⟨0, Nat.zero_le _, rfl, by simp [sumW], Below.refl _ _⟩
      case round =>
        obtain ⟨j, hj, rfl, rfl, HX⟩ := hrel
        by_cases hjl : j < Q.length
        case neg =>
          obtain rfl : j = Q.length := by omega
          have e0 : tot - sumW (Q.take Q.length) = 0 := by have := HTOT.out; rw [List.take_length]; omega
          rw [e0]
          have hB9 : Below w.heap.size w wr := HB8.out.trans (HX.out.mono HB8.out.size)
          go_wp2
          go_ret
          exact ⟨rfl, hB9⟩
        have j1 : (j : Int) < (Q.length : Int) := by omega
        have hg := HG.out (Q.getD j (0, 0)) (by rw [List.getD_eq_getElem?_getD, List.getElem?_eq_getElem hjl]; exact List.getElem_mem hjl)
        obtain ⟨b, oo, rfl, hbz, c0, c1⟩ := HS.out j hjl
        replace c0 := (HX.out.cell (p := ⟨b, oo + j * 2, none⟩) hbz).trans c0
        replace c1 := (HX.out.cell (p := ⟨b, oo + j * 2 + 1, none⟩) hbz).trans c1
        have HTS := take_sum Q j hjl
        unfold Gd at hg
        obtain ⟨a, ha⟩ : ∃ z, (Q.getD j (0, 0)).1 = z := ⟨_, rfl⟩
        obtain ⟨h, hh⟩ : ∃ z, (Q.getD j (0, 0)).2 = z := ⟨_, rfl⟩
        simp only [ha, hh] at c0 c1 hg HTS
        have g2 := HG2.out j
        have g3 := HG2.out (j + 1)
        obtain ⟨P0, hP0⟩ : ∃ z, tot - sumW (Q.take j) = z := ⟨_, rfl⟩
        have HP1 : Hid (tot - sumW (Q.take (j + 1)) = P0 - a * h) := by show _ = _; rw [HTS, ← hP0]; omega
        have p0 : -160000000 ≤ P0 ∧ P0 ≤ 200000000 := by omega
        rw [hP0]
        have hr1 : ¬ h < 1 := by omega
        have hr2 : ¬ 2 < h := by omega
        have hr3 : ¬ hi - lo < a := by omega
        have a9 : 0 ≤ a ∧ a ≤ 200000 := by omega
        clear hP0 ha hh HTS g2 g3 hg
        rename World => wq
        rcases (show h = 1 ∨ h = 2 by omega) with rfl | rfl
        all_goals
          go_upto_region 26 with fail
          have w1 : IntKind.i64.wrap (a * 2) = a * 2 := by rw [IntKind.wrap_i64]; omega
          have w2 : IntKind.i64.wrap (P0 - a * 2) = P0 - a * 2 := by rw [IntKind.wrap_i64]; omega
          have w3 : IntKind.i64.wrap (P0 - a) = P0 - a := by rw [IntKind.wrap_i64]; omega
          have w4 : IntKind.i64.wrap a = a := by rw [IntKind.wrap_i64]; omega
          go_quiet (fail)
          go_wp2
          go_roundw
          case rel => exact ⟨j + 1, by omega, by go_num, (by rw [HP1.out]; all_goals (first | rfl | (congr 1; omega))), HX.out.trans ((bDrewN (Below.refl _ _) _).mono HX.out.size)⟩
          case measure => simp [intOf]; omega
    have k1 : (k : Int) < (T.length : Int) := by omega
    obtain ⟨g, oo, rfl, hgz, cx⟩ := HA.out k hlt
    replace cx := (HX.out.cell (p := ⟨g, oo + k, none⟩) hgz).trans cx
    have bx := in_nth HBd.out hlt
    obtain ⟨x, hx⟩ : ∃ z, nthI T k = z := ⟨_, rfl⟩
    rw [hx] at cx bx
    rcases Nat.eq_zero_or_pos k with hz | hz
    · subst hz
      have HJ2 : Hid (∀ j, j < 0 + 1 → x ≤ nthI T j ∧ nthI T j ≤ x) := fun j hj => by
        obtain rfl : j = 0 := by omega
        omega
      simp only [Nat.add_zero] at cx
      clear HJ hx
      go_wp2
      go_roundw
      case rel => exact ⟨0 + 1, x, x, by omega, by go_num, rfl, rfl, rfl, HJ2, by omega, by omega, HX⟩
      case measure => simp [intOf]; omega
    · obtain ⟨y9, z9⟩ : ∃ j, k = j + 1 := ⟨k - 1, by omega⟩
      obtain ⟨g', oo', e9, hgz', cy⟩ := HA.out y9 (by omega)
      cases e9
      replace cy := (HX.out.cell (p := ⟨g, oo + y9, none⟩) hgz).trans cy
      have by_ := in_nth HBd.out (show y9 < T.length by omega)
      have HRS := rest_sum T y9
      rw [← z9, hx] at HRS
      obtain ⟨y, hy⟩ : ∃ z, nthI T y9 = z := ⟨_, rfl⟩
      rw [hy] at cy by_ HRS
      have b1 := HWB.out (k - 1) (by omega)
      have b2 := HWB.out k (by omega)
      obtain ⟨P0, hP0⟩ : ∃ z, sumW (restS T (k - 1)) = z := ⟨_, rfl⟩
      have e8 : k - 1 = y9 := by omega
      rw [← e8, hP0] at HRS
      have HP1 : Hid (sumW (restS T (k + 1 - 1)) = P0 + apt x y) := by show _ = _; rw [Nat.add_sub_cancel]; exact HRS
      rw [hP0] at b1 ⊢
      have p1 : 0 ≤ P0 + apt x y ∧ P0 + apt x y ≤ 200000000 := by omega
      have e7 : (k : Int) - 1 = (y9 : Int) := by omega
      have kz : ((k : Int) == 0) = false := by simp; omega
      have kp : (0 : Int) < (k : Int) := by omega
      have l9 : (y9 : Int) < (T.length : Int) := by omega
      obtain ⟨D, hD⟩ : ∃ z, x - y = z := ⟨_, rfl⟩
      have HD : Hid ((if D < 0 then -D else D) = apt x y) := abs_apt hD
      have dB : -1000000 ≤ D ∧ D ≤ 1000000 := by omega
      have HXx : Hid (nthI T k = x) := hx
      have hap := apt_pos x y
      obtain ⟨N, hN⟩ : ∃ z, T.length = z := ⟨_, rfl⟩
      have HN : Hid (T.length = N) := hN
      have k4 : k ≤ 400 := by omega
      rw [hN] at k1 l9 ⊢
      clear hx hy hz z9 e8 HRS b1 b2 hP0 hN hgz'
      rename World => wq
      go_upto_region 15 with fail
      refine wp_region_held_drew (S := fun w' => w'.cell? ⟨g, oo + k, none⟩ = some (.int .i64 x) ∧ w'.cell? ⟨g, oo + y9, none⟩ = some (.int .i64 y)) (by kernel_rfl) ?_ (fun hHeld => ?_)
      · exact ⟨by simpa [go_sem] using cx, by simpa [go_sem] using cy⟩
      refine wpAnyH_take (i := 0) (v := .int .i64 P0) rfl (by kernel_rfl) (by kernel_rfl) (by kernel_rfl) (fun _ _ _ h => h) (Or.inl ⟨by kernel_rfl, ?_⟩) hHeld ?_
      · intro w' hSw
        obtain ⟨s0_, s1_⟩ := hSw
        first | (go_simp; done) | (go_simp; with_reducible rfl) | (go_simp; rw [IntKind.wrap_i64]; omega) | (go_simp; omega)
      simp only [Act.put, List.setIfInBounds_toArray, List.set_cons_zero, List.set_cons_succ]
      refine wpAnyH_take (i := 1) (v := .slice (some ⟨g, oo, none⟩) N ca) rfl (by kernel_rfl) (by kernel_rfl) (by kernel_rfl) (fun _ _ _ h => h) (Or.inl ⟨by kernel_rfl, ?_⟩) hHeld ?_
      · intro w' hSw
        obtain ⟨s0_, s1_⟩ := hSw
        first | (go_simp; done) | (go_simp; with_reducible rfl) | (go_simp; rw [IntKind.wrap_i64]; omega) | (go_simp; omega)
      simp only [Act.put, List.setIfInBounds_toArray, List.set_cons_zero, List.set_cons_succ]
      refine wpAnyH_take (i := 2) (v := .int .i64 (k : Int)) rfl (by kernel_rfl) (by kernel_rfl) (by kernel_rfl) (fun _ _ _ h => h) (Or.inl ⟨by kernel_rfl, ?_⟩) hHeld ?_
      · intro w' hSw
        obtain ⟨s0_, s1_⟩ := hSw
        first | (go_simp; done) | (go_simp; with_reducible rfl) | (go_simp; rw [IntKind.wrap_i64]; omega) | (go_simp; omega)
      simp only [Act.put, List.setIfInBounds_toArray, List.set_cons_zero, List.set_cons_succ]
      refine wpAnyH_take (i := 3) (v := .pointer (some ⟨g, oo + k, none⟩)) rfl (by kernel_rfl) (by kernel_rfl) (by kernel_rfl) (fun _ _ _ h => h) (Or.inl ⟨by kernel_rfl, ?_⟩) hHeld ?_
      · intro w' hSw
        obtain ⟨s0_, s1_⟩ := hSw
        first | (go_simp; done) | (go_simp; with_reducible rfl) | (go_simp; rw [IntKind.wrap_i64]; omega) | (go_simp; omega)
      simp only [Act.put, List.setIfInBounds_toArray, List.set_cons_zero, List.set_cons_succ]
      refine wpAnyH_take (i := 4) (v := .int .i64 x) rfl (by kernel_rfl) (by kernel_rfl) (by kernel_rfl) (fun _ _ _ h => h) (Or.inl ⟨by kernel_rfl, ?_⟩) hHeld ?_
      · intro w' hSw
        obtain ⟨s0_, s1_⟩ := hSw
        first | (go_simp; done) | (go_simp; with_reducible rfl) | (go_simp; rw [IntKind.wrap_i64]; omega) | (go_simp; omega)
      simp only [Act.put, List.setIfInBounds_toArray, List.set_cons_zero, List.set_cons_succ]
      refine wpAnyH_take (i := 5) (v := .slice (some ⟨g, oo, none⟩) N ca) rfl (by kernel_rfl) (by kernel_rfl) (by kernel_rfl) (fun _ _ _ h => h) (Or.inl ⟨by kernel_rfl, ?_⟩) hHeld ?_
      · intro w' hSw
        obtain ⟨s0_, s1_⟩ := hSw
        first | (go_simp; done) | (go_simp; with_reducible rfl) | (go_simp; rw [IntKind.wrap_i64]; omega) | (go_simp; omega)
      simp only [Act.put, List.setIfInBounds_toArray, List.set_cons_zero, List.set_cons_succ]
      refine wpAnyH_take (i := 6) (v := .int .i64 (k : Int)) rfl (by kernel_rfl) (by kernel_rfl) (by kernel_rfl) (fun _ _ _ h => h) (Or.inl ⟨by kernel_rfl, ?_⟩) hHeld ?_
      · intro w' hSw
        obtain ⟨s0_, s1_⟩ := hSw
        first | (go_simp; done) | (go_simp; with_reducible rfl) | (go_simp; rw [IntKind.wrap_i64]; omega) | (go_simp; omega)
      simp only [Act.put, List.setIfInBounds_toArray, List.set_cons_zero, List.set_cons_succ]
      refine wpAnyH_take (i := 7) (v := .int .i64 (y9 : Int)) rfl (by kernel_rfl) (by kernel_rfl) (by kernel_rfl) (fun _ _ _ h => h) (Or.inl ⟨by kernel_rfl, ?_⟩) hHeld ?_
      · intro w' hSw
        obtain ⟨s0_, s1_⟩ := hSw
        first | (go_simp; done) | (go_simp; with_reducible rfl) | (go_simp; rw [IntKind.wrap_i64]; omega) | (go_simp; omega)
      simp only [Act.put, List.setIfInBounds_toArray, List.set_cons_zero, List.set_cons_succ]
      refine wpAnyH_take (i := 8) (v := .pointer (some ⟨g, oo + y9, none⟩)) rfl (by kernel_rfl) (by kernel_rfl) (by kernel_rfl) (fun _ _ _ h => h) (Or.inl ⟨by kernel_rfl, ?_⟩) hHeld ?_
      · intro w' hSw
        obtain ⟨s0_, s1_⟩ := hSw
        first | (go_simp; done) | (go_simp; with_reducible rfl) | (go_simp; rw [IntKind.wrap_i64]; omega) | (go_simp; omega)
      simp only [Act.put, List.setIfInBounds_toArray, List.set_cons_zero, List.set_cons_succ]
      refine wpAnyH_take (i := 9) (v := .int .i64 y) rfl (by kernel_rfl) (by kernel_rfl) (by kernel_rfl) (fun _ _ _ h => h) (Or.inl ⟨by kernel_rfl, ?_⟩) hHeld ?_
      · intro w' hSw
        obtain ⟨s0_, s1_⟩ := hSw
        first | (go_simp; done) | (go_simp; with_reducible rfl) | (go_simp; rw [IntKind.wrap_i64]; omega) | (go_simp; omega)
      simp only [Act.put, List.setIfInBounds_toArray, List.set_cons_zero, List.set_cons_succ]
      refine wpAnyH_take (i := 10) (v := .int .i64 D) rfl (by kernel_rfl) (by kernel_rfl) (by kernel_rfl) (fun _ _ _ h => h) (Or.inl ⟨by kernel_rfl, ?_⟩) hHeld ?_
      · intro w' hSw
        obtain ⟨s0_, s1_⟩ := hSw
        first | (go_simp; done) | (go_simp; with_reducible rfl) | (go_simp; rw [IntKind.wrap_i64]; omega) | (go_simp; omega)
      simp only [Act.put, List.setIfInBounds_toArray, List.set_cons_zero, List.set_cons_succ]
      obtain ⟨v0, hv0⟩ : ∃ z, z = wq.drew := ⟨_, rfl⟩
      rw [← hv0] at hHeld ⊢
      have bv0 : Below wq.heap.size wq v0 := by rw [hv0]; exact Below.drew (Below.refl _ _)
      clear hv0
      have HB9 : Hid (Below wq.heap.size wq v0) := bv0
      clear bv0
      refine wpAnyH_ready (rs := [11]) (by kernel_rfl) (by simp) ?_
      refine (AllReadyH.cons rfl (fun KK hK => ?_) AllReadyH.nil)
      go_simp
      go_wp2_with (first | (go_at_call 22; refine (abs_any D _ dB).mono ?_; rintro e v0_1 ⟨rfl, rfl⟩; rw [HD.out]))
      refine hK.out _ _ (hHeld) (fun hHeld => ?_)
      clear hK KK
      refine wpAnyH_take (i := 12) (v := .int .i64 (P0 + apt x y)) rfl (by kernel_rfl) (by kernel_rfl) (by kernel_rfl) (fun _ _ _ h => h) (Or.inl ⟨by kernel_rfl, ?_⟩) hHeld ?_
      · intro w' hSw
        obtain ⟨s0_, s1_⟩ := hSw
        first | (go_simp; done) | (go_simp; with_reducible rfl) | (go_simp; rw [IntKind.wrap_i64]; omega) | (go_simp; omega)
      simp only [Act.put, List.setIfInBounds_toArray, List.set_cons_zero, List.set_cons_succ]
      refine wpAnyH_ready (rs := [13]) (by kernel_rfl) (by simp) ?_
      refine AllReadyH.cons rfl (fun KK hK => ?_) AllReadyH.nil
      go_simp
      refine hK.out _ _ hHeld (fun hHeld => ?_)
      clear hK KK
      refine wpAnyH_done (by kernel_rfl) ?_ _
      clear hHeld
      have HX9 : Hid (Below w5.heap.size w5 v0_1) := HX.out.trans (HB9.out.mono HX.out.size)
      have cx9 : v0_1.cell? ⟨g, oo + k, none⟩ = some (.int .i64 x) := (HB9.out.cell (p := ⟨g, oo + k, none⟩) (Nat.lt_of_lt_of_le hgz HX.out.size)).trans cx
      have HJ1 : Hid (∀ j, j < k + 1 → min lo x ≤ nthI T j ∧ nthI T j ≤ max hi x) := fun j hj => by
        by_cases z : j = k
        · rw [z, HXx.out]; omega
        · have := HJ.out j (by omega); omega
      have hlh : lo ≤ hi := by have := HJ.out y9 (by omega); omega
      clear HB9 cx cy HX HJ
      by_cases q1 : x < lo
      · by_cases q2 : hi < x
        · omega
        · have HJ2 : Hid (∀ j, j < k + 1 → x ≤ nthI T j ∧ nthI T j ≤ hi) := fun j hj => by have := HJ1.out j hj; omega
          go_wp2
          go_roundw
          case rel => exact ⟨k + 1, x, hi, by omega, by go_num, by rw [HP1.out], rfl, rfl, HJ2, by omega, by omega, HX9⟩
          case measure => simp [intOf]; omega
      · by_cases q2 : hi < x
        · have HJ2 : Hid (∀ j, j < k + 1 → lo ≤ nthI T j ∧ nthI T j ≤ x) := fun j hj => by have := HJ1.out j hj; omega
          go_wp2
          go_roundw
          case rel => exact ⟨k + 1, lo, x, by omega, by go_num, by rw [HP1.out], rfl, rfl, HJ2, by omega, by omega, HX9⟩
          case measure => simp [intOf]; omega
        · have HJ2 : Hid (∀ j, j < k + 1 → lo ≤ nthI T j ∧ nthI T j ≤ hi) := fun j hj => by have := HJ1.out j hj; omega
          go_wp2
          go_roundw
          case rel => exact ⟨k + 1, lo, hi, by omega, by go_num, by rw [HP1.out], rfl, rfl, HJ2, by omega, by omega, HX9⟩
          case measure => simp [intOf]; omega
theorem fnSwings_walk (w : World) (s : Option Addr) (n c : Nat) (hn : n ≤ 9223372036854775807) (R : Bytes w s n) :
    Calls Try.prog 4 #[.slice s n c] w fun e w' => e = .returned (.bool true) ∧ Below w.heap.size w w' := by
  by_cases h : n ≤ 1048576
  · exact swings_near w s n c (by omega) (R.code h)
  · exact swings_far w s n c (by omega)

set_option maxRecDepth 100000 in
theorem fnSwings_lifted (os : Os) (started : os.Started) (H : Type) (enc : TypeId × Value → H) :
    ReturnsInHanded {} Try.checked os 4 .any (Rows.fnSwingsSpec.pre6 enc Try.prog Try.f4 Rows.fnSwingsRow.domain false) (Rows.fnSwingsSpec.post enc Try.prog Try.f4 false true false false) := by
  refine returnsInHanded_of_change (C := Try.checked) own started (by kernel_rfl) Try.func4
    (ChangeSpec.witness6 (enc := enc) (C := Try.checked) false ⟨#[], #[.slice none 0 0], []⟩ 8 (by kernel_rfl) (by kernel_rfl) (by kernel_rfl) (by kernel_rfl)) ?_
  intro W base args ds gs before hval0 hW hcnd _
  have hval : ∀ (j : Nat) t v, Try.f4.params[j]? = some t → args[j]? = some v → Value.okWide Try.prog W .any base t v := hval0
  have hW' := hW
  obtain ⟨p, q, hA0, hV, rfl, hfz, hnd⟩ := hW
  have hA : DataW.TrodAll enc Try.prog W 0 (fun _ => true) true Try.f4.params.toList args.toList ds p := hA0
  rw [Try.params4] at hA hval
  obtain ⟨v0, vs0, d0, ds0, p0, q0, hargs, rfl, rfl, h0, r0⟩ := trodAll_cons hA
  obtain ⟨rfl, rfl, rfl⟩ := trodAll_nil r0
  obtain rfl : args = #[v0] := by cases args; simp_all
  obtain ⟨rfl, rfl⟩ := trodVars_none hV
  have k0 := h0
  have lt0 : ∀ x ∈ p0, x.block < W.heap.size := by obtain ⟨m, hm⟩ := k0; exact DataW.trod_lt m _ _ _ hm
  obtain ⟨s0, n0, c0, rfl, m0, R0⟩ := open_code Try.underlying31 Try.underlying5 (by kernel_rfl) (hval 0 31 v0 rfl rfl) h0
  clear hA0 hval0
  refine (fnSwings_walk W s0 n0 c0 m0 R0).mono fun e W' ⟨he, bel⟩ => ?_
  subst he
  exact ⟨_, rfl, _, _, _, [], _, [], hW', trodAll_mk1 (shut_bool Try.underlying4 _), (trodAll_cons_mk (Below.trod laidOut (by kernel_rfl) (of_decide_eq_true (by kernel_rfl)) k0 bel lt0) trodAll_mk0), rfl, bel.frame _, fun h => by cases h⟩

theorem fnSwings_holds : Rows.FnSwingsSaid :=
  OpenClaim.holds_of_wide 4 Try.f4 rfl rfl rfl rfl rfl rfl rfl ⟨rfl, rfl, rfl, rfl, rfl⟩ rfl rfl rfl rfl rfl (by kernel_rfl) Try.func4 (by kernel_rfl)
    (of_decide_eq_true (by kernel_rfl)) (by unfold Func.isWrapper; first | (rw [if_pos (by decide +kernel)]; kernel_rfl) | (rw [if_neg (by decide +kernel)]; exact ⟨rfl, rfl⟩))
    (fun os started H enc _ => fnSwings_lifted os started H enc)
#print axioms fnSwings_holds
end Go.Proofs.Ythengechoaodcaa
