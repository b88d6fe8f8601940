/-
What is proved: what plans cost, as the specification says it.
-/
import Derived.Test.YtdlbniihgppodaaCqL
import Derived.Deep.RegionHeld3
import Derived.BigQuiet
namespace Go.Proofs.Ytdlbniihgppodaa
set_option maxRecDepth 40000
open Go.ChangeShapes Go.WideShapes Go.ChangeAt Go.RowKit
set_option linter.unusedVariables false
set_option linter.unusedSimpArgs false

theorem cot_yes {n : Nat} {V : Nat → Int × Int × Int × Int × Int} {m : Nat} {W : Nat → Int} {no : Nat} {K : Nat → Nat} {O : Nat → Nat → Bool} (h0 : plsB n V = true) (h1 : ldB m W = true) (h2 : no = m) (h3 : ∀ t, t < m → okT n V m W no K O t = true) : costV n V m W no K O = sumF (fun t => perV n V O t (W t)) m := by
  have : cotB n V m W no K O = true := by
    unfold cotB
    rw [h0, h1, decide_eq_true h2, decide_eq_true h3]; rfl
  unfold costV
  rw [if_pos this]
theorem stay_good {n m : Nat} {V : Nat → Int × Int × Int × Int × Int} {O : Nat → Nat → Bool} (h : stayB n V m O = true) : ∀ t, t < m → styB n V O t = true := fun t ht => decide_eq_true fun i hi => (of_decide_eq_true h : ∀ i, i < n → ∀ t, t < m → stoB V O t i = true) i hi t ht
theorem stay_bad {n m : Nat} {V : Nat → Int × Int × Int × Int × Int} {O : Nat → Nat → Bool} (h : stayB n V m O = false) : ∃ t, t < m ∧ styB n V O t = false := by
  by_cases q : ∃ t, t < m ∧ styB n V O t = false
  · exact q
  · have : stayB n V m O = true := decide_eq_true fun i hi t ht => by
      cases r : styB n V O t
      · exact absurd ⟨t, ht, r⟩ q
      · exact (of_decide_eq_true r : ∀ i, i < n → stoB V O t i = true) i hi
    rw [h] at this; cases this
theorem zer_here {O : Nat → Nat → Bool} {t k : Nat} (h : t = 0) : decide (ranF O t k = 0) = true := decide_eq_true ((ran_zero O t k).2 (Or.inl h))
theorem zer_ahead {O : Nat → Nat → Bool} {t v k : Nat} (h : t = v + 1) : decide (ranF O t k = 0) = !(O v k) := by
  subst h
  cases q : O v k
  · exact decide_eq_true ((ran_zero O (v + 1) k).2 (Or.inr q))
  · exact decide_eq_false fun r => by
      rcases (ran_zero O (v + 1) k).1 r with r | r
      · omega
      · have r : O v k = false := r
        rw [q] at r; cases r
set_option maxRecDepth 20000 in
set_option maxHeartbeats 16000000 in
theorem specCostOf_any (s : Option Addr) (n c : Nat) (V : Nat → Int × Int × Int × Int × Int) (u : Option Addr) (m d : Nat) (W : Nat → Int) (q : Option Addr) (no f : Nat) (K : Nat → Nat) (O : Nat → Nat → Bool) (w : World) (hn : (n : Int) ≤ 1048576) (hm : (m : Int) ≤ 1048576) (hno : (no : Int) ≤ 1048576) (HR : Hid (RowPlant w s n V)) (HW : Hid (RowI w u m W)) (HO : Hid (RowLB w q no K O)) :
    Calls Try.prog 21 #[.slice s n c, .slice u m d, .slice q no f] w fun e w' => e = .returned (.int .i64 (costV n V m W no K O)) ∧ Below w.heap.size w w' := by
  go_enter Try.func21, Try.ntmps21
  go_wp2_with fail
  refine (l24Plants_any s n c V _ hn HR).mono ?_
  rintro e w1 ⟨rfl, B1⟩
  cases h0 : plsB n V
  · have HF : Hid (costV n V m W no K O = -1) := cot_off (by rw [h0]; rfl)
    go_wp2
    go_ret
    exact ⟨ret_int HF.out.symm, (by repeat (first | with_reducible exact Below.refl _ _ | with_reducible exact B1 | with_reducible refine Below.setCell ?_ (by first | omega | (simp; done) | (simp; omega)) _ | with_reducible refine bDrewN ?_ _ | with_reducible refine Below.drew ?_ | with_reducible refine Below.alloc ?_ (by first | omega | (simp; done) | (simp; omega)) _))⟩
  have HW1 : Hid (RowI w1 u m W) := HW.out.below B1
  go_wp2_with fail
  refine (l24Loads_any u m d W _ hm HW1).mono ?_
  rintro e w1 ⟨rfl, rfl⟩
  cases h1 : ldB m W
  · have HF : Hid (costV n V m W no K O = -1) := cot_off (by rw [h0, h1]; rfl)
    go_wp2
    go_ret
    exact ⟨ret_int HF.out.symm, (by repeat (first | with_reducible exact Below.refl _ _ | with_reducible exact B1 | with_reducible refine Below.setCell ?_ (by first | omega | (simp; done) | (simp; omega)) _ | with_reducible refine bDrewN ?_ _ | with_reducible refine Below.drew ?_ | with_reducible refine Below.alloc ?_ (by first | omega | (simp; done) | (simp; omega)) _))⟩
  by_cases hno2 : no = m
  case neg =>
    have b0 : ((no : Int) != (m : Int)) = true := by simp; omega
    have HF : Hid (costV n V m W no K O = -1) := cot_off (by rw [h0, h1, decide_eq_false hno2]; rfl)
    go_wp2
    go_ret
    exact ⟨ret_int HF.out.symm, (by repeat (first | with_reducible exact Below.refl _ _ | with_reducible exact B1 | with_reducible refine Below.setCell ?_ (by first | omega | (simp; done) | (simp; omega)) _ | with_reducible refine bDrewN ?_ _ | with_reducible refine Below.drew ?_ | with_reducible refine Below.alloc ?_ (by first | omega | (simp; done) | (simp; omega)) _))⟩
  subst hno2
  obtain ⟨n1, n3, hpl⟩ := pls_yes h0
  obtain ⟨m1, m5, hw⟩ := ld_yes h1
  have HPS : Hid (plsB n V = true) := h0
  have HLS : Hid (ldB no W = true) := h1
  have HPL : Hid (∀ i, i < n → plB (V i) = true) := hpl
  have HLD : Hid (∀ j, j < no → 0 ≤ W j ∧ W j ≤ 300000) := hw
  have HR1 : Hid (RowPlant w1 s n V) := HR.out.below B1
  have HO1 : Hid (RowLB w1 q no K O) := HO.out.below B1
  have HB1 : Hid (Below w.heap.size w w1) := B1
  have HBAD : Hid (∀ t, t < no → okT n V no W no K O t = false → costV n V no W no K O = -1) := fun t ht h => cot_no ht h
  clear h0 h1 hpl hw B1
  go_wp2_with fail
  go_loop [7] (fun i => ∃ t : Nat, t ≤ no ∧ i = .int .i64 t ∧ Hid (∀ j, j < t → K j = n)) (fun i => no - (intOf i).toNat)
  case atStart => exact ⟨0, Nat.zero_le _, rfl, fun j hj => by omega⟩
  case round =>
    obtain ⟨t, ht, rfl, HK⟩ := hrel
    by_cases h1 : t < no
    case pos =>
      obtain ⟨g2, o2, a2, d2, rfl, hg2, e0, -⟩ := HO1.out t h1
      have t1 : (t : Int) < (no : Int) := by omega
      by_cases h2 : K t = n
      · have HKT : Hid (K t = n) := h2
        rw [h2] at e0
        clear h2
        go_wp2
        go_round
        case rel => exact ⟨t + 1, by omega, by go_num, ball_succP HK.out HKT.out⟩
        case measure => first | (simp [intOf]; done) | (simp [intOf]; omega)
      · have b0 : ((K t : Int) != (n : Int)) = true := by simp; omega
        have HF : Hid (costV n V no W no K O = -1) := HBAD.out t h1 (by unfold okT meB; rw [decide_eq_false h2]; simp)
        go_wp2
        go_ret
        exact ⟨ret_int HF.out.symm, HB1.out⟩
    obtain rfl : no = t := by omega
    go_wp2_with fail
    refine (l24Stays_any s n c V q no f K O _ hn hno HK HR1 HO1).mono ?_
    rintro e w1 ⟨rfl, rfl⟩
    cases h2 : stayB n V no O
    · obtain ⟨t, ht2, hst⟩ := stay_bad h2
      have HF : Hid (costV n V no W no K O = -1) := HBAD.out t ht2 (by unfold okT; rw [hst]; simp)
      go_wp2
      go_ret
      exact ⟨ret_int HF.out.symm, HB1.out⟩
    have HST : Hid (∀ t, t < no → styB n V O t = true) := stay_good h2
    clear h2
    go_wp2_with fail
    go_loopw [8, 9] (fun v i wr => ∃ t : Nat, t ≤ no ∧ i = .int .i64 t ∧ v = .int .i64 (sumF (fun t => perV n V O t (W t)) t) ∧ Hid (∀ j, j < t → okT n V no W no K O j = true) ∧ Below w.heap.size w wr) (fun _ i _ => no - (intOf i).toNat)
    case atStart => exact ⟨0, Nat.zero_le _, rfl, rfl, fun j hj => by omega, HB1.out⟩
    case round =>
      obtain ⟨t, ht, rfl, rfl, HT, hB⟩ := hrel
      have zW := hB.size
      by_cases h1 : t < no
      case neg =>
        obtain rfl : no = t := by omega
        have HF : Hid (costV n V no W no K O = sumF (fun t => perV n V O t (W t)) no) := cot_yes HPS.out HLS.out rfl HT.out
        go_wp2
        go_ret
        exact ⟨ret_int HF.out.symm, hB⟩
      have t1 : (t : Int) < (no : Int) := by omega
      obtain ⟨g2, o2, a2, d2, rfl, hg2, e0w, hrb⟩ := HO.out t h1
      rw [HK.out t h1] at e0w hrb
      have HRB : Hid (RowB w a2 n (O t)) := hrb
      have e0 := (hB.cell (p := ⟨g2, o2 + t, none⟩) hg2).trans e0w
      obtain ⟨g1, o1, rfl, hg1, l0⟩ := HW.out t h1
      replace l0 := (hB.cell (p := ⟨g1, o1 + t, none⟩) hg1).trans l0
      have hl := HLD.out t h1
      obtain ⟨ld, hld⟩ : ∃ z, W t = z := ⟨_, rfl⟩
      rw [hld] at l0 hl
      have HOK : Hid (okT n V no W no K O t = meB n V (O t) n ld) := by show _ = _; unfold okT; rw [HK.out t h1, HST.out t h1, hld, Bool.and_true]
      have HBD : Hid (okT n V no W no K O t = false → costV n V no W no K O = -1) := HBAD.out t h1
      have HSU : Hid (sumF (fun t => perV n V O t (W t)) (t + 1) = sumF (fun t => perV n V O t (W t)) t + perV n V O t ld) := by rw [← hld]; exact rfl
      have sb := tot_in (V := V) (O := O) (W := W) (m := no) (k := t) (by omega) (by omega) (by omega) HPL.out
      obtain ⟨N, hN⟩ : ∃ z, meN n V (O t) n ld = z := ⟨_, rfl⟩
      obtain ⟨bb, hbb⟩ : ∃ z, meB n V (O t) n ld = z := ⟨_, rfl⟩
      have HNN : Hid (bb = true → N = n) := fun h => by rw [← hN]; unfold meN; rw [hbb, h]; rfl
      have HM : Hid (∀ w', Below w.heap.size w w' → Calls Try.prog 9 #[.slice s n c, .slice a2 n d2, .int .i64 ld] w' fun e w'' => MePost w' N (outV n V (O t) ld) bb e w'') := fun w' hb => by
        rw [← hN, ← hbb]
        exact specMerit_any s n c V a2 n d2 (O t) ld w' hn hn (by omega) (by omega) (HR.out.below hb) (HRB.out.below hb)
      rw [hbb] at HOK
      obtain ⟨C, hC⟩ : ∃ C, sumF (fun t => perV n V O t (W t)) t = C := ⟨_, rfl⟩
      rw [hC] at sb HSU ⊢
      have HBW : Hid (Below w.heap.size w wr) := hB
      have zg2 : g2 < wr.heap.size := Nat.lt_of_lt_of_le hg2 zW
      have zg1 : g1 < wr.heap.size := Nat.lt_of_lt_of_le hg1 zW
      clear hC hN hbb hld hrb hB
      go_upto_region 14 with fail
      refine wp_region_held_drew (S := fun w' => w'.cell? ⟨g2, o2 + t, none⟩ = some (.slice a2 n d2) ∧ w'.cell? ⟨g1, o1 + t, none⟩ = some (.int .i64 ld)) (by kernel_rfl) ?_ (fun hHeld => ?_)
      · exact keepLB e0 l0 zg2 zg1 (by repeat (first | with_reducible exact Below.refl _ _ | with_reducible refine Below.setCell ?_ (by first | omega | (simp; done) | (simp; omega)) _ | with_reducible refine bDrewN ?_ _ | with_reducible refine Below.drew ?_ | with_reducible refine Below.alloc ?_ (by first | omega | (simp; done) | (simp; omega)) _))
      refine wpAnyH_take (i := 0) (v := .slice s n c) rfl (by kernel_rfl) (by kernel_rfl) (by kernel_rfl) (fun _ _ _ h => h) (Or.inl ⟨by kernel_rfl, ?_⟩) hHeld ?_
      · intro w' hSw
        obtain ⟨s0, s1⟩ := hSw
        first | (go_simp; done) | (go_simp; with_reducible rfl) | (go_simp; rw [IntKind.wrap_i64]; omega) | (go_simp; omega)
      simp only [Act.put, List.setIfInBounds_toArray, List.set_cons_zero, List.set_cons_succ]
      refine wpAnyH_take (i := 1) (v := .slice (some ⟨g2, o2, none⟩) no f) rfl (by kernel_rfl) (by kernel_rfl) (by kernel_rfl) (fun _ _ _ h => h) (Or.inl ⟨by kernel_rfl, ?_⟩) hHeld ?_
      · intro w' hSw
        obtain ⟨s0, s1⟩ := hSw
        first | (go_simp; done) | (go_simp; with_reducible rfl) | (go_simp; rw [IntKind.wrap_i64]; omega) | (go_simp; omega)
      simp only [Act.put, List.setIfInBounds_toArray, List.set_cons_zero, List.set_cons_succ]
      refine wpAnyH_take (i := 2) (v := .int .i64 (t : Int)) rfl (by kernel_rfl) (by kernel_rfl) (by kernel_rfl) (fun _ _ _ h => h) (Or.inl ⟨by kernel_rfl, ?_⟩) hHeld ?_
      · intro w' hSw
        obtain ⟨s0, s1⟩ := hSw
        first | (go_simp; done) | (go_simp; with_reducible rfl) | (go_simp; rw [IntKind.wrap_i64]; omega) | (go_simp; omega)
      simp only [Act.put, List.setIfInBounds_toArray, List.set_cons_zero, List.set_cons_succ]
      refine wpAnyH_take (i := 3) (v := .pointer (some ⟨g2, o2 + t, none⟩)) rfl (by kernel_rfl) (by kernel_rfl) (by kernel_rfl) (fun _ _ _ h => h) (Or.inl ⟨by kernel_rfl, ?_⟩) hHeld ?_
      · intro w' hSw
        obtain ⟨s0, s1⟩ := hSw
        first | (go_simp; done) | (go_simp; with_reducible rfl) | (go_simp; rw [IntKind.wrap_i64]; omega) | (go_simp; omega)
      simp only [Act.put, List.setIfInBounds_toArray, List.set_cons_zero, List.set_cons_succ]
      refine wpAnyH_take (i := 4) (v := .slice a2 n d2) rfl (by kernel_rfl) (by kernel_rfl) (by kernel_rfl) (fun _ _ _ h => h) (Or.inl ⟨by kernel_rfl, ?_⟩) hHeld ?_
      · intro w' hSw
        obtain ⟨s0, s1⟩ := hSw
        first | (go_simp; done) | (go_simp; with_reducible rfl) | (go_simp; rw [IntKind.wrap_i64]; omega) | (go_simp; omega)
      simp only [Act.put, List.setIfInBounds_toArray, List.set_cons_zero, List.set_cons_succ]
      refine wpAnyH_take (i := 5) (v := .slice (some ⟨g1, o1, none⟩) no d) rfl (by kernel_rfl) (by kernel_rfl) (by kernel_rfl) (fun _ _ _ h => h) (Or.inl ⟨by kernel_rfl, ?_⟩) hHeld ?_
      · intro w' hSw
        obtain ⟨s0, s1⟩ := hSw
        first | (go_simp; done) | (go_simp; with_reducible rfl) | (go_simp; rw [IntKind.wrap_i64]; omega) | (go_simp; omega)
      simp only [Act.put, List.setIfInBounds_toArray, List.set_cons_zero, List.set_cons_succ]
      refine wpAnyH_take (i := 6) (v := .int .i64 (t : Int)) rfl (by kernel_rfl) (by kernel_rfl) (by kernel_rfl) (fun _ _ _ h => h) (Or.inl ⟨by kernel_rfl, ?_⟩) hHeld ?_
      · intro w' hSw
        obtain ⟨s0, s1⟩ := hSw
        first | (go_simp; done) | (go_simp; with_reducible rfl) | (go_simp; rw [IntKind.wrap_i64]; omega) | (go_simp; omega)
      simp only [Act.put, List.setIfInBounds_toArray, List.set_cons_zero, List.set_cons_succ]
      refine wpAnyH_take (i := 7) (v := .pointer (some ⟨g1, o1 + t, none⟩)) rfl (by kernel_rfl) (by kernel_rfl) (by kernel_rfl) (fun _ _ _ h => h) (Or.inl ⟨by kernel_rfl, ?_⟩) hHeld ?_
      · intro w' hSw
        obtain ⟨s0, s1⟩ := hSw
        first | (go_simp; done) | (go_simp; with_reducible rfl) | (go_simp; rw [IntKind.wrap_i64]; omega) | (go_simp; omega)
      simp only [Act.put, List.setIfInBounds_toArray, List.set_cons_zero, List.set_cons_succ]
      refine wpAnyH_take (i := 8) (v := .int .i64 ld) rfl (by kernel_rfl) (by kernel_rfl) (by kernel_rfl) (fun _ _ _ h => h) (Or.inl ⟨by kernel_rfl, ?_⟩) hHeld ?_
      · intro w' hSw
        obtain ⟨s0, s1⟩ := hSw
        first | (go_simp; done) | (go_simp; with_reducible rfl) | (go_simp; rw [IntKind.wrap_i64]; omega) | (go_simp; omega)
      simp only [Act.put, List.setIfInBounds_toArray, List.set_cons_zero, List.set_cons_succ]
      refine wpAnyH_ready (rs := [9]) (by kernel_rfl) (by simp) ?_
      refine AllReadyH.cons rfl (fun KK hK => ?_) AllReadyH.nil
      go_simp
      go_wp2_with (first | (go_at_call 9; refine (HM.out _ (HBW.out.trans (Below.mono (by repeat (first | with_reducible exact Below.refl _ _ | with_reducible refine Below.setCell ?_ (by first | omega | (simp; done) | (simp; omega)) _ | with_reducible refine bDrewN ?_ _ | with_reducible refine Below.drew ?_ | with_reducible refine Below.alloc ?_ (by first | omega | (simp; done) | (simp; omega)) _)) HBW.out.size))).mono ?_; rintro e w7 ⟨sm, cp, rfl, O7, h7⟩; have HU : Hid (RowI w7 sm N (outV n V (O t) ld)) := OwnI.row O7; have B7 : Below wr.heap.size wr w7 := Below.trans (by repeat (first | with_reducible exact Below.refl _ _ | with_reducible refine Below.setCell ?_ (by first | omega | (simp; done) | (simp; omega)) _ | with_reducible refine bDrewN ?_ _ | with_reducible refine Below.drew ?_ | with_reducible refine Below.alloc ?_ (by first | omega | (simp; done) | (simp; omega)) _)) (h7.mono (by first | omega | (simp; done) | (simp; omega))); clear h7 O7))
      refine hK.out _ _ (keepLB e0 l0 zg2 zg1 B7) (fun hHeld => ?_)
      clear hK KK
      refine wpAnyH_take (i := 10) (v := .tuple #[.slice sm N cp, .bool bb]) rfl (by kernel_rfl) (by kernel_rfl) (by kernel_rfl) (fun _ _ _ h => h) (Or.inl ⟨by kernel_rfl, ?_⟩) hHeld ?_
      · intro w' hSw
        obtain ⟨s0, s1⟩ := hSw
        first | (go_simp; done) | (go_simp; with_reducible rfl) | (go_simp; rw [IntKind.wrap_i64]; omega) | (go_simp; omega)
      simp only [Act.put, List.setIfInBounds_toArray, List.set_cons_zero, List.set_cons_succ]
      refine wpAnyH_take (i := 11) (v := .slice sm N cp) rfl (by kernel_rfl) (by kernel_rfl) (by kernel_rfl) (fun _ _ _ h => h) (Or.inl ⟨by kernel_rfl, ?_⟩) hHeld ?_
      · intro w' hSw
        obtain ⟨s0, s1⟩ := hSw
        first | (go_simp; done) | (go_simp; with_reducible rfl) | (go_simp; rw [IntKind.wrap_i64]; omega) | (go_simp; omega)
      simp only [Act.put, List.setIfInBounds_toArray, List.set_cons_zero, List.set_cons_succ]
      refine wpAnyH_take (i := 12) (v := .bool bb) rfl (by kernel_rfl) (by kernel_rfl) (by kernel_rfl) (fun _ _ _ h => h) (Or.inl ⟨by kernel_rfl, ?_⟩) hHeld ?_
      · intro w' hSw
        obtain ⟨s0, s1⟩ := hSw
        first | (go_simp; done) | (go_simp; with_reducible rfl) | (go_simp; rw [IntKind.wrap_i64]; omega) | (go_simp; omega)
      simp only [Act.put, List.setIfInBounds_toArray, List.set_cons_zero, List.set_cons_succ]
      refine wpAnyH_take (i := 13) (v := .slice sm N cp) rfl (by kernel_rfl) (by kernel_rfl) (by kernel_rfl) (fun _ _ _ h => h) (Or.inl ⟨by kernel_rfl, ?_⟩) hHeld ?_
      · intro w' hSw
        obtain ⟨s0, s1⟩ := hSw
        first | (go_simp; done) | (go_simp; with_reducible rfl) | (go_simp; rw [IntKind.wrap_i64]; omega) | (go_simp; omega)
      simp only [Act.put, List.setIfInBounds_toArray, List.set_cons_zero, List.set_cons_succ]
      refine wpAnyH_ready (rs := [14]) (by kernel_rfl) (by simp) ?_
      refine AllReadyH.cons rfl (fun KK hK => ?_) AllReadyH.nil
      go_simp
      refine hK.out _ _ hHeld (fun hHeld => ?_)
      clear hK KK
      refine wpAnyH_done (by kernel_rfl) ?_ _
      have B9 : Below w.heap.size w w7 := HBW.out.trans (B7.mono HBW.out.size)
      have HB9 : Hid (Below w.heap.size w w7) := B9
      have z9 := B9.size
      have hh := hHeld.1
      clear hHeld B7 B9 HM e0 l0 zg1 zg2
      cases bb
      · have HF : Hid (costV n V no W no K O = -1) := HBD.out HOK.out
        go_wp2
        go_ret
        exact ⟨ret_int HF.out.symm, HB9.out⟩
      obtain rfl : n = N := (HNN.out rfl).symm
      go_wp2_with fail
      go_loopw [8, 12] (fun v i wx => ∃ k : Nat, k ≤ n ∧ i = .int .i64 k ∧ v = .int .i64 (C + sumF (pcF n V O t ld) k) ∧ Below w7.heap.size w7 wx) (fun _ i _ => n - (intOf i).toNat)
      case atStart => exact ⟨0, Nat.zero_le _, rfl, by simp [sumF], Below.refl _ _⟩
      case round =>
        obtain ⟨k, hk, rfl, rfl, hX⟩ := hrel
        by_cases h2 : k < n
        case neg =>
          obtain rfl : n = k := by omega
          have HQ : Hid (sumF (fun t => perV n V O t (W t)) (t + 1) = C + sumF (pcF n V O t ld) n) := HSU.out
          have HBX : Hid (Below w.heap.size w wr) := HB9.out.trans (hX.mono HB9.out.size)
          clear hX
          go_wp2
          go_roundw
          case rel => exact ⟨t + 1, by omega, by go_num, by rw [HQ.out], ball_succP HT.out HOK.out, HBX.out⟩
          case measure => first | (simp [intOf]; done) | (simp [intOf]; omega)
        have HBX : Hid (Below w.heap.size w wr) := HB9.out.trans (hX.mono HB9.out.size)
        have k1 : (k : Int) < (n : Int) := by omega
        obtain ⟨g, o, rfl, hg, -, -, c2, c3, -⟩ := HR.out k h2
        obtain ⟨G, og, rfl, hG, cG⟩ := HU.out k h2
        obtain ⟨g3, o3, rfl, hg3, e1⟩ := HRB.out k h2
        have ub := out_in (P := O t) (ld := ld) HPL.out k h2
        have pb := pl_yes (HPL.out k h2)
        have HPC : Hid (sumF (pcF n V O t ld) (k + 1) = sumF (pcF n V O t ld) k + (outV n V (O t) ld k * (V k).2.2.1 + (if (O t k && decide (ranF O t k = 0)) = true then (V k).2.2.2.1 else 0))) := rfl
        have sk := sum_in (f := pcF n V O t ld) (n := k) (M := 1100000000) (fun j hj => pc_in HPL.out j (by omega))
        have HZ0 : Hid (t = 0 → decide (ranF O t k = 0) = true) := zer_here
        have HZ1 : Hid (∀ v, t = v + 1 → decide (ranF O t k = 0) = !(O v k)) := fun v h => zer_ahead h
        obtain ⟨⟨a, b, dd, x, y⟩, hV⟩ : ∃ z, V k = z := ⟨_, rfl⟩
        rw [hV] at c2 c3 pb HPC
        simp only at c2 c3 pb HPC
        obtain ⟨uu, huu⟩ : ∃ z, outV n V (O t) ld k = z := ⟨_, rfl⟩
        rw [huu] at cG ub HPC
        have mb := mul_cost ub.1 ub.2 pb.2.2.1.1 pb.2.2.1.2
        have xb := pb.2.2.2.1
        obtain ⟨S, hS⟩ : ∃ z, sumF (pcF n V O t ld) k = z := ⟨_, rfl⟩
        rw [hS] at HPC sk ⊢
        obtain ⟨bo, hbo⟩ : ∃ z, O t k = z := ⟨_, rfl⟩
        rw [hbo] at e1 HPC
        obtain ⟨zr, hzr⟩ : ∃ z, decide (ranF O t k = 0) = z := ⟨_, rfl⟩
        rw [hzr] at HZ0 HZ1 HPC
        clear hV huu hS hbo hzr pb
        have cx2 := (HBX.out.cell (p := ⟨g, o + k * 5 + 2, none⟩) hg).trans c2
        have cxG := (hX.cell (p := ⟨G, og + k, none⟩) hG).trans cG
        have zg : g < wr.heap.size := Nat.lt_of_lt_of_le hg HBX.out.size
        have zG : G < wr.heap.size := Nat.lt_of_lt_of_le hG hX.size
        have mm := mb.1
        have mM := mb.2
        have s0 : 0 ≤ S ∧ S ≤ 3300000000 := by omega
        clear mb sk
        go_upto_region 20 with fail
        refine wp_region_held_drew (S := fun w' => w'.cell? ⟨g, o + k * 5 + 2, none⟩ = some (.int .i64 dd) ∧ w'.cell? ⟨G, og + k, none⟩ = some (.int .i64 uu)) (by kernel_rfl) ?_ (fun hHeld => ?_)
        · exact keepLB cx2 cxG zg zG (by repeat (first | with_reducible exact Below.refl _ _ | with_reducible refine Below.setCell ?_ (by first | omega | (simp; done) | (simp; omega)) _ | with_reducible refine bDrewN ?_ _ | with_reducible refine Below.drew ?_ | with_reducible refine Below.alloc ?_ (by first | omega | (simp; done) | (simp; omega)) _))
        refine wpAnyH_take (i := 0) (v := .int .i64 (C + S)) rfl (by kernel_rfl) (by kernel_rfl) (by kernel_rfl) (fun _ _ _ h => h) (Or.inl ⟨by kernel_rfl, ?_⟩) hHeld ?_
        · intro w' hSw
          obtain ⟨s0, s1⟩ := hSw
          first | (go_simp; done) | (go_simp; with_reducible rfl) | (go_simp; rw [IntKind.wrap_i64]; omega) | (go_simp; omega)
        simp only [Act.put, List.setIfInBounds_toArray, List.set_cons_zero, List.set_cons_succ]
        refine wpAnyH_take (i := 1) (v := .slice (some ⟨G, og, none⟩) n cp) rfl (by kernel_rfl) (by kernel_rfl) (by kernel_rfl) (fun _ _ _ h => h) (Or.inl ⟨by kernel_rfl, ?_⟩) hHeld ?_
        · intro w' hSw
          obtain ⟨s0, s1⟩ := hSw
          first | (go_simp; done) | (go_simp; with_reducible rfl) | (go_simp; rw [IntKind.wrap_i64]; omega) | (go_simp; omega)
        simp only [Act.put, List.setIfInBounds_toArray, List.set_cons_zero, List.set_cons_succ]
        refine wpAnyH_take (i := 2) (v := .int .i64 (k : Int)) rfl (by kernel_rfl) (by kernel_rfl) (by kernel_rfl) (fun _ _ _ h => h) (Or.inl ⟨by kernel_rfl, ?_⟩) hHeld ?_
        · intro w' hSw
          obtain ⟨s0, s1⟩ := hSw
          first | (go_simp; done) | (go_simp; with_reducible rfl) | (go_simp; rw [IntKind.wrap_i64]; omega) | (go_simp; omega)
        simp only [Act.put, List.setIfInBounds_toArray, List.set_cons_zero, List.set_cons_succ]
        refine wpAnyH_take (i := 3) (v := .pointer (some ⟨G, og + k, none⟩)) rfl (by kernel_rfl) (by kernel_rfl) (by kernel_rfl) (fun _ _ _ h => h) (Or.inl ⟨by kernel_rfl, ?_⟩) hHeld ?_
        · intro w' hSw
          obtain ⟨s0, s1⟩ := hSw
          first | (go_simp; done) | (go_simp; with_reducible rfl) | (go_simp; rw [IntKind.wrap_i64]; omega) | (go_simp; omega)
        simp only [Act.put, List.setIfInBounds_toArray, List.set_cons_zero, List.set_cons_succ]
        refine wpAnyH_take (i := 4) (v := .int .i64 uu) rfl (by kernel_rfl) (by kernel_rfl) (by kernel_rfl) (fun _ _ _ h => h) (Or.inl ⟨by kernel_rfl, ?_⟩) hHeld ?_
        · intro w' hSw
          obtain ⟨s0, s1⟩ := hSw
          first | (go_simp; done) | (go_simp; with_reducible rfl) | (go_simp; rw [IntKind.wrap_i64]; omega) | (go_simp; omega)
        simp only [Act.put, List.setIfInBounds_toArray, List.set_cons_zero, List.set_cons_succ]
        refine wpAnyH_take (i := 5) (v := .slice (some ⟨g, o, none⟩) n c) rfl (by kernel_rfl) (by kernel_rfl) (by kernel_rfl) (fun _ _ _ h => h) (Or.inl ⟨by kernel_rfl, ?_⟩) hHeld ?_
        · intro w' hSw
          obtain ⟨s0, s1⟩ := hSw
          first | (go_simp; done) | (go_simp; with_reducible rfl) | (go_simp; rw [IntKind.wrap_i64]; omega) | (go_simp; omega)
        simp only [Act.put, List.setIfInBounds_toArray, List.set_cons_zero, List.set_cons_succ]
        refine wpAnyH_take (i := 6) (v := .int .i64 (k : Int)) rfl (by kernel_rfl) (by kernel_rfl) (by kernel_rfl) (fun _ _ _ h => h) (Or.inl ⟨by kernel_rfl, ?_⟩) hHeld ?_
        · intro w' hSw
          obtain ⟨s0, s1⟩ := hSw
          first | (go_simp; done) | (go_simp; with_reducible rfl) | (go_simp; rw [IntKind.wrap_i64]; omega) | (go_simp; omega)
        simp only [Act.put, List.setIfInBounds_toArray, List.set_cons_zero, List.set_cons_succ]
        refine wpAnyH_take (i := 7) (v := .pointer (some ⟨g, o + k * 5, none⟩)) rfl (by kernel_rfl) (by kernel_rfl) (by kernel_rfl) (fun _ _ _ h => h) (Or.inl ⟨by kernel_rfl, ?_⟩) hHeld ?_
        · intro w' hSw
          obtain ⟨s0, s1⟩ := hSw
          first | (go_simp; done) | (go_simp; with_reducible rfl) | (go_simp; rw [IntKind.wrap_i64]; omega) | (go_simp; omega)
        simp only [Act.put, List.setIfInBounds_toArray, List.set_cons_zero, List.set_cons_succ]
        refine wpAnyH_take (i := 8) (v := .pointer (some ⟨g, o + k * 5 + 2, none⟩)) rfl (by kernel_rfl) (by kernel_rfl) (by kernel_rfl) (fun _ _ _ h => h) (Or.inl ⟨by kernel_rfl, ?_⟩) hHeld ?_
        · intro w' hSw
          obtain ⟨s0, s1⟩ := hSw
          first | (go_simp; done) | (go_simp; with_reducible rfl) | (go_simp; rw [IntKind.wrap_i64]; omega) | (go_simp; omega)
        simp only [Act.put, List.setIfInBounds_toArray, List.set_cons_zero, List.set_cons_succ]
        refine wpAnyH_take (i := 9) (v := .int .i64 dd) rfl (by kernel_rfl) (by kernel_rfl) (by kernel_rfl) (fun _ _ _ h => h) (Or.inl ⟨by kernel_rfl, ?_⟩) hHeld ?_
        · intro w' hSw
          obtain ⟨s0, s1⟩ := hSw
          first | (go_simp; done) | (go_simp; with_reducible rfl) | (go_simp; rw [IntKind.wrap_i64]; omega) | (go_simp; omega)
        simp only [Act.put, List.setIfInBounds_toArray, List.set_cons_zero, List.set_cons_succ]
        refine wpAnyH_take (i := 10) (v := .int .i64 (uu * dd)) rfl (by kernel_rfl) (by kernel_rfl) (by kernel_rfl) (fun _ _ _ h => h) (Or.inl ⟨by kernel_rfl, ?_⟩) hHeld ?_
        · intro w' hSw
          obtain ⟨s0, s1⟩ := hSw
          first | (go_simp; done) | (go_simp; with_reducible rfl) | (go_simp; rw [IntKind.wrap_i64]; omega) | (go_simp; omega)
        simp only [Act.put, List.setIfInBounds_toArray, List.set_cons_zero, List.set_cons_succ]
        refine wpAnyH_take (i := 11) (v := .int .i64 (C + S + uu * dd)) rfl (by kernel_rfl) (by kernel_rfl) (by kernel_rfl) (fun _ _ _ h => h) (Or.inl ⟨by kernel_rfl, ?_⟩) hHeld ?_
        · intro w' hSw
          obtain ⟨s0, s1⟩ := hSw
          first | (go_simp; done) | (go_simp; with_reducible rfl) | (go_simp; rw [IntKind.wrap_i64]; omega) | (go_simp; omega)
        simp only [Act.put, List.setIfInBounds_toArray, List.set_cons_zero, List.set_cons_succ]
        refine wpAnyH_ready (rs := [12]) (by kernel_rfl) (by simp) ?_
        refine AllReadyH.cons rfl (fun KK hK => ?_) AllReadyH.nil
        go_simp
        refine hK.out _ _ hHeld (fun hHeld => ?_)
        clear hK KK
        refine wpAnyH_done (by kernel_rfl) ?_ _
        obtain ⟨w5, hw5⟩ : ∃ z, z = wr.drew := ⟨_, rfl⟩
        rw [← hw5]
        have hb5 : Below wr.heap.size wr w5 := by rw [hw5]; exact below_drewS _
        have X5 : Below w7.heap.size w7 w5 := hX.trans (hb5.mono hX.size)
        have B5 : Below w.heap.size w w5 := HBX.out.trans (hb5.mono HBX.out.size)
        replace c3 := (B5.cell (p := ⟨g, o + k * 5 + 3, none⟩) hg).trans c3
        replace e1 := (B5.cell (p := ⟨g3, o3 + k, none⟩) hg3).trans e1
        have e0 := (X5.cell (p := ⟨g2, o2 + t, none⟩) (Nat.lt_of_lt_of_le hg2 z9)).trans hh
        have HX5 : Hid (Below w7.heap.size w7 w5) := X5
        have HB5 : Hid (Below w.heap.size w w5) := B5
        obtain ⟨P, hP⟩ : ∃ z, C + S + uu * dd = z := ⟨_, rfl⟩
        have HP : Hid (C + sumF (pcF n V O t ld) (k + 1) = P + (if (bo && zr) = true then x else 0)) := by show _ = _; rw [HPC.out, ← hP]; omega
        have P0 : 0 ≤ P ∧ P ≤ 100000000000 := by omega
        rw [hP]
        clear hw5 hb5 hHeld hh c2 cG cx2 cxG HPC hP X5 B5 mm mM
        cases bo
        · have HQ : Hid (C + sumF (pcF n V O t ld) (k + 1) = P) := by show _ = _; rw [HP.out]; simp
          go_wp2
          go_roundw
          case rel => exact ⟨k + 1, by omega, by go_num, by rw [HQ.out], HX5.out⟩
          case measure => first | (simp [intOf]; done) | (simp [intOf]; omega)
        by_cases t0 : t = 0
        · obtain rfl : zr = true := HZ0.out t0
          have b0 : ((t : Int) == 0) = true := by rw [t0]; rfl
          have b1 : (t == 0) = true := by rw [t0]; rfl
          clear t0
          have HQ : Hid (C + sumF (pcF n V O t ld) (k + 1) = P + x) := by show _ = _; rw [HP.out]; simp
          go_wp2
          go_roundw
          case rel => exact ⟨k + 1, by omega, by go_num, by rw [HQ.out], HX5.out⟩
          case measure => first | (simp [intOf]; done) | (simp [intOf]; omega)
        obtain ⟨v, hv⟩ : ∃ v, t = v + 1 := ⟨t - 1, by omega⟩
        have b0 : ((t : Int) == 0) = false := by simp; omega
        have b1 : (t == 0) = false := by simp; omega
        have tv : (t : Int) - 1 = (v : Int) := by omega
        have wv : IntKind.i64.wrap (v : Int) = (v : Int) := by rw [IntKind.wrap_i64]; omega
        have v1 : (v : Int) < (no : Int) := by omega
        have hz := HZ1.out v hv
        obtain ⟨g4, o4, a4, d4, hq4, hg4, f0, hrv⟩ := HO.out v (by omega)
        cases hq4
        rw [HK.out v (by omega)] at f0 hrv
        obtain ⟨g6, o6, rfl, hg6, f1⟩ := hrv k h2
        replace f0 := (HB5.out.cell (p := ⟨g2, o2 + v, none⟩) hg4).trans f0
        replace f1 := (HB5.out.cell (p := ⟨g6, o6 + k, none⟩) hg6).trans f1
        obtain ⟨bv, hbv⟩ : ∃ z, O v k = z := ⟨_, rfl⟩
        rw [hbv] at f1 hz
        clear hrv hbv t0 hv
        cases bv
        · obtain rfl : zr = true := hz
          have HQ : Hid (C + sumF (pcF n V O t ld) (k + 1) = P + x) := by show _ = _; rw [HP.out]; simp
          go_wp2
          go_roundw
          case rel => exact ⟨k + 1, by omega, by go_num, by rw [HQ.out], HX5.out⟩
          case measure => first | (simp [intOf]; done) | (simp [intOf]; omega)
        · obtain rfl : zr = false := hz
          have HQ : Hid (C + sumF (pcF n V O t ld) (k + 1) = P) := by show _ = _; rw [HP.out]; simp
          go_wp2
          go_roundw
          case rel => exact ⟨k + 1, by omega, by go_num, by rw [HQ.out], HX5.out⟩
          case measure => first | (simp [intOf]; done) | (simp [intOf]; omega)
end Go.Proofs.Ytdlbniihgppodaa
