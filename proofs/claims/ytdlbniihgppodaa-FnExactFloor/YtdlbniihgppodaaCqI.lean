/-
What is proved: what plans cost, as the program says it.
-/
import Derived.Test.YtdlbniihgppodaaCqP
import Derived.Test.YtdlbniihgppodaaCqS
import Derived.Deep.RegionHeld3
import Derived.BigQuiet
namespace Go.Proofs.Ytdlbniihgppodaa
set_option maxRecDepth 40000
open Go.ChangeShapes Go.WideShapes Go.ChangeAt Go.RowKit
set_option linter.unusedVariables false
set_option linter.unusedSimpArgs false

def raF (n : Nat) (O : Nat → Nat → Bool) (t i : Nat) : Int := if i < n then ranF O t i else 0
theorem ra_ok {n no : Nat} {V : Nat → Int × Int × Int × Int × Int} {W : Nat → Int} {K : Nat → Nat} {O : Nat → Nat → Bool} {t : Nat} {ld : Int} (h : W t = ld) : pokB n V (O t) (K t) ld (raF n O t) = okT n V no W no K O t := by
  unfold pokB okT styB
  rw [h]
  have : (∀ i, i < n → pgB V (O t) (raF n O t) i = true) ↔ (∀ i, i < n → stoB V O t i = true) := by
    constructor
    · intro h i hi; have := h i hi; unfold pgB raF at this; rw [if_pos hi] at this; exact this
    · intro h i hi; have := h i hi; unfold pgB raF; rw [if_pos hi]; exact this
  rw [decide_eq_decide.2 this]
theorem ra_sum {n : Nat} {V : Nat → Int × Int × Int × Int × Int} {O : Nat → Nat → Bool} {t : Nat} {ld : Int} : sumF (pgF n V (O t) ld (raF n O t)) n = perV n V O t ld := sum_same fun j hj => by
  unfold pgF pcF raF
  rw [if_pos hj]
theorem ra_next {n : Nat} {O : Nat → Nat → Bool} {t i : Nat} : upF (O t) (raF n O t) n i = raF n O (t + 1) i := by
  unfold upF nxF raF
  by_cases h : i < n
  · rw [if_pos h, if_pos h, if_pos h]; rfl
  · rw [if_neg h, if_neg h, if_neg h]
theorem own_set3 {base g : Nat} {w : World} {E F : Nat → Int} (h : OwnI base w (some ⟨g, 0, none⟩) 3 E) : OwnI base (((w.setCell ⟨g, 0, none⟩ (.int .i64 (F 0))).setCell ⟨g, 1, none⟩ (.int .i64 (F 1))).setCell ⟨g, 2, none⟩ (.int .i64 (F 2))) (some ⟨g, 0, none⟩) 3 F :=
  own_setM (E := fun i => if i = 1 then F 1 else if i = 0 then F 0 else E i) (own_setM (E := fun i => if i = 0 then F 0 else E i) (own_setM (E := E) h (fun _ _ => rfl)) (fun _ _ => rfl)) (fun i hi => by
    rcases (by omega : i = 0 ∨ i = 1 ∨ i = 2) with rfl | rfl | rfl <;> simp)
set_option maxRecDepth 20000 in
set_option maxHeartbeats 16000000 in
theorem implCostOf_any (s : Option Addr) (n c : Nat) (V : Nat → Int × Int × Int × Int × Int) (u : Option Addr) (m d : Nat) (W : Nat → Int) (q : Option Addr) (no f : Nat) (K : Nat → Nat) (O : Nat → Nat → Bool) (w : World) (hn : (n : Int) ≤ 1048576) (hm : (m : Int) ≤ 1048576) (hno : (no : Int) ≤ 1048576) (hK : ∀ i, i < no → (K i : Int) ≤ 1048576) (HR : Hid (RowPlant w s n V)) (HW : Hid (RowI w u m W)) (HO : Hid (RowLB w q no K O)) :
    Calls Try.prog 24 #[.slice s n c, .slice u m d, .slice q no f] w fun e w' => e = .returned (.int .i64 (costV n V m W no K O)) ∧ Below w.heap.size w w' := by
  go_enter Try.func24, Try.ntmps24
  go_wp2_with fail
  refine (plantsOk_any s n c V _ hn HR).mono ?_
  rintro e w1 ⟨rfl, B1⟩
  cases h0 : plsB n V
  · have HF : Hid (costV n V m W no K O = -1) := cot_off (by rw [h0]; rfl)
    go_wp2
    go_ret
    exact ⟨ret_int HF.out.symm, (by repeat (first | with_reducible exact Below.refl _ _ | with_reducible exact B1 | with_reducible refine Below.setCell ?_ (by first | omega | (simp; done) | (simp; omega)) _ | with_reducible refine bDrewN ?_ _ | with_reducible refine Below.drew ?_ | with_reducible refine Below.alloc ?_ (by first | omega | (simp; done) | (simp; omega)) _))⟩
  have HW1 : Hid (RowI w1 u m W) := HW.out.below B1
  go_wp2_with fail
  refine (loadsOk_any u m d W _ hm HW1).mono ?_
  rintro e w1 ⟨rfl, rfl⟩
  cases h1 : ldB m W
  · have HF : Hid (costV n V m W no K O = -1) := cot_off (by rw [h0, h1]; rfl)
    go_wp2
    go_ret
    exact ⟨ret_int HF.out.symm, (by repeat (first | with_reducible exact Below.refl _ _ | with_reducible exact B1 | with_reducible refine Below.setCell ?_ (by first | omega | (simp; done) | (simp; omega)) _ | with_reducible refine bDrewN ?_ _ | with_reducible refine Below.drew ?_ | with_reducible refine Below.alloc ?_ (by first | omega | (simp; done) | (simp; omega)) _))⟩
  by_cases hno2 : no = m
  case neg =>
    have b0 : ((no : Int) != (m : Int)) = true := by simp; omega
    have HF : Hid (costV n V m W no K O = -1) := cot_off (by rw [h0, h1, decide_eq_false hno2]; rfl)
    go_wp2
    go_ret
    exact ⟨ret_int HF.out.symm, (by repeat (first | with_reducible exact Below.refl _ _ | with_reducible exact B1 | with_reducible refine Below.setCell ?_ (by first | omega | (simp; done) | (simp; omega)) _ | with_reducible refine bDrewN ?_ _ | with_reducible refine Below.drew ?_ | with_reducible refine Below.alloc ?_ (by first | omega | (simp; done) | (simp; omega)) _))⟩
  subst hno2
  obtain ⟨n1, n3, hpl⟩ := pls_yes h0
  obtain ⟨m1, m5, hw⟩ := ld_yes h1
  have HPS : Hid (plsB n V = true) := h0
  have HLS : Hid (ldB no W = true) := h1
  have HPL : Hid (∀ i, i < n → plB (V i) = true) := hpl
  have HLD : Hid (∀ j, j < no → 0 ≤ W j ∧ W j ≤ 300000) := hw
  have HBAD : Hid (∀ t, t < no → okT n V no W no K O t = false → costV n V no W no K O = -1) := fun t ht h => cot_no ht h
  have HB1 : Hid (Below w.heap.size w w1) := B1
  have z1 := B1.size
  clear h0 h1 hpl hw B1
  go_upto_region 4 with fail
  obtain ⟨G, hG⟩ : ∃ G, G = w1.heap.size := ⟨_, rfl⟩
  obtain ⟨wd, hwd⟩ : ∃ z, z = w1.alloc (.cells #[.int .i64 0, .int .i64 0, .int .i64 0] 68) := ⟨_, rfl⟩
  rw [← hwd, ← hG]
  have HBD : Hid (Below w.heap.size w wd) := by rw [hwd]; exact HB1.out.trans ((below0 _ _).mono z1)
  have HGD : Hid (OwnI w.heap.size wd (some ⟨G, 0, none⟩) 3 (raF n O 0)) := by
    rw [hwd]
    intro j hj
    have e : raF n O 0 j = 0 := by unfold raF ranF; simp
    rw [e, hG]
    rcases (by omega : j = 0 ∨ j = 1 ∨ j = 2) with rfl | rfl | rfl <;> exact ⟨w1.heap.size, rfl, z1, by simp, by simp [go_sem], by simp [go_sem]⟩
  have zG : w.heap.size ≤ G := by omega
  clear hwd hG HB1 z1
  go_wp2_with fail
  go_loopw [7, 32] (fun v i wr => ∃ t : Nat, t ≤ no ∧ i = .int .i64 t ∧ v = .int .i64 (sumF (fun t => perV n V O t (W t)) t) ∧ Hid (∀ j, j < t → okT n V no W no K O j = true) ∧ Hid (OwnI w.heap.size wr (some ⟨G, 0, none⟩) 3 (raF n O t)) ∧ Hid (Below w.heap.size w wr)) (fun _ i _ => no - (intOf i).toNat)
  case atStart => exact ⟨0, Nat.zero_le _, rfl, rfl, fun j hj => by omega, HGD.out, HBD.out⟩
  case round =>
    clear HGD HBD
    obtain ⟨t, ht, rfl, rfl, HT, HG, HBW⟩ := hrel
    have hB := HBW.out
    have zW := hB.size
    by_cases h1 : t < no
    case neg =>
      obtain rfl : no = t := by omega
      have HF : Hid (costV n V no W no K O = sumF (fun t => perV n V O t (W t)) no) := cot_yes HPS.out HLS.out rfl HT.out
      go_wp2
      go_ret
      exact ⟨ret_int HF.out.symm, HBW.out⟩
    case pos =>
      have t1 : (t : Int) < (no : Int) := by omega
      obtain ⟨g2, o2, a2, d2, rfl, hg2, e0, hrb⟩ := HO.out t h1
      have HRB : Hid (RowB w a2 (K t) (O t)) := hrb
      replace e0 := (hB.cell (p := ⟨g2, o2 + t, none⟩) hg2).trans e0
      obtain ⟨g1, o1, rfl, hg1, l0⟩ := HW.out t h1
      replace l0 := (hB.cell (p := ⟨g1, o1 + t, none⟩) hg1).trans l0
      have hl := HLD.out t h1
      have hkt := hK t h1
      obtain ⟨ld, hld⟩ : ∃ z, W t = z := ⟨_, rfl⟩
      rw [hld] at l0 hl
      have HOK : Hid (pokB n V (O t) (K t) ld (raF n O t) = okT n V no W no K O t) := ra_ok hld
      have HBD : Hid (okT n V no W no K O t = false → costV n V no W no K O = -1) := HBAD.out t h1
      have HSU : Hid (sumF (fun t => perV n V O t (W t)) (t + 1) = sumF (fun t => perV n V O t (W t)) t + perV n V O t ld) := by rw [← hld]; exact rfl
      have sb := tot_in (V := V) (O := O) (W := W) (m := no) (k := t) (by omega) (by omega) (by omega) HPL.out
      have pbb := per_in (V := V) (O := O) (t := t) (ld := ld) n3 HPL.out
      have hra : ∀ i, 0 ≤ raF n O t i ∧ raF n O t i ≤ 1000 := fun i => by have := ran_in O t i; unfold raF; split <;> omega
      have HM : Hid (∀ w', Below w.heap.size w w' → Calls Try.prog 47 #[.slice s n c, lasV (raF n O t), .slice a2 (K t) d2, .int .i64 ld] w' fun e w'' => PcPost n V (O t) (K t) ld (raF n O t) w' e w'') := fun w' hb => periodCost_any s n c V (raF n O t) a2 (K t) d2 (O t) ld w' hn hkt (by omega) (by omega) hra (HR.out.below hb) (HRB.out.below hb)
      obtain ⟨b0, q0, -, zr, r0, f0⟩ := HG.out 0 (by omega)
      cases q0
      obtain ⟨b0, q0, -, -, r1, f1⟩ := HG.out 1 (by omega)
      cases q0
      obtain ⟨b0, q0, -, -, r2, f2⟩ := HG.out 2 (by omega)
      cases q0
      unfold lasV at HM
      obtain ⟨x0, hx0⟩ : ∃ z, raF n O t 0 = z := ⟨_, rfl⟩
      rw [hx0] at r0 HM
      clear hx0
      obtain ⟨x1, hx1⟩ : ∃ z, raF n O t 1 = z := ⟨_, rfl⟩
      rw [hx1] at r1 HM
      clear hx1
      obtain ⟨x2, hx2⟩ : ∃ z, raF n O t 2 = z := ⟨_, rfl⟩
      rw [hx2] at r2 HM
      clear hx2
      obtain ⟨C, hC⟩ : ∃ C, sumF (fun t => perV n V O t (W t)) t = C := ⟨_, rfl⟩
      rw [hC] at sb HSU ⊢
      have zg2 : g2 < wr.heap.size := Nat.lt_of_lt_of_le hg2 zW
      clear hC hld hrb hB hra
      go_upto_region 7 with fail
      refine wp_region_held_drew (S := fun w' => w'.cell? ⟨G, 0, none⟩ = some (.int .i64 x0) ∧ w'.cell? ⟨G, 1, none⟩ = some (.int .i64 x1) ∧ w'.cell? ⟨G, 2, none⟩ = some (.int .i64 x2) ∧ w'.cell? ⟨g2, o2 + t, none⟩ = some (.slice a2 (K t) d2)) (by kernel_rfl) ?_ (fun hHeld => ?_)
      · exact ⟨((below_drewS wr).cell (p := ⟨G, 0, none⟩) zr).trans r0, ((below_drewS wr).cell (p := ⟨G, 1, none⟩) zr).trans r1, ((below_drewS wr).cell (p := ⟨G, 2, none⟩) zr).trans r2, ((below_drewS wr).cell (p := ⟨g2, o2 + t, none⟩) zg2).trans e0⟩
      refine wpAnyH_take (i := 0) (v := .slice s n c) rfl (by kernel_rfl) (by kernel_rfl) (by kernel_rfl) (fun _ _ _ h => h) (Or.inl ⟨by kernel_rfl, ?_⟩) hHeld ?_
      · intro w' hSw
        obtain ⟨s0, s1, s2, s3⟩ := hSw
        first | (go_simp; done) | (go_simp; with_reducible rfl) | (go_simp; rw [IntKind.wrap_i64]; omega) | (go_simp; omega)
      simp only [Act.put, List.setIfInBounds_toArray, List.set_cons_zero, List.set_cons_succ]
      refine wpAnyH_take (i := 1) (v := .agg #[.int .i64 x0, .int .i64 x1, .int .i64 x2]) rfl (by kernel_rfl) (by kernel_rfl) (by kernel_rfl) (fun _ _ _ h => h) (Or.inl ⟨by kernel_rfl, ?_⟩) hHeld ?_
      · intro w' hSw
        obtain ⟨s0, s1, s2, s3⟩ := hSw
        first | (go_simp; done) | (go_simp; with_reducible rfl) | (go_simp; rw [IntKind.wrap_i64]; omega) | (go_simp; omega)
      simp only [Act.put, List.setIfInBounds_toArray, List.set_cons_zero, List.set_cons_succ]
      refine wpAnyH_take (i := 2) (v := .slice (some ⟨g2, o2, none⟩) no f) rfl (by kernel_rfl) (by kernel_rfl) (by kernel_rfl) (fun _ _ _ h => h) (Or.inl ⟨by kernel_rfl, ?_⟩) hHeld ?_
      · intro w' hSw
        obtain ⟨s0, s1, s2, s3⟩ := hSw
        first | (go_simp; done) | (go_simp; with_reducible rfl) | (go_simp; rw [IntKind.wrap_i64]; omega) | (go_simp; omega)
      simp only [Act.put, List.setIfInBounds_toArray, List.set_cons_zero, List.set_cons_succ]
      refine wpAnyH_take (i := 3) (v := .int .i64 (t : Int)) rfl (by kernel_rfl) (by kernel_rfl) (by kernel_rfl) (fun _ _ _ h => h) (Or.inl ⟨by kernel_rfl, ?_⟩) hHeld ?_
      · intro w' hSw
        obtain ⟨s0, s1, s2, s3⟩ := hSw
        first | (go_simp; done) | (go_simp; with_reducible rfl) | (go_simp; rw [IntKind.wrap_i64]; omega) | (go_simp; omega)
      simp only [Act.put, List.setIfInBounds_toArray, List.set_cons_zero, List.set_cons_succ]
      refine wpAnyH_take (i := 4) (v := .pointer (some ⟨g2, o2 + t, none⟩)) rfl (by kernel_rfl) (by kernel_rfl) (by kernel_rfl) (fun _ _ _ h => h) (Or.inl ⟨by kernel_rfl, ?_⟩) hHeld ?_
      · intro w' hSw
        obtain ⟨s0, s1, s2, s3⟩ := hSw
        first | (go_simp; done) | (go_simp; with_reducible rfl) | (go_simp; rw [IntKind.wrap_i64]; omega) | (go_simp; omega)
      simp only [Act.put, List.setIfInBounds_toArray, List.set_cons_zero, List.set_cons_succ]
      refine wpAnyH_take (i := 5) (v := .slice a2 (K t) d2) rfl (by kernel_rfl) (by kernel_rfl) (by kernel_rfl) (fun _ _ _ h => h) (Or.inl ⟨by kernel_rfl, ?_⟩) hHeld ?_
      · intro w' hSw
        obtain ⟨s0, s1, s2, s3⟩ := hSw
        first | (go_simp; done) | (go_simp; with_reducible rfl) | (go_simp; rw [IntKind.wrap_i64]; omega) | (go_simp; omega)
      simp only [Act.put, List.setIfInBounds_toArray, List.set_cons_zero, List.set_cons_succ]
      refine wpAnyH_take (i := 6) (v := .int .i64 ld) rfl (by kernel_rfl) (by kernel_rfl) (by kernel_rfl) (fun _ _ _ h => h) (Or.inl ⟨by kernel_rfl, ?_⟩) hHeld ?_
      · intro w' hSw
        obtain ⟨s0, s1, s2, s3⟩ := hSw
        first | (go_simp; done) | (go_simp; with_reducible rfl) | (go_simp; rw [IntKind.wrap_i64]; omega) | (go_simp; omega)
      simp only [Act.put, List.setIfInBounds_toArray, List.set_cons_zero, List.set_cons_succ]
      refine wpAnyH_ready (rs := [7, 12]) (by kernel_rfl) (by simp) ?_
      refine AllReadyH.cons rfl (fun KK hK => ?_) (AllReadyH.cons rfl (fun KK hK => ?_) AllReadyH.nil)
      · go_simp
        go_wp2_with (first | (go_at_call 47; refine (HM.out _ (HBW.out.trans (Below.mono (by repeat (first | with_reducible exact Below.refl _ _ | with_reducible refine Below.setCell ?_ (by first | omega | (simp; done) | (simp; omega)) _ | with_reducible refine bDrewN ?_ _ | with_reducible refine Below.drew ?_ | with_reducible refine Below.alloc ?_ (by first | omega | (simp; done) | (simp; omega)) _)) HBW.out.size))).mono ?_; rintro e w7 ⟨v, B, b, hb, hv, rfl, h7⟩; have B7 : Below wr.heap.size wr w7 := Below.trans (by repeat (first | with_reducible exact Below.refl _ _ | with_reducible refine Below.setCell ?_ (by first | omega | (simp; done) | (simp; omega)) _ | with_reducible refine bDrewN ?_ _ | with_reducible refine Below.drew ?_ | with_reducible refine Below.alloc ?_ (by first | omega | (simp; done) | (simp; omega)) _)) (h7.mono (by first | omega | (simp; done) | (simp; omega))); have HBB : Hid (b = pokB n V (O t) (K t) ld (raF n O t)) := hb; have HVV : Hid (b = true → v = sumF (pgF n V (O t) ld (raF n O t)) n ∧ ∀ i, B i = upF (O t) (raF n O t) n i) := hv; clear hb hv; unfold lasV; clear h7))
        refine hK.out _ _ (⟨(B7.cell (p := ⟨G, 0, none⟩) zr).trans r0, (B7.cell (p := ⟨G, 1, none⟩) zr).trans r1, (B7.cell (p := ⟨G, 2, none⟩) zr).trans r2, (B7.cell (p := ⟨g2, o2 + t, none⟩) zg2).trans e0⟩) (fun hHeld => ?_)
        clear hK KK
        refine wpAnyH_take (i := 8) (v := .tuple #[.int .i64 v, .agg #[.int .i64 (B 0), .int .i64 (B 1), .int .i64 (B 2)], .bool b]) rfl (by kernel_rfl) (by kernel_rfl) (by kernel_rfl) (fun _ _ _ h => h) (Or.inl ⟨by kernel_rfl, ?_⟩) hHeld ?_
        · intro w' hSw
          obtain ⟨s0, s1, s2, s3⟩ := hSw
          first | (go_simp; done) | (go_simp; with_reducible rfl) | (go_simp; rw [IntKind.wrap_i64]; omega) | (go_simp; omega)
        simp only [Act.put, List.setIfInBounds_toArray, List.set_cons_zero, List.set_cons_succ]
        refine wpAnyH_take (i := 9) (v := .int .i64 v) rfl (by kernel_rfl) (by kernel_rfl) (by kernel_rfl) (fun _ _ _ h => h) (Or.inl ⟨by kernel_rfl, ?_⟩) hHeld ?_
        · intro w' hSw
          obtain ⟨s0, s1, s2, s3⟩ := hSw
          first | (go_simp; done) | (go_simp; with_reducible rfl) | (go_simp; rw [IntKind.wrap_i64]; omega) | (go_simp; omega)
        simp only [Act.put, List.setIfInBounds_toArray, List.set_cons_zero, List.set_cons_succ]
        refine wpAnyH_take (i := 10) (v := .agg #[.int .i64 (B 0), .int .i64 (B 1), .int .i64 (B 2)]) rfl (by kernel_rfl) (by kernel_rfl) (by kernel_rfl) (fun _ _ _ h => h) (Or.inl ⟨by kernel_rfl, ?_⟩) hHeld ?_
        · intro w' hSw
          obtain ⟨s0, s1, s2, s3⟩ := hSw
          first | (go_simp; done) | (go_simp; with_reducible rfl) | (go_simp; rw [IntKind.wrap_i64]; omega) | (go_simp; omega)
        simp only [Act.put, List.setIfInBounds_toArray, List.set_cons_zero, List.set_cons_succ]
        refine wpAnyH_take (i := 11) (v := .bool b) rfl (by kernel_rfl) (by kernel_rfl) (by kernel_rfl) (fun _ _ _ h => h) (Or.inl ⟨by kernel_rfl, ?_⟩) hHeld ?_
        · intro w' hSw
          obtain ⟨s0, s1, s2, s3⟩ := hSw
          first | (go_simp; done) | (go_simp; with_reducible rfl) | (go_simp; rw [IntKind.wrap_i64]; omega) | (go_simp; omega)
        simp only [Act.put, List.setIfInBounds_toArray, List.set_cons_zero, List.set_cons_succ]
        refine wpAnyH_ready (rs := [12]) (by kernel_rfl) (by simp) ?_
        refine AllReadyH.cons rfl (fun KK hK => ?_) AllReadyH.nil
        go_simp
        obtain ⟨wx, hwx⟩ : ∃ z, z = w7.alloc (.cells #[.int .i64 0, .int .i64 0, .int .i64 0] 68) := ⟨_, rfl⟩
        rw [← hwx]
        have Bx : Below wr.heap.size wr wx := by rw [hwx]; exact B7.trans ((below0 _ _).mono B7.size)
        have gn : wr.heap.size ≤ w7.heap.size := B7.size
        have HN : Hid (OwnI wr.heap.size wx (some ⟨w7.heap.size, 0, none⟩) 3 (fun _ => 0)) := by
          rw [hwx]
          intro j hj
          rcases (by omega : j = 0 ∨ j = 1 ∨ j = 2) with rfl | rfl | rfl <;> exact ⟨w7.heap.size, rfl, gn, by simp, by simp [go_sem], by simp [go_sem]⟩
        obtain ⟨_, m0, -, zn, c0, k0⟩ := HN.out 0 (by omega)
        cases m0
        obtain ⟨_, m0, -, -, c1, k1⟩ := HN.out 1 (by omega)
        cases m0
        obtain ⟨_, m0, -, -, c2, k2⟩ := HN.out 2 (by omega)
        cases m0
        refine hK.out _ _ (⟨(Bx.cell (p := ⟨G, 0, none⟩) zr).trans r0, (Bx.cell (p := ⟨G, 1, none⟩) zr).trans r1, (Bx.cell (p := ⟨G, 2, none⟩) zr).trans r2, (Bx.cell (p := ⟨g2, o2 + t, none⟩) zg2).trans e0⟩) (fun hHeld => ?_)
        clear hK KK hwx
        refine wpAnyH_take (i := 13) (v := .int .i64 v) rfl (by kernel_rfl) (by kernel_rfl) (by kernel_rfl) (fun _ _ _ h => h) (Or.inl ⟨by kernel_rfl, ?_⟩) hHeld ?_
        · intro w' hSw
          obtain ⟨s0, s1, s2, s3⟩ := hSw
          first | (go_simp; done) | (go_simp; with_reducible rfl) | (go_simp; rw [IntKind.wrap_i64]; omega) | (go_simp; omega)
        simp only [Act.put, List.setIfInBounds_toArray, List.set_cons_zero, List.set_cons_succ]
        refine wpAnyH_ready (rs := [14]) (by kernel_rfl) (by simp) ?_
        refine AllReadyH.cons rfl (fun KK hK => ?_) AllReadyH.nil
        go_simp
        have BS := set3B (w7.heap.size) (wx) (.int .i64 (B 0)) (.int .i64 (B 1)) (.int .i64 (B 2))
        have HS : Hid (OwnI wr.heap.size ((((wx).setCell ⟨w7.heap.size, 0, none⟩ (.int .i64 (B 0))).setCell ⟨w7.heap.size, 1, none⟩ (.int .i64 (B 1))).setCell ⟨w7.heap.size, 2, none⟩ (.int .i64 (B 2))) (some ⟨w7.heap.size, 0, none⟩) 3 B) := own_set3 (E := fun _ => 0) HN.out
        have HBs : Hid (Below wr.heap.size wr ((((wx).setCell ⟨w7.heap.size, 0, none⟩ (.int .i64 (B 0))).setCell ⟨w7.heap.size, 1, none⟩ (.int .i64 (B 1))).setCell ⟨w7.heap.size, 2, none⟩ (.int .i64 (B 2)))) := set3M Bx gn Bx.size
        obtain ⟨ws, hws⟩ : ∃ z, z = ((((wx).setCell ⟨w7.heap.size, 0, none⟩ (.int .i64 (B 0))).setCell ⟨w7.heap.size, 1, none⟩ (.int .i64 (B 1))).setCell ⟨w7.heap.size, 2, none⟩ (.int .i64 (B 2))) := ⟨_, rfl⟩
        rw [← hws] at BS HS HBs ⊢
        refine hK.out _ _ (⟨(HBs.out.cell (p := ⟨G, 0, none⟩) zr).trans r0, (HBs.out.cell (p := ⟨G, 1, none⟩) zr).trans r1, (HBs.out.cell (p := ⟨G, 2, none⟩) zr).trans r2, (HBs.out.cell (p := ⟨g2, o2 + t, none⟩) zg2).trans e0⟩) (fun hHeld => ?_)
        clear hK KK hws BS
        refine wpAnyH_ready (rs := [15]) (by kernel_rfl) (by simp) ?_
        refine AllReadyH.cons rfl (fun KK hK => ?_) AllReadyH.nil
        go_simp
        refine hK.out _ _ hHeld (fun hHeld => ?_)
        clear hK KK
        refine wpAnyH_done (by kernel_rfl) ?_ _
        clear hHeld
        have HBq : Hid (Below w.heap.size w ws) := HBW.out.trans (HBs.out.mono HBW.out.size)
        obtain ⟨Gn, hGn⟩ : ∃ z, w7.heap.size = z := ⟨_, rfl⟩
        have gm : wr.heap.size ≤ Gn := by rw [← hGn]; exact gn
        rw [hGn] at HS ⊢
        obtain ⟨b0, q0, -, zs, u0, -⟩ := HS.out 0 (by omega)
        cases q0
        obtain ⟨b0, q0, -, -, u1, -⟩ := HS.out 1 (by omega)
        cases q0
        obtain ⟨b0, q0, -, -, u2, -⟩ := HS.out 2 (by omega)
        cases q0
        have HGs : Hid (OwnI w.heap.size ws (some ⟨G, 0, none⟩) 3 (raF n O t)) := HG.out.below HBs.out
        obtain ⟨b0, q0, -, zq, y0, e0f⟩ := HGs.out 0 (by omega)
        cases q0
        obtain ⟨b0, q0, -, -, y1, e1f⟩ := HGs.out 1 (by omega)
        cases q0
        obtain ⟨b0, q0, -, -, y2, e2f⟩ := HGs.out 2 (by omega)
        cases q0
        cases b
        · have HF : Hid (costV n V no W no K O = -1) := HBD.out (by rw [← HOK.out]; exact HBB.out.symm)
          go_wp2
          go_ret
          exact ⟨ret_int HF.out.symm, HBq.out⟩
        · obtain ⟨hv1, hv2⟩ := HVV.out rfl
          rw [ra_sum] at hv1
          rw [← hv1] at pbb HSU
          have HV2 : Hid (∀ i, B i = raF n O (t + 1) i) := fun i => by rw [hv2 i]; exact ra_next
          have HOKT : Hid (okT n V no W no K O t = true) := by show _ = _; rw [← HOK.out]; exact HBB.out.symm
          clear hv1 hv2 HVV HBB
          go_upto_region 10 with fail
          refine wp_region_held_drew (S := fun w' => w'.cell? ⟨Gn, 0, none⟩ = some (.int .i64 (B 0)) ∧ w'.cell? ⟨Gn, 1, none⟩ = some (.int .i64 (B 1)) ∧ w'.cell? ⟨Gn, 2, none⟩ = some (.int .i64 (B 2))) (by kernel_rfl) ?_ (fun hHeld => ?_)
          · exact ⟨((below_drewS ws).cell (p := ⟨Gn, 0, none⟩) zs).trans u0, ((below_drewS ws).cell (p := ⟨Gn, 1, none⟩) zs).trans u1, ((below_drewS ws).cell (p := ⟨Gn, 2, none⟩) zs).trans u2⟩
          refine wpAnyH_take (i := 0) (v := .int .i64 C) rfl (by kernel_rfl) (by kernel_rfl) (by kernel_rfl) (fun _ _ _ h => h) (Or.inl ⟨by kernel_rfl, ?_⟩) hHeld ?_
          · intro w' hSw
            obtain ⟨s0, s1, s2⟩ := hSw
            first | (go_simp; done) | (go_simp; with_reducible rfl) | (go_simp; rw [IntKind.wrap_i64]; omega) | (go_simp; omega)
          simp only [Act.put, List.setIfInBounds_toArray, List.set_cons_zero, List.set_cons_succ]
          refine wpAnyH_take (i := 1) (v := .int .i64 v) rfl (by kernel_rfl) (by kernel_rfl) (by kernel_rfl) (fun _ _ _ h => h) (Or.inl ⟨by kernel_rfl, ?_⟩) hHeld ?_
          · intro w' hSw
            obtain ⟨s0, s1, s2⟩ := hSw
            first | (go_simp; done) | (go_simp; with_reducible rfl) | (go_simp; rw [IntKind.wrap_i64]; omega) | (go_simp; omega)
          simp only [Act.put, List.setIfInBounds_toArray, List.set_cons_zero, List.set_cons_succ]
          refine wpAnyH_take (i := 2) (v := .int .i64 (C + v)) rfl (by kernel_rfl) (by kernel_rfl) (by kernel_rfl) (fun _ _ _ h => h) (Or.inl ⟨by kernel_rfl, ?_⟩) hHeld ?_
          · intro w' hSw
            obtain ⟨s0, s1, s2⟩ := hSw
            first | (go_simp; done) | (go_simp; with_reducible rfl) | (go_simp; rw [IntKind.wrap_i64]; omega) | (go_simp; omega)
          simp only [Act.put, List.setIfInBounds_toArray, List.set_cons_zero, List.set_cons_succ]
          refine wpAnyH_take (i := 3) (v := .agg #[.int .i64 (B 0), .int .i64 (B 1), .int .i64 (B 2)]) rfl (by kernel_rfl) (by kernel_rfl) (by kernel_rfl) (fun _ _ _ h => h) (Or.inl ⟨by kernel_rfl, ?_⟩) hHeld ?_
          · intro w' hSw
            obtain ⟨s0, s1, s2⟩ := hSw
            first | (go_simp; done) | (go_simp; with_reducible rfl) | (go_simp; rw [IntKind.wrap_i64]; omega) | (go_simp; omega)
          simp only [Act.put, List.setIfInBounds_toArray, List.set_cons_zero, List.set_cons_succ]
          refine wpAnyH_take (i := 4) (v := .int .i64 (C + v)) rfl (by kernel_rfl) (by kernel_rfl) (by kernel_rfl) (fun _ _ _ h => h) (Or.inl ⟨by kernel_rfl, ?_⟩) hHeld ?_
          · intro w' hSw
            obtain ⟨s0, s1, s2⟩ := hSw
            first | (go_simp; done) | (go_simp; with_reducible rfl) | (go_simp; rw [IntKind.wrap_i64]; omega) | (go_simp; omega)
          simp only [Act.put, List.setIfInBounds_toArray, List.set_cons_zero, List.set_cons_succ]
          have yd0 := ((below_drewS ws).cell (p := ⟨G, 0, none⟩) zq).trans y0
          have fd0 := ((below_drewS ws).frozen (p := ⟨G, 0, none⟩) zq).trans e0f
          have yd1 := ((below_drewS ws).cell (p := ⟨G, 1, none⟩) zq).trans y1
          have fd1 := ((below_drewS ws).frozen (p := ⟨G, 1, none⟩) zq).trans e1f
          have yd2 := ((below_drewS ws).cell (p := ⟨G, 2, none⟩) zq).trans y2
          have fd2 := ((below_drewS ws).frozen (p := ⟨G, 2, none⟩) zq).trans e2f
          refine wpAnyH_ready (rs := [5]) (by kernel_rfl) (by simp) ?_
          refine AllReadyH.cons rfl (fun KK hK => ?_) AllReadyH.nil
          go_simp
          have BN : Beside G ws (((((ws).setCell ⟨G, 0, none⟩ (.int .i64 (B 0))).setCell ⟨G, 1, none⟩ (.int .i64 (B 1))).setCell ⟨G, 2, none⟩ (.int .i64 (B 2)))).drew := (set3B G ws (.int .i64 (B 0)) (.int .i64 (B 1)) (.int .i64 (B 2))).trans (Beside.of (below_drewS _))
          have HGn : Hid (OwnI w.heap.size (((((ws).setCell ⟨G, 0, none⟩ (.int .i64 (B 0))).setCell ⟨G, 1, none⟩ (.int .i64 (B 1))).setCell ⟨G, 2, none⟩ (.int .i64 (B 2)))).drew (some ⟨G, 0, none⟩) 3 B) := OwnI.below (own_set3 HGs.out) (below_drewS _)
          have HBn : Hid (Below w.heap.size w (((((ws).setCell ⟨G, 0, none⟩ (.int .i64 (B 0))).setCell ⟨G, 1, none⟩ (.int .i64 (B 1))).setCell ⟨G, 2, none⟩ (.int .i64 (B 2)))).drew) := Below.drew (set3M HBq.out zG HBq.out.size)
          obtain ⟨wn, hwn⟩ : ∃ z, z = (((((ws).setCell ⟨G, 0, none⟩ (.int .i64 (B 0))).setCell ⟨G, 1, none⟩ (.int .i64 (B 1))).setCell ⟨G, 2, none⟩ (.int .i64 (B 2)))).drew := ⟨_, rfl⟩
          rw [← hwn] at BN HGn HBn ⊢
          refine hK.out _ _ ⟨(BN.cell (p := ⟨Gn, 0, none⟩) zs (by show Gn ≠ G; omega)).trans u0, (BN.cell (p := ⟨Gn, 1, none⟩) zs (by show Gn ≠ G; omega)).trans u1, (BN.cell (p := ⟨Gn, 2, none⟩) zs (by show Gn ≠ G; omega)).trans u2⟩ (fun hHeld => ?_)
          clear hK KK
          refine wpAnyH_done (by kernel_rfl) ?_ _
          have HGf : Hid (OwnI w.heap.size wn (some ⟨G, 0, none⟩) 3 (raF n O (t + 1))) := own_congrM HGn.out (fun j _ => HV2.out j)
          clear hHeld hwn BN HGn
          go_wp2
          go_roundw
          case rel => exact ⟨t + 1, by omega, by go_num, by rw [HSU.out], ball_succP HT.out HOKT.out, HGf.out, HBn.out⟩
          case measure => first | (simp [intOf]; done) | (simp [intOf]; omega)
      · go_simp
        obtain ⟨wy, hwy⟩ : ∃ z, z = (wr.alloc (.cells #[.int .i64 0, .int .i64 0, .int .i64 0] 68)).drew := ⟨_, rfl⟩
        rw [← hwy]
        have By : Below wr.heap.size wr wy := by rw [hwy]; exact Below.drew (below0 _ _)
        have HNy : Hid (OwnI wr.heap.size wy (some ⟨wr.heap.size, 0, none⟩) 3 (fun _ => 0)) := by
          rw [hwy]
          intro j hj
          rcases (by omega : j = 0 ∨ j = 1 ∨ j = 2) with rfl | rfl | rfl <;> exact ⟨wr.heap.size, rfl, Nat.le_refl _, by simp, by simp [go_sem], by simp [go_sem]⟩
        refine hK.out _ _ (⟨(By.cell (p := ⟨G, 0, none⟩) zr).trans r0, (By.cell (p := ⟨G, 1, none⟩) zr).trans r1, (By.cell (p := ⟨G, 2, none⟩) zr).trans r2, (By.cell (p := ⟨g2, o2 + t, none⟩) zg2).trans e0⟩) (fun hHeld => ?_)
        clear hK KK hwy
        refine wpAnyH_ready (rs := [7]) (by kernel_rfl) (by simp) ?_
        refine AllReadyH.cons rfl (fun KK hK => ?_) AllReadyH.nil
        go_simp
        go_wp2_with (first | (go_at_call 47; refine (HM.out _ (HBW.out.trans (Below.mono By HBW.out.size))).mono ?_; rintro e w7 ⟨v, B, b, hb, hv, rfl, h7⟩; have B7 : Below wr.heap.size wr w7 := Below.trans By (h7.mono By.size); have HBB : Hid (b = pokB n V (O t) (K t) ld (raF n O t)) := hb; have HVV : Hid (b = true → v = sumF (pgF n V (O t) ld (raF n O t)) n ∧ ∀ i, B i = upF (O t) (raF n O t) n i) := hv; clear hb hv; unfold lasV; have HN : Hid (OwnI wr.heap.size w7 (some ⟨wr.heap.size, 0, none⟩) 3 (fun _ => 0)) := HNy.out.below h7; clear h7))
        refine hK.out _ _ (⟨(B7.cell (p := ⟨G, 0, none⟩) zr).trans r0, (B7.cell (p := ⟨G, 1, none⟩) zr).trans r1, (B7.cell (p := ⟨G, 2, none⟩) zr).trans r2, (B7.cell (p := ⟨g2, o2 + t, none⟩) zg2).trans e0⟩) (fun hHeld => ?_)
        clear hK KK
        have Bx := B7
        have gn : wr.heap.size ≤ wr.heap.size := Nat.le_refl _
        obtain ⟨_, m0, -, zn, c0, k0⟩ := HN.out 0 (by omega)
        cases m0
        obtain ⟨_, m0, -, -, c1, k1⟩ := HN.out 1 (by omega)
        cases m0
        obtain ⟨_, m0, -, -, c2, k2⟩ := HN.out 2 (by omega)
        cases m0
        refine wpAnyH_take (i := 8) (v := .tuple #[.int .i64 v, .agg #[.int .i64 (B 0), .int .i64 (B 1), .int .i64 (B 2)], .bool b]) rfl (by kernel_rfl) (by kernel_rfl) (by kernel_rfl) (fun _ _ _ h => h) (Or.inl ⟨by kernel_rfl, ?_⟩) hHeld ?_
        · intro w' hSw
          obtain ⟨s0, s1, s2, s3⟩ := hSw
          first | (go_simp; done) | (go_simp; with_reducible rfl) | (go_simp; rw [IntKind.wrap_i64]; omega) | (go_simp; omega)
        simp only [Act.put, List.setIfInBounds_toArray, List.set_cons_zero, List.set_cons_succ]
        refine wpAnyH_take (i := 9) (v := .int .i64 v) rfl (by kernel_rfl) (by kernel_rfl) (by kernel_rfl) (fun _ _ _ h => h) (Or.inl ⟨by kernel_rfl, ?_⟩) hHeld ?_
        · intro w' hSw
          obtain ⟨s0, s1, s2, s3⟩ := hSw
          first | (go_simp; done) | (go_simp; with_reducible rfl) | (go_simp; rw [IntKind.wrap_i64]; omega) | (go_simp; omega)
        simp only [Act.put, List.setIfInBounds_toArray, List.set_cons_zero, List.set_cons_succ]
        refine wpAnyH_take (i := 10) (v := .agg #[.int .i64 (B 0), .int .i64 (B 1), .int .i64 (B 2)]) rfl (by kernel_rfl) (by kernel_rfl) (by kernel_rfl) (fun _ _ _ h => h) (Or.inl ⟨by kernel_rfl, ?_⟩) hHeld ?_
        · intro w' hSw
          obtain ⟨s0, s1, s2, s3⟩ := hSw
          first | (go_simp; done) | (go_simp; with_reducible rfl) | (go_simp; rw [IntKind.wrap_i64]; omega) | (go_simp; omega)
        simp only [Act.put, List.setIfInBounds_toArray, List.set_cons_zero, List.set_cons_succ]
        refine wpAnyH_take (i := 11) (v := .bool b) rfl (by kernel_rfl) (by kernel_rfl) (by kernel_rfl) (fun _ _ _ h => h) (Or.inl ⟨by kernel_rfl, ?_⟩) hHeld ?_
        · intro w' hSw
          obtain ⟨s0, s1, s2, s3⟩ := hSw
          first | (go_simp; done) | (go_simp; with_reducible rfl) | (go_simp; rw [IntKind.wrap_i64]; omega) | (go_simp; omega)
        simp only [Act.put, List.setIfInBounds_toArray, List.set_cons_zero, List.set_cons_succ]
        refine wpAnyH_take (i := 13) (v := .int .i64 v) rfl (by kernel_rfl) (by kernel_rfl) (by kernel_rfl) (fun _ _ _ h => h) (Or.inl ⟨by kernel_rfl, ?_⟩) hHeld ?_
        · intro w' hSw
          obtain ⟨s0, s1, s2, s3⟩ := hSw
          first | (go_simp; done) | (go_simp; with_reducible rfl) | (go_simp; rw [IntKind.wrap_i64]; omega) | (go_simp; omega)
        simp only [Act.put, List.setIfInBounds_toArray, List.set_cons_zero, List.set_cons_succ]
        refine wpAnyH_ready (rs := [14]) (by kernel_rfl) (by simp) ?_
        refine AllReadyH.cons rfl (fun KK hK => ?_) AllReadyH.nil
        go_simp
        have BS := set3B (wr.heap.size) (w7) (.int .i64 (B 0)) (.int .i64 (B 1)) (.int .i64 (B 2))
        have HS : Hid (OwnI wr.heap.size ((((w7).setCell ⟨wr.heap.size, 0, none⟩ (.int .i64 (B 0))).setCell ⟨wr.heap.size, 1, none⟩ (.int .i64 (B 1))).setCell ⟨wr.heap.size, 2, none⟩ (.int .i64 (B 2))) (some ⟨wr.heap.size, 0, none⟩) 3 B) := own_set3 (E := fun _ => 0) HN.out
        have HBs : Hid (Below wr.heap.size wr ((((w7).setCell ⟨wr.heap.size, 0, none⟩ (.int .i64 (B 0))).setCell ⟨wr.heap.size, 1, none⟩ (.int .i64 (B 1))).setCell ⟨wr.heap.size, 2, none⟩ (.int .i64 (B 2)))) := set3M Bx gn Bx.size
        obtain ⟨ws, hws⟩ : ∃ z, z = ((((w7).setCell ⟨wr.heap.size, 0, none⟩ (.int .i64 (B 0))).setCell ⟨wr.heap.size, 1, none⟩ (.int .i64 (B 1))).setCell ⟨wr.heap.size, 2, none⟩ (.int .i64 (B 2))) := ⟨_, rfl⟩
        rw [← hws] at BS HS HBs ⊢
        refine hK.out _ _ (⟨(HBs.out.cell (p := ⟨G, 0, none⟩) zr).trans r0, (HBs.out.cell (p := ⟨G, 1, none⟩) zr).trans r1, (HBs.out.cell (p := ⟨G, 2, none⟩) zr).trans r2, (HBs.out.cell (p := ⟨g2, o2 + t, none⟩) zg2).trans e0⟩) (fun hHeld => ?_)
        clear hK KK hws BS
        refine wpAnyH_ready (rs := [15]) (by kernel_rfl) (by simp) ?_
        refine AllReadyH.cons rfl (fun KK hK => ?_) AllReadyH.nil
        go_simp
        refine hK.out _ _ hHeld (fun hHeld => ?_)
        clear hK KK
        refine wpAnyH_done (by kernel_rfl) ?_ _
        clear hHeld
        have HBq : Hid (Below w.heap.size w ws) := HBW.out.trans (HBs.out.mono HBW.out.size)
        obtain ⟨Gn, hGn⟩ : ∃ z, wr.heap.size = z := ⟨_, rfl⟩
        have gm : wr.heap.size ≤ Gn := by rw [← hGn]; exact gn
        rw [hGn] at HS ⊢
        obtain ⟨b0, q0, -, zs, u0, -⟩ := HS.out 0 (by omega)
        cases q0
        obtain ⟨b0, q0, -, -, u1, -⟩ := HS.out 1 (by omega)
        cases q0
        obtain ⟨b0, q0, -, -, u2, -⟩ := HS.out 2 (by omega)
        cases q0
        have HGs : Hid (OwnI w.heap.size ws (some ⟨G, 0, none⟩) 3 (raF n O t)) := HG.out.below HBs.out
        obtain ⟨b0, q0, -, zq, y0, e0f⟩ := HGs.out 0 (by omega)
        cases q0
        obtain ⟨b0, q0, -, -, y1, e1f⟩ := HGs.out 1 (by omega)
        cases q0
        obtain ⟨b0, q0, -, -, y2, e2f⟩ := HGs.out 2 (by omega)
        cases q0
        cases b
        · have HF : Hid (costV n V no W no K O = -1) := HBD.out (by rw [← HOK.out]; exact HBB.out.symm)
          go_wp2
          go_ret
          exact ⟨ret_int HF.out.symm, HBq.out⟩
        · obtain ⟨hv1, hv2⟩ := HVV.out rfl
          rw [ra_sum] at hv1
          rw [← hv1] at pbb HSU
          have HV2 : Hid (∀ i, B i = raF n O (t + 1) i) := fun i => by rw [hv2 i]; exact ra_next
          have HOKT : Hid (okT n V no W no K O t = true) := by show _ = _; rw [← HOK.out]; exact HBB.out.symm
          clear hv1 hv2 HVV HBB
          go_upto_region 10 with fail
          refine wp_region_held_drew (S := fun w' => w'.cell? ⟨Gn, 0, none⟩ = some (.int .i64 (B 0)) ∧ w'.cell? ⟨Gn, 1, none⟩ = some (.int .i64 (B 1)) ∧ w'.cell? ⟨Gn, 2, none⟩ = some (.int .i64 (B 2))) (by kernel_rfl) ?_ (fun hHeld => ?_)
          · exact ⟨((below_drewS ws).cell (p := ⟨Gn, 0, none⟩) zs).trans u0, ((below_drewS ws).cell (p := ⟨Gn, 1, none⟩) zs).trans u1, ((below_drewS ws).cell (p := ⟨Gn, 2, none⟩) zs).trans u2⟩
          refine wpAnyH_take (i := 0) (v := .int .i64 C) rfl (by kernel_rfl) (by kernel_rfl) (by kernel_rfl) (fun _ _ _ h => h) (Or.inl ⟨by kernel_rfl, ?_⟩) hHeld ?_
          · intro w' hSw
            obtain ⟨s0, s1, s2⟩ := hSw
            first | (go_simp; done) | (go_simp; with_reducible rfl) | (go_simp; rw [IntKind.wrap_i64]; omega) | (go_simp; omega)
          simp only [Act.put, List.setIfInBounds_toArray, List.set_cons_zero, List.set_cons_succ]
          refine wpAnyH_take (i := 1) (v := .int .i64 v) rfl (by kernel_rfl) (by kernel_rfl) (by kernel_rfl) (fun _ _ _ h => h) (Or.inl ⟨by kernel_rfl, ?_⟩) hHeld ?_
          · intro w' hSw
            obtain ⟨s0, s1, s2⟩ := hSw
            first | (go_simp; done) | (go_simp; with_reducible rfl) | (go_simp; rw [IntKind.wrap_i64]; omega) | (go_simp; omega)
          simp only [Act.put, List.setIfInBounds_toArray, List.set_cons_zero, List.set_cons_succ]
          refine wpAnyH_take (i := 2) (v := .int .i64 (C + v)) rfl (by kernel_rfl) (by kernel_rfl) (by kernel_rfl) (fun _ _ _ h => h) (Or.inl ⟨by kernel_rfl, ?_⟩) hHeld ?_
          · intro w' hSw
            obtain ⟨s0, s1, s2⟩ := hSw
            first | (go_simp; done) | (go_simp; with_reducible rfl) | (go_simp; rw [IntKind.wrap_i64]; omega) | (go_simp; omega)
          simp only [Act.put, List.setIfInBounds_toArray, List.set_cons_zero, List.set_cons_succ]
          refine wpAnyH_take (i := 3) (v := .agg #[.int .i64 (B 0), .int .i64 (B 1), .int .i64 (B 2)]) rfl (by kernel_rfl) (by kernel_rfl) (by kernel_rfl) (fun _ _ _ h => h) (Or.inl ⟨by kernel_rfl, ?_⟩) hHeld ?_
          · intro w' hSw
            obtain ⟨s0, s1, s2⟩ := hSw
            first | (go_simp; done) | (go_simp; with_reducible rfl) | (go_simp; rw [IntKind.wrap_i64]; omega) | (go_simp; omega)
          simp only [Act.put, List.setIfInBounds_toArray, List.set_cons_zero, List.set_cons_succ]
          refine wpAnyH_take (i := 4) (v := .int .i64 (C + v)) rfl (by kernel_rfl) (by kernel_rfl) (by kernel_rfl) (fun _ _ _ h => h) (Or.inl ⟨by kernel_rfl, ?_⟩) hHeld ?_
          · intro w' hSw
            obtain ⟨s0, s1, s2⟩ := hSw
            first | (go_simp; done) | (go_simp; with_reducible rfl) | (go_simp; rw [IntKind.wrap_i64]; omega) | (go_simp; omega)
          simp only [Act.put, List.setIfInBounds_toArray, List.set_cons_zero, List.set_cons_succ]
          have yd0 := ((below_drewS ws).cell (p := ⟨G, 0, none⟩) zq).trans y0
          have fd0 := ((below_drewS ws).frozen (p := ⟨G, 0, none⟩) zq).trans e0f
          have yd1 := ((below_drewS ws).cell (p := ⟨G, 1, none⟩) zq).trans y1
          have fd1 := ((below_drewS ws).frozen (p := ⟨G, 1, none⟩) zq).trans e1f
          have yd2 := ((below_drewS ws).cell (p := ⟨G, 2, none⟩) zq).trans y2
          have fd2 := ((below_drewS ws).frozen (p := ⟨G, 2, none⟩) zq).trans e2f
          refine wpAnyH_ready (rs := [5]) (by kernel_rfl) (by simp) ?_
          refine AllReadyH.cons rfl (fun KK hK => ?_) AllReadyH.nil
          go_simp
          have BN : Beside G ws (((((ws).setCell ⟨G, 0, none⟩ (.int .i64 (B 0))).setCell ⟨G, 1, none⟩ (.int .i64 (B 1))).setCell ⟨G, 2, none⟩ (.int .i64 (B 2)))).drew := (set3B G ws (.int .i64 (B 0)) (.int .i64 (B 1)) (.int .i64 (B 2))).trans (Beside.of (below_drewS _))
          have HGn : Hid (OwnI w.heap.size (((((ws).setCell ⟨G, 0, none⟩ (.int .i64 (B 0))).setCell ⟨G, 1, none⟩ (.int .i64 (B 1))).setCell ⟨G, 2, none⟩ (.int .i64 (B 2)))).drew (some ⟨G, 0, none⟩) 3 B) := OwnI.below (own_set3 HGs.out) (below_drewS _)
          have HBn : Hid (Below w.heap.size w (((((ws).setCell ⟨G, 0, none⟩ (.int .i64 (B 0))).setCell ⟨G, 1, none⟩ (.int .i64 (B 1))).setCell ⟨G, 2, none⟩ (.int .i64 (B 2)))).drew) := Below.drew (set3M HBq.out zG HBq.out.size)
          obtain ⟨wn, hwn⟩ : ∃ z, z = (((((ws).setCell ⟨G, 0, none⟩ (.int .i64 (B 0))).setCell ⟨G, 1, none⟩ (.int .i64 (B 1))).setCell ⟨G, 2, none⟩ (.int .i64 (B 2)))).drew := ⟨_, rfl⟩
          rw [← hwn] at BN HGn HBn ⊢
          refine hK.out _ _ ⟨(BN.cell (p := ⟨Gn, 0, none⟩) zs (by show Gn ≠ G; omega)).trans u0, (BN.cell (p := ⟨Gn, 1, none⟩) zs (by show Gn ≠ G; omega)).trans u1, (BN.cell (p := ⟨Gn, 2, none⟩) zs (by show Gn ≠ G; omega)).trans u2⟩ (fun hHeld => ?_)
          clear hK KK
          refine wpAnyH_done (by kernel_rfl) ?_ _
          have HGf : Hid (OwnI w.heap.size wn (some ⟨G, 0, none⟩) 3 (raF n O (t + 1))) := own_congrM HGn.out (fun j _ => HV2.out j)
          clear hHeld hwn BN HGn
          go_wp2
          go_roundw
          case rel => exact ⟨t + 1, by omega, by go_num, by rw [HSU.out], ball_succP HT.out HOKT.out, HGf.out, HBn.out⟩
          case measure => first | (simp [intOf]; done) | (simp [intOf]; omega)
end Go.Proofs.Ytdlbniihgppodaa
