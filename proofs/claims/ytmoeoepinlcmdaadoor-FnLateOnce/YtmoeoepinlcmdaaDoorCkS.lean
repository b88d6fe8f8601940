/-
What is proved: the specification's ClockStep.
-/
import Derived.Test.YtmoeoepinlcmdaaDoorCkT
import Derived.Test.YtmoeoepinlcmdaaDoorCkI
import Derived.Deep.RegionHeld3
import Derived.Deep.DeepCutAuto
import Derived.BigQuiet
namespace Go.Proofs.YtmoeoepinlcmdaaDoor
set_option maxRecDepth 40000
open Go.ChangeShapes Go.WideShapes Go.ChangeAt Go.RowKit
set_option linter.unusedVariables false
set_option linter.unusedSimpArgs false

set_option maxRecDepth 20000 in
set_option maxHeartbeats 16000000 in
theorem specClockStep_any (s t q : Option Addr) (n c m d nb e : Nat) (V : Nat → Int × Int) (U : Nat → Int × Bool) (mo : Int) (O : Nat → Bool) (w : World) (hn : (n : Int) ≤ 1048576) (hm : (m : Int) ≤ 1048576) (HR : Hid (RowLimit w s n V)) (HU : Hid (RowClock w t m U)) (HO : Hid (RowB w q nb O)) :
    Calls Tryd.prog 8 #[.slice s n c, .slice t m d, .int .i64 mo, .slice q nb e] w fun ev w' => CkPost n V m U mo nb O w ev w' := by
  go_enter Tryd.func8, Tryd.ntmps8
  go_upto_region 3 with fail
  obtain ⟨wl, hwl⟩ : ∃ wl, wl = (w.alloc (.cells #[] 29)).alloc (.cells #[] 36) := ⟨_, rfl⟩
  rw [← hwl]
  have B0 : Below w.heap.size w wl := by rw [hwl]; exact (by repeat (first | with_reducible exact Below.refl _ _ | with_reducible refine Below.setCell ?_ (by first | omega | (simp; done) | (simp; omega)) _ | with_reducible refine bDrewN ?_ _ | with_reducible refine Below.drew ?_ | with_reducible refine Below.alloc ?_ (by first | omega | (simp; done) | (simp; omega)) _))
  have HTL : Hid (TwoC w wl (.slice (some ⟨w.heap.size, 0, none⟩) 0 0) (.slice (some ⟨w.heap.size + 1, 0, none⟩) 0 0) (nxC V U O mo) 0 (ntP (whC V U O mo) 0)) := by
    refine ⟨?_, ?_, fun g e1 e2 => ?_, B0⟩
    · have := World.ownsRow_lit (base := w.heap.size) (size := 2) (e := 29) w #[] 0 (Nat.le_refl _) (by simp [maxLen]) (by simp)
      rw [hwl]
      exact World.ownsRow.alloc (by simpa [ckL] using this) _
    · have := World.ownsRow_lit (base := w.heap.size) (size := 2) (e := 36) (w.alloc (.cells #[] 29)) #[] 0 (by simp) (by simp [maxLen]) (by simp)
      rw [hwl]
      simpa [ntP, ntC] using this
    · simp [Value.ownBlock] at e1 e2
      omega
  have z0 : w.heap.size + 1 < wl.heap.size := by rw [hwl]; simp
  clear hwl
  go_wp2_with fail
  refine (l25Ok_any s t n c m d V U _ hn hm (HR.out.below B0) (HU.out.below B0)).mono ?_
  rintro ev w2 ⟨rfl, h2⟩
  have B1 : Below w.heap.size w w2 := B0.trans (h2.mono B0.size)
  have HT2 : Hid (TwoC w w2 (.slice (some ⟨w.heap.size, 0, none⟩) 0 0) (.slice (some ⟨w.heap.size + 1, 0, none⟩) 0 0) (nxC V U O mo) 0 (ntP (whC V U O mo) 0)) := HTL.out.below h2
  clear h2 B0 HTL
  cases hc : clsB n V m U
  · have HZ : Hid (ckB n V m U mo nb O = false) := by show _ = _; unfold ckB; rw [hc]; rfl
    go_wp2
    exact bodyPost_ret (v := .tuple #[.slice (some ⟨w.heap.size, 0, none⟩) 0 0, .slice (some ⟨w.heap.size + 1, 0, none⟩) 0 0, .bool false]) (by simp [results, Tryd.results8, go_sem]) rfl (ck_no HZ.out (fun b b' e1 e2 => by cases e1; cases e2; omega) (by repeat (first | with_reducible exact Below.refl _ _ | with_reducible exact B1 | with_reducible refine Below.setCell ?_ (by first | omega | (simp; done) | (simp; omega)) _ | with_reducible refine bDrewN ?_ _ | with_reducible refine Below.drew ?_ | with_reducible refine Below.alloc ?_ (by first | omega | (simp; done) | (simp; omega)) _)))
  go_wp2_with fail
  refine (l1In_is _ _ _ _).mono ?_
  rintro ev w2 ⟨rfl, rfl⟩
  cases h0 : inB 0 7 mo
  · have HZ : Hid (ckB n V m U mo nb O = false) := by show _ = _; unfold ckB; rw [h0]; simp
    go_wp2
    exact bodyPost_ret (v := .tuple #[.slice (some ⟨w.heap.size, 0, none⟩) 0 0, .slice (some ⟨w.heap.size + 1, 0, none⟩) 0 0, .bool false]) (by simp [results, Tryd.results8, go_sem]) rfl (ck_no HZ.out (fun b b' e1 e2 => by cases e1; cases e2; omega) (by repeat (first | with_reducible exact Below.refl _ _ | with_reducible exact B1 | with_reducible refine Below.setCell ?_ (by first | omega | (simp; done) | (simp; omega)) _ | with_reducible refine bDrewN ?_ _ | with_reducible refine Below.drew ?_ | with_reducible refine Below.alloc ?_ (by first | omega | (simp; done) | (simp; omega)) _)))
  by_cases hnb : nb = n
  case neg =>
    have b2 : decide ((nb : Int) = (n : Int)) = false := decide_eq_false (by omega)
    have HZ : Hid (ckB n V m U mo nb O = false) := by show _ = _; unfold ckB; rw [decide_eq_false hnb]; simp
    go_wp2
    exact bodyPost_ret (v := .tuple #[.slice (some ⟨w.heap.size, 0, none⟩) 0 0, .slice (some ⟨w.heap.size + 1, 0, none⟩) 0 0, .bool false]) (by simp [results, Tryd.results8, go_sem]) rfl (ck_no HZ.out (fun b b' e1 e2 => by cases e1; cases e2; omega) (by repeat (first | with_reducible exact Below.refl _ _ | with_reducible exact B1 | with_reducible refine Below.setCell ?_ (by first | omega | (simp; done) | (simp; omega)) _ | with_reducible refine bDrewN ?_ _ | with_reducible refine Below.drew ?_ | with_reducible refine Below.alloc ?_ (by first | omega | (simp; done) | (simp; omega)) _)))
  subst hnb
  obtain ⟨n6, rfl, hA⟩ := cls_yes hc
  have HZ : Hid (ckB m V m U mo m O = true) := by show _ = _; unfold ckB; rw [hc, h0, decide_eq_true rfl]; rfl
  obtain ⟨mo0, mo1⟩ := inB_yes h0
  have HA : Hid (∀ j, j < m → limB (V j) = true ∧ clkB (V j) (U j) = true) := hA
  clear hc h0 hA B1
  go_wp2_with fail
  go_loopw [11, 12, 13] (fun v u i wr => ∃ k : Nat, k ≤ m ∧ i = .int .i64 (k : Int) ∧ Hid (TwoC w wr v u (nxC V U O mo) k (ntP (whC V U O mo) k))) (fun _ _ i _ => m - (intOf i).toNat)
  case atStart => exact ⟨0, Nat.zero_le _, rfl, HT2⟩
  case round =>
    rename_i u11 u12 _
    obtain ⟨k, hk, rfl, HT⟩ := hrel
    have hB : Below w.heap.size w wr := HT.out.2.2.2
    by_cases h1 : k < m
    · have k1 : (k : Int) < (m : Int) := by omega
      obtain ⟨g, o, rfl, zg, c0, c1⟩ := HR.out k h1
      obtain ⟨h, i, rfl, zh, d0, d1⟩ := HU.out k h1
      obtain ⟨f, x, rfl, zf, f0⟩ := HO.out k h1
      replace c0 := (hB.cell (p := ⟨g, o + k * 2, none⟩) zg).trans c0
      replace c1 := (hB.cell (p := ⟨g, o + k * 2 + 1, none⟩) zg).trans c1
      replace d0 := (hB.cell (p := ⟨h, i + k * 2, none⟩) zh).trans d0
      replace d1 := (hB.cell (p := ⟨h, i + k * 2 + 1, none⟩) zh).trans d1
      replace f0 := (hB.cell (p := ⟨f, x + k, none⟩) zf).trans f0
      obtain ⟨b1, b2⟩ := HA.out k h1
      have HNX : Hid (∀ mm a r bo, (V k).1 = mm → (V k).2 = a → (U k).1 = r → O k = bo → (nxC V U O mo) k = nxtC a r (bo && bitM mm mo) ∧ (whC V U O mo) k = whtC a r (bo && bitM mm mo)) := fun mm a r bo e1 e2 e3 e4 => by
        unfold nxC whC cntC; rw [e1, e2, e3, e4]; exact ⟨rfl, rfl⟩
      replace b1 := (lim_yes b1).2
      replace b2 := (clk_yes b2).1
      have HPT : Hid (ntP (whC V U O mo) (k + 1) = if (whC V U O mo) k = 0 then ntP (whC V U O mo) k else ntP (whC V U O mo) k ++ [((k : Int), (whC V U O mo) k)]) := rfl
      have hl6 : (ntP (whC V U O mo) k).length ≤ 60 := by have := ntP_len (whC V U O mo) k; omega
      obtain ⟨bo, hbo⟩ : ∃ z, O k = z := ⟨_, rfl⟩
      have HQ1 : Hid (∀ mm a r, (V k).1 = mm → (V k).2 = a → (U k).1 = r → (nxC V U O mo) k = nxtC a r (bo && bitM mm mo) ∧ (whC V U O mo) k = whtC a r (bo && bitM mm mo)) := fun mm a r e1 e2 e3 => HNX.out mm a r bo e1 e2 e3 hbo
      rw [hbo] at f0
      obtain ⟨⟨mm, a⟩, hV⟩ : ∃ z, V k = z := ⟨_, rfl⟩
      obtain ⟨⟨r, l⟩, hU⟩ : ∃ z, U k = z := ⟨_, rfl⟩
      have HQ2 : Hid ((nxC V U O mo) k = nxtC a r (bo && bitM mm mo) ∧ (whC V U O mo) k = whtC a r (bo && bitM mm mo)) := HQ1.out mm a r (by rw [hV]) (by rw [hV]) (by rw [hU])
      rw [hV] at c0 c1 b1 b2
      rw [hU] at d0 d1 b2
      simp only at c0 c1 d0 d1 b1 b2
      have zg3 := Nat.lt_of_lt_of_le zg hB.size
      have zh3 := Nat.lt_of_lt_of_le zh hB.size
      have zf3 := Nat.lt_of_lt_of_le zf hB.size
      have zw := hB.size
      have hp1 : u11.ownBlock ≠ some wr.heap.size := fun e => by have := (HT.out.1.lt _ e).2; omega
      have hp2 : u12.ownBlock ≠ some wr.heap.size := fun e => by have := (HT.out.2.1.lt _ e).2; omega
      clear hbo hV hU HNX HQ1
      go_upto_region 9 with fail
      obtain ⟨wa, hwa⟩ : ∃ wa, wa = wr.alloc (.cells #[.int .i64 r, .bool l] 29) := ⟨_, rfl⟩
      rw [← hwa]
      have hb : Below wr.heap.size wr wa := by rw [hwa]; exact below0 _ _
      have a0 : wa.cell? ⟨wr.heap.size, 0, none⟩ = some (.int .i64 r) := by rw [hwa]; simp [go_sem]
      have a1 : wa.cell? ⟨wr.heap.size, 1, none⟩ = some (.bool l) := by rw [hwa]; simp [go_sem]
      have z0 : wa.frozen? ⟨wr.heap.size, 0, none⟩ = false := by rw [hwa]; simp [go_sem]
      have z1 : wa.frozen? ⟨wr.heap.size, 1, none⟩ = false := by rw [hwa]; simp [go_sem]
      have za : wr.heap.size < wa.heap.size := by rw [hwa]; simp
      replace c0 := (hb.cell (p := ⟨g, o + k * 2, none⟩) zg3).trans c0
      replace c1 := (hb.cell (p := ⟨g, o + k * 2 + 1, none⟩) zg3).trans c1
      replace f0 := (hb.cell (p := ⟨f, x + k, none⟩) zf3).trans f0
      replace zg3 := Nat.lt_of_lt_of_le zg3 hb.size
      replace zf3 := Nat.lt_of_lt_of_le zf3 hb.size
      have HTA : Hid (TwoC w wa u11 u12 (nxC V U O mo) k (ntP (whC V U O mo) k)) := HT.out.below hb
      have gp : g ≠ wr.heap.size := by omega
      clear hwa hb d0 d1 zh3 hB
      cases bo
      · have HQ3 : Hid ((nxC V U O mo) k = nxtC a r false ∧ (whC V U O mo) k = whtC a r false) := by
          have := HQ2.out
          show _ ∧ _
          simpa using this
        by_cases t0 : 0 ≤ r
        · have HYZ : Hid ((nxC V U O mo) k = (-1, false)) := HQ3.out.1
          have HWZ : Hid ((whC V U O mo) k = 2) := HQ3.out.2.trans (by unfold whtC; simp [t0])
          have hya : (-1 == a) = false := beq_eq_false_iff_ne.2 (by omega)
          go_upto_region 15 with fail
          go_quiet (fail)
          go_upto_region 20 with fail
          obtain ⟨wc, hwc⟩ : ∃ v, v = (wa.drewN nq).setCell ⟨wr.heap.size, 0, none⟩ (.int .i64 (-1)) := ⟨_, rfl⟩
          rw [← hwc]
          have HTC : Hid (TwoC w wc u11 u12 (nxC V U O mo) k (ntP (whC V U O mo) k)) := by show TwoC _ _ _ _ _ _ _; rw [hwc]; exact (HTA.out.below (by repeat (first | with_reducible exact Below.refl _ _ | with_reducible refine Below.setCell ?_ (by first | omega | (simp; done) | (simp; omega)) _ | with_reducible refine bDrewN ?_ _ | with_reducible refine Below.drew ?_ | with_reducible refine Below.alloc ?_ (by first | omega | (simp; done) | (simp; omega)) _))).set hp1 hp2 zw
          have e0 : wc.cell? ⟨wr.heap.size, 0, none⟩ = some (.int .i64 (-1)) := by rw [hwc]; simp [go_sem, a0]
          have e1 : wc.cell? ⟨wr.heap.size, 1, none⟩ = some (.bool l) := by rw [hwc]; simp [go_sem, a1]
          have q1 : wc.frozen? ⟨wr.heap.size, 1, none⟩ = false := by rw [hwc]; simp [go_sem, z1]
          have zc : wr.heap.size < wc.heap.size := by rw [hwc]; simpa using za
          have zgc : g < wc.heap.size := by rw [hwc]; simpa using zg3
          replace c1 : wc.cell? ⟨g, o + k * 2 + 1, none⟩ = some (.int .i64 a) := by rw [hwc, World.cell?_setCell_other _ _ _ _ (by intro q; first | exact gp (congrArg Addr.block q) | exact gp (congrArg Addr.block q).symm)]; simpa [go_sem] using c1
          clear hwc a0 a1 z0 z1
          go_upto_region 20 with fail
          refine wp_region_held_drew (S := fun w' => w'.cell? ⟨wr.heap.size, 0, none⟩ = some (.int .i64 (-1)) ∧ w'.cell? ⟨g, o + k * 2 + 1, none⟩ = some (.int .i64 a)) (by kernel_rfl) ?_ (fun hHeld => ?_)
          · exact ⟨(Below.cell (show Below wc.heap.size wc _ from (by repeat (first | with_reducible exact Below.refl _ _ | with_reducible refine Below.setCell ?_ (by first | omega | (simp; done) | (simp; omega)) _ | with_reducible refine bDrewN ?_ _ | with_reducible refine Below.drew ?_ | with_reducible refine Below.alloc ?_ (by first | omega | (simp; done) | (simp; omega)) _))) (p := ⟨wr.heap.size, 0, none⟩) zc).trans e0, (Below.cell (show Below wc.heap.size wc _ from (by repeat (first | with_reducible exact Below.refl _ _ | with_reducible refine Below.setCell ?_ (by first | omega | (simp; done) | (simp; omega)) _ | with_reducible refine bDrewN ?_ _ | with_reducible refine Below.drew ?_ | with_reducible refine Below.alloc ?_ (by first | omega | (simp; done) | (simp; omega)) _))) (p := ⟨g, o + k * 2 + 1, none⟩) zgc).trans c1⟩
          refine wpAnyH_take (i := 0) (v := .pointer (some ⟨wr.heap.size, 0, none⟩)) rfl (by kernel_rfl) (by kernel_rfl) (by kernel_rfl) (fun _ _ _ h => h) (Or.inl ⟨by kernel_rfl, ?_⟩) hHeld ?_
          · intro w' hSw
            obtain ⟨s0, s1⟩ := hSw
            first | (go_simp; done) | (go_simp; with_reducible rfl) | (go_simp; rw [IntKind.wrap_i64]; omega) | (go_simp; omega)
          simp only [Act.put, List.setIfInBounds_toArray, List.set_cons_zero, List.set_cons_succ]
          refine wpAnyH_take (i := 1) (v := .int .i64 (-1)) rfl (by kernel_rfl) (by kernel_rfl) (by kernel_rfl) (fun _ _ _ h => h) (Or.inl ⟨by kernel_rfl, ?_⟩) hHeld ?_
          · intro w' hSw
            obtain ⟨s0, s1⟩ := hSw
            first | (go_simp; done) | (go_simp; with_reducible rfl) | (go_simp; rw [IntKind.wrap_i64]; omega) | (go_simp; omega)
          simp only [Act.put, List.setIfInBounds_toArray, List.set_cons_zero, List.set_cons_succ]
          refine wpAnyH_take (i := 2) (v := .slice (some ⟨g, o, none⟩) m c) rfl (by kernel_rfl) (by kernel_rfl) (by kernel_rfl) (fun _ _ _ h => h) (Or.inl ⟨by kernel_rfl, ?_⟩) hHeld ?_
          · intro w' hSw
            obtain ⟨s0, s1⟩ := hSw
            first | (go_simp; done) | (go_simp; with_reducible rfl) | (go_simp; rw [IntKind.wrap_i64]; omega) | (go_simp; omega)
          simp only [Act.put, List.setIfInBounds_toArray, List.set_cons_zero, List.set_cons_succ]
          refine wpAnyH_take (i := 3) (v := .int .i64 (k : Int)) rfl (by kernel_rfl) (by kernel_rfl) (by kernel_rfl) (fun _ _ _ h => h) (Or.inl ⟨by kernel_rfl, ?_⟩) hHeld ?_
          · intro w' hSw
            obtain ⟨s0, s1⟩ := hSw
            first | (go_simp; done) | (go_simp; with_reducible rfl) | (go_simp; rw [IntKind.wrap_i64]; omega) | (go_simp; omega)
          simp only [Act.put, List.setIfInBounds_toArray, List.set_cons_zero, List.set_cons_succ]
          refine wpAnyH_take (i := 4) (v := .pointer (some ⟨g, o + k * 2, none⟩)) rfl (by kernel_rfl) (by kernel_rfl) (by kernel_rfl) (fun _ _ _ h => h) (Or.inl ⟨by kernel_rfl, ?_⟩) hHeld ?_
          · intro w' hSw
            obtain ⟨s0, s1⟩ := hSw
            first | (go_simp; done) | (go_simp; with_reducible rfl) | (go_simp; rw [IntKind.wrap_i64]; omega) | (go_simp; omega)
          simp only [Act.put, List.setIfInBounds_toArray, List.set_cons_zero, List.set_cons_succ]
          refine wpAnyH_take (i := 5) (v := .pointer (some ⟨g, o + k * 2 + 1, none⟩)) rfl (by kernel_rfl) (by kernel_rfl) (by kernel_rfl) (fun _ _ _ h => h) (Or.inl ⟨by kernel_rfl, ?_⟩) hHeld ?_
          · intro w' hSw
            obtain ⟨s0, s1⟩ := hSw
            first | (go_simp; done) | (go_simp; with_reducible rfl) | (go_simp; rw [IntKind.wrap_i64]; omega) | (go_simp; omega)
          simp only [Act.put, List.setIfInBounds_toArray, List.set_cons_zero, List.set_cons_succ]
          refine wpAnyH_take (i := 6) (v := .int .i64 a) rfl (by kernel_rfl) (by kernel_rfl) (by kernel_rfl) (fun _ _ _ h => h) (Or.inl ⟨by kernel_rfl, ?_⟩) hHeld ?_
          · intro w' hSw
            obtain ⟨s0, s1⟩ := hSw
            first | (go_simp; done) | (go_simp; with_reducible rfl) | (go_simp; rw [IntKind.wrap_i64]; omega) | (go_simp; omega)
          simp only [Act.put, List.setIfInBounds_toArray, List.set_cons_zero, List.set_cons_succ]
          refine wpAnyH_take (i := 7) (v := .bool false) rfl (by kernel_rfl) (by kernel_rfl) (by kernel_rfl) (fun _ _ _ h => h) (Or.inl ⟨by kernel_rfl, ?_⟩) hHeld ?_
          · intro w' hSw
            obtain ⟨s0, s1⟩ := hSw
            first | (go_simp; done) | (go_simp; with_reducible rfl) | (go_simp; rw [IntKind.wrap_i64]; omega) | (go_simp; omega)
          simp only [Act.put, List.setIfInBounds_toArray, List.set_cons_zero, List.set_cons_succ]
          refine wpAnyH_take (i := 8) (v := .pointer (some ⟨wr.heap.size, 1, none⟩)) rfl (by kernel_rfl) (by kernel_rfl) (by kernel_rfl) (fun _ _ _ h => h) (Or.inl ⟨by kernel_rfl, ?_⟩) hHeld ?_
          · intro w' hSw
            obtain ⟨s0, s1⟩ := hSw
            first | (go_simp; done) | (go_simp; with_reducible rfl) | (go_simp; rw [IntKind.wrap_i64]; omega) | (go_simp; omega)
          simp only [Act.put, List.setIfInBounds_toArray, List.set_cons_zero, List.set_cons_succ]
          refine wpAnyH_ready (rs := [9]) (by kernel_rfl) (by simp) ?_
          refine AllReadyH.cons rfl (fun KK hK => ?_) AllReadyH.nil
          go_simp
          have HTN : Hid (TwoC w (wc.setCell ⟨wr.heap.size, 1, none⟩ (.bool false)).drew u11 u12 (nxC V U O mo) k (ntP (whC V U O mo) k)) := (HTC.out.set hp1 hp2 zw).below (Below.drew (Below.refl _ _))
          obtain ⟨wn, hwn⟩ : ∃ v, v = (wc.setCell ⟨wr.heap.size, 1, none⟩ (.bool false)).drew := ⟨_, rfl⟩
          have n0 : wn.cell? ⟨wr.heap.size, 0, none⟩ = some (.int .i64 (-1)) := by rw [hwn]; simp [go_sem, e0]
          have n1 : wn.cell? ⟨wr.heap.size, 1, none⟩ = some (.bool false) := by rw [hwn]; simp [go_sem, e1]
          have n2 : wn.cell? ⟨g, o + k * 2 + 1, none⟩ = some (.int .i64 a) := by rw [hwn]; show (wc.setCell ⟨wr.heap.size, 1, none⟩ (.bool false)).cell? _ = _; rw [World.cell?_setCell_other _ _ _ _ (by intro q; first | exact gp (congrArg Addr.block q) | exact gp (congrArg Addr.block q).symm)]; exact c1
          rw [← hwn] at HTN ⊢
          refine hK.out _ _ ⟨n0, n2⟩ (fun hHeld => ?_)
          clear hK KK
          refine wpAnyH_done (by kernel_rfl) ?_ _
          clear hHeld hwn
          have HTN2 := HTN.out
          have sn : w.heap.size ≤ wn.heap.size := HTN2.2.2.2.size
          go_upto_region 22 with (at_builtin; refine list_Clock w.heap.size u11 k (ckL (nxC V U O mo) k) (.tmp 114) (.tmp 116) (by rfl) (by rfl) (by rfl) (by rfl) HTN2.1 (by omega) (by omega) ?_; intro g1 cap1 w9 hown9 hgrow9 hlt9 hat9; have HT9 : Hid (TwoC w w9 (.slice (some ⟨g1, 0, none⟩) (k + 1) cap1) u12 (nxC V U O mo) (k + 1) (ntP (whC V U O mo) k)) := HTN2.clock (by rw [HYZ.out]; exact hown9) hgrow9 hat9; clear hown9 hgrow9 hat9)
          have HP0 : Hid (ntP (whC V U O mo) (k + 1) = ntP (whC V U O mo) k ++ [((k : Int), 2)]) := by
            show _ = _
            rw [HPT.out, HWZ.out]
            exact if_neg (by decide)
          have s9 : w.heap.size ≤ w9.heap.size := HT9.out.2.2.2.size
          go_wp2_with (at_builtin; refine list_Note w.heap.size u12 (ntP (whC V U O mo) k).length (ntC (ntP (whC V U O mo) k)) (.tmp 120) (.tmp 124) (by rfl) (by rfl) (by rfl) (by rfl) HT9.out.2.1 (by omega) (by omega) ?_; intro g2 cap2 wx hownx hgrowx hltx hatx; have HTX : Hid (TwoC w wx (.slice (some ⟨g1, 0, none⟩) (k + 1) cap1) (.slice (some ⟨g2, 0, none⟩) ((ntP (whC V U O mo) k).length + 1) cap2) (nxC V U O mo) (k + 1) (ntP (whC V U O mo) k ++ [((k : Int), 2)])) := HT9.out.note hownx hgrowx hatx; clear hownx hgrowx hatx)
          go_roundw
          case rel => exact ⟨k + 1, by omega, by go_num, by rw [HP0.out]; exact HTX⟩
          case measure => first | (simp [intOf]; done) | (simp [intOf]; omega)
        · have HYZ : Hid ((nxC V U O mo) k = (-1, false)) := HQ3.out.1
          have HWZ : Hid ((whC V U O mo) k = 0) := HQ3.out.2.trans (by unfold whtC; simp [t0])
          have hya : (-1 == a) = false := beq_eq_false_iff_ne.2 (by omega)
          go_upto_region 15 with fail
          go_quiet (fail)
          go_upto_region 20 with fail
          obtain ⟨wc, hwc⟩ : ∃ v, v = (wa.drewN nq).setCell ⟨wr.heap.size, 0, none⟩ (.int .i64 (-1)) := ⟨_, rfl⟩
          rw [← hwc]
          have HTC : Hid (TwoC w wc u11 u12 (nxC V U O mo) k (ntP (whC V U O mo) k)) := by show TwoC _ _ _ _ _ _ _; rw [hwc]; exact (HTA.out.below (by repeat (first | with_reducible exact Below.refl _ _ | with_reducible refine Below.setCell ?_ (by first | omega | (simp; done) | (simp; omega)) _ | with_reducible refine bDrewN ?_ _ | with_reducible refine Below.drew ?_ | with_reducible refine Below.alloc ?_ (by first | omega | (simp; done) | (simp; omega)) _))).set hp1 hp2 zw
          have e0 : wc.cell? ⟨wr.heap.size, 0, none⟩ = some (.int .i64 (-1)) := by rw [hwc]; simp [go_sem, a0]
          have e1 : wc.cell? ⟨wr.heap.size, 1, none⟩ = some (.bool l) := by rw [hwc]; simp [go_sem, a1]
          have q1 : wc.frozen? ⟨wr.heap.size, 1, none⟩ = false := by rw [hwc]; simp [go_sem, z1]
          have zc : wr.heap.size < wc.heap.size := by rw [hwc]; simpa using za
          have zgc : g < wc.heap.size := by rw [hwc]; simpa using zg3
          replace c1 : wc.cell? ⟨g, o + k * 2 + 1, none⟩ = some (.int .i64 a) := by rw [hwc, World.cell?_setCell_other _ _ _ _ (by intro q; first | exact gp (congrArg Addr.block q) | exact gp (congrArg Addr.block q).symm)]; simpa [go_sem] using c1
          clear hwc a0 a1 z0 z1
          go_upto_region 20 with fail
          refine wp_region_held_drew (S := fun w' => w'.cell? ⟨wr.heap.size, 0, none⟩ = some (.int .i64 (-1)) ∧ w'.cell? ⟨g, o + k * 2 + 1, none⟩ = some (.int .i64 a)) (by kernel_rfl) ?_ (fun hHeld => ?_)
          · exact ⟨(Below.cell (show Below wc.heap.size wc _ from (by repeat (first | with_reducible exact Below.refl _ _ | with_reducible refine Below.setCell ?_ (by first | omega | (simp; done) | (simp; omega)) _ | with_reducible refine bDrewN ?_ _ | with_reducible refine Below.drew ?_ | with_reducible refine Below.alloc ?_ (by first | omega | (simp; done) | (simp; omega)) _))) (p := ⟨wr.heap.size, 0, none⟩) zc).trans e0, (Below.cell (show Below wc.heap.size wc _ from (by repeat (first | with_reducible exact Below.refl _ _ | with_reducible refine Below.setCell ?_ (by first | omega | (simp; done) | (simp; omega)) _ | with_reducible refine bDrewN ?_ _ | with_reducible refine Below.drew ?_ | with_reducible refine Below.alloc ?_ (by first | omega | (simp; done) | (simp; omega)) _))) (p := ⟨g, o + k * 2 + 1, none⟩) zgc).trans c1⟩
          refine wpAnyH_take (i := 0) (v := .pointer (some ⟨wr.heap.size, 0, none⟩)) rfl (by kernel_rfl) (by kernel_rfl) (by kernel_rfl) (fun _ _ _ h => h) (Or.inl ⟨by kernel_rfl, ?_⟩) hHeld ?_
          · intro w' hSw
            obtain ⟨s0, s1⟩ := hSw
            first | (go_simp; done) | (go_simp; with_reducible rfl) | (go_simp; rw [IntKind.wrap_i64]; omega) | (go_simp; omega)
          simp only [Act.put, List.setIfInBounds_toArray, List.set_cons_zero, List.set_cons_succ]
          refine wpAnyH_take (i := 1) (v := .int .i64 (-1)) rfl (by kernel_rfl) (by kernel_rfl) (by kernel_rfl) (fun _ _ _ h => h) (Or.inl ⟨by kernel_rfl, ?_⟩) hHeld ?_
          · intro w' hSw
            obtain ⟨s0, s1⟩ := hSw
            first | (go_simp; done) | (go_simp; with_reducible rfl) | (go_simp; rw [IntKind.wrap_i64]; omega) | (go_simp; omega)
          simp only [Act.put, List.setIfInBounds_toArray, List.set_cons_zero, List.set_cons_succ]
          refine wpAnyH_take (i := 2) (v := .slice (some ⟨g, o, none⟩) m c) rfl (by kernel_rfl) (by kernel_rfl) (by kernel_rfl) (fun _ _ _ h => h) (Or.inl ⟨by kernel_rfl, ?_⟩) hHeld ?_
          · intro w' hSw
            obtain ⟨s0, s1⟩ := hSw
            first | (go_simp; done) | (go_simp; with_reducible rfl) | (go_simp; rw [IntKind.wrap_i64]; omega) | (go_simp; omega)
          simp only [Act.put, List.setIfInBounds_toArray, List.set_cons_zero, List.set_cons_succ]
          refine wpAnyH_take (i := 3) (v := .int .i64 (k : Int)) rfl (by kernel_rfl) (by kernel_rfl) (by kernel_rfl) (fun _ _ _ h => h) (Or.inl ⟨by kernel_rfl, ?_⟩) hHeld ?_
          · intro w' hSw
            obtain ⟨s0, s1⟩ := hSw
            first | (go_simp; done) | (go_simp; with_reducible rfl) | (go_simp; rw [IntKind.wrap_i64]; omega) | (go_simp; omega)
          simp only [Act.put, List.setIfInBounds_toArray, List.set_cons_zero, List.set_cons_succ]
          refine wpAnyH_take (i := 4) (v := .pointer (some ⟨g, o + k * 2, none⟩)) rfl (by kernel_rfl) (by kernel_rfl) (by kernel_rfl) (fun _ _ _ h => h) (Or.inl ⟨by kernel_rfl, ?_⟩) hHeld ?_
          · intro w' hSw
            obtain ⟨s0, s1⟩ := hSw
            first | (go_simp; done) | (go_simp; with_reducible rfl) | (go_simp; rw [IntKind.wrap_i64]; omega) | (go_simp; omega)
          simp only [Act.put, List.setIfInBounds_toArray, List.set_cons_zero, List.set_cons_succ]
          refine wpAnyH_take (i := 5) (v := .pointer (some ⟨g, o + k * 2 + 1, none⟩)) rfl (by kernel_rfl) (by kernel_rfl) (by kernel_rfl) (fun _ _ _ h => h) (Or.inl ⟨by kernel_rfl, ?_⟩) hHeld ?_
          · intro w' hSw
            obtain ⟨s0, s1⟩ := hSw
            first | (go_simp; done) | (go_simp; with_reducible rfl) | (go_simp; rw [IntKind.wrap_i64]; omega) | (go_simp; omega)
          simp only [Act.put, List.setIfInBounds_toArray, List.set_cons_zero, List.set_cons_succ]
          refine wpAnyH_take (i := 6) (v := .int .i64 a) rfl (by kernel_rfl) (by kernel_rfl) (by kernel_rfl) (fun _ _ _ h => h) (Or.inl ⟨by kernel_rfl, ?_⟩) hHeld ?_
          · intro w' hSw
            obtain ⟨s0, s1⟩ := hSw
            first | (go_simp; done) | (go_simp; with_reducible rfl) | (go_simp; rw [IntKind.wrap_i64]; omega) | (go_simp; omega)
          simp only [Act.put, List.setIfInBounds_toArray, List.set_cons_zero, List.set_cons_succ]
          refine wpAnyH_take (i := 7) (v := .bool false) rfl (by kernel_rfl) (by kernel_rfl) (by kernel_rfl) (fun _ _ _ h => h) (Or.inl ⟨by kernel_rfl, ?_⟩) hHeld ?_
          · intro w' hSw
            obtain ⟨s0, s1⟩ := hSw
            first | (go_simp; done) | (go_simp; with_reducible rfl) | (go_simp; rw [IntKind.wrap_i64]; omega) | (go_simp; omega)
          simp only [Act.put, List.setIfInBounds_toArray, List.set_cons_zero, List.set_cons_succ]
          refine wpAnyH_take (i := 8) (v := .pointer (some ⟨wr.heap.size, 1, none⟩)) rfl (by kernel_rfl) (by kernel_rfl) (by kernel_rfl) (fun _ _ _ h => h) (Or.inl ⟨by kernel_rfl, ?_⟩) hHeld ?_
          · intro w' hSw
            obtain ⟨s0, s1⟩ := hSw
            first | (go_simp; done) | (go_simp; with_reducible rfl) | (go_simp; rw [IntKind.wrap_i64]; omega) | (go_simp; omega)
          simp only [Act.put, List.setIfInBounds_toArray, List.set_cons_zero, List.set_cons_succ]
          refine wpAnyH_ready (rs := [9]) (by kernel_rfl) (by simp) ?_
          refine AllReadyH.cons rfl (fun KK hK => ?_) AllReadyH.nil
          go_simp
          have HTN : Hid (TwoC w (wc.setCell ⟨wr.heap.size, 1, none⟩ (.bool false)).drew u11 u12 (nxC V U O mo) k (ntP (whC V U O mo) k)) := (HTC.out.set hp1 hp2 zw).below (Below.drew (Below.refl _ _))
          obtain ⟨wn, hwn⟩ : ∃ v, v = (wc.setCell ⟨wr.heap.size, 1, none⟩ (.bool false)).drew := ⟨_, rfl⟩
          have n0 : wn.cell? ⟨wr.heap.size, 0, none⟩ = some (.int .i64 (-1)) := by rw [hwn]; simp [go_sem, e0]
          have n1 : wn.cell? ⟨wr.heap.size, 1, none⟩ = some (.bool false) := by rw [hwn]; simp [go_sem, e1]
          have n2 : wn.cell? ⟨g, o + k * 2 + 1, none⟩ = some (.int .i64 a) := by rw [hwn]; show (wc.setCell ⟨wr.heap.size, 1, none⟩ (.bool false)).cell? _ = _; rw [World.cell?_setCell_other _ _ _ _ (by intro q; first | exact gp (congrArg Addr.block q) | exact gp (congrArg Addr.block q).symm)]; exact c1
          rw [← hwn] at HTN ⊢
          refine hK.out _ _ ⟨n0, n2⟩ (fun hHeld => ?_)
          clear hK KK
          refine wpAnyH_done (by kernel_rfl) ?_ _
          clear hHeld hwn
          have HTN2 := HTN.out
          have sn : w.heap.size ≤ wn.heap.size := HTN2.2.2.2.size
          go_upto_region 22 with (at_builtin; refine list_Clock w.heap.size u11 k (ckL (nxC V U O mo) k) (.tmp 114) (.tmp 116) (by rfl) (by rfl) (by rfl) (by rfl) HTN2.1 (by omega) (by omega) ?_; intro g1 cap1 w9 hown9 hgrow9 hlt9 hat9; have HT9 : Hid (TwoC w w9 (.slice (some ⟨g1, 0, none⟩) (k + 1) cap1) u12 (nxC V U O mo) (k + 1) (ntP (whC V U O mo) k)) := HTN2.clock (by rw [HYZ.out]; exact hown9) hgrow9 hat9; clear hown9 hgrow9 hat9)
          have HP0 : Hid (ntP (whC V U O mo) (k + 1) = ntP (whC V U O mo) k) := HPT.out.trans (if_pos HWZ.out)
          go_wp2
          go_roundw
          case rel => exact ⟨k + 1, by omega, by go_num, by rw [HP0.out]; exact HT9⟩
          case measure => first | (simp [intOf]; done) | (simp [intOf]; omega)
      · cases hbit : bitM mm mo
        · have hb2 : (bits BinOp.and IntKind.i64 (mm / 2 ^ mo.toNat) 1 == 1) = false := hbit
          have HQ3 : Hid ((nxC V U O mo) k = nxtC a r false ∧ (whC V U O mo) k = whtC a r false) := by
            have := HQ2.out
            show _ ∧ _
            simpa [hbit] using this
          clear hbit
          by_cases t0 : 0 ≤ r
          · have HYZ : Hid ((nxC V U O mo) k = (-1, false)) := HQ3.out.1
            have HWZ : Hid ((whC V U O mo) k = 2) := HQ3.out.2.trans (by unfold whtC; simp [t0])
            have hya : (-1 == a) = false := beq_eq_false_iff_ne.2 (by omega)
            go_upto_region 15 with fail
            go_quiet (fail)
            go_upto_region 20 with fail
            obtain ⟨wc, hwc⟩ : ∃ v, v = (wa.drewN nq).setCell ⟨wr.heap.size, 0, none⟩ (.int .i64 (-1)) := ⟨_, rfl⟩
            rw [← hwc]
            have HTC : Hid (TwoC w wc u11 u12 (nxC V U O mo) k (ntP (whC V U O mo) k)) := by show TwoC _ _ _ _ _ _ _; rw [hwc]; exact (HTA.out.below (by repeat (first | with_reducible exact Below.refl _ _ | with_reducible refine Below.setCell ?_ (by first | omega | (simp; done) | (simp; omega)) _ | with_reducible refine bDrewN ?_ _ | with_reducible refine Below.drew ?_ | with_reducible refine Below.alloc ?_ (by first | omega | (simp; done) | (simp; omega)) _))).set hp1 hp2 zw
            have e0 : wc.cell? ⟨wr.heap.size, 0, none⟩ = some (.int .i64 (-1)) := by rw [hwc]; simp [go_sem, a0]
            have e1 : wc.cell? ⟨wr.heap.size, 1, none⟩ = some (.bool l) := by rw [hwc]; simp [go_sem, a1]
            have q1 : wc.frozen? ⟨wr.heap.size, 1, none⟩ = false := by rw [hwc]; simp [go_sem, z1]
            have zc : wr.heap.size < wc.heap.size := by rw [hwc]; simpa using za
            have zgc : g < wc.heap.size := by rw [hwc]; simpa using zg3
            replace c1 : wc.cell? ⟨g, o + k * 2 + 1, none⟩ = some (.int .i64 a) := by rw [hwc, World.cell?_setCell_other _ _ _ _ (by intro q; first | exact gp (congrArg Addr.block q) | exact gp (congrArg Addr.block q).symm)]; simpa [go_sem] using c1
            clear hwc a0 a1 z0 z1
            go_upto_region 20 with fail
            refine wp_region_held_drew (S := fun w' => w'.cell? ⟨wr.heap.size, 0, none⟩ = some (.int .i64 (-1)) ∧ w'.cell? ⟨g, o + k * 2 + 1, none⟩ = some (.int .i64 a)) (by kernel_rfl) ?_ (fun hHeld => ?_)
            · exact ⟨(Below.cell (show Below wc.heap.size wc _ from (by repeat (first | with_reducible exact Below.refl _ _ | with_reducible refine Below.setCell ?_ (by first | omega | (simp; done) | (simp; omega)) _ | with_reducible refine bDrewN ?_ _ | with_reducible refine Below.drew ?_ | with_reducible refine Below.alloc ?_ (by first | omega | (simp; done) | (simp; omega)) _))) (p := ⟨wr.heap.size, 0, none⟩) zc).trans e0, (Below.cell (show Below wc.heap.size wc _ from (by repeat (first | with_reducible exact Below.refl _ _ | with_reducible refine Below.setCell ?_ (by first | omega | (simp; done) | (simp; omega)) _ | with_reducible refine bDrewN ?_ _ | with_reducible refine Below.drew ?_ | with_reducible refine Below.alloc ?_ (by first | omega | (simp; done) | (simp; omega)) _))) (p := ⟨g, o + k * 2 + 1, none⟩) zgc).trans c1⟩
            refine wpAnyH_take (i := 0) (v := .pointer (some ⟨wr.heap.size, 0, none⟩)) rfl (by kernel_rfl) (by kernel_rfl) (by kernel_rfl) (fun _ _ _ h => h) (Or.inl ⟨by kernel_rfl, ?_⟩) hHeld ?_
            · intro w' hSw
              obtain ⟨s0, s1⟩ := hSw
              first | (go_simp; done) | (go_simp; with_reducible rfl) | (go_simp; rw [IntKind.wrap_i64]; omega) | (go_simp; omega)
            simp only [Act.put, List.setIfInBounds_toArray, List.set_cons_zero, List.set_cons_succ]
            refine wpAnyH_take (i := 1) (v := .int .i64 (-1)) rfl (by kernel_rfl) (by kernel_rfl) (by kernel_rfl) (fun _ _ _ h => h) (Or.inl ⟨by kernel_rfl, ?_⟩) hHeld ?_
            · intro w' hSw
              obtain ⟨s0, s1⟩ := hSw
              first | (go_simp; done) | (go_simp; with_reducible rfl) | (go_simp; rw [IntKind.wrap_i64]; omega) | (go_simp; omega)
            simp only [Act.put, List.setIfInBounds_toArray, List.set_cons_zero, List.set_cons_succ]
            refine wpAnyH_take (i := 2) (v := .slice (some ⟨g, o, none⟩) m c) rfl (by kernel_rfl) (by kernel_rfl) (by kernel_rfl) (fun _ _ _ h => h) (Or.inl ⟨by kernel_rfl, ?_⟩) hHeld ?_
            · intro w' hSw
              obtain ⟨s0, s1⟩ := hSw
              first | (go_simp; done) | (go_simp; with_reducible rfl) | (go_simp; rw [IntKind.wrap_i64]; omega) | (go_simp; omega)
            simp only [Act.put, List.setIfInBounds_toArray, List.set_cons_zero, List.set_cons_succ]
            refine wpAnyH_take (i := 3) (v := .int .i64 (k : Int)) rfl (by kernel_rfl) (by kernel_rfl) (by kernel_rfl) (fun _ _ _ h => h) (Or.inl ⟨by kernel_rfl, ?_⟩) hHeld ?_
            · intro w' hSw
              obtain ⟨s0, s1⟩ := hSw
              first | (go_simp; done) | (go_simp; with_reducible rfl) | (go_simp; rw [IntKind.wrap_i64]; omega) | (go_simp; omega)
            simp only [Act.put, List.setIfInBounds_toArray, List.set_cons_zero, List.set_cons_succ]
            refine wpAnyH_take (i := 4) (v := .pointer (some ⟨g, o + k * 2, none⟩)) rfl (by kernel_rfl) (by kernel_rfl) (by kernel_rfl) (fun _ _ _ h => h) (Or.inl ⟨by kernel_rfl, ?_⟩) hHeld ?_
            · intro w' hSw
              obtain ⟨s0, s1⟩ := hSw
              first | (go_simp; done) | (go_simp; with_reducible rfl) | (go_simp; rw [IntKind.wrap_i64]; omega) | (go_simp; omega)
            simp only [Act.put, List.setIfInBounds_toArray, List.set_cons_zero, List.set_cons_succ]
            refine wpAnyH_take (i := 5) (v := .pointer (some ⟨g, o + k * 2 + 1, none⟩)) rfl (by kernel_rfl) (by kernel_rfl) (by kernel_rfl) (fun _ _ _ h => h) (Or.inl ⟨by kernel_rfl, ?_⟩) hHeld ?_
            · intro w' hSw
              obtain ⟨s0, s1⟩ := hSw
              first | (go_simp; done) | (go_simp; with_reducible rfl) | (go_simp; rw [IntKind.wrap_i64]; omega) | (go_simp; omega)
            simp only [Act.put, List.setIfInBounds_toArray, List.set_cons_zero, List.set_cons_succ]
            refine wpAnyH_take (i := 6) (v := .int .i64 a) rfl (by kernel_rfl) (by kernel_rfl) (by kernel_rfl) (fun _ _ _ h => h) (Or.inl ⟨by kernel_rfl, ?_⟩) hHeld ?_
            · intro w' hSw
              obtain ⟨s0, s1⟩ := hSw
              first | (go_simp; done) | (go_simp; with_reducible rfl) | (go_simp; rw [IntKind.wrap_i64]; omega) | (go_simp; omega)
            simp only [Act.put, List.setIfInBounds_toArray, List.set_cons_zero, List.set_cons_succ]
            refine wpAnyH_take (i := 7) (v := .bool false) rfl (by kernel_rfl) (by kernel_rfl) (by kernel_rfl) (fun _ _ _ h => h) (Or.inl ⟨by kernel_rfl, ?_⟩) hHeld ?_
            · intro w' hSw
              obtain ⟨s0, s1⟩ := hSw
              first | (go_simp; done) | (go_simp; with_reducible rfl) | (go_simp; rw [IntKind.wrap_i64]; omega) | (go_simp; omega)
            simp only [Act.put, List.setIfInBounds_toArray, List.set_cons_zero, List.set_cons_succ]
            refine wpAnyH_take (i := 8) (v := .pointer (some ⟨wr.heap.size, 1, none⟩)) rfl (by kernel_rfl) (by kernel_rfl) (by kernel_rfl) (fun _ _ _ h => h) (Or.inl ⟨by kernel_rfl, ?_⟩) hHeld ?_
            · intro w' hSw
              obtain ⟨s0, s1⟩ := hSw
              first | (go_simp; done) | (go_simp; with_reducible rfl) | (go_simp; rw [IntKind.wrap_i64]; omega) | (go_simp; omega)
            simp only [Act.put, List.setIfInBounds_toArray, List.set_cons_zero, List.set_cons_succ]
            refine wpAnyH_ready (rs := [9]) (by kernel_rfl) (by simp) ?_
            refine AllReadyH.cons rfl (fun KK hK => ?_) AllReadyH.nil
            go_simp
            have HTN : Hid (TwoC w (wc.setCell ⟨wr.heap.size, 1, none⟩ (.bool false)).drew u11 u12 (nxC V U O mo) k (ntP (whC V U O mo) k)) := (HTC.out.set hp1 hp2 zw).below (Below.drew (Below.refl _ _))
            obtain ⟨wn, hwn⟩ : ∃ v, v = (wc.setCell ⟨wr.heap.size, 1, none⟩ (.bool false)).drew := ⟨_, rfl⟩
            have n0 : wn.cell? ⟨wr.heap.size, 0, none⟩ = some (.int .i64 (-1)) := by rw [hwn]; simp [go_sem, e0]
            have n1 : wn.cell? ⟨wr.heap.size, 1, none⟩ = some (.bool false) := by rw [hwn]; simp [go_sem, e1]
            have n2 : wn.cell? ⟨g, o + k * 2 + 1, none⟩ = some (.int .i64 a) := by rw [hwn]; show (wc.setCell ⟨wr.heap.size, 1, none⟩ (.bool false)).cell? _ = _; rw [World.cell?_setCell_other _ _ _ _ (by intro q; first | exact gp (congrArg Addr.block q) | exact gp (congrArg Addr.block q).symm)]; exact c1
            rw [← hwn] at HTN ⊢
            refine hK.out _ _ ⟨n0, n2⟩ (fun hHeld => ?_)
            clear hK KK
            refine wpAnyH_done (by kernel_rfl) ?_ _
            clear hHeld hwn
            have HTN2 := HTN.out
            have sn : w.heap.size ≤ wn.heap.size := HTN2.2.2.2.size
            go_upto_region 22 with (at_builtin; refine list_Clock w.heap.size u11 k (ckL (nxC V U O mo) k) (.tmp 114) (.tmp 116) (by rfl) (by rfl) (by rfl) (by rfl) HTN2.1 (by omega) (by omega) ?_; intro g1 cap1 w9 hown9 hgrow9 hlt9 hat9; have HT9 : Hid (TwoC w w9 (.slice (some ⟨g1, 0, none⟩) (k + 1) cap1) u12 (nxC V U O mo) (k + 1) (ntP (whC V U O mo) k)) := HTN2.clock (by rw [HYZ.out]; exact hown9) hgrow9 hat9; clear hown9 hgrow9 hat9)
            have HP0 : Hid (ntP (whC V U O mo) (k + 1) = ntP (whC V U O mo) k ++ [((k : Int), 2)]) := by
              show _ = _
              rw [HPT.out, HWZ.out]
              exact if_neg (by decide)
            have s9 : w.heap.size ≤ w9.heap.size := HT9.out.2.2.2.size
            go_wp2_with (at_builtin; refine list_Note w.heap.size u12 (ntP (whC V U O mo) k).length (ntC (ntP (whC V U O mo) k)) (.tmp 120) (.tmp 124) (by rfl) (by rfl) (by rfl) (by rfl) HT9.out.2.1 (by omega) (by omega) ?_; intro g2 cap2 wx hownx hgrowx hltx hatx; have HTX : Hid (TwoC w wx (.slice (some ⟨g1, 0, none⟩) (k + 1) cap1) (.slice (some ⟨g2, 0, none⟩) ((ntP (whC V U O mo) k).length + 1) cap2) (nxC V U O mo) (k + 1) (ntP (whC V U O mo) k ++ [((k : Int), 2)])) := HT9.out.note hownx hgrowx hatx; clear hownx hgrowx hatx)
            go_roundw
            case rel => exact ⟨k + 1, by omega, by go_num, by rw [HP0.out]; exact HTX⟩
            case measure => first | (simp [intOf]; done) | (simp [intOf]; omega)
          · have HYZ : Hid ((nxC V U O mo) k = (-1, false)) := HQ3.out.1
            have HWZ : Hid ((whC V U O mo) k = 0) := HQ3.out.2.trans (by unfold whtC; simp [t0])
            have hya : (-1 == a) = false := beq_eq_false_iff_ne.2 (by omega)
            go_upto_region 15 with fail
            go_quiet (fail)
            go_upto_region 20 with fail
            obtain ⟨wc, hwc⟩ : ∃ v, v = (wa.drewN nq).setCell ⟨wr.heap.size, 0, none⟩ (.int .i64 (-1)) := ⟨_, rfl⟩
            rw [← hwc]
            have HTC : Hid (TwoC w wc u11 u12 (nxC V U O mo) k (ntP (whC V U O mo) k)) := by show TwoC _ _ _ _ _ _ _; rw [hwc]; exact (HTA.out.below (by repeat (first | with_reducible exact Below.refl _ _ | with_reducible refine Below.setCell ?_ (by first | omega | (simp; done) | (simp; omega)) _ | with_reducible refine bDrewN ?_ _ | with_reducible refine Below.drew ?_ | with_reducible refine Below.alloc ?_ (by first | omega | (simp; done) | (simp; omega)) _))).set hp1 hp2 zw
            have e0 : wc.cell? ⟨wr.heap.size, 0, none⟩ = some (.int .i64 (-1)) := by rw [hwc]; simp [go_sem, a0]
            have e1 : wc.cell? ⟨wr.heap.size, 1, none⟩ = some (.bool l) := by rw [hwc]; simp [go_sem, a1]
            have q1 : wc.frozen? ⟨wr.heap.size, 1, none⟩ = false := by rw [hwc]; simp [go_sem, z1]
            have zc : wr.heap.size < wc.heap.size := by rw [hwc]; simpa using za
            have zgc : g < wc.heap.size := by rw [hwc]; simpa using zg3
            replace c1 : wc.cell? ⟨g, o + k * 2 + 1, none⟩ = some (.int .i64 a) := by rw [hwc, World.cell?_setCell_other _ _ _ _ (by intro q; first | exact gp (congrArg Addr.block q) | exact gp (congrArg Addr.block q).symm)]; simpa [go_sem] using c1
            clear hwc a0 a1 z0 z1
            go_upto_region 20 with fail
            refine wp_region_held_drew (S := fun w' => w'.cell? ⟨wr.heap.size, 0, none⟩ = some (.int .i64 (-1)) ∧ w'.cell? ⟨g, o + k * 2 + 1, none⟩ = some (.int .i64 a)) (by kernel_rfl) ?_ (fun hHeld => ?_)
            · exact ⟨(Below.cell (show Below wc.heap.size wc _ from (by repeat (first | with_reducible exact Below.refl _ _ | with_reducible refine Below.setCell ?_ (by first | omega | (simp; done) | (simp; omega)) _ | with_reducible refine bDrewN ?_ _ | with_reducible refine Below.drew ?_ | with_reducible refine Below.alloc ?_ (by first | omega | (simp; done) | (simp; omega)) _))) (p := ⟨wr.heap.size, 0, none⟩) zc).trans e0, (Below.cell (show Below wc.heap.size wc _ from (by repeat (first | with_reducible exact Below.refl _ _ | with_reducible refine Below.setCell ?_ (by first | omega | (simp; done) | (simp; omega)) _ | with_reducible refine bDrewN ?_ _ | with_reducible refine Below.drew ?_ | with_reducible refine Below.alloc ?_ (by first | omega | (simp; done) | (simp; omega)) _))) (p := ⟨g, o + k * 2 + 1, none⟩) zgc).trans c1⟩
            refine wpAnyH_take (i := 0) (v := .pointer (some ⟨wr.heap.size, 0, none⟩)) rfl (by kernel_rfl) (by kernel_rfl) (by kernel_rfl) (fun _ _ _ h => h) (Or.inl ⟨by kernel_rfl, ?_⟩) hHeld ?_
            · intro w' hSw
              obtain ⟨s0, s1⟩ := hSw
              first | (go_simp; done) | (go_simp; with_reducible rfl) | (go_simp; rw [IntKind.wrap_i64]; omega) | (go_simp; omega)
            simp only [Act.put, List.setIfInBounds_toArray, List.set_cons_zero, List.set_cons_succ]
            refine wpAnyH_take (i := 1) (v := .int .i64 (-1)) rfl (by kernel_rfl) (by kernel_rfl) (by kernel_rfl) (fun _ _ _ h => h) (Or.inl ⟨by kernel_rfl, ?_⟩) hHeld ?_
            · intro w' hSw
              obtain ⟨s0, s1⟩ := hSw
              first | (go_simp; done) | (go_simp; with_reducible rfl) | (go_simp; rw [IntKind.wrap_i64]; omega) | (go_simp; omega)
            simp only [Act.put, List.setIfInBounds_toArray, List.set_cons_zero, List.set_cons_succ]
            refine wpAnyH_take (i := 2) (v := .slice (some ⟨g, o, none⟩) m c) rfl (by kernel_rfl) (by kernel_rfl) (by kernel_rfl) (fun _ _ _ h => h) (Or.inl ⟨by kernel_rfl, ?_⟩) hHeld ?_
            · intro w' hSw
              obtain ⟨s0, s1⟩ := hSw
              first | (go_simp; done) | (go_simp; with_reducible rfl) | (go_simp; rw [IntKind.wrap_i64]; omega) | (go_simp; omega)
            simp only [Act.put, List.setIfInBounds_toArray, List.set_cons_zero, List.set_cons_succ]
            refine wpAnyH_take (i := 3) (v := .int .i64 (k : Int)) rfl (by kernel_rfl) (by kernel_rfl) (by kernel_rfl) (fun _ _ _ h => h) (Or.inl ⟨by kernel_rfl, ?_⟩) hHeld ?_
            · intro w' hSw
              obtain ⟨s0, s1⟩ := hSw
              first | (go_simp; done) | (go_simp; with_reducible rfl) | (go_simp; rw [IntKind.wrap_i64]; omega) | (go_simp; omega)
            simp only [Act.put, List.setIfInBounds_toArray, List.set_cons_zero, List.set_cons_succ]
            refine wpAnyH_take (i := 4) (v := .pointer (some ⟨g, o + k * 2, none⟩)) rfl (by kernel_rfl) (by kernel_rfl) (by kernel_rfl) (fun _ _ _ h => h) (Or.inl ⟨by kernel_rfl, ?_⟩) hHeld ?_
            · intro w' hSw
              obtain ⟨s0, s1⟩ := hSw
              first | (go_simp; done) | (go_simp; with_reducible rfl) | (go_simp; rw [IntKind.wrap_i64]; omega) | (go_simp; omega)
            simp only [Act.put, List.setIfInBounds_toArray, List.set_cons_zero, List.set_cons_succ]
            refine wpAnyH_take (i := 5) (v := .pointer (some ⟨g, o + k * 2 + 1, none⟩)) rfl (by kernel_rfl) (by kernel_rfl) (by kernel_rfl) (fun _ _ _ h => h) (Or.inl ⟨by kernel_rfl, ?_⟩) hHeld ?_
            · intro w' hSw
              obtain ⟨s0, s1⟩ := hSw
              first | (go_simp; done) | (go_simp; with_reducible rfl) | (go_simp; rw [IntKind.wrap_i64]; omega) | (go_simp; omega)
            simp only [Act.put, List.setIfInBounds_toArray, List.set_cons_zero, List.set_cons_succ]
            refine wpAnyH_take (i := 6) (v := .int .i64 a) rfl (by kernel_rfl) (by kernel_rfl) (by kernel_rfl) (fun _ _ _ h => h) (Or.inl ⟨by kernel_rfl, ?_⟩) hHeld ?_
            · intro w' hSw
              obtain ⟨s0, s1⟩ := hSw
              first | (go_simp; done) | (go_simp; with_reducible rfl) | (go_simp; rw [IntKind.wrap_i64]; omega) | (go_simp; omega)
            simp only [Act.put, List.setIfInBounds_toArray, List.set_cons_zero, List.set_cons_succ]
            refine wpAnyH_take (i := 7) (v := .bool false) rfl (by kernel_rfl) (by kernel_rfl) (by kernel_rfl) (fun _ _ _ h => h) (Or.inl ⟨by kernel_rfl, ?_⟩) hHeld ?_
            · intro w' hSw
              obtain ⟨s0, s1⟩ := hSw
              first | (go_simp; done) | (go_simp; with_reducible rfl) | (go_simp; rw [IntKind.wrap_i64]; omega) | (go_simp; omega)
            simp only [Act.put, List.setIfInBounds_toArray, List.set_cons_zero, List.set_cons_succ]
            refine wpAnyH_take (i := 8) (v := .pointer (some ⟨wr.heap.size, 1, none⟩)) rfl (by kernel_rfl) (by kernel_rfl) (by kernel_rfl) (fun _ _ _ h => h) (Or.inl ⟨by kernel_rfl, ?_⟩) hHeld ?_
            · intro w' hSw
              obtain ⟨s0, s1⟩ := hSw
              first | (go_simp; done) | (go_simp; with_reducible rfl) | (go_simp; rw [IntKind.wrap_i64]; omega) | (go_simp; omega)
            simp only [Act.put, List.setIfInBounds_toArray, List.set_cons_zero, List.set_cons_succ]
            refine wpAnyH_ready (rs := [9]) (by kernel_rfl) (by simp) ?_
            refine AllReadyH.cons rfl (fun KK hK => ?_) AllReadyH.nil
            go_simp
            have HTN : Hid (TwoC w (wc.setCell ⟨wr.heap.size, 1, none⟩ (.bool false)).drew u11 u12 (nxC V U O mo) k (ntP (whC V U O mo) k)) := (HTC.out.set hp1 hp2 zw).below (Below.drew (Below.refl _ _))
            obtain ⟨wn, hwn⟩ : ∃ v, v = (wc.setCell ⟨wr.heap.size, 1, none⟩ (.bool false)).drew := ⟨_, rfl⟩
            have n0 : wn.cell? ⟨wr.heap.size, 0, none⟩ = some (.int .i64 (-1)) := by rw [hwn]; simp [go_sem, e0]
            have n1 : wn.cell? ⟨wr.heap.size, 1, none⟩ = some (.bool false) := by rw [hwn]; simp [go_sem, e1]
            have n2 : wn.cell? ⟨g, o + k * 2 + 1, none⟩ = some (.int .i64 a) := by rw [hwn]; show (wc.setCell ⟨wr.heap.size, 1, none⟩ (.bool false)).cell? _ = _; rw [World.cell?_setCell_other _ _ _ _ (by intro q; first | exact gp (congrArg Addr.block q) | exact gp (congrArg Addr.block q).symm)]; exact c1
            rw [← hwn] at HTN ⊢
            refine hK.out _ _ ⟨n0, n2⟩ (fun hHeld => ?_)
            clear hK KK
            refine wpAnyH_done (by kernel_rfl) ?_ _
            clear hHeld hwn
            have HTN2 := HTN.out
            have sn : w.heap.size ≤ wn.heap.size := HTN2.2.2.2.size
            go_upto_region 22 with (at_builtin; refine list_Clock w.heap.size u11 k (ckL (nxC V U O mo) k) (.tmp 114) (.tmp 116) (by rfl) (by rfl) (by rfl) (by rfl) HTN2.1 (by omega) (by omega) ?_; intro g1 cap1 w9 hown9 hgrow9 hlt9 hat9; have HT9 : Hid (TwoC w w9 (.slice (some ⟨g1, 0, none⟩) (k + 1) cap1) u12 (nxC V U O mo) (k + 1) (ntP (whC V U O mo) k)) := HTN2.clock (by rw [HYZ.out]; exact hown9) hgrow9 hat9; clear hown9 hgrow9 hat9)
            have HP0 : Hid (ntP (whC V U O mo) (k + 1) = ntP (whC V U O mo) k) := HPT.out.trans (if_pos HWZ.out)
            go_wp2
            go_roundw
            case rel => exact ⟨k + 1, by omega, by go_num, by rw [HP0.out]; exact HT9⟩
            case measure => first | (simp [intOf]; done) | (simp [intOf]; omega)
        · have hb2 : (bits BinOp.and IntKind.i64 (mm / 2 ^ mo.toNat) 1 == 1) = true := hbit
          have HQ3 : Hid ((nxC V U O mo) k = nxtC a r true ∧ (whC V U O mo) k = whtC a r true) := by
            have := HQ2.out
            show _ ∧ _
            simpa [hbit] using this
          clear hbit
          by_cases t0 : 0 ≤ r
          · by_cases t1 : r + 1 = a
            · have hle : lesR a r = a := by unfold lesR; split <;> omega
              have HYZ : Hid ((nxC V U O mo) k = (a, true)) := HQ3.out.1.trans (by show (lesR a r, decide (lesR a r = a)) = _; rw [hle]; first | rfl | (rw [decide_eq_false (by omega)]) | (rw [decide_eq_true (by omega)]))
              have HWZ : Hid ((whC V U O mo) k = 3) := HQ3.out.2.trans (by unfold whtC; simp; omega)
              have hlt : ¬ r + 1 < a := by omega
              clear hle
              go_upto_region 15 with fail
              go_quiet (fail)
              go_upto_region 18 with fail
              obtain ⟨wb, hwb⟩ : ∃ v, v = wa.drewN nq := ⟨_, rfl⟩
              rw [← hwb]
              have hbb : Below wa.heap.size wa wb := by rw [hwb]; exact (by repeat (first | with_reducible exact Below.refl _ _ | with_reducible refine Below.setCell ?_ (by first | omega | (simp; done) | (simp; omega)) _ | with_reducible refine bDrewN ?_ _ | with_reducible refine Below.drew ?_ | with_reducible refine Below.alloc ?_ (by first | omega | (simp; done) | (simp; omega)) _))
              have HTB : Hid (TwoC w wb u11 u12 (nxC V U O mo) k (ntP (whC V U O mo) k)) := HTA.out.below hbb
              replace a0 := (hbb.cell (p := ⟨wr.heap.size, 0, none⟩) za).trans a0
              replace a1 := (hbb.cell (p := ⟨wr.heap.size, 1, none⟩) za).trans a1
              replace z0 := (hbb.frozen (p := ⟨wr.heap.size, 0, none⟩) za).trans z0
              replace z1 := (hbb.frozen (p := ⟨wr.heap.size, 1, none⟩) za).trans z1
              replace c1 := (hbb.cell (p := ⟨g, o + k * 2 + 1, none⟩) zg3).trans c1
              replace za := Nat.lt_of_lt_of_le za hbb.size
              replace zg3 := Nat.lt_of_lt_of_le zg3 hbb.size
              clear hwb hbb
              refine wp_region_held_drew (S := fun w' => w'.cell? ⟨g, o + k * 2 + 1, none⟩ = some (.int .i64 a) ∧ w'.cell? ⟨wr.heap.size, 1, none⟩ = some (.bool l)) (by kernel_rfl) ?_ (fun hHeld => ?_)
              · exact ⟨(Below.cell (show Below wb.heap.size wb _ from (by repeat (first | with_reducible exact Below.refl _ _ | with_reducible refine Below.setCell ?_ (by first | omega | (simp; done) | (simp; omega)) _ | with_reducible refine bDrewN ?_ _ | with_reducible refine Below.drew ?_ | with_reducible refine Below.alloc ?_ (by first | omega | (simp; done) | (simp; omega)) _))) (p := ⟨g, o + k * 2 + 1, none⟩) zg3).trans c1, (Below.cell (show Below wb.heap.size wb _ from (by repeat (first | with_reducible exact Below.refl _ _ | with_reducible refine Below.setCell ?_ (by first | omega | (simp; done) | (simp; omega)) _ | with_reducible refine bDrewN ?_ _ | with_reducible refine Below.drew ?_ | with_reducible refine Below.alloc ?_ (by first | omega | (simp; done) | (simp; omega)) _))) (p := ⟨wr.heap.size, 1, none⟩) za).trans a1⟩
              refine wpAnyH_take (i := 0) (v := .slice (some ⟨g, o, none⟩) m c) rfl (by kernel_rfl) (by kernel_rfl) (by kernel_rfl) (fun _ _ _ h => h) (Or.inl ⟨by kernel_rfl, ?_⟩) hHeld ?_
              · intro w' hSw
                obtain ⟨s0, s1⟩ := hSw
                first | (go_simp; done) | (go_simp; with_reducible rfl) | (go_simp; rw [IntKind.wrap_i64]; omega) | (go_simp; omega)
              simp only [Act.put, List.setIfInBounds_toArray, List.set_cons_zero, List.set_cons_succ]
              refine wpAnyH_take (i := 1) (v := .int .i64 (k : Int)) rfl (by kernel_rfl) (by kernel_rfl) (by kernel_rfl) (fun _ _ _ h => h) (Or.inl ⟨by kernel_rfl, ?_⟩) hHeld ?_
              · intro w' hSw
                obtain ⟨s0, s1⟩ := hSw
                first | (go_simp; done) | (go_simp; with_reducible rfl) | (go_simp; rw [IntKind.wrap_i64]; omega) | (go_simp; omega)
              simp only [Act.put, List.setIfInBounds_toArray, List.set_cons_zero, List.set_cons_succ]
              refine wpAnyH_take (i := 2) (v := .pointer (some ⟨g, o + k * 2, none⟩)) rfl (by kernel_rfl) (by kernel_rfl) (by kernel_rfl) (fun _ _ _ h => h) (Or.inl ⟨by kernel_rfl, ?_⟩) hHeld ?_
              · intro w' hSw
                obtain ⟨s0, s1⟩ := hSw
                first | (go_simp; done) | (go_simp; with_reducible rfl) | (go_simp; rw [IntKind.wrap_i64]; omega) | (go_simp; omega)
              simp only [Act.put, List.setIfInBounds_toArray, List.set_cons_zero, List.set_cons_succ]
              refine wpAnyH_take (i := 3) (v := .pointer (some ⟨g, o + k * 2 + 1, none⟩)) rfl (by kernel_rfl) (by kernel_rfl) (by kernel_rfl) (fun _ _ _ h => h) (Or.inl ⟨by kernel_rfl, ?_⟩) hHeld ?_
              · intro w' hSw
                obtain ⟨s0, s1⟩ := hSw
                first | (go_simp; done) | (go_simp; with_reducible rfl) | (go_simp; rw [IntKind.wrap_i64]; omega) | (go_simp; omega)
              simp only [Act.put, List.setIfInBounds_toArray, List.set_cons_zero, List.set_cons_succ]
              refine wpAnyH_take (i := 4) (v := .int .i64 a) rfl (by kernel_rfl) (by kernel_rfl) (by kernel_rfl) (fun _ _ _ h => h) (Or.inl ⟨by kernel_rfl, ?_⟩) hHeld ?_
              · intro w' hSw
                obtain ⟨s0, s1⟩ := hSw
                first | (go_simp; done) | (go_simp; with_reducible rfl) | (go_simp; rw [IntKind.wrap_i64]; omega) | (go_simp; omega)
              simp only [Act.put, List.setIfInBounds_toArray, List.set_cons_zero, List.set_cons_succ]
              refine wpAnyH_take (i := 5) (v := .pointer (some ⟨wr.heap.size, 0, none⟩)) rfl (by kernel_rfl) (by kernel_rfl) (by kernel_rfl) (fun _ _ _ h => h) (Or.inl ⟨by kernel_rfl, ?_⟩) hHeld ?_
              · intro w' hSw
                obtain ⟨s0, s1⟩ := hSw
                first | (go_simp; done) | (go_simp; with_reducible rfl) | (go_simp; rw [IntKind.wrap_i64]; omega) | (go_simp; omega)
              simp only [Act.put, List.setIfInBounds_toArray, List.set_cons_zero, List.set_cons_succ]
              refine wpAnyH_ready (rs := [6]) (by kernel_rfl) (by simp) ?_
              refine AllReadyH.cons rfl (fun KK hK => ?_) AllReadyH.nil
              go_simp
              refine hK.out _ _ (hHeld) (fun hHeld => ?_)
              clear hK KK
              refine wpAnyH_take (i := 7) (v := .int .i64 (r + 1)) rfl (by kernel_rfl) (by kernel_rfl) (by kernel_rfl) (fun _ _ _ h => h) (Or.inl ⟨by kernel_rfl, ?_⟩) hHeld ?_
              · intro w' hSw
                obtain ⟨s0, s1⟩ := hSw
                first | (go_simp; done) | (go_simp; with_reducible rfl) | (go_simp; rw [IntKind.wrap_i64]; omega) | (go_simp; omega)
              simp only [Act.put, List.setIfInBounds_toArray, List.set_cons_zero, List.set_cons_succ]
              refine wpAnyH_take (i := 8) (v := .int .i64 (a)) rfl (by kernel_rfl) (by kernel_rfl) (by kernel_rfl) (fun _ _ _ h => h) (Or.inl ⟨by kernel_rfl, ?_⟩) hHeld ?_
              · intro w' hSw
                obtain ⟨s0, s1⟩ := hSw
                first | (go_simp; done) | (go_simp; with_reducible rfl) | (go_simp; rw [IntKind.wrap_i64]; omega) | (go_simp; omega)
              simp only [Act.put, List.setIfInBounds_toArray, List.set_cons_zero, List.set_cons_succ]
              refine wpAnyH_take (i := 9) (v := .pointer (some ⟨wr.heap.size, 0, none⟩)) rfl (by kernel_rfl) (by kernel_rfl) (by kernel_rfl) (fun _ _ _ h => h) (Or.inl ⟨by kernel_rfl, ?_⟩) hHeld ?_
              · intro w' hSw
                obtain ⟨s0, s1⟩ := hSw
                first | (go_simp; done) | (go_simp; with_reducible rfl) | (go_simp; rw [IntKind.wrap_i64]; omega) | (go_simp; omega)
              simp only [Act.put, List.setIfInBounds_toArray, List.set_cons_zero, List.set_cons_succ]
              refine wpAnyH_ready (rs := [10]) (by kernel_rfl) (by simp) ?_
              refine AllReadyH.cons rfl (fun KK hK => ?_) AllReadyH.nil
              go_simp
              obtain ⟨wc, hwc⟩ : ∃ v, v = (wb.setCell ⟨wr.heap.size, 0, none⟩ (.int .i64 (a))).drew := ⟨_, rfl⟩
              rw [← hwc]
              have HTC : Hid (TwoC w wc u11 u12 (nxC V U O mo) k (ntP (whC V U O mo) k)) := by show TwoC _ _ _ _ _ _ _; rw [hwc]; exact (HTB.out.set hp1 hp2 zw).below (Below.drew (Below.refl _ _))
              have e0 : wc.cell? ⟨wr.heap.size, 0, none⟩ = some (.int .i64 (a)) := by rw [hwc]; simp [go_sem, a0]
              have e1 : wc.cell? ⟨wr.heap.size, 1, none⟩ = some (.bool l) := by rw [hwc]; simp [go_sem, a1]
              have q1 : wc.frozen? ⟨wr.heap.size, 1, none⟩ = false := by rw [hwc]; simp [go_sem, z1]
              have zc : wr.heap.size < wc.heap.size := by rw [hwc]; simpa using za
              have zgc : g < wc.heap.size := by rw [hwc]; simpa using zg3
              replace c1 : wc.cell? ⟨g, o + k * 2 + 1, none⟩ = some (.int .i64 a) := by rw [hwc]; show (wb.setCell ⟨wr.heap.size, 0, none⟩ (.int .i64 (a))).cell? _ = _; rw [World.cell?_setCell_other _ _ _ _ (by intro q; first | exact gp (congrArg Addr.block q) | exact gp (congrArg Addr.block q).symm)]; exact c1
              refine hK.out _ _ ⟨c1, e1⟩ (fun hHeld => ?_)
              clear hK KK
              refine wpAnyH_done (by kernel_rfl) ?_ _
              clear hHeld hwc a0 a1 z0 z1
              go_upto_region 20 with fail
              refine wp_region_held_drew (S := fun w' => w'.cell? ⟨wr.heap.size, 0, none⟩ = some (.int .i64 (a)) ∧ w'.cell? ⟨g, o + k * 2 + 1, none⟩ = some (.int .i64 a)) (by kernel_rfl) ?_ (fun hHeld => ?_)
              · exact ⟨(Below.cell (show Below wc.heap.size wc _ from (by repeat (first | with_reducible exact Below.refl _ _ | with_reducible refine Below.setCell ?_ (by first | omega | (simp; done) | (simp; omega)) _ | with_reducible refine bDrewN ?_ _ | with_reducible refine Below.drew ?_ | with_reducible refine Below.alloc ?_ (by first | omega | (simp; done) | (simp; omega)) _))) (p := ⟨wr.heap.size, 0, none⟩) zc).trans e0, (Below.cell (show Below wc.heap.size wc _ from (by repeat (first | with_reducible exact Below.refl _ _ | with_reducible refine Below.setCell ?_ (by first | omega | (simp; done) | (simp; omega)) _ | with_reducible refine bDrewN ?_ _ | with_reducible refine Below.drew ?_ | with_reducible refine Below.alloc ?_ (by first | omega | (simp; done) | (simp; omega)) _))) (p := ⟨g, o + k * 2 + 1, none⟩) zgc).trans c1⟩
              refine wpAnyH_take (i := 0) (v := .pointer (some ⟨wr.heap.size, 0, none⟩)) rfl (by kernel_rfl) (by kernel_rfl) (by kernel_rfl) (fun _ _ _ h => h) (Or.inl ⟨by kernel_rfl, ?_⟩) hHeld ?_
              · intro w' hSw
                obtain ⟨s0, s1⟩ := hSw
                first | (go_simp; done) | (go_simp; with_reducible rfl) | (go_simp; rw [IntKind.wrap_i64]; omega) | (go_simp; omega)
              simp only [Act.put, List.setIfInBounds_toArray, List.set_cons_zero, List.set_cons_succ]
              refine wpAnyH_take (i := 1) (v := .int .i64 (a)) rfl (by kernel_rfl) (by kernel_rfl) (by kernel_rfl) (fun _ _ _ h => h) (Or.inl ⟨by kernel_rfl, ?_⟩) hHeld ?_
              · intro w' hSw
                obtain ⟨s0, s1⟩ := hSw
                first | (go_simp; done) | (go_simp; with_reducible rfl) | (go_simp; rw [IntKind.wrap_i64]; omega) | (go_simp; omega)
              simp only [Act.put, List.setIfInBounds_toArray, List.set_cons_zero, List.set_cons_succ]
              refine wpAnyH_take (i := 2) (v := .slice (some ⟨g, o, none⟩) m c) rfl (by kernel_rfl) (by kernel_rfl) (by kernel_rfl) (fun _ _ _ h => h) (Or.inl ⟨by kernel_rfl, ?_⟩) hHeld ?_
              · intro w' hSw
                obtain ⟨s0, s1⟩ := hSw
                first | (go_simp; done) | (go_simp; with_reducible rfl) | (go_simp; rw [IntKind.wrap_i64]; omega) | (go_simp; omega)
              simp only [Act.put, List.setIfInBounds_toArray, List.set_cons_zero, List.set_cons_succ]
              refine wpAnyH_take (i := 3) (v := .int .i64 (k : Int)) rfl (by kernel_rfl) (by kernel_rfl) (by kernel_rfl) (fun _ _ _ h => h) (Or.inl ⟨by kernel_rfl, ?_⟩) hHeld ?_
              · intro w' hSw
                obtain ⟨s0, s1⟩ := hSw
                first | (go_simp; done) | (go_simp; with_reducible rfl) | (go_simp; rw [IntKind.wrap_i64]; omega) | (go_simp; omega)
              simp only [Act.put, List.setIfInBounds_toArray, List.set_cons_zero, List.set_cons_succ]
              refine wpAnyH_take (i := 4) (v := .pointer (some ⟨g, o + k * 2, none⟩)) rfl (by kernel_rfl) (by kernel_rfl) (by kernel_rfl) (fun _ _ _ h => h) (Or.inl ⟨by kernel_rfl, ?_⟩) hHeld ?_
              · intro w' hSw
                obtain ⟨s0, s1⟩ := hSw
                first | (go_simp; done) | (go_simp; with_reducible rfl) | (go_simp; rw [IntKind.wrap_i64]; omega) | (go_simp; omega)
              simp only [Act.put, List.setIfInBounds_toArray, List.set_cons_zero, List.set_cons_succ]
              refine wpAnyH_take (i := 5) (v := .pointer (some ⟨g, o + k * 2 + 1, none⟩)) rfl (by kernel_rfl) (by kernel_rfl) (by kernel_rfl) (fun _ _ _ h => h) (Or.inl ⟨by kernel_rfl, ?_⟩) hHeld ?_
              · intro w' hSw
                obtain ⟨s0, s1⟩ := hSw
                first | (go_simp; done) | (go_simp; with_reducible rfl) | (go_simp; rw [IntKind.wrap_i64]; omega) | (go_simp; omega)
              simp only [Act.put, List.setIfInBounds_toArray, List.set_cons_zero, List.set_cons_succ]
              refine wpAnyH_take (i := 6) (v := .int .i64 a) rfl (by kernel_rfl) (by kernel_rfl) (by kernel_rfl) (fun _ _ _ h => h) (Or.inl ⟨by kernel_rfl, ?_⟩) hHeld ?_
              · intro w' hSw
                obtain ⟨s0, s1⟩ := hSw
                first | (go_simp; done) | (go_simp; with_reducible rfl) | (go_simp; rw [IntKind.wrap_i64]; omega) | (go_simp; omega)
              simp only [Act.put, List.setIfInBounds_toArray, List.set_cons_zero, List.set_cons_succ]
              refine wpAnyH_take (i := 7) (v := .bool true) rfl (by kernel_rfl) (by kernel_rfl) (by kernel_rfl) (fun _ _ _ h => h) (Or.inl ⟨by kernel_rfl, ?_⟩) hHeld ?_
              · intro w' hSw
                obtain ⟨s0, s1⟩ := hSw
                first | (go_simp; done) | (go_simp; with_reducible rfl) | (go_simp; rw [IntKind.wrap_i64]; omega) | (go_simp; omega)
              simp only [Act.put, List.setIfInBounds_toArray, List.set_cons_zero, List.set_cons_succ]
              refine wpAnyH_take (i := 8) (v := .pointer (some ⟨wr.heap.size, 1, none⟩)) rfl (by kernel_rfl) (by kernel_rfl) (by kernel_rfl) (fun _ _ _ h => h) (Or.inl ⟨by kernel_rfl, ?_⟩) hHeld ?_
              · intro w' hSw
                obtain ⟨s0, s1⟩ := hSw
                first | (go_simp; done) | (go_simp; with_reducible rfl) | (go_simp; rw [IntKind.wrap_i64]; omega) | (go_simp; omega)
              simp only [Act.put, List.setIfInBounds_toArray, List.set_cons_zero, List.set_cons_succ]
              refine wpAnyH_ready (rs := [9]) (by kernel_rfl) (by simp) ?_
              refine AllReadyH.cons rfl (fun KK hK => ?_) AllReadyH.nil
              go_simp
              have HTN : Hid (TwoC w (wc.setCell ⟨wr.heap.size, 1, none⟩ (.bool true)).drew u11 u12 (nxC V U O mo) k (ntP (whC V U O mo) k)) := (HTC.out.set hp1 hp2 zw).below (Below.drew (Below.refl _ _))
              obtain ⟨wn, hwn⟩ : ∃ v, v = (wc.setCell ⟨wr.heap.size, 1, none⟩ (.bool true)).drew := ⟨_, rfl⟩
              have n0 : wn.cell? ⟨wr.heap.size, 0, none⟩ = some (.int .i64 (a)) := by rw [hwn]; simp [go_sem, e0]
              have n1 : wn.cell? ⟨wr.heap.size, 1, none⟩ = some (.bool true) := by rw [hwn]; simp [go_sem, e1]
              have n2 : wn.cell? ⟨g, o + k * 2 + 1, none⟩ = some (.int .i64 a) := by rw [hwn]; show (wc.setCell ⟨wr.heap.size, 1, none⟩ (.bool true)).cell? _ = _; rw [World.cell?_setCell_other _ _ _ _ (by intro q; first | exact gp (congrArg Addr.block q) | exact gp (congrArg Addr.block q).symm)]; exact c1
              rw [← hwn] at HTN ⊢
              refine hK.out _ _ ⟨n0, n2⟩ (fun hHeld => ?_)
              clear hK KK
              refine wpAnyH_done (by kernel_rfl) ?_ _
              clear hHeld hwn
              have HTN2 := HTN.out
              have sn : w.heap.size ≤ wn.heap.size := HTN2.2.2.2.size
              go_upto_region 22 with (at_builtin; refine list_Clock w.heap.size u11 k (ckL (nxC V U O mo) k) (.tmp 114) (.tmp 116) (by rfl) (by rfl) (by rfl) (by rfl) HTN2.1 (by omega) (by omega) ?_; intro g1 cap1 w9 hown9 hgrow9 hlt9 hat9; have HT9 : Hid (TwoC w w9 (.slice (some ⟨g1, 0, none⟩) (k + 1) cap1) u12 (nxC V U O mo) (k + 1) (ntP (whC V U O mo) k)) := HTN2.clock (by rw [HYZ.out]; exact hown9) hgrow9 hat9; clear hown9 hgrow9 hat9)
              have HP0 : Hid (ntP (whC V U O mo) (k + 1) = ntP (whC V U O mo) k ++ [((k : Int), 3)]) := by
                show _ = _
                rw [HPT.out, HWZ.out]
                exact if_neg (by decide)
              have s9 : w.heap.size ≤ w9.heap.size := HT9.out.2.2.2.size
              go_wp2_with (at_builtin; refine list_Note w.heap.size u12 (ntP (whC V U O mo) k).length (ntC (ntP (whC V U O mo) k)) (.tmp 120) (.tmp 124) (by rfl) (by rfl) (by rfl) (by rfl) HT9.out.2.1 (by omega) (by omega) ?_; intro g2 cap2 wx hownx hgrowx hltx hatx; have HTX : Hid (TwoC w wx (.slice (some ⟨g1, 0, none⟩) (k + 1) cap1) (.slice (some ⟨g2, 0, none⟩) ((ntP (whC V U O mo) k).length + 1) cap2) (nxC V U O mo) (k + 1) (ntP (whC V U O mo) k ++ [((k : Int), 3)])) := HT9.out.note hownx hgrowx hatx; clear hownx hgrowx hatx)
              go_roundw
              case rel => exact ⟨k + 1, by omega, by go_num, by rw [HP0.out]; exact HTX⟩
              case measure => first | (simp [intOf]; done) | (simp [intOf]; omega)
            · by_cases t2 : r + 1 < a
              · have hle : lesR a r = r + 1 := by unfold lesR; split <;> omega
                have HYZ : Hid ((nxC V U O mo) k = (r + 1, false)) := HQ3.out.1.trans (by show (lesR a r, decide (lesR a r = a)) = _; rw [hle]; first | rfl | (rw [decide_eq_false (by omega)]) | (rw [decide_eq_true (by omega)]))
                have HWZ : Hid ((whC V U O mo) k = 0) := HQ3.out.2.trans (by unfold whtC; simp; omega)
                have hya : (r + 1 == a) = false := beq_eq_false_iff_ne.2 (by omega)
                have hlt : r + 1 < a := by omega
                clear hle
                go_upto_region 15 with fail
                go_quiet (fail)
                go_upto_region 18 with fail
                obtain ⟨wb, hwb⟩ : ∃ v, v = wa.drewN nq := ⟨_, rfl⟩
                rw [← hwb]
                have hbb : Below wa.heap.size wa wb := by rw [hwb]; exact (by repeat (first | with_reducible exact Below.refl _ _ | with_reducible refine Below.setCell ?_ (by first | omega | (simp; done) | (simp; omega)) _ | with_reducible refine bDrewN ?_ _ | with_reducible refine Below.drew ?_ | with_reducible refine Below.alloc ?_ (by first | omega | (simp; done) | (simp; omega)) _))
                have HTB : Hid (TwoC w wb u11 u12 (nxC V U O mo) k (ntP (whC V U O mo) k)) := HTA.out.below hbb
                replace a0 := (hbb.cell (p := ⟨wr.heap.size, 0, none⟩) za).trans a0
                replace a1 := (hbb.cell (p := ⟨wr.heap.size, 1, none⟩) za).trans a1
                replace z0 := (hbb.frozen (p := ⟨wr.heap.size, 0, none⟩) za).trans z0
                replace z1 := (hbb.frozen (p := ⟨wr.heap.size, 1, none⟩) za).trans z1
                replace c1 := (hbb.cell (p := ⟨g, o + k * 2 + 1, none⟩) zg3).trans c1
                replace za := Nat.lt_of_lt_of_le za hbb.size
                replace zg3 := Nat.lt_of_lt_of_le zg3 hbb.size
                clear hwb hbb
                refine wp_region_held_drew (S := fun w' => w'.cell? ⟨g, o + k * 2 + 1, none⟩ = some (.int .i64 a) ∧ w'.cell? ⟨wr.heap.size, 1, none⟩ = some (.bool l)) (by kernel_rfl) ?_ (fun hHeld => ?_)
                · exact ⟨(Below.cell (show Below wb.heap.size wb _ from (by repeat (first | with_reducible exact Below.refl _ _ | with_reducible refine Below.setCell ?_ (by first | omega | (simp; done) | (simp; omega)) _ | with_reducible refine bDrewN ?_ _ | with_reducible refine Below.drew ?_ | with_reducible refine Below.alloc ?_ (by first | omega | (simp; done) | (simp; omega)) _))) (p := ⟨g, o + k * 2 + 1, none⟩) zg3).trans c1, (Below.cell (show Below wb.heap.size wb _ from (by repeat (first | with_reducible exact Below.refl _ _ | with_reducible refine Below.setCell ?_ (by first | omega | (simp; done) | (simp; omega)) _ | with_reducible refine bDrewN ?_ _ | with_reducible refine Below.drew ?_ | with_reducible refine Below.alloc ?_ (by first | omega | (simp; done) | (simp; omega)) _))) (p := ⟨wr.heap.size, 1, none⟩) za).trans a1⟩
                refine wpAnyH_take (i := 0) (v := .slice (some ⟨g, o, none⟩) m c) rfl (by kernel_rfl) (by kernel_rfl) (by kernel_rfl) (fun _ _ _ h => h) (Or.inl ⟨by kernel_rfl, ?_⟩) hHeld ?_
                · intro w' hSw
                  obtain ⟨s0, s1⟩ := hSw
                  first | (go_simp; done) | (go_simp; with_reducible rfl) | (go_simp; rw [IntKind.wrap_i64]; omega) | (go_simp; omega)
                simp only [Act.put, List.setIfInBounds_toArray, List.set_cons_zero, List.set_cons_succ]
                refine wpAnyH_take (i := 1) (v := .int .i64 (k : Int)) rfl (by kernel_rfl) (by kernel_rfl) (by kernel_rfl) (fun _ _ _ h => h) (Or.inl ⟨by kernel_rfl, ?_⟩) hHeld ?_
                · intro w' hSw
                  obtain ⟨s0, s1⟩ := hSw
                  first | (go_simp; done) | (go_simp; with_reducible rfl) | (go_simp; rw [IntKind.wrap_i64]; omega) | (go_simp; omega)
                simp only [Act.put, List.setIfInBounds_toArray, List.set_cons_zero, List.set_cons_succ]
                refine wpAnyH_take (i := 2) (v := .pointer (some ⟨g, o + k * 2, none⟩)) rfl (by kernel_rfl) (by kernel_rfl) (by kernel_rfl) (fun _ _ _ h => h) (Or.inl ⟨by kernel_rfl, ?_⟩) hHeld ?_
                · intro w' hSw
                  obtain ⟨s0, s1⟩ := hSw
                  first | (go_simp; done) | (go_simp; with_reducible rfl) | (go_simp; rw [IntKind.wrap_i64]; omega) | (go_simp; omega)
                simp only [Act.put, List.setIfInBounds_toArray, List.set_cons_zero, List.set_cons_succ]
                refine wpAnyH_take (i := 3) (v := .pointer (some ⟨g, o + k * 2 + 1, none⟩)) rfl (by kernel_rfl) (by kernel_rfl) (by kernel_rfl) (fun _ _ _ h => h) (Or.inl ⟨by kernel_rfl, ?_⟩) hHeld ?_
                · intro w' hSw
                  obtain ⟨s0, s1⟩ := hSw
                  first | (go_simp; done) | (go_simp; with_reducible rfl) | (go_simp; rw [IntKind.wrap_i64]; omega) | (go_simp; omega)
                simp only [Act.put, List.setIfInBounds_toArray, List.set_cons_zero, List.set_cons_succ]
                refine wpAnyH_take (i := 4) (v := .int .i64 a) rfl (by kernel_rfl) (by kernel_rfl) (by kernel_rfl) (fun _ _ _ h => h) (Or.inl ⟨by kernel_rfl, ?_⟩) hHeld ?_
                · intro w' hSw
                  obtain ⟨s0, s1⟩ := hSw
                  first | (go_simp; done) | (go_simp; with_reducible rfl) | (go_simp; rw [IntKind.wrap_i64]; omega) | (go_simp; omega)
                simp only [Act.put, List.setIfInBounds_toArray, List.set_cons_zero, List.set_cons_succ]
                refine wpAnyH_take (i := 5) (v := .pointer (some ⟨wr.heap.size, 0, none⟩)) rfl (by kernel_rfl) (by kernel_rfl) (by kernel_rfl) (fun _ _ _ h => h) (Or.inl ⟨by kernel_rfl, ?_⟩) hHeld ?_
                · intro w' hSw
                  obtain ⟨s0, s1⟩ := hSw
                  first | (go_simp; done) | (go_simp; with_reducible rfl) | (go_simp; rw [IntKind.wrap_i64]; omega) | (go_simp; omega)
                simp only [Act.put, List.setIfInBounds_toArray, List.set_cons_zero, List.set_cons_succ]
                refine wpAnyH_ready (rs := [6]) (by kernel_rfl) (by simp) ?_
                refine AllReadyH.cons rfl (fun KK hK => ?_) AllReadyH.nil
                go_simp
                refine hK.out _ _ (hHeld) (fun hHeld => ?_)
                clear hK KK
                refine wpAnyH_take (i := 7) (v := .int .i64 (r + 1)) rfl (by kernel_rfl) (by kernel_rfl) (by kernel_rfl) (fun _ _ _ h => h) (Or.inl ⟨by kernel_rfl, ?_⟩) hHeld ?_
                · intro w' hSw
                  obtain ⟨s0, s1⟩ := hSw
                  first | (go_simp; done) | (go_simp; with_reducible rfl) | (go_simp; rw [IntKind.wrap_i64]; omega) | (go_simp; omega)
                simp only [Act.put, List.setIfInBounds_toArray, List.set_cons_zero, List.set_cons_succ]
                refine wpAnyH_take (i := 8) (v := .int .i64 (r + 1)) rfl (by kernel_rfl) (by kernel_rfl) (by kernel_rfl) (fun _ _ _ h => h) (Or.inl ⟨by kernel_rfl, ?_⟩) hHeld ?_
                · intro w' hSw
                  obtain ⟨s0, s1⟩ := hSw
                  first | (go_simp; done) | (go_simp; with_reducible rfl) | (go_simp; rw [IntKind.wrap_i64]; omega) | (go_simp; omega)
                simp only [Act.put, List.setIfInBounds_toArray, List.set_cons_zero, List.set_cons_succ]
                refine wpAnyH_take (i := 9) (v := .pointer (some ⟨wr.heap.size, 0, none⟩)) rfl (by kernel_rfl) (by kernel_rfl) (by kernel_rfl) (fun _ _ _ h => h) (Or.inl ⟨by kernel_rfl, ?_⟩) hHeld ?_
                · intro w' hSw
                  obtain ⟨s0, s1⟩ := hSw
                  first | (go_simp; done) | (go_simp; with_reducible rfl) | (go_simp; rw [IntKind.wrap_i64]; omega) | (go_simp; omega)
                simp only [Act.put, List.setIfInBounds_toArray, List.set_cons_zero, List.set_cons_succ]
                refine wpAnyH_ready (rs := [10]) (by kernel_rfl) (by simp) ?_
                refine AllReadyH.cons rfl (fun KK hK => ?_) AllReadyH.nil
                go_simp
                obtain ⟨wc, hwc⟩ : ∃ v, v = (wb.setCell ⟨wr.heap.size, 0, none⟩ (.int .i64 (r + 1))).drew := ⟨_, rfl⟩
                rw [← hwc]
                have HTC : Hid (TwoC w wc u11 u12 (nxC V U O mo) k (ntP (whC V U O mo) k)) := by show TwoC _ _ _ _ _ _ _; rw [hwc]; exact (HTB.out.set hp1 hp2 zw).below (Below.drew (Below.refl _ _))
                have e0 : wc.cell? ⟨wr.heap.size, 0, none⟩ = some (.int .i64 (r + 1)) := by rw [hwc]; simp [go_sem, a0]
                have e1 : wc.cell? ⟨wr.heap.size, 1, none⟩ = some (.bool l) := by rw [hwc]; simp [go_sem, a1]
                have q1 : wc.frozen? ⟨wr.heap.size, 1, none⟩ = false := by rw [hwc]; simp [go_sem, z1]
                have zc : wr.heap.size < wc.heap.size := by rw [hwc]; simpa using za
                have zgc : g < wc.heap.size := by rw [hwc]; simpa using zg3
                replace c1 : wc.cell? ⟨g, o + k * 2 + 1, none⟩ = some (.int .i64 a) := by rw [hwc]; show (wb.setCell ⟨wr.heap.size, 0, none⟩ (.int .i64 (r + 1))).cell? _ = _; rw [World.cell?_setCell_other _ _ _ _ (by intro q; first | exact gp (congrArg Addr.block q) | exact gp (congrArg Addr.block q).symm)]; exact c1
                refine hK.out _ _ ⟨c1, e1⟩ (fun hHeld => ?_)
                clear hK KK
                refine wpAnyH_done (by kernel_rfl) ?_ _
                clear hHeld hwc a0 a1 z0 z1
                go_upto_region 20 with fail
                refine wp_region_held_drew (S := fun w' => w'.cell? ⟨wr.heap.size, 0, none⟩ = some (.int .i64 (r + 1)) ∧ w'.cell? ⟨g, o + k * 2 + 1, none⟩ = some (.int .i64 a)) (by kernel_rfl) ?_ (fun hHeld => ?_)
                · exact ⟨(Below.cell (show Below wc.heap.size wc _ from (by repeat (first | with_reducible exact Below.refl _ _ | with_reducible refine Below.setCell ?_ (by first | omega | (simp; done) | (simp; omega)) _ | with_reducible refine bDrewN ?_ _ | with_reducible refine Below.drew ?_ | with_reducible refine Below.alloc ?_ (by first | omega | (simp; done) | (simp; omega)) _))) (p := ⟨wr.heap.size, 0, none⟩) zc).trans e0, (Below.cell (show Below wc.heap.size wc _ from (by repeat (first | with_reducible exact Below.refl _ _ | with_reducible refine Below.setCell ?_ (by first | omega | (simp; done) | (simp; omega)) _ | with_reducible refine bDrewN ?_ _ | with_reducible refine Below.drew ?_ | with_reducible refine Below.alloc ?_ (by first | omega | (simp; done) | (simp; omega)) _))) (p := ⟨g, o + k * 2 + 1, none⟩) zgc).trans c1⟩
                refine wpAnyH_take (i := 0) (v := .pointer (some ⟨wr.heap.size, 0, none⟩)) rfl (by kernel_rfl) (by kernel_rfl) (by kernel_rfl) (fun _ _ _ h => h) (Or.inl ⟨by kernel_rfl, ?_⟩) hHeld ?_
                · intro w' hSw
                  obtain ⟨s0, s1⟩ := hSw
                  first | (go_simp; done) | (go_simp; with_reducible rfl) | (go_simp; rw [IntKind.wrap_i64]; omega) | (go_simp; omega)
                simp only [Act.put, List.setIfInBounds_toArray, List.set_cons_zero, List.set_cons_succ]
                refine wpAnyH_take (i := 1) (v := .int .i64 (r + 1)) rfl (by kernel_rfl) (by kernel_rfl) (by kernel_rfl) (fun _ _ _ h => h) (Or.inl ⟨by kernel_rfl, ?_⟩) hHeld ?_
                · intro w' hSw
                  obtain ⟨s0, s1⟩ := hSw
                  first | (go_simp; done) | (go_simp; with_reducible rfl) | (go_simp; rw [IntKind.wrap_i64]; omega) | (go_simp; omega)
                simp only [Act.put, List.setIfInBounds_toArray, List.set_cons_zero, List.set_cons_succ]
                refine wpAnyH_take (i := 2) (v := .slice (some ⟨g, o, none⟩) m c) rfl (by kernel_rfl) (by kernel_rfl) (by kernel_rfl) (fun _ _ _ h => h) (Or.inl ⟨by kernel_rfl, ?_⟩) hHeld ?_
                · intro w' hSw
                  obtain ⟨s0, s1⟩ := hSw
                  first | (go_simp; done) | (go_simp; with_reducible rfl) | (go_simp; rw [IntKind.wrap_i64]; omega) | (go_simp; omega)
                simp only [Act.put, List.setIfInBounds_toArray, List.set_cons_zero, List.set_cons_succ]
                refine wpAnyH_take (i := 3) (v := .int .i64 (k : Int)) rfl (by kernel_rfl) (by kernel_rfl) (by kernel_rfl) (fun _ _ _ h => h) (Or.inl ⟨by kernel_rfl, ?_⟩) hHeld ?_
                · intro w' hSw
                  obtain ⟨s0, s1⟩ := hSw
                  first | (go_simp; done) | (go_simp; with_reducible rfl) | (go_simp; rw [IntKind.wrap_i64]; omega) | (go_simp; omega)
                simp only [Act.put, List.setIfInBounds_toArray, List.set_cons_zero, List.set_cons_succ]
                refine wpAnyH_take (i := 4) (v := .pointer (some ⟨g, o + k * 2, none⟩)) rfl (by kernel_rfl) (by kernel_rfl) (by kernel_rfl) (fun _ _ _ h => h) (Or.inl ⟨by kernel_rfl, ?_⟩) hHeld ?_
                · intro w' hSw
                  obtain ⟨s0, s1⟩ := hSw
                  first | (go_simp; done) | (go_simp; with_reducible rfl) | (go_simp; rw [IntKind.wrap_i64]; omega) | (go_simp; omega)
                simp only [Act.put, List.setIfInBounds_toArray, List.set_cons_zero, List.set_cons_succ]
                refine wpAnyH_take (i := 5) (v := .pointer (some ⟨g, o + k * 2 + 1, none⟩)) rfl (by kernel_rfl) (by kernel_rfl) (by kernel_rfl) (fun _ _ _ h => h) (Or.inl ⟨by kernel_rfl, ?_⟩) hHeld ?_
                · intro w' hSw
                  obtain ⟨s0, s1⟩ := hSw
                  first | (go_simp; done) | (go_simp; with_reducible rfl) | (go_simp; rw [IntKind.wrap_i64]; omega) | (go_simp; omega)
                simp only [Act.put, List.setIfInBounds_toArray, List.set_cons_zero, List.set_cons_succ]
                refine wpAnyH_take (i := 6) (v := .int .i64 a) rfl (by kernel_rfl) (by kernel_rfl) (by kernel_rfl) (fun _ _ _ h => h) (Or.inl ⟨by kernel_rfl, ?_⟩) hHeld ?_
                · intro w' hSw
                  obtain ⟨s0, s1⟩ := hSw
                  first | (go_simp; done) | (go_simp; with_reducible rfl) | (go_simp; rw [IntKind.wrap_i64]; omega) | (go_simp; omega)
                simp only [Act.put, List.setIfInBounds_toArray, List.set_cons_zero, List.set_cons_succ]
                refine wpAnyH_take (i := 7) (v := .bool false) rfl (by kernel_rfl) (by kernel_rfl) (by kernel_rfl) (fun _ _ _ h => h) (Or.inl ⟨by kernel_rfl, ?_⟩) hHeld ?_
                · intro w' hSw
                  obtain ⟨s0, s1⟩ := hSw
                  first | (go_simp; done) | (go_simp; with_reducible rfl) | (go_simp; rw [IntKind.wrap_i64]; omega) | (go_simp; omega)
                simp only [Act.put, List.setIfInBounds_toArray, List.set_cons_zero, List.set_cons_succ]
                refine wpAnyH_take (i := 8) (v := .pointer (some ⟨wr.heap.size, 1, none⟩)) rfl (by kernel_rfl) (by kernel_rfl) (by kernel_rfl) (fun _ _ _ h => h) (Or.inl ⟨by kernel_rfl, ?_⟩) hHeld ?_
                · intro w' hSw
                  obtain ⟨s0, s1⟩ := hSw
                  first | (go_simp; done) | (go_simp; with_reducible rfl) | (go_simp; rw [IntKind.wrap_i64]; omega) | (go_simp; omega)
                simp only [Act.put, List.setIfInBounds_toArray, List.set_cons_zero, List.set_cons_succ]
                refine wpAnyH_ready (rs := [9]) (by kernel_rfl) (by simp) ?_
                refine AllReadyH.cons rfl (fun KK hK => ?_) AllReadyH.nil
                go_simp
                have HTN : Hid (TwoC w (wc.setCell ⟨wr.heap.size, 1, none⟩ (.bool false)).drew u11 u12 (nxC V U O mo) k (ntP (whC V U O mo) k)) := (HTC.out.set hp1 hp2 zw).below (Below.drew (Below.refl _ _))
                obtain ⟨wn, hwn⟩ : ∃ v, v = (wc.setCell ⟨wr.heap.size, 1, none⟩ (.bool false)).drew := ⟨_, rfl⟩
                have n0 : wn.cell? ⟨wr.heap.size, 0, none⟩ = some (.int .i64 (r + 1)) := by rw [hwn]; simp [go_sem, e0]
                have n1 : wn.cell? ⟨wr.heap.size, 1, none⟩ = some (.bool false) := by rw [hwn]; simp [go_sem, e1]
                have n2 : wn.cell? ⟨g, o + k * 2 + 1, none⟩ = some (.int .i64 a) := by rw [hwn]; show (wc.setCell ⟨wr.heap.size, 1, none⟩ (.bool false)).cell? _ = _; rw [World.cell?_setCell_other _ _ _ _ (by intro q; first | exact gp (congrArg Addr.block q) | exact gp (congrArg Addr.block q).symm)]; exact c1
                rw [← hwn] at HTN ⊢
                refine hK.out _ _ ⟨n0, n2⟩ (fun hHeld => ?_)
                clear hK KK
                refine wpAnyH_done (by kernel_rfl) ?_ _
                clear hHeld hwn
                have HTN2 := HTN.out
                have sn : w.heap.size ≤ wn.heap.size := HTN2.2.2.2.size
                go_upto_region 22 with (at_builtin; refine list_Clock w.heap.size u11 k (ckL (nxC V U O mo) k) (.tmp 114) (.tmp 116) (by rfl) (by rfl) (by rfl) (by rfl) HTN2.1 (by omega) (by omega) ?_; intro g1 cap1 w9 hown9 hgrow9 hlt9 hat9; have HT9 : Hid (TwoC w w9 (.slice (some ⟨g1, 0, none⟩) (k + 1) cap1) u12 (nxC V U O mo) (k + 1) (ntP (whC V U O mo) k)) := HTN2.clock (by rw [HYZ.out]; exact hown9) hgrow9 hat9; clear hown9 hgrow9 hat9)
                have HP0 : Hid (ntP (whC V U O mo) (k + 1) = ntP (whC V U O mo) k) := HPT.out.trans (if_pos HWZ.out)
                go_wp2
                go_roundw
                case rel => exact ⟨k + 1, by omega, by go_num, by rw [HP0.out]; exact HT9⟩
                case measure => first | (simp [intOf]; done) | (simp [intOf]; omega)
              · have hle : lesR a r = a := by unfold lesR; split <;> omega
                have HYZ : Hid ((nxC V U O mo) k = (a, true)) := HQ3.out.1.trans (by show (lesR a r, decide (lesR a r = a)) = _; rw [hle]; first | rfl | (rw [decide_eq_false (by omega)]) | (rw [decide_eq_true (by omega)]))
                have HWZ : Hid ((whC V U O mo) k = 0) := HQ3.out.2.trans (by unfold whtC; simp; omega)
                have hlt : ¬ r + 1 < a := by omega
                clear hle
                go_upto_region 15 with fail
                go_quiet (fail)
                go_upto_region 18 with fail
                obtain ⟨wb, hwb⟩ : ∃ v, v = wa.drewN nq := ⟨_, rfl⟩
                rw [← hwb]
                have hbb : Below wa.heap.size wa wb := by rw [hwb]; exact (by repeat (first | with_reducible exact Below.refl _ _ | with_reducible refine Below.setCell ?_ (by first | omega | (simp; done) | (simp; omega)) _ | with_reducible refine bDrewN ?_ _ | with_reducible refine Below.drew ?_ | with_reducible refine Below.alloc ?_ (by first | omega | (simp; done) | (simp; omega)) _))
                have HTB : Hid (TwoC w wb u11 u12 (nxC V U O mo) k (ntP (whC V U O mo) k)) := HTA.out.below hbb
                replace a0 := (hbb.cell (p := ⟨wr.heap.size, 0, none⟩) za).trans a0
                replace a1 := (hbb.cell (p := ⟨wr.heap.size, 1, none⟩) za).trans a1
                replace z0 := (hbb.frozen (p := ⟨wr.heap.size, 0, none⟩) za).trans z0
                replace z1 := (hbb.frozen (p := ⟨wr.heap.size, 1, none⟩) za).trans z1
                replace c1 := (hbb.cell (p := ⟨g, o + k * 2 + 1, none⟩) zg3).trans c1
                replace za := Nat.lt_of_lt_of_le za hbb.size
                replace zg3 := Nat.lt_of_lt_of_le zg3 hbb.size
                clear hwb hbb
                refine wp_region_held_drew (S := fun w' => w'.cell? ⟨g, o + k * 2 + 1, none⟩ = some (.int .i64 a) ∧ w'.cell? ⟨wr.heap.size, 1, none⟩ = some (.bool l)) (by kernel_rfl) ?_ (fun hHeld => ?_)
                · exact ⟨(Below.cell (show Below wb.heap.size wb _ from (by repeat (first | with_reducible exact Below.refl _ _ | with_reducible refine Below.setCell ?_ (by first | omega | (simp; done) | (simp; omega)) _ | with_reducible refine bDrewN ?_ _ | with_reducible refine Below.drew ?_ | with_reducible refine Below.alloc ?_ (by first | omega | (simp; done) | (simp; omega)) _))) (p := ⟨g, o + k * 2 + 1, none⟩) zg3).trans c1, (Below.cell (show Below wb.heap.size wb _ from (by repeat (first | with_reducible exact Below.refl _ _ | with_reducible refine Below.setCell ?_ (by first | omega | (simp; done) | (simp; omega)) _ | with_reducible refine bDrewN ?_ _ | with_reducible refine Below.drew ?_ | with_reducible refine Below.alloc ?_ (by first | omega | (simp; done) | (simp; omega)) _))) (p := ⟨wr.heap.size, 1, none⟩) za).trans a1⟩
                refine wpAnyH_take (i := 0) (v := .slice (some ⟨g, o, none⟩) m c) rfl (by kernel_rfl) (by kernel_rfl) (by kernel_rfl) (fun _ _ _ h => h) (Or.inl ⟨by kernel_rfl, ?_⟩) hHeld ?_
                · intro w' hSw
                  obtain ⟨s0, s1⟩ := hSw
                  first | (go_simp; done) | (go_simp; with_reducible rfl) | (go_simp; rw [IntKind.wrap_i64]; omega) | (go_simp; omega)
                simp only [Act.put, List.setIfInBounds_toArray, List.set_cons_zero, List.set_cons_succ]
                refine wpAnyH_take (i := 1) (v := .int .i64 (k : Int)) rfl (by kernel_rfl) (by kernel_rfl) (by kernel_rfl) (fun _ _ _ h => h) (Or.inl ⟨by kernel_rfl, ?_⟩) hHeld ?_
                · intro w' hSw
                  obtain ⟨s0, s1⟩ := hSw
                  first | (go_simp; done) | (go_simp; with_reducible rfl) | (go_simp; rw [IntKind.wrap_i64]; omega) | (go_simp; omega)
                simp only [Act.put, List.setIfInBounds_toArray, List.set_cons_zero, List.set_cons_succ]
                refine wpAnyH_take (i := 2) (v := .pointer (some ⟨g, o + k * 2, none⟩)) rfl (by kernel_rfl) (by kernel_rfl) (by kernel_rfl) (fun _ _ _ h => h) (Or.inl ⟨by kernel_rfl, ?_⟩) hHeld ?_
                · intro w' hSw
                  obtain ⟨s0, s1⟩ := hSw
                  first | (go_simp; done) | (go_simp; with_reducible rfl) | (go_simp; rw [IntKind.wrap_i64]; omega) | (go_simp; omega)
                simp only [Act.put, List.setIfInBounds_toArray, List.set_cons_zero, List.set_cons_succ]
                refine wpAnyH_take (i := 3) (v := .pointer (some ⟨g, o + k * 2 + 1, none⟩)) rfl (by kernel_rfl) (by kernel_rfl) (by kernel_rfl) (fun _ _ _ h => h) (Or.inl ⟨by kernel_rfl, ?_⟩) hHeld ?_
                · intro w' hSw
                  obtain ⟨s0, s1⟩ := hSw
                  first | (go_simp; done) | (go_simp; with_reducible rfl) | (go_simp; rw [IntKind.wrap_i64]; omega) | (go_simp; omega)
                simp only [Act.put, List.setIfInBounds_toArray, List.set_cons_zero, List.set_cons_succ]
                refine wpAnyH_take (i := 4) (v := .int .i64 a) rfl (by kernel_rfl) (by kernel_rfl) (by kernel_rfl) (fun _ _ _ h => h) (Or.inl ⟨by kernel_rfl, ?_⟩) hHeld ?_
                · intro w' hSw
                  obtain ⟨s0, s1⟩ := hSw
                  first | (go_simp; done) | (go_simp; with_reducible rfl) | (go_simp; rw [IntKind.wrap_i64]; omega) | (go_simp; omega)
                simp only [Act.put, List.setIfInBounds_toArray, List.set_cons_zero, List.set_cons_succ]
                refine wpAnyH_take (i := 5) (v := .pointer (some ⟨wr.heap.size, 0, none⟩)) rfl (by kernel_rfl) (by kernel_rfl) (by kernel_rfl) (fun _ _ _ h => h) (Or.inl ⟨by kernel_rfl, ?_⟩) hHeld ?_
                · intro w' hSw
                  obtain ⟨s0, s1⟩ := hSw
                  first | (go_simp; done) | (go_simp; with_reducible rfl) | (go_simp; rw [IntKind.wrap_i64]; omega) | (go_simp; omega)
                simp only [Act.put, List.setIfInBounds_toArray, List.set_cons_zero, List.set_cons_succ]
                refine wpAnyH_ready (rs := [6]) (by kernel_rfl) (by simp) ?_
                refine AllReadyH.cons rfl (fun KK hK => ?_) AllReadyH.nil
                go_simp
                refine hK.out _ _ (hHeld) (fun hHeld => ?_)
                clear hK KK
                refine wpAnyH_take (i := 7) (v := .int .i64 (r + 1)) rfl (by kernel_rfl) (by kernel_rfl) (by kernel_rfl) (fun _ _ _ h => h) (Or.inl ⟨by kernel_rfl, ?_⟩) hHeld ?_
                · intro w' hSw
                  obtain ⟨s0, s1⟩ := hSw
                  first | (go_simp; done) | (go_simp; with_reducible rfl) | (go_simp; rw [IntKind.wrap_i64]; omega) | (go_simp; omega)
                simp only [Act.put, List.setIfInBounds_toArray, List.set_cons_zero, List.set_cons_succ]
                refine wpAnyH_take (i := 8) (v := .int .i64 (a)) rfl (by kernel_rfl) (by kernel_rfl) (by kernel_rfl) (fun _ _ _ h => h) (Or.inl ⟨by kernel_rfl, ?_⟩) hHeld ?_
                · intro w' hSw
                  obtain ⟨s0, s1⟩ := hSw
                  first | (go_simp; done) | (go_simp; with_reducible rfl) | (go_simp; rw [IntKind.wrap_i64]; omega) | (go_simp; omega)
                simp only [Act.put, List.setIfInBounds_toArray, List.set_cons_zero, List.set_cons_succ]
                refine wpAnyH_take (i := 9) (v := .pointer (some ⟨wr.heap.size, 0, none⟩)) rfl (by kernel_rfl) (by kernel_rfl) (by kernel_rfl) (fun _ _ _ h => h) (Or.inl ⟨by kernel_rfl, ?_⟩) hHeld ?_
                · intro w' hSw
                  obtain ⟨s0, s1⟩ := hSw
                  first | (go_simp; done) | (go_simp; with_reducible rfl) | (go_simp; rw [IntKind.wrap_i64]; omega) | (go_simp; omega)
                simp only [Act.put, List.setIfInBounds_toArray, List.set_cons_zero, List.set_cons_succ]
                refine wpAnyH_ready (rs := [10]) (by kernel_rfl) (by simp) ?_
                refine AllReadyH.cons rfl (fun KK hK => ?_) AllReadyH.nil
                go_simp
                obtain ⟨wc, hwc⟩ : ∃ v, v = (wb.setCell ⟨wr.heap.size, 0, none⟩ (.int .i64 (a))).drew := ⟨_, rfl⟩
                rw [← hwc]
                have HTC : Hid (TwoC w wc u11 u12 (nxC V U O mo) k (ntP (whC V U O mo) k)) := by show TwoC _ _ _ _ _ _ _; rw [hwc]; exact (HTB.out.set hp1 hp2 zw).below (Below.drew (Below.refl _ _))
                have e0 : wc.cell? ⟨wr.heap.size, 0, none⟩ = some (.int .i64 (a)) := by rw [hwc]; simp [go_sem, a0]
                have e1 : wc.cell? ⟨wr.heap.size, 1, none⟩ = some (.bool l) := by rw [hwc]; simp [go_sem, a1]
                have q1 : wc.frozen? ⟨wr.heap.size, 1, none⟩ = false := by rw [hwc]; simp [go_sem, z1]
                have zc : wr.heap.size < wc.heap.size := by rw [hwc]; simpa using za
                have zgc : g < wc.heap.size := by rw [hwc]; simpa using zg3
                replace c1 : wc.cell? ⟨g, o + k * 2 + 1, none⟩ = some (.int .i64 a) := by rw [hwc]; show (wb.setCell ⟨wr.heap.size, 0, none⟩ (.int .i64 (a))).cell? _ = _; rw [World.cell?_setCell_other _ _ _ _ (by intro q; first | exact gp (congrArg Addr.block q) | exact gp (congrArg Addr.block q).symm)]; exact c1
                refine hK.out _ _ ⟨c1, e1⟩ (fun hHeld => ?_)
                clear hK KK
                refine wpAnyH_done (by kernel_rfl) ?_ _
                clear hHeld hwc a0 a1 z0 z1
                go_upto_region 20 with fail
                refine wp_region_held_drew (S := fun w' => w'.cell? ⟨wr.heap.size, 0, none⟩ = some (.int .i64 (a)) ∧ w'.cell? ⟨g, o + k * 2 + 1, none⟩ = some (.int .i64 a)) (by kernel_rfl) ?_ (fun hHeld => ?_)
                · exact ⟨(Below.cell (show Below wc.heap.size wc _ from (by repeat (first | with_reducible exact Below.refl _ _ | with_reducible refine Below.setCell ?_ (by first | omega | (simp; done) | (simp; omega)) _ | with_reducible refine bDrewN ?_ _ | with_reducible refine Below.drew ?_ | with_reducible refine Below.alloc ?_ (by first | omega | (simp; done) | (simp; omega)) _))) (p := ⟨wr.heap.size, 0, none⟩) zc).trans e0, (Below.cell (show Below wc.heap.size wc _ from (by repeat (first | with_reducible exact Below.refl _ _ | with_reducible refine Below.setCell ?_ (by first | omega | (simp; done) | (simp; omega)) _ | with_reducible refine bDrewN ?_ _ | with_reducible refine Below.drew ?_ | with_reducible refine Below.alloc ?_ (by first | omega | (simp; done) | (simp; omega)) _))) (p := ⟨g, o + k * 2 + 1, none⟩) zgc).trans c1⟩
                refine wpAnyH_take (i := 0) (v := .pointer (some ⟨wr.heap.size, 0, none⟩)) rfl (by kernel_rfl) (by kernel_rfl) (by kernel_rfl) (fun _ _ _ h => h) (Or.inl ⟨by kernel_rfl, ?_⟩) hHeld ?_
                · intro w' hSw
                  obtain ⟨s0, s1⟩ := hSw
                  first | (go_simp; done) | (go_simp; with_reducible rfl) | (go_simp; rw [IntKind.wrap_i64]; omega) | (go_simp; omega)
                simp only [Act.put, List.setIfInBounds_toArray, List.set_cons_zero, List.set_cons_succ]
                refine wpAnyH_take (i := 1) (v := .int .i64 (a)) rfl (by kernel_rfl) (by kernel_rfl) (by kernel_rfl) (fun _ _ _ h => h) (Or.inl ⟨by kernel_rfl, ?_⟩) hHeld ?_
                · intro w' hSw
                  obtain ⟨s0, s1⟩ := hSw
                  first | (go_simp; done) | (go_simp; with_reducible rfl) | (go_simp; rw [IntKind.wrap_i64]; omega) | (go_simp; omega)
                simp only [Act.put, List.setIfInBounds_toArray, List.set_cons_zero, List.set_cons_succ]
                refine wpAnyH_take (i := 2) (v := .slice (some ⟨g, o, none⟩) m c) rfl (by kernel_rfl) (by kernel_rfl) (by kernel_rfl) (fun _ _ _ h => h) (Or.inl ⟨by kernel_rfl, ?_⟩) hHeld ?_
                · intro w' hSw
                  obtain ⟨s0, s1⟩ := hSw
                  first | (go_simp; done) | (go_simp; with_reducible rfl) | (go_simp; rw [IntKind.wrap_i64]; omega) | (go_simp; omega)
                simp only [Act.put, List.setIfInBounds_toArray, List.set_cons_zero, List.set_cons_succ]
                refine wpAnyH_take (i := 3) (v := .int .i64 (k : Int)) rfl (by kernel_rfl) (by kernel_rfl) (by kernel_rfl) (fun _ _ _ h => h) (Or.inl ⟨by kernel_rfl, ?_⟩) hHeld ?_
                · intro w' hSw
                  obtain ⟨s0, s1⟩ := hSw
                  first | (go_simp; done) | (go_simp; with_reducible rfl) | (go_simp; rw [IntKind.wrap_i64]; omega) | (go_simp; omega)
                simp only [Act.put, List.setIfInBounds_toArray, List.set_cons_zero, List.set_cons_succ]
                refine wpAnyH_take (i := 4) (v := .pointer (some ⟨g, o + k * 2, none⟩)) rfl (by kernel_rfl) (by kernel_rfl) (by kernel_rfl) (fun _ _ _ h => h) (Or.inl ⟨by kernel_rfl, ?_⟩) hHeld ?_
                · intro w' hSw
                  obtain ⟨s0, s1⟩ := hSw
                  first | (go_simp; done) | (go_simp; with_reducible rfl) | (go_simp; rw [IntKind.wrap_i64]; omega) | (go_simp; omega)
                simp only [Act.put, List.setIfInBounds_toArray, List.set_cons_zero, List.set_cons_succ]
                refine wpAnyH_take (i := 5) (v := .pointer (some ⟨g, o + k * 2 + 1, none⟩)) rfl (by kernel_rfl) (by kernel_rfl) (by kernel_rfl) (fun _ _ _ h => h) (Or.inl ⟨by kernel_rfl, ?_⟩) hHeld ?_
                · intro w' hSw
                  obtain ⟨s0, s1⟩ := hSw
                  first | (go_simp; done) | (go_simp; with_reducible rfl) | (go_simp; rw [IntKind.wrap_i64]; omega) | (go_simp; omega)
                simp only [Act.put, List.setIfInBounds_toArray, List.set_cons_zero, List.set_cons_succ]
                refine wpAnyH_take (i := 6) (v := .int .i64 a) rfl (by kernel_rfl) (by kernel_rfl) (by kernel_rfl) (fun _ _ _ h => h) (Or.inl ⟨by kernel_rfl, ?_⟩) hHeld ?_
                · intro w' hSw
                  obtain ⟨s0, s1⟩ := hSw
                  first | (go_simp; done) | (go_simp; with_reducible rfl) | (go_simp; rw [IntKind.wrap_i64]; omega) | (go_simp; omega)
                simp only [Act.put, List.setIfInBounds_toArray, List.set_cons_zero, List.set_cons_succ]
                refine wpAnyH_take (i := 7) (v := .bool true) rfl (by kernel_rfl) (by kernel_rfl) (by kernel_rfl) (fun _ _ _ h => h) (Or.inl ⟨by kernel_rfl, ?_⟩) hHeld ?_
                · intro w' hSw
                  obtain ⟨s0, s1⟩ := hSw
                  first | (go_simp; done) | (go_simp; with_reducible rfl) | (go_simp; rw [IntKind.wrap_i64]; omega) | (go_simp; omega)
                simp only [Act.put, List.setIfInBounds_toArray, List.set_cons_zero, List.set_cons_succ]
                refine wpAnyH_take (i := 8) (v := .pointer (some ⟨wr.heap.size, 1, none⟩)) rfl (by kernel_rfl) (by kernel_rfl) (by kernel_rfl) (fun _ _ _ h => h) (Or.inl ⟨by kernel_rfl, ?_⟩) hHeld ?_
                · intro w' hSw
                  obtain ⟨s0, s1⟩ := hSw
                  first | (go_simp; done) | (go_simp; with_reducible rfl) | (go_simp; rw [IntKind.wrap_i64]; omega) | (go_simp; omega)
                simp only [Act.put, List.setIfInBounds_toArray, List.set_cons_zero, List.set_cons_succ]
                refine wpAnyH_ready (rs := [9]) (by kernel_rfl) (by simp) ?_
                refine AllReadyH.cons rfl (fun KK hK => ?_) AllReadyH.nil
                go_simp
                have HTN : Hid (TwoC w (wc.setCell ⟨wr.heap.size, 1, none⟩ (.bool true)).drew u11 u12 (nxC V U O mo) k (ntP (whC V U O mo) k)) := (HTC.out.set hp1 hp2 zw).below (Below.drew (Below.refl _ _))
                obtain ⟨wn, hwn⟩ : ∃ v, v = (wc.setCell ⟨wr.heap.size, 1, none⟩ (.bool true)).drew := ⟨_, rfl⟩
                have n0 : wn.cell? ⟨wr.heap.size, 0, none⟩ = some (.int .i64 (a)) := by rw [hwn]; simp [go_sem, e0]
                have n1 : wn.cell? ⟨wr.heap.size, 1, none⟩ = some (.bool true) := by rw [hwn]; simp [go_sem, e1]
                have n2 : wn.cell? ⟨g, o + k * 2 + 1, none⟩ = some (.int .i64 a) := by rw [hwn]; show (wc.setCell ⟨wr.heap.size, 1, none⟩ (.bool true)).cell? _ = _; rw [World.cell?_setCell_other _ _ _ _ (by intro q; first | exact gp (congrArg Addr.block q) | exact gp (congrArg Addr.block q).symm)]; exact c1
                rw [← hwn] at HTN ⊢
                refine hK.out _ _ ⟨n0, n2⟩ (fun hHeld => ?_)
                clear hK KK
                refine wpAnyH_done (by kernel_rfl) ?_ _
                clear hHeld hwn
                have HTN2 := HTN.out
                have sn : w.heap.size ≤ wn.heap.size := HTN2.2.2.2.size
                go_upto_region 22 with (at_builtin; refine list_Clock w.heap.size u11 k (ckL (nxC V U O mo) k) (.tmp 114) (.tmp 116) (by rfl) (by rfl) (by rfl) (by rfl) HTN2.1 (by omega) (by omega) ?_; intro g1 cap1 w9 hown9 hgrow9 hlt9 hat9; have HT9 : Hid (TwoC w w9 (.slice (some ⟨g1, 0, none⟩) (k + 1) cap1) u12 (nxC V U O mo) (k + 1) (ntP (whC V U O mo) k)) := HTN2.clock (by rw [HYZ.out]; exact hown9) hgrow9 hat9; clear hown9 hgrow9 hat9)
                have HP0 : Hid (ntP (whC V U O mo) (k + 1) = ntP (whC V U O mo) k) := HPT.out.trans (if_pos HWZ.out)
                go_wp2
                go_roundw
                case rel => exact ⟨k + 1, by omega, by go_num, by rw [HP0.out]; exact HT9⟩
                case measure => first | (simp [intOf]; done) | (simp [intOf]; omega)
          · have hle : lesR a r = r + 1 := by unfold lesR; split <;> omega
            have HYZ : Hid ((nxC V U O mo) k = (r + 1, false)) := HQ3.out.1.trans (by show (lesR a r, decide (lesR a r = a)) = _; rw [hle]; first | rfl | (rw [decide_eq_false (by omega)]) | (rw [decide_eq_true (by omega)]))
            have HWZ : Hid ((whC V U O mo) k = 1) := HQ3.out.2.trans (by unfold whtC; simp; omega)
            have hya : (r + 1 == a) = false := beq_eq_false_iff_ne.2 (by omega)
            have hlt : r + 1 < a := by omega
            clear hle
            go_upto_region 15 with fail
            go_quiet (fail)
            go_upto_region 18 with fail
            obtain ⟨wb, hwb⟩ : ∃ v, v = wa.drewN nq := ⟨_, rfl⟩
            rw [← hwb]
            have hbb : Below wa.heap.size wa wb := by rw [hwb]; exact (by repeat (first | with_reducible exact Below.refl _ _ | with_reducible refine Below.setCell ?_ (by first | omega | (simp; done) | (simp; omega)) _ | with_reducible refine bDrewN ?_ _ | with_reducible refine Below.drew ?_ | with_reducible refine Below.alloc ?_ (by first | omega | (simp; done) | (simp; omega)) _))
            have HTB : Hid (TwoC w wb u11 u12 (nxC V U O mo) k (ntP (whC V U O mo) k)) := HTA.out.below hbb
            replace a0 := (hbb.cell (p := ⟨wr.heap.size, 0, none⟩) za).trans a0
            replace a1 := (hbb.cell (p := ⟨wr.heap.size, 1, none⟩) za).trans a1
            replace z0 := (hbb.frozen (p := ⟨wr.heap.size, 0, none⟩) za).trans z0
            replace z1 := (hbb.frozen (p := ⟨wr.heap.size, 1, none⟩) za).trans z1
            replace c1 := (hbb.cell (p := ⟨g, o + k * 2 + 1, none⟩) zg3).trans c1
            replace za := Nat.lt_of_lt_of_le za hbb.size
            replace zg3 := Nat.lt_of_lt_of_le zg3 hbb.size
            clear hwb hbb
            refine wp_region_held_drew (S := fun w' => w'.cell? ⟨g, o + k * 2 + 1, none⟩ = some (.int .i64 a) ∧ w'.cell? ⟨wr.heap.size, 1, none⟩ = some (.bool l)) (by kernel_rfl) ?_ (fun hHeld => ?_)
            · exact ⟨(Below.cell (show Below wb.heap.size wb _ from (by repeat (first | with_reducible exact Below.refl _ _ | with_reducible refine Below.setCell ?_ (by first | omega | (simp; done) | (simp; omega)) _ | with_reducible refine bDrewN ?_ _ | with_reducible refine Below.drew ?_ | with_reducible refine Below.alloc ?_ (by first | omega | (simp; done) | (simp; omega)) _))) (p := ⟨g, o + k * 2 + 1, none⟩) zg3).trans c1, (Below.cell (show Below wb.heap.size wb _ from (by repeat (first | with_reducible exact Below.refl _ _ | with_reducible refine Below.setCell ?_ (by first | omega | (simp; done) | (simp; omega)) _ | with_reducible refine bDrewN ?_ _ | with_reducible refine Below.drew ?_ | with_reducible refine Below.alloc ?_ (by first | omega | (simp; done) | (simp; omega)) _))) (p := ⟨wr.heap.size, 1, none⟩) za).trans a1⟩
            refine wpAnyH_take (i := 0) (v := .slice (some ⟨g, o, none⟩) m c) rfl (by kernel_rfl) (by kernel_rfl) (by kernel_rfl) (fun _ _ _ h => h) (Or.inl ⟨by kernel_rfl, ?_⟩) hHeld ?_
            · intro w' hSw
              obtain ⟨s0, s1⟩ := hSw
              first | (go_simp; done) | (go_simp; with_reducible rfl) | (go_simp; rw [IntKind.wrap_i64]; omega) | (go_simp; omega)
            simp only [Act.put, List.setIfInBounds_toArray, List.set_cons_zero, List.set_cons_succ]
            refine wpAnyH_take (i := 1) (v := .int .i64 (k : Int)) rfl (by kernel_rfl) (by kernel_rfl) (by kernel_rfl) (fun _ _ _ h => h) (Or.inl ⟨by kernel_rfl, ?_⟩) hHeld ?_
            · intro w' hSw
              obtain ⟨s0, s1⟩ := hSw
              first | (go_simp; done) | (go_simp; with_reducible rfl) | (go_simp; rw [IntKind.wrap_i64]; omega) | (go_simp; omega)
            simp only [Act.put, List.setIfInBounds_toArray, List.set_cons_zero, List.set_cons_succ]
            refine wpAnyH_take (i := 2) (v := .pointer (some ⟨g, o + k * 2, none⟩)) rfl (by kernel_rfl) (by kernel_rfl) (by kernel_rfl) (fun _ _ _ h => h) (Or.inl ⟨by kernel_rfl, ?_⟩) hHeld ?_
            · intro w' hSw
              obtain ⟨s0, s1⟩ := hSw
              first | (go_simp; done) | (go_simp; with_reducible rfl) | (go_simp; rw [IntKind.wrap_i64]; omega) | (go_simp; omega)
            simp only [Act.put, List.setIfInBounds_toArray, List.set_cons_zero, List.set_cons_succ]
            refine wpAnyH_take (i := 3) (v := .pointer (some ⟨g, o + k * 2 + 1, none⟩)) rfl (by kernel_rfl) (by kernel_rfl) (by kernel_rfl) (fun _ _ _ h => h) (Or.inl ⟨by kernel_rfl, ?_⟩) hHeld ?_
            · intro w' hSw
              obtain ⟨s0, s1⟩ := hSw
              first | (go_simp; done) | (go_simp; with_reducible rfl) | (go_simp; rw [IntKind.wrap_i64]; omega) | (go_simp; omega)
            simp only [Act.put, List.setIfInBounds_toArray, List.set_cons_zero, List.set_cons_succ]
            refine wpAnyH_take (i := 4) (v := .int .i64 a) rfl (by kernel_rfl) (by kernel_rfl) (by kernel_rfl) (fun _ _ _ h => h) (Or.inl ⟨by kernel_rfl, ?_⟩) hHeld ?_
            · intro w' hSw
              obtain ⟨s0, s1⟩ := hSw
              first | (go_simp; done) | (go_simp; with_reducible rfl) | (go_simp; rw [IntKind.wrap_i64]; omega) | (go_simp; omega)
            simp only [Act.put, List.setIfInBounds_toArray, List.set_cons_zero, List.set_cons_succ]
            refine wpAnyH_take (i := 5) (v := .pointer (some ⟨wr.heap.size, 0, none⟩)) rfl (by kernel_rfl) (by kernel_rfl) (by kernel_rfl) (fun _ _ _ h => h) (Or.inl ⟨by kernel_rfl, ?_⟩) hHeld ?_
            · intro w' hSw
              obtain ⟨s0, s1⟩ := hSw
              first | (go_simp; done) | (go_simp; with_reducible rfl) | (go_simp; rw [IntKind.wrap_i64]; omega) | (go_simp; omega)
            simp only [Act.put, List.setIfInBounds_toArray, List.set_cons_zero, List.set_cons_succ]
            refine wpAnyH_ready (rs := [6]) (by kernel_rfl) (by simp) ?_
            refine AllReadyH.cons rfl (fun KK hK => ?_) AllReadyH.nil
            go_simp
            refine hK.out _ _ (hHeld) (fun hHeld => ?_)
            clear hK KK
            refine wpAnyH_take (i := 7) (v := .int .i64 (r + 1)) rfl (by kernel_rfl) (by kernel_rfl) (by kernel_rfl) (fun _ _ _ h => h) (Or.inl ⟨by kernel_rfl, ?_⟩) hHeld ?_
            · intro w' hSw
              obtain ⟨s0, s1⟩ := hSw
              first | (go_simp; done) | (go_simp; with_reducible rfl) | (go_simp; rw [IntKind.wrap_i64]; omega) | (go_simp; omega)
            simp only [Act.put, List.setIfInBounds_toArray, List.set_cons_zero, List.set_cons_succ]
            refine wpAnyH_take (i := 8) (v := .int .i64 (r + 1)) rfl (by kernel_rfl) (by kernel_rfl) (by kernel_rfl) (fun _ _ _ h => h) (Or.inl ⟨by kernel_rfl, ?_⟩) hHeld ?_
            · intro w' hSw
              obtain ⟨s0, s1⟩ := hSw
              first | (go_simp; done) | (go_simp; with_reducible rfl) | (go_simp; rw [IntKind.wrap_i64]; omega) | (go_simp; omega)
            simp only [Act.put, List.setIfInBounds_toArray, List.set_cons_zero, List.set_cons_succ]
            refine wpAnyH_take (i := 9) (v := .pointer (some ⟨wr.heap.size, 0, none⟩)) rfl (by kernel_rfl) (by kernel_rfl) (by kernel_rfl) (fun _ _ _ h => h) (Or.inl ⟨by kernel_rfl, ?_⟩) hHeld ?_
            · intro w' hSw
              obtain ⟨s0, s1⟩ := hSw
              first | (go_simp; done) | (go_simp; with_reducible rfl) | (go_simp; rw [IntKind.wrap_i64]; omega) | (go_simp; omega)
            simp only [Act.put, List.setIfInBounds_toArray, List.set_cons_zero, List.set_cons_succ]
            refine wpAnyH_ready (rs := [10]) (by kernel_rfl) (by simp) ?_
            refine AllReadyH.cons rfl (fun KK hK => ?_) AllReadyH.nil
            go_simp
            obtain ⟨wc, hwc⟩ : ∃ v, v = (wb.setCell ⟨wr.heap.size, 0, none⟩ (.int .i64 (r + 1))).drew := ⟨_, rfl⟩
            rw [← hwc]
            have HTC : Hid (TwoC w wc u11 u12 (nxC V U O mo) k (ntP (whC V U O mo) k)) := by show TwoC _ _ _ _ _ _ _; rw [hwc]; exact (HTB.out.set hp1 hp2 zw).below (Below.drew (Below.refl _ _))
            have e0 : wc.cell? ⟨wr.heap.size, 0, none⟩ = some (.int .i64 (r + 1)) := by rw [hwc]; simp [go_sem, a0]
            have e1 : wc.cell? ⟨wr.heap.size, 1, none⟩ = some (.bool l) := by rw [hwc]; simp [go_sem, a1]
            have q1 : wc.frozen? ⟨wr.heap.size, 1, none⟩ = false := by rw [hwc]; simp [go_sem, z1]
            have zc : wr.heap.size < wc.heap.size := by rw [hwc]; simpa using za
            have zgc : g < wc.heap.size := by rw [hwc]; simpa using zg3
            replace c1 : wc.cell? ⟨g, o + k * 2 + 1, none⟩ = some (.int .i64 a) := by rw [hwc]; show (wb.setCell ⟨wr.heap.size, 0, none⟩ (.int .i64 (r + 1))).cell? _ = _; rw [World.cell?_setCell_other _ _ _ _ (by intro q; first | exact gp (congrArg Addr.block q) | exact gp (congrArg Addr.block q).symm)]; exact c1
            refine hK.out _ _ ⟨c1, e1⟩ (fun hHeld => ?_)
            clear hK KK
            refine wpAnyH_done (by kernel_rfl) ?_ _
            clear hHeld hwc a0 a1 z0 z1
            go_upto_region 20 with fail
            refine wp_region_held_drew (S := fun w' => w'.cell? ⟨wr.heap.size, 0, none⟩ = some (.int .i64 (r + 1)) ∧ w'.cell? ⟨g, o + k * 2 + 1, none⟩ = some (.int .i64 a)) (by kernel_rfl) ?_ (fun hHeld => ?_)
            · exact ⟨(Below.cell (show Below wc.heap.size wc _ from (by repeat (first | with_reducible exact Below.refl _ _ | with_reducible refine Below.setCell ?_ (by first | omega | (simp; done) | (simp; omega)) _ | with_reducible refine bDrewN ?_ _ | with_reducible refine Below.drew ?_ | with_reducible refine Below.alloc ?_ (by first | omega | (simp; done) | (simp; omega)) _))) (p := ⟨wr.heap.size, 0, none⟩) zc).trans e0, (Below.cell (show Below wc.heap.size wc _ from (by repeat (first | with_reducible exact Below.refl _ _ | with_reducible refine Below.setCell ?_ (by first | omega | (simp; done) | (simp; omega)) _ | with_reducible refine bDrewN ?_ _ | with_reducible refine Below.drew ?_ | with_reducible refine Below.alloc ?_ (by first | omega | (simp; done) | (simp; omega)) _))) (p := ⟨g, o + k * 2 + 1, none⟩) zgc).trans c1⟩
            refine wpAnyH_take (i := 0) (v := .pointer (some ⟨wr.heap.size, 0, none⟩)) rfl (by kernel_rfl) (by kernel_rfl) (by kernel_rfl) (fun _ _ _ h => h) (Or.inl ⟨by kernel_rfl, ?_⟩) hHeld ?_
            · intro w' hSw
              obtain ⟨s0, s1⟩ := hSw
              first | (go_simp; done) | (go_simp; with_reducible rfl) | (go_simp; rw [IntKind.wrap_i64]; omega) | (go_simp; omega)
            simp only [Act.put, List.setIfInBounds_toArray, List.set_cons_zero, List.set_cons_succ]
            refine wpAnyH_take (i := 1) (v := .int .i64 (r + 1)) rfl (by kernel_rfl) (by kernel_rfl) (by kernel_rfl) (fun _ _ _ h => h) (Or.inl ⟨by kernel_rfl, ?_⟩) hHeld ?_
            · intro w' hSw
              obtain ⟨s0, s1⟩ := hSw
              first | (go_simp; done) | (go_simp; with_reducible rfl) | (go_simp; rw [IntKind.wrap_i64]; omega) | (go_simp; omega)
            simp only [Act.put, List.setIfInBounds_toArray, List.set_cons_zero, List.set_cons_succ]
            refine wpAnyH_take (i := 2) (v := .slice (some ⟨g, o, none⟩) m c) rfl (by kernel_rfl) (by kernel_rfl) (by kernel_rfl) (fun _ _ _ h => h) (Or.inl ⟨by kernel_rfl, ?_⟩) hHeld ?_
            · intro w' hSw
              obtain ⟨s0, s1⟩ := hSw
              first | (go_simp; done) | (go_simp; with_reducible rfl) | (go_simp; rw [IntKind.wrap_i64]; omega) | (go_simp; omega)
            simp only [Act.put, List.setIfInBounds_toArray, List.set_cons_zero, List.set_cons_succ]
            refine wpAnyH_take (i := 3) (v := .int .i64 (k : Int)) rfl (by kernel_rfl) (by kernel_rfl) (by kernel_rfl) (fun _ _ _ h => h) (Or.inl ⟨by kernel_rfl, ?_⟩) hHeld ?_
            · intro w' hSw
              obtain ⟨s0, s1⟩ := hSw
              first | (go_simp; done) | (go_simp; with_reducible rfl) | (go_simp; rw [IntKind.wrap_i64]; omega) | (go_simp; omega)
            simp only [Act.put, List.setIfInBounds_toArray, List.set_cons_zero, List.set_cons_succ]
            refine wpAnyH_take (i := 4) (v := .pointer (some ⟨g, o + k * 2, none⟩)) rfl (by kernel_rfl) (by kernel_rfl) (by kernel_rfl) (fun _ _ _ h => h) (Or.inl ⟨by kernel_rfl, ?_⟩) hHeld ?_
            · intro w' hSw
              obtain ⟨s0, s1⟩ := hSw
              first | (go_simp; done) | (go_simp; with_reducible rfl) | (go_simp; rw [IntKind.wrap_i64]; omega) | (go_simp; omega)
            simp only [Act.put, List.setIfInBounds_toArray, List.set_cons_zero, List.set_cons_succ]
            refine wpAnyH_take (i := 5) (v := .pointer (some ⟨g, o + k * 2 + 1, none⟩)) rfl (by kernel_rfl) (by kernel_rfl) (by kernel_rfl) (fun _ _ _ h => h) (Or.inl ⟨by kernel_rfl, ?_⟩) hHeld ?_
            · intro w' hSw
              obtain ⟨s0, s1⟩ := hSw
              first | (go_simp; done) | (go_simp; with_reducible rfl) | (go_simp; rw [IntKind.wrap_i64]; omega) | (go_simp; omega)
            simp only [Act.put, List.setIfInBounds_toArray, List.set_cons_zero, List.set_cons_succ]
            refine wpAnyH_take (i := 6) (v := .int .i64 a) rfl (by kernel_rfl) (by kernel_rfl) (by kernel_rfl) (fun _ _ _ h => h) (Or.inl ⟨by kernel_rfl, ?_⟩) hHeld ?_
            · intro w' hSw
              obtain ⟨s0, s1⟩ := hSw
              first | (go_simp; done) | (go_simp; with_reducible rfl) | (go_simp; rw [IntKind.wrap_i64]; omega) | (go_simp; omega)
            simp only [Act.put, List.setIfInBounds_toArray, List.set_cons_zero, List.set_cons_succ]
            refine wpAnyH_take (i := 7) (v := .bool false) rfl (by kernel_rfl) (by kernel_rfl) (by kernel_rfl) (fun _ _ _ h => h) (Or.inl ⟨by kernel_rfl, ?_⟩) hHeld ?_
            · intro w' hSw
              obtain ⟨s0, s1⟩ := hSw
              first | (go_simp; done) | (go_simp; with_reducible rfl) | (go_simp; rw [IntKind.wrap_i64]; omega) | (go_simp; omega)
            simp only [Act.put, List.setIfInBounds_toArray, List.set_cons_zero, List.set_cons_succ]
            refine wpAnyH_take (i := 8) (v := .pointer (some ⟨wr.heap.size, 1, none⟩)) rfl (by kernel_rfl) (by kernel_rfl) (by kernel_rfl) (fun _ _ _ h => h) (Or.inl ⟨by kernel_rfl, ?_⟩) hHeld ?_
            · intro w' hSw
              obtain ⟨s0, s1⟩ := hSw
              first | (go_simp; done) | (go_simp; with_reducible rfl) | (go_simp; rw [IntKind.wrap_i64]; omega) | (go_simp; omega)
            simp only [Act.put, List.setIfInBounds_toArray, List.set_cons_zero, List.set_cons_succ]
            refine wpAnyH_ready (rs := [9]) (by kernel_rfl) (by simp) ?_
            refine AllReadyH.cons rfl (fun KK hK => ?_) AllReadyH.nil
            go_simp
            have HTN : Hid (TwoC w (wc.setCell ⟨wr.heap.size, 1, none⟩ (.bool false)).drew u11 u12 (nxC V U O mo) k (ntP (whC V U O mo) k)) := (HTC.out.set hp1 hp2 zw).below (Below.drew (Below.refl _ _))
            obtain ⟨wn, hwn⟩ : ∃ v, v = (wc.setCell ⟨wr.heap.size, 1, none⟩ (.bool false)).drew := ⟨_, rfl⟩
            have n0 : wn.cell? ⟨wr.heap.size, 0, none⟩ = some (.int .i64 (r + 1)) := by rw [hwn]; simp [go_sem, e0]
            have n1 : wn.cell? ⟨wr.heap.size, 1, none⟩ = some (.bool false) := by rw [hwn]; simp [go_sem, e1]
            have n2 : wn.cell? ⟨g, o + k * 2 + 1, none⟩ = some (.int .i64 a) := by rw [hwn]; show (wc.setCell ⟨wr.heap.size, 1, none⟩ (.bool false)).cell? _ = _; rw [World.cell?_setCell_other _ _ _ _ (by intro q; first | exact gp (congrArg Addr.block q) | exact gp (congrArg Addr.block q).symm)]; exact c1
            rw [← hwn] at HTN ⊢
            refine hK.out _ _ ⟨n0, n2⟩ (fun hHeld => ?_)
            clear hK KK
            refine wpAnyH_done (by kernel_rfl) ?_ _
            clear hHeld hwn
            have HTN2 := HTN.out
            have sn : w.heap.size ≤ wn.heap.size := HTN2.2.2.2.size
            go_upto_region 22 with (at_builtin; refine list_Clock w.heap.size u11 k (ckL (nxC V U O mo) k) (.tmp 114) (.tmp 116) (by rfl) (by rfl) (by rfl) (by rfl) HTN2.1 (by omega) (by omega) ?_; intro g1 cap1 w9 hown9 hgrow9 hlt9 hat9; have HT9 : Hid (TwoC w w9 (.slice (some ⟨g1, 0, none⟩) (k + 1) cap1) u12 (nxC V U O mo) (k + 1) (ntP (whC V U O mo) k)) := HTN2.clock (by rw [HYZ.out]; exact hown9) hgrow9 hat9; clear hown9 hgrow9 hat9)
            have HP0 : Hid (ntP (whC V U O mo) (k + 1) = ntP (whC V U O mo) k ++ [((k : Int), 1)]) := by
              show _ = _
              rw [HPT.out, HWZ.out]
              exact if_neg (by decide)
            have s9 : w.heap.size ≤ w9.heap.size := HT9.out.2.2.2.size
            go_wp2_with (at_builtin; refine list_Note w.heap.size u12 (ntP (whC V U O mo) k).length (ntC (ntP (whC V U O mo) k)) (.tmp 120) (.tmp 124) (by rfl) (by rfl) (by rfl) (by rfl) HT9.out.2.1 (by omega) (by omega) ?_; intro g2 cap2 wx hownx hgrowx hltx hatx; have HTX : Hid (TwoC w wx (.slice (some ⟨g1, 0, none⟩) (k + 1) cap1) (.slice (some ⟨g2, 0, none⟩) ((ntP (whC V U O mo) k).length + 1) cap2) (nxC V U O mo) (k + 1) (ntP (whC V U O mo) k ++ [((k : Int), 1)])) := HT9.out.note hownx hgrowx hatx; clear hownx hgrowx hatx)
            go_roundw
            case rel => exact ⟨k + 1, by omega, by go_num, by rw [HP0.out]; exact HTX⟩
            case measure => first | (simp [intOf]; done) | (simp [intOf]; omega)
    · obtain rfl : k = m := by omega
      obtain ⟨s', c', hv, hOc⟩ := own_Clock HT.out.1
      obtain ⟨t', d', hu, hOn⟩ := own_Note HT.out.2.1
      subst hv
      subst hu
      have HOC : Hid (OwnClock w.heap.size wr s' k (nxC V U O mo)) := hOc
      have HON : Hid (OwnNote w.heap.size wr t' (ntP (whC V U O mo) k).length (fun j => (ntP (whC V U O mo) k).getD j (0, 0))) := hOn
      have HDD : Hid (∀ b b', s' = some ⟨b, 0, none⟩ → t' = some ⟨b', 0, none⟩ → b ≠ b') := fun b b' e1 e2 e3 => HT.out.2.2.1 b (by rw [e1]; rfl) (by rw [e2, e3]; rfl)
      clear hOc hOn
      go_wp2
      exact bodyPost_ret (v := .tuple #[.slice s' k c', .slice t' (ntP (whC V U O mo) k).length d', .bool true]) (by simp [results, Tryd.results8, go_sem]) rfl (ck_yes HZ.out rfl HOC.out HON.out HDD.out hB)
end Go.Proofs.YtmoeoepinlcmdaaDoor
