/-
What is proved: impl.ClockStep.
-/
import Derived.Test.YtmoeoepinlcmdaaDoorCkP
import Derived.Deep.RegionHeld3
import Derived.Deep.DeepCutAuto
import Derived.BigQuiet
namespace Go.Proofs.YtmoeoepinlcmdaaDoor
set_option maxRecDepth 40000
open Go.ChangeShapes Go.WideShapes Go.ChangeAt Go.RowKit
set_option linter.unusedVariables false
set_option linter.unusedSimpArgs false

theorem keep5K {W W' : World} {p q g i : Nat} {a b c d e : Value} (h0 : W.cell? ⟨p, 0, none⟩ = some a) (h1 : W.cell? ⟨p, 1, none⟩ = some b) (h2 : W.cell? ⟨q, 0, none⟩ = some c) (h3 : W.cell? ⟨q, 1, none⟩ = some d) (h4 : W.cell? ⟨g, i, none⟩ = some e) (zp : p < W.heap.size) (zq : q < W.heap.size) (zg : g < W.heap.size) (hb : Below W.heap.size W W') : W'.cell? ⟨p, 0, none⟩ = some a ∧ W'.cell? ⟨p, 1, none⟩ = some b ∧ W'.cell? ⟨q, 0, none⟩ = some c ∧ W'.cell? ⟨q, 1, none⟩ = some d ∧ W'.cell? ⟨g, i, none⟩ = some e :=
  ⟨(hb.cell (p := ⟨p, 0, none⟩) zp).trans h0, (hb.cell (p := ⟨p, 1, none⟩) zp).trans h1, (hb.cell (p := ⟨q, 0, none⟩) zq).trans h2, (hb.cell (p := ⟨q, 1, none⟩) zq).trans h3, (hb.cell (p := ⟨g, i, none⟩) zg).trans h4⟩
theorem keep4K {W W' : World} {p g i j : Nat} {a b c d : Value} (h0 : W.cell? ⟨p, 0, none⟩ = some a) (h1 : W.cell? ⟨p, 1, none⟩ = some b) (h2 : W.cell? ⟨g, i, none⟩ = some c) (h3 : W.cell? ⟨g, j, none⟩ = some d) (zp : p < W.heap.size) (zg : g < W.heap.size) (hb : Below W.heap.size W W') : W'.cell? ⟨p, 0, none⟩ = some a ∧ W'.cell? ⟨p, 1, none⟩ = some b ∧ W'.cell? ⟨g, i, none⟩ = some c ∧ W'.cell? ⟨g, j, none⟩ = some d :=
  ⟨(hb.cell (p := ⟨p, 0, none⟩) zp).trans h0, (hb.cell (p := ⟨p, 1, none⟩) zp).trans h1, (hb.cell (p := ⟨g, i, none⟩) zg).trans h2, (hb.cell (p := ⟨g, j, none⟩) zg).trans h3⟩
theorem own_sameC {w w' : World} {base : Nat} {e : TypeId} {size : Nat} {v : Value} {n : Nat} {xs : List Value} (h : w.ownsRow base e size v n xs) (hs : ∀ g, v.ownBlock = some g → w'.heap[g]? = w.heap[g]?) : w'.ownsRow base e size v n xs := by
  refine ⟨h.1, ?_⟩
  rcases h.2 with q | ⟨g, cap, cur, e1, hb, hg, r⟩
  · exact .inl q
  · exact .inr ⟨g, cap, cur, e1, hb, (hs g (by rw [e1]; rfl)).trans hg, r⟩
set_option maxRecDepth 20000 in
set_option maxHeartbeats 16000000 in
theorem implClockStep_any (s t q : Option Addr) (n c m d nb e : Nat) (V : Nat → Int × Int) (U : Nat → Int × Bool) (mo : Int) (O : Nat → Bool) (w : World) (hn : (n : Int) ≤ 1048576) (hm : (m : Int) ≤ 1048576) (HR : Hid (RowLimit w s n V)) (HU : Hid (RowClock w t m U)) (HO : Hid (RowB w q nb O)) (HE : Hid (ErrC w)) :
    Calls Tryd.prog 9 #[.slice s n c, .slice t m d, .int .i64 mo, .slice q nb e] w fun ev w' => CkPost n V m U mo nb O w ev w' := by
  have HX : Hid (∀ w1, Below w.heap.size w w1 → ErrC w1) := fun w1 hb => HE.out.below hb
  go_enter Tryd.func9, Tryd.ntmps9
  go_wp2_with fail
  refine (clocksMisfit_any s t n c m d V U _ hn hm HR HU HE).mono ?_
  rintro ev w1 ⟨v, rfl, hv, h1⟩
  have HV : Hid (MisV v (clsB n V m U)) := hv
  have B1 : Below w.heap.size w w1 := h1
  clear hv h1
  go_wp2_with fail
  refine (refused_any v (clsB n V m U) _ HV (HX.out _ B1).1).mono ?_
  rintro ev w2 ⟨rfl, h2⟩
  replace B1 : Below w.heap.size w w2 := B1.trans (h2.mono B1.size)
  clear h2 HV HX HE
  cases hc : clsB n V m U
  · have HZ : Hid (ckB n V m U mo nb O = false) := by show _ = _; unfold ckB; rw [hc]; rfl
    go_wp2
    exact bodyPost_ret (v := .tuple #[.slice none 0 0, .slice none 0 0, .bool false]) (by simp [results, Tryd.results9, go_sem]) rfl (ck_no HZ.out (fun _ _ z => by cases z) (by repeat (first | with_reducible exact Below.refl _ _ | with_reducible exact B1 | with_reducible refine Below.setCell ?_ (by first | omega | (simp; done) | (simp; omega)) _ | with_reducible refine bDrewN ?_ _ | with_reducible refine Below.drew ?_ | with_reducible refine Below.alloc ?_ (by first | omega | (simp; done) | (simp; omega)) _)))
  go_wp2_with fail
  refine (within_is _ _ _ _).mono ?_
  rintro ev w2 ⟨rfl, rfl⟩
  cases h0 : inB 0 7 mo
  · have HZ : Hid (ckB n V m U mo nb O = false) := by show _ = _; unfold ckB; rw [h0]; simp
    go_wp2
    exact bodyPost_ret (v := .tuple #[.slice none 0 0, .slice none 0 0, .bool false]) (by simp [results, Tryd.results9, go_sem]) rfl (ck_no HZ.out (fun _ _ z => by cases z) (by repeat (first | with_reducible exact Below.refl _ _ | with_reducible exact B1 | with_reducible refine Below.setCell ?_ (by first | omega | (simp; done) | (simp; omega)) _ | with_reducible refine bDrewN ?_ _ | with_reducible refine Below.drew ?_ | with_reducible refine Below.alloc ?_ (by first | omega | (simp; done) | (simp; omega)) _)))
  by_cases hnb : nb = n
  case neg =>
    have b2 : decide ((nb : Int) = (n : Int)) = false := decide_eq_false (by omega)
    have HZ : Hid (ckB n V m U mo nb O = false) := by show _ = _; unfold ckB; rw [decide_eq_false hnb]; simp
    go_wp2
    exact bodyPost_ret (v := .tuple #[.slice none 0 0, .slice none 0 0, .bool false]) (by simp [results, Tryd.results9, go_sem]) rfl (ck_no HZ.out (fun _ _ z => by cases z) (by repeat (first | with_reducible exact Below.refl _ _ | with_reducible exact B1 | with_reducible refine Below.setCell ?_ (by first | omega | (simp; done) | (simp; omega)) _ | with_reducible refine bDrewN ?_ _ | with_reducible refine Below.drew ?_ | with_reducible refine Below.alloc ?_ (by first | omega | (simp; done) | (simp; omega)) _)))
  subst hnb
  obtain ⟨n6, rfl, hA⟩ := cls_yes hc
  have HZ : Hid (ckB m V m U mo m O = true) := by show _ = _; unfold ckB; rw [hc, h0, decide_eq_true rfl]; rfl
  obtain ⟨mo0, mo1⟩ := inB_yes h0
  have HA : Hid (∀ j, j < m → limB (V j) = true ∧ clkB (V j) (U j) = true) := hA
  have HB1 : Hid (Below w.heap.size w w2) := B1
  have zw : w.heap.size ≤ w2.heap.size := B1.size
  have hmk := make_Clock m (by omega)
  clear hc h0 hA B1
  go_upto_region 4 with fail
  obtain ⟨wa, hwa⟩ : ∃ wa, wa = (w2.alloc (.cells (madeCells #[.int .i64 0, .bool false] (m * 2)) 29)).alloc (.cells #[] 36) := ⟨_, rfl⟩
  rw [← hwa]
  have HCA : Hid (ClockRow w2 wa m 0 (nxC V U O mo)) := by show ClockRow _ _ _ _ _; rw [hwa]; exact (rowClock_start w2 m _ _).far ((Below.refl _ _).alloc (by simp) _)
  have HNA : Hid (wa.ownsRow (w2.heap.size + 1) 36 2 (.slice (some ⟨w2.heap.size + 1, 0, none⟩) (ntP (whC V U O mo) 0).length 0) (ntP (whC V U O mo) 0).length (ntC (ntP (whC V U O mo) 0))) := by
    show World.ownsRow _ _ _ _ _ _ _
    have := World.ownsRow_lit (base := w2.heap.size + 1) (size := 2) (e := 36) (w2.alloc (.cells (madeCells #[.int .i64 0, .bool false] (m * 2)) 29)) #[] 0 (by simp) (by simp [maxLen]) (by simp)
    rw [hwa]
    simpa [ntP, ntC] using this
  have za2 : w2.heap.size + 1 ≤ wa.heap.size := by rw [hwa]; simp
  clear hwa hmk
  go_wp2_with fail
  go_loopw [12, 39] (fun v i wr => ∃ k : Nat, k ≤ m ∧ i = .int .i64 (k : Int) ∧ Hid (ClockRow w2 wr m k (nxC V U O mo)) ∧ Hid (wr.ownsRow (w2.heap.size + 1) 36 2 v (ntP (whC V U O mo) k).length (ntC (ntP (whC V U O mo) k))) ∧ w2.heap.size + 1 ≤ wr.heap.size) (fun _ i _ => m - (intOf i).toNat)
  case atStart => exact ⟨0, Nat.zero_le _, rfl, HCA, HNA, za2⟩
  case round =>
    rename_i u12 _
    obtain ⟨k, hk, rfl, HK, HN, zr⟩ := hrel
    have hB : Below w.heap.size w wr := HB1.out.trans (HK.out.1.mono zw)
    by_cases h1 : k < m
    · have k1 : (k : Int) < (m : Int) := by omega
      obtain ⟨g, o, rfl, zg, c0, c1⟩ := HR.out k h1
      obtain ⟨h, i, rfl, zh, d0, d1⟩ := HU.out k h1
      obtain ⟨f, x, rfl, zf, f0⟩ := HO.out k h1
      replace c0 := (hB.cell (p := ⟨g, o + k * 2, none⟩) zg).trans c0
      replace c1 := (hB.cell (p := ⟨g, o + k * 2 + 1, none⟩) zg).trans c1
      replace d0 := (hB.cell (p := ⟨h, i + k * 2, none⟩) zh).trans d0
      replace d1 := (hB.cell (p := ⟨h, i + k * 2 + 1, none⟩) zh).trans d1
      replace f0 := (hB.cell (p := ⟨f, x + k, none⟩) zf).trans f0
      have hfw : f < w2.heap.size := Nat.lt_of_lt_of_le zf zw
      obtain ⟨b1, b2⟩ := HA.out k h1
      have HNX : Hid (∀ mm a r bo, (V k).1 = mm → (V k).2 = a → (U k).1 = r → O k = bo → (nxC V U O mo) k = nxtC a r (bo && bitM mm mo) ∧ (whC V U O mo) k = whtC a r (bo && bitM mm mo)) := fun mm a r bo e1 e2 e3 e4 => by
        unfold nxC whC cntC; rw [e1, e2, e3, e4]; exact ⟨rfl, rfl⟩
      replace b1 := (lim_yes b1).2
      replace b2 := clk_yes b2
      have HPT : Hid (ntP (whC V U O mo) (k + 1) = if (whC V U O mo) k = 0 then ntP (whC V U O mo) k else ntP (whC V U O mo) k ++ [((k : Int), (whC V U O mo) k)]) := rfl
      have hlen := ntP_len (whC V U O mo) k
      obtain ⟨bo, hbo⟩ : ∃ z, O k = z := ⟨_, rfl⟩
      have HQ1 : Hid (∀ mm a r, (V k).1 = mm → (V k).2 = a → (U k).1 = r → (nxC V U O mo) k = nxtC a r (bo && bitM mm mo) ∧ (whC V U O mo) k = whtC a r (bo && bitM mm mo)) := fun mm a r e1 e2 e3 => HNX.out mm a r bo e1 e2 e3 hbo
      rw [hbo] at f0
      obtain ⟨⟨mm, a⟩, hV⟩ : ∃ z, V k = z := ⟨_, rfl⟩
      obtain ⟨⟨r, l⟩, hU⟩ : ∃ z, U k = z := ⟨_, rfl⟩
      have HQ2 : Hid ((nxC V U O mo) k = nxtC a r (bo && bitM mm mo) ∧ (whC V U O mo) k = whtC a r (bo && bitM mm mo)) := HQ1.out mm a r (by rw [hV]) (by rw [hV]) (by rw [hU])
      rw [hV] at c0 c1 b1 b2
      rw [hU] at d0 d1 b2
      simp only at c0 c1 d0 d1 b1 b2
      have HLL : Hid (l = decide (r = a)) := b2.2
      replace b2 := b2.1
      have g0 := (HK.out.2.2.2 k h1).1
      have g1 := (HK.out.2.2.2 k h1).2
      have fz0 := HK.out.2.2.1 (k * 2)
      have fz1 := HK.out.2.2.1 (k * 2 + 1)
      have zg3 := Nat.lt_of_lt_of_le zg hB.size
      have zh3 := Nat.lt_of_lt_of_le zh hB.size
      have zf3 := Nat.lt_of_lt_of_le zf hB.size
      have zc3 : w2.heap.size < wr.heap.size := HK.out.2.1
      clear hbo hV hU HNX HQ1
      go_upto_region 8 with fail
      obtain ⟨wa, hwa⟩ : ∃ wa, wa = (wr.alloc (.cells #[.int .i64 r, .bool l] 29)).alloc (.cells #[.int .i64 mm, .int .i64 a] 38) := ⟨_, rfl⟩
      rw [← hwa]
      have HBA : Hid (Below wr.heap.size wr wa) := by show Below _ _ _; rw [hwa]; exact (by repeat (first | with_reducible exact Below.refl _ _ | with_reducible refine Below.setCell ?_ (by first | omega | (simp; done) | (simp; omega)) _ | with_reducible refine bDrewN ?_ _ | with_reducible refine Below.drew ?_ | with_reducible refine Below.alloc ?_ (by first | omega | (simp; done) | (simp; omega)) _))
      have hb := HBA.out
      have a0 : wa.cell? ⟨wr.heap.size, 0, none⟩ = some (.int .i64 r) := by rw [hwa]; simp [go_sem]
      have a1 : wa.cell? ⟨wr.heap.size, 1, none⟩ = some (.bool l) := by rw [hwa]; simp [go_sem]
      have l0 : wa.cell? ⟨wr.heap.size + 1, 0, none⟩ = some (.int .i64 mm) := by rw [hwa]; simp [go_sem]
      have l1 : wa.cell? ⟨wr.heap.size + 1, 1, none⟩ = some (.int .i64 a) := by rw [hwa]; simp [go_sem]
      have za : wr.heap.size < wa.heap.size := by rw [hwa]; simp; try omega
      have zl : wr.heap.size + 1 < wa.heap.size := by rw [hwa]; simp
      replace f0 := (hb.cell (p := ⟨f, x + k, none⟩) zf3).trans f0
      have zf2 := Nat.lt_of_lt_of_le zf3 hb.size
      replace g0 := (hb.cell (p := ⟨w2.heap.size, k * 2, none⟩) zc3).trans g0
      replace g1 := (hb.cell (p := ⟨w2.heap.size, k * 2 + 1, none⟩) zc3).trans g1
      replace fz0 := (hb.frozen (p := ⟨w2.heap.size, k * 2, none⟩) zc3).trans fz0
      replace fz1 := (hb.frozen (p := ⟨w2.heap.size, k * 2 + 1, none⟩) zc3).trans fz1
      have zc := Nat.lt_of_lt_of_le zc3 hb.size
      clear hwa hb c0 c1 d0 d1 zf
      rename f < wa.heap.size => zf
      cases bo
      · have HQ3 : Hid ((nxC V U O mo) k = nxtC a r (false) ∧ (whC V U O mo) k = whtC a r (false)) := by
          have := HQ2.out
          show _ ∧ _
          simpa using this
        have HW3 : Hid ((whC V U O mo) k = _) := HQ3.out.2.trans (wht_is (l := l) (c := false) (by omega) (by omega) (by omega) HLL.out)
        obtain ⟨⟨y, z⟩, hyz⟩ : ∃ p, nxtC a r (false) = p := ⟨_, rfl⟩
        have HYZ : Hid ((nxC V U O mo) k = (y, z)) := HQ3.out.1.trans hyz
        have HST : Hid (∀ w1, Calls Tryd.prog 34 #[.agg #[.int .i64 r, .bool l], .agg #[.int .i64 mm, .int .i64 a], .bool (false)] w1 fun ev w' => ev = .returned (.agg #[.int .i64 y, .bool z]) ∧ Below w1.heap.size w1 w') := fun w1 => by
          have := stepped_any r l mm a (false) w1 (by omega) (by omega) (by omega) (by omega)
          rw [hyz] at this
          exact this
        rw [hyz] at HW3
        have HWT : Hid (∀ w1, Calls Tryd.prog 35 #[.agg #[.int .i64 r, .bool l], .agg #[.int .i64 y, .bool z]] w1 fun ev w' => ev = .returned (.int .i64 ((whC V U O mo) k)) ∧ Below w1.heap.size w1 w') := fun w1 => by
          rw [HW3.out]
          exact whatToTell_any r l y z w1
        obtain ⟨wt, hwt⟩ : ∃ p, (whC V U O mo) k = p := ⟨_, rfl⟩
        rw [hwt] at HWT HPT
        clear hyz hwt HW3 HQ3 HQ2
        refine wp_region_held_drew (S := fun w' => w'.cell? ⟨wr.heap.size, 0, none⟩ = some (.int .i64 r) ∧ w'.cell? ⟨wr.heap.size, 1, none⟩ = some (.bool l) ∧ w'.cell? ⟨wr.heap.size + 1, 0, none⟩ = some (.int .i64 mm) ∧ w'.cell? ⟨wr.heap.size + 1, 1, none⟩ = some (.int .i64 a) ∧ w'.cell? ⟨f, x + k, none⟩ = some (.bool false)) (by kernel_rfl) ?_ (fun hHeld => ?_)
        · exact keep5K a0 a1 l0 l1 f0 za zl zf (by repeat (first | with_reducible exact Below.refl _ _ | with_reducible refine Below.setCell ?_ (by first | omega | (simp; done) | (simp; omega)) _ | with_reducible refine bDrewN ?_ _ | with_reducible refine Below.drew ?_ | with_reducible refine Below.alloc ?_ (by first | omega | (simp; done) | (simp; omega)) _))
        refine wpAnyH_take (i := 0) (v := .slice (some ⟨w2.heap.size, 0, none⟩) m m) rfl (by kernel_rfl) (by kernel_rfl) (by kernel_rfl) (fun _ _ _ h => h) (Or.inl ⟨by kernel_rfl, ?_⟩) hHeld ?_
        · intro w' hSw
          obtain ⟨s0, s1, s2, s3, s4⟩ := hSw
          first | (go_simp; done) | (go_simp; with_reducible rfl) | (go_simp; rw [IntKind.wrap_i64]; omega) | (go_simp; omega)
        simp only [Act.put, List.setIfInBounds_toArray, List.set_cons_zero, List.set_cons_succ]
        refine wpAnyH_take (i := 1) (v := .int .i64 (k : Int)) rfl (by kernel_rfl) (by kernel_rfl) (by kernel_rfl) (fun _ _ _ h => h) (Or.inl ⟨by kernel_rfl, ?_⟩) hHeld ?_
        · intro w' hSw
          obtain ⟨s0, s1, s2, s3, s4⟩ := hSw
          first | (go_simp; done) | (go_simp; with_reducible rfl) | (go_simp; rw [IntKind.wrap_i64]; omega) | (go_simp; omega)
        simp only [Act.put, List.setIfInBounds_toArray, List.set_cons_zero, List.set_cons_succ]
        refine wpAnyH_take (i := 2) (v := .agg #[.int .i64 r, .bool l]) rfl (by kernel_rfl) (by kernel_rfl) (by kernel_rfl) (fun _ _ _ h => h) (Or.inl ⟨by kernel_rfl, ?_⟩) hHeld ?_
        · intro w' hSw
          obtain ⟨s0, s1, s2, s3, s4⟩ := hSw
          first | (go_simp; done) | (go_simp; with_reducible rfl) | (go_simp; rw [IntKind.wrap_i64]; omega) | (go_simp; omega)
        simp only [Act.put, List.setIfInBounds_toArray, List.set_cons_zero, List.set_cons_succ]
        refine wpAnyH_take (i := 3) (v := .agg #[.int .i64 mm, .int .i64 a]) rfl (by kernel_rfl) (by kernel_rfl) (by kernel_rfl) (fun _ _ _ h => h) (Or.inl ⟨by kernel_rfl, ?_⟩) hHeld ?_
        · intro w' hSw
          obtain ⟨s0, s1, s2, s3, s4⟩ := hSw
          first | (go_simp; done) | (go_simp; with_reducible rfl) | (go_simp; rw [IntKind.wrap_i64]; omega) | (go_simp; omega)
        simp only [Act.put, List.setIfInBounds_toArray, List.set_cons_zero, List.set_cons_succ]
        refine wpAnyH_take (i := 4) (v := .slice (some ⟨f, x, none⟩) m e) rfl (by kernel_rfl) (by kernel_rfl) (by kernel_rfl) (fun _ _ _ h => h) (Or.inl ⟨by kernel_rfl, ?_⟩) hHeld ?_
        · intro w' hSw
          obtain ⟨s0, s1, s2, s3, s4⟩ := hSw
          first | (go_simp; done) | (go_simp; with_reducible rfl) | (go_simp; rw [IntKind.wrap_i64]; omega) | (go_simp; omega)
        simp only [Act.put, List.setIfInBounds_toArray, List.set_cons_zero, List.set_cons_succ]
        refine wpAnyH_take (i := 5) (v := .int .i64 (k : Int)) rfl (by kernel_rfl) (by kernel_rfl) (by kernel_rfl) (fun _ _ _ h => h) (Or.inl ⟨by kernel_rfl, ?_⟩) hHeld ?_
        · intro w' hSw
          obtain ⟨s0, s1, s2, s3, s4⟩ := hSw
          first | (go_simp; done) | (go_simp; with_reducible rfl) | (go_simp; rw [IntKind.wrap_i64]; omega) | (go_simp; omega)
        simp only [Act.put, List.setIfInBounds_toArray, List.set_cons_zero, List.set_cons_succ]
        refine wpAnyH_take (i := 6) (v := .pointer (some ⟨f, x + k, none⟩)) rfl (by kernel_rfl) (by kernel_rfl) (by kernel_rfl) (fun _ _ _ h => h) (Or.inl ⟨by kernel_rfl, ?_⟩) hHeld ?_
        · intro w' hSw
          obtain ⟨s0, s1, s2, s3, s4⟩ := hSw
          first | (go_simp; done) | (go_simp; with_reducible rfl) | (go_simp; rw [IntKind.wrap_i64]; omega) | (go_simp; omega)
        simp only [Act.put, List.setIfInBounds_toArray, List.set_cons_zero, List.set_cons_succ]
        refine wpAnyH_take (i := 7) (v := .bool false) rfl (by kernel_rfl) (by kernel_rfl) (by kernel_rfl) (fun _ _ _ h => h) (Or.inl ⟨by kernel_rfl, ?_⟩) hHeld ?_
        · intro w' hSw
          obtain ⟨s0, s1, s2, s3, s4⟩ := hSw
          first | (go_simp; done) | (go_simp; with_reducible rfl) | (go_simp; rw [IntKind.wrap_i64]; omega) | (go_simp; omega)
        simp only [Act.put, List.setIfInBounds_toArray, List.set_cons_zero, List.set_cons_succ]
        refine wpAnyH_take (i := 8) (v := .bool false) rfl (by kernel_rfl) (by kernel_rfl) (by kernel_rfl) (fun _ _ _ h => h) (Or.inl ⟨by kernel_rfl, ?_⟩) hHeld ?_
        · intro w' hSw
          obtain ⟨s0, s1, s2, s3, s4⟩ := hSw
          first | (go_simp; done) | (go_simp; with_reducible rfl) | (go_simp; rw [IntKind.wrap_i64]; omega) | (go_simp; omega)
        simp only [Act.put, List.setIfInBounds_toArray, List.set_cons_zero, List.set_cons_succ]
        refine wpAnyH_take (i := 9) (v := undef) rfl (by kernel_rfl) (by kernel_rfl) (by kernel_rfl) (fun _ _ _ h => h) (Or.inr ⟨by kernel_rfl, rfl⟩) hHeld ?_
        simp only [Act.put, List.setIfInBounds_toArray, List.set_cons_zero, List.set_cons_succ]
        refine wpAnyH_take (i := 10) (v := undef) rfl (by kernel_rfl) (by kernel_rfl) (by kernel_rfl) (fun _ _ _ h => h) (Or.inr ⟨by kernel_rfl, rfl⟩) hHeld ?_
        simp only [Act.put, List.setIfInBounds_toArray, List.set_cons_zero, List.set_cons_succ]
        refine wpAnyH_take (i := 11) (v := undef) rfl (by kernel_rfl) (by kernel_rfl) (by kernel_rfl) (fun _ _ _ h => h) (Or.inr ⟨by kernel_rfl, rfl⟩) hHeld ?_
        simp only [Act.put, List.setIfInBounds_toArray, List.set_cons_zero, List.set_cons_succ]
        refine wpAnyH_take (i := 12) (v := undef) rfl (by kernel_rfl) (by kernel_rfl) (by kernel_rfl) (fun _ _ _ h => h) (Or.inr ⟨by kernel_rfl, rfl⟩) hHeld ?_
        simp only [Act.put, List.setIfInBounds_toArray, List.set_cons_zero, List.set_cons_succ]
        refine wpAnyH_take (i := 13) (v := undef) rfl (by kernel_rfl) (by kernel_rfl) (by kernel_rfl) (fun _ _ _ h => h) (Or.inr ⟨by kernel_rfl, rfl⟩) hHeld ?_
        simp only [Act.put, List.setIfInBounds_toArray, List.set_cons_zero, List.set_cons_succ]
        refine wpAnyH_take (i := 14) (v := undef) rfl (by kernel_rfl) (by kernel_rfl) (by kernel_rfl) (fun _ _ _ h => h) (Or.inr ⟨by kernel_rfl, rfl⟩) hHeld ?_
        simp only [Act.put, List.setIfInBounds_toArray, List.set_cons_zero, List.set_cons_succ]
        refine wpAnyH_take (i := 15) (v := .bool false) rfl (by kernel_rfl) (by kernel_rfl) (by kernel_rfl) (fun _ _ _ h => h) (Or.inl ⟨by kernel_rfl, ?_⟩) hHeld ?_
        · intro w' hSw
          obtain ⟨s0, s1, s2, s3, s4⟩ := hSw
          first | (go_simp; done) | (go_simp; with_reducible rfl) | (go_simp; rw [IntKind.wrap_i64]; omega) | (go_simp; omega)
        simp only [Act.put, List.setIfInBounds_toArray, List.set_cons_zero, List.set_cons_succ]
        refine wpAnyH_ready (rs := [16]) (by kernel_rfl) (by simp) ?_
        refine AllReadyH.cons rfl (fun KK hK => ?_) AllReadyH.nil
        go_simp
        go_wp2_with (first | (go_at_call 34; refine (HST.out _).mono ?_; rintro e w7 ⟨rfl, h7⟩; have B7 : Below wa.heap.size wa w7 := Below.trans (by repeat (first | with_reducible exact Below.refl _ _ | with_reducible refine Below.setCell ?_ (by first | omega | (simp; done) | (simp; omega)) _ | with_reducible refine bDrewN ?_ _ | with_reducible refine Below.drew ?_ | with_reducible refine Below.alloc ?_ (by first | omega | (simp; done) | (simp; omega)) _)) (h7.mono (by first | omega | (simp; done) | (simp; omega))); clear h7))
        refine hK.out _ _ (keep5K a0 a1 l0 l1 f0 za zl zf B7) (fun hHeld => ?_)
        clear hK KK
        refine wpAnyH_take (i := 17) (v := .pointer (some ⟨w2.heap.size, k * 2, none⟩)) rfl (by kernel_rfl) (by kernel_rfl) (by kernel_rfl) (fun _ _ _ h => h) (Or.inl ⟨by kernel_rfl, ?_⟩) hHeld ?_
        · intro w' hSw
          obtain ⟨s0, s1, s2, s3, s4⟩ := hSw
          first | (go_simp; done) | (go_simp; with_reducible rfl) | (go_simp; rw [IntKind.wrap_i64]; omega) | (go_simp; omega)
        simp only [Act.put, List.setIfInBounds_toArray, List.set_cons_zero, List.set_cons_succ]
        have s7 := B7.size
        have c70 := (B7.cell (p := ⟨w2.heap.size, k * 2, none⟩) zc).trans g0
        have c71 := (B7.cell (p := ⟨w2.heap.size, k * 2 + 1, none⟩) zc).trans g1
        have f70 := (B7.frozen (p := ⟨w2.heap.size, k * 2, none⟩) zc).trans fz0
        have f71 := (B7.frozen (p := ⟨w2.heap.size, k * 2 + 1, none⟩) zc).trans fz1
        refine wpAnyH_ready (rs := [18]) (by kernel_rfl) (by simp) ?_
        refine AllReadyH.cons rfl (fun KK hK => ?_) AllReadyH.nil
        go_simp
        have HKN : Hid (ClockRow w2 ((w7.setCell ⟨w2.heap.size, k * 2, none⟩ (.int .i64 y)).setCell ⟨w2.heap.size, k * 2 + 1, none⟩ (.bool z)) m (k + 1) (nxC V U O mo)) := by
          have := rowClock_on h1 HK.out (HBA.out.trans (B7.mono HBA.out.size))
          rw [HYZ.out] at this
          exact this
        have BS : Beside w2.heap.size w7 ((w7.setCell ⟨w2.heap.size, k * 2, none⟩ (.int .i64 y)).setCell ⟨w2.heap.size, k * 2 + 1, none⟩ (.bool z)) := (Beside.setCell _ _ _ _).trans (Beside.setCell _ _ _ _)
        obtain ⟨wn, hwn⟩ : ∃ v, v = ((w7.setCell ⟨w2.heap.size, k * 2, none⟩ (.int .i64 y)).setCell ⟨w2.heap.size, k * 2 + 1, none⟩ (.bool z)) := ⟨_, rfl⟩
        have cn0 : wn.cell? ⟨w2.heap.size, k * 2, none⟩ = some (.int .i64 y) := by rw [hwn]; simp [go_sem, c70]
        have cn1 : wn.cell? ⟨w2.heap.size, k * 2 + 1, none⟩ = some (.bool z) := by rw [hwn]; simp [go_sem, c71]
        rw [← hwn] at HKN BS ⊢
        have z7a : wr.heap.size < w7.heap.size := Nat.lt_of_lt_of_le za s7
        have z7l : wr.heap.size + 1 < w7.heap.size := Nat.lt_of_lt_of_le zl s7
        have z7f : f < w7.heap.size := Nat.lt_of_lt_of_le zf s7
        refine hK.out _ _ ⟨(BS.cell (p := ⟨wr.heap.size, 0, none⟩) z7a (by show wr.heap.size ≠ _; omega)).trans hHeld.1, (BS.cell (p := ⟨wr.heap.size, 1, none⟩) z7a (by show wr.heap.size ≠ _; omega)).trans hHeld.2.1, (BS.cell (p := ⟨wr.heap.size + 1, 0, none⟩) z7l (by show wr.heap.size + 1 ≠ _; omega)).trans hHeld.2.2.1, (BS.cell (p := ⟨wr.heap.size + 1, 1, none⟩) z7l (by show wr.heap.size + 1 ≠ _; omega)).trans hHeld.2.2.2.1, (BS.cell (p := ⟨f, x + k, none⟩) z7f (by show f ≠ _; omega)).trans hHeld.2.2.2.2⟩ (fun hHeld => ?_)
        clear hK KK
        refine wpAnyH_done (by kernel_rfl) ?_ _
        have n0 := hHeld.1
        have n1 := hHeld.2.1
        have zn : wr.heap.size < wn.heap.size := Nat.lt_of_lt_of_le z7a BS.2.2.2.1
        have znc : w2.heap.size < wn.heap.size := by omega
        have HBN : Hid (∀ B, B ≤ w2.heap.size → Below B wr wn) := fun B hB => ((HBA.out.trans (B7.mono HBA.out.size)).mono (by omega)).trans (BS.below hB (by omega))
        have HBW : Hid (∀ k, w2.heap.size < k → k < wr.heap.size → wn.heap[k]? = wr.heap[k]?) := fun k hk1 hk2 => (BS.2.2.2.2 k (by omega) (by omega)).trans ((HBA.out.trans (B7.mono HBA.out.size)).block k hk2)
        clear hHeld hwn c70 c71 f70 f71
        have HNN : Hid (wn.ownsRow (w2.heap.size + 1) 36 2 u12 (ntP (whC V U O mo) k).length (ntC (ntP (whC V U O mo) k))) := own_sameC HN.out (fun g hg => HBW.out g (by have := (HN.out.lt g hg).1; omega) (HN.out.lt g hg).2)
        go_upto_region 9 with fail
        refine wp_region_held_drew (S := fun w' => w'.cell? ⟨wr.heap.size, 0, none⟩ = some (.int .i64 r) ∧ w'.cell? ⟨wr.heap.size, 1, none⟩ = some (.bool l) ∧ w'.cell? ⟨w2.heap.size, k * 2, none⟩ = some (.int .i64 y) ∧ w'.cell? ⟨w2.heap.size, k * 2 + 1, none⟩ = some (.bool z)) (by kernel_rfl) ?_ (fun hHeld => ?_)
        · exact keep4K n0 n1 cn0 cn1 zn znc (by repeat (first | with_reducible exact Below.refl _ _ | with_reducible refine Below.setCell ?_ (by first | omega | (simp; done) | (simp; omega)) _ | with_reducible refine bDrewN ?_ _ | with_reducible refine Below.drew ?_ | with_reducible refine Below.alloc ?_ (by first | omega | (simp; done) | (simp; omega)) _))
        refine wpAnyH_take (i := 0) (v := .agg #[.int .i64 r, .bool l]) rfl (by kernel_rfl) (by kernel_rfl) (by kernel_rfl) (fun _ _ _ h => h) (Or.inl ⟨by kernel_rfl, ?_⟩) hHeld ?_
        · intro w' hSw
          obtain ⟨s0, s1, s2, s3⟩ := hSw
          first | (go_simp; done) | (go_simp; with_reducible rfl) | (go_simp; rw [IntKind.wrap_i64]; omega) | (go_simp; omega)
        simp only [Act.put, List.setIfInBounds_toArray, List.set_cons_zero, List.set_cons_succ]
        refine wpAnyH_take (i := 1) (v := .slice (some ⟨w2.heap.size, 0, none⟩) m m) rfl (by kernel_rfl) (by kernel_rfl) (by kernel_rfl) (fun _ _ _ h => h) (Or.inl ⟨by kernel_rfl, ?_⟩) hHeld ?_
        · intro w' hSw
          obtain ⟨s0, s1, s2, s3⟩ := hSw
          first | (go_simp; done) | (go_simp; with_reducible rfl) | (go_simp; rw [IntKind.wrap_i64]; omega) | (go_simp; omega)
        simp only [Act.put, List.setIfInBounds_toArray, List.set_cons_zero, List.set_cons_succ]
        refine wpAnyH_take (i := 2) (v := .int .i64 (k : Int)) rfl (by kernel_rfl) (by kernel_rfl) (by kernel_rfl) (fun _ _ _ h => h) (Or.inl ⟨by kernel_rfl, ?_⟩) hHeld ?_
        · intro w' hSw
          obtain ⟨s0, s1, s2, s3⟩ := hSw
          first | (go_simp; done) | (go_simp; with_reducible rfl) | (go_simp; rw [IntKind.wrap_i64]; omega) | (go_simp; omega)
        simp only [Act.put, List.setIfInBounds_toArray, List.set_cons_zero, List.set_cons_succ]
        refine wpAnyH_take (i := 3) (v := .pointer (some ⟨w2.heap.size, k * 2, none⟩)) rfl (by kernel_rfl) (by kernel_rfl) (by kernel_rfl) (fun _ _ _ h => h) (Or.inl ⟨by kernel_rfl, ?_⟩) hHeld ?_
        · intro w' hSw
          obtain ⟨s0, s1, s2, s3⟩ := hSw
          first | (go_simp; done) | (go_simp; with_reducible rfl) | (go_simp; rw [IntKind.wrap_i64]; omega) | (go_simp; omega)
        simp only [Act.put, List.setIfInBounds_toArray, List.set_cons_zero, List.set_cons_succ]
        refine wpAnyH_take (i := 4) (v := .agg #[.int .i64 y, .bool z]) rfl (by kernel_rfl) (by kernel_rfl) (by kernel_rfl) (fun _ _ _ h => h) (Or.inl ⟨by kernel_rfl, ?_⟩) hHeld ?_
        · intro w' hSw
          obtain ⟨s0, s1, s2, s3⟩ := hSw
          first | (go_simp; done) | (go_simp; with_reducible rfl) | (go_simp; rw [IntKind.wrap_i64]; omega) | (go_simp; omega)
        simp only [Act.put, List.setIfInBounds_toArray, List.set_cons_zero, List.set_cons_succ]
        refine wpAnyH_ready (rs := [5]) (by kernel_rfl) (by simp) ?_
        refine AllReadyH.cons rfl (fun KK hK => ?_) AllReadyH.nil
        go_simp
        go_wp2_with (first | (go_at_call 35; refine (HWT.out _).mono ?_; rintro ev w8 ⟨rfl, h8⟩; have B8 : Below wn.heap.size wn w8 := Below.trans (by repeat (first | with_reducible exact Below.refl _ _ | with_reducible refine Below.setCell ?_ (by first | omega | (simp; done) | (simp; omega)) _ | with_reducible refine bDrewN ?_ _ | with_reducible refine Below.drew ?_ | with_reducible refine Below.alloc ?_ (by first | omega | (simp; done) | (simp; omega)) _)) (h8.mono (by first | omega | (simp; done) | (simp; omega))); clear h8))
        refine hK.out _ _ (keep4K n0 n1 cn0 cn1 zn znc B8) (fun hHeld => ?_)
        clear hK KK
        refine wpAnyH_ready (rs := [6]) (by kernel_rfl) (by simp) ?_
        refine AllReadyH.cons rfl (fun KK hK => ?_) AllReadyH.nil
        go_simp
        refine hK.out _ _ hHeld (fun hHeld => ?_)
        clear hK KK
        refine wpAnyH_done (by kernel_rfl) ?_ _
        clear hHeld
        have HK8 : Hid (ClockRow w2 w8 m (k + 1) (nxC V U O mo)) := HKN.out.far (B8.mono (by omega))
        have HN8 : Hid (w8.ownsRow (w2.heap.size + 1) 36 2 u12 (ntP (whC V U O mo) k).length (ntC (ntP (whC V U O mo) k))) := own_sameC HNN.out (fun g hg => B8.block g (HNN.out.lt g hg).2)
        have z8 : w2.heap.size + 1 ≤ w8.heap.size := by have := B8.size; omega
        clear n0 n1 cn0 cn1 g0 g1 fz0 fz1
        by_cases wz : wt = 0
        · have HP0 : Hid (ntP (whC V U O mo) (k + 1) = ntP (whC V U O mo) k) := HPT.out.trans (if_pos wz)
          subst wz
          go_wp2
          go_roundw
          case rel => exact ⟨k + 1, by omega, by go_num, HK8, by rw [HP0.out]; exact HN8, z8⟩
          case measure => first | (simp [intOf]; done) | (simp [intOf]; omega)
        · have HP0 : Hid (ntP (whC V U O mo) (k + 1) = ntP (whC V U O mo) k ++ [((k : Int), wt)]) := HPT.out.trans (if_neg wz)
          have wzb : (wt == 0) = false := beq_eq_false_iff_ne.2 wz
          have hl6 : (ntP (whC V U O mo) k).length ≤ 60 := by omega
          go_wp2_with (at_builtin; refine list_Note (w2.heap.size + 1) u12 (ntP (whC V U O mo) k).length (ntC (ntP (whC V U O mo) k)) (.tmp 74) (.tmp 78) (by rfl) (by rfl) (by rfl) (by rfl) HN8.out (by omega) (by omega) ?_; intro g' cap' w9 hown9 hgrow9 hlt9 hat9; have B9 : Below (w2.heap.size + 1) w8 w9 := grown_below hgrow9 (by omega) (own_block HN8.out); have s9 := B9.size; clear hgrow9)
          have HK9 : Hid (ClockRow w2 w9 m (k + 1) (nxC V U O mo)) := HK8.out.far B9
          go_roundw
          case rel =>
            refine ⟨k + 1, by omega, by go_num, HK9, ?_, by omega⟩
            show World.ownsRow _ _ _ _ _ _ _
            rw [HP0.out, ntC_app, List.length_append]
            exact hown9
          case measure => first | (simp [intOf]; done) | (simp [intOf]; omega)
      · have HQ3 : Hid ((nxC V U O mo) k = nxtC a r (bitM mm mo) ∧ (whC V U O mo) k = whtC a r (bitM mm mo)) := by
          have := HQ2.out
          show _ ∧ _
          simpa using this
        have HW3 : Hid ((whC V U O mo) k = _) := HQ3.out.2.trans (wht_is (l := l) (c := bitM mm mo) (by omega) (by omega) (by omega) HLL.out)
        obtain ⟨⟨y, z⟩, hyz⟩ : ∃ p, nxtC a r (bitM mm mo) = p := ⟨_, rfl⟩
        have HYZ : Hid ((nxC V U O mo) k = (y, z)) := HQ3.out.1.trans hyz
        have HST : Hid (∀ w1, Calls Tryd.prog 34 #[.agg #[.int .i64 r, .bool l], .agg #[.int .i64 mm, .int .i64 a], .bool (bitM mm mo)] w1 fun ev w' => ev = .returned (.agg #[.int .i64 y, .bool z]) ∧ Below w1.heap.size w1 w') := fun w1 => by
          have := stepped_any r l mm a (bitM mm mo) w1 (by omega) (by omega) (by omega) (by omega)
          rw [hyz] at this
          exact this
        rw [hyz] at HW3
        have HWT : Hid (∀ w1, Calls Tryd.prog 35 #[.agg #[.int .i64 r, .bool l], .agg #[.int .i64 y, .bool z]] w1 fun ev w' => ev = .returned (.int .i64 ((whC V U O mo) k)) ∧ Below w1.heap.size w1 w') := fun w1 => by
          rw [HW3.out]
          exact whatToTell_any r l y z w1
        obtain ⟨wt, hwt⟩ : ∃ p, (whC V U O mo) k = p := ⟨_, rfl⟩
        rw [hwt] at HWT HPT
        clear hyz hwt HW3 HQ3 HQ2
        refine wp_region_held_drew (S := fun w' => w'.cell? ⟨wr.heap.size, 0, none⟩ = some (.int .i64 r) ∧ w'.cell? ⟨wr.heap.size, 1, none⟩ = some (.bool l) ∧ w'.cell? ⟨wr.heap.size + 1, 0, none⟩ = some (.int .i64 mm) ∧ w'.cell? ⟨wr.heap.size + 1, 1, none⟩ = some (.int .i64 a) ∧ w'.cell? ⟨f, x + k, none⟩ = some (.bool true)) (by kernel_rfl) ?_ (fun hHeld => ?_)
        · exact keep5K a0 a1 l0 l1 f0 za zl zf (by repeat (first | with_reducible exact Below.refl _ _ | with_reducible refine Below.setCell ?_ (by first | omega | (simp; done) | (simp; omega)) _ | with_reducible refine bDrewN ?_ _ | with_reducible refine Below.drew ?_ | with_reducible refine Below.alloc ?_ (by first | omega | (simp; done) | (simp; omega)) _))
        refine wpAnyH_take (i := 0) (v := .slice (some ⟨w2.heap.size, 0, none⟩) m m) rfl (by kernel_rfl) (by kernel_rfl) (by kernel_rfl) (fun _ _ _ h => h) (Or.inl ⟨by kernel_rfl, ?_⟩) hHeld ?_
        · intro w' hSw
          obtain ⟨s0, s1, s2, s3, s4⟩ := hSw
          first | (go_simp; done) | (go_simp; with_reducible rfl) | (go_simp; rw [IntKind.wrap_i64]; omega) | (go_simp; omega)
        simp only [Act.put, List.setIfInBounds_toArray, List.set_cons_zero, List.set_cons_succ]
        refine wpAnyH_take (i := 1) (v := .int .i64 (k : Int)) rfl (by kernel_rfl) (by kernel_rfl) (by kernel_rfl) (fun _ _ _ h => h) (Or.inl ⟨by kernel_rfl, ?_⟩) hHeld ?_
        · intro w' hSw
          obtain ⟨s0, s1, s2, s3, s4⟩ := hSw
          first | (go_simp; done) | (go_simp; with_reducible rfl) | (go_simp; rw [IntKind.wrap_i64]; omega) | (go_simp; omega)
        simp only [Act.put, List.setIfInBounds_toArray, List.set_cons_zero, List.set_cons_succ]
        refine wpAnyH_take (i := 2) (v := .agg #[.int .i64 r, .bool l]) rfl (by kernel_rfl) (by kernel_rfl) (by kernel_rfl) (fun _ _ _ h => h) (Or.inl ⟨by kernel_rfl, ?_⟩) hHeld ?_
        · intro w' hSw
          obtain ⟨s0, s1, s2, s3, s4⟩ := hSw
          first | (go_simp; done) | (go_simp; with_reducible rfl) | (go_simp; rw [IntKind.wrap_i64]; omega) | (go_simp; omega)
        simp only [Act.put, List.setIfInBounds_toArray, List.set_cons_zero, List.set_cons_succ]
        refine wpAnyH_take (i := 3) (v := .agg #[.int .i64 mm, .int .i64 a]) rfl (by kernel_rfl) (by kernel_rfl) (by kernel_rfl) (fun _ _ _ h => h) (Or.inl ⟨by kernel_rfl, ?_⟩) hHeld ?_
        · intro w' hSw
          obtain ⟨s0, s1, s2, s3, s4⟩ := hSw
          first | (go_simp; done) | (go_simp; with_reducible rfl) | (go_simp; rw [IntKind.wrap_i64]; omega) | (go_simp; omega)
        simp only [Act.put, List.setIfInBounds_toArray, List.set_cons_zero, List.set_cons_succ]
        refine wpAnyH_take (i := 4) (v := .slice (some ⟨f, x, none⟩) m e) rfl (by kernel_rfl) (by kernel_rfl) (by kernel_rfl) (fun _ _ _ h => h) (Or.inl ⟨by kernel_rfl, ?_⟩) hHeld ?_
        · intro w' hSw
          obtain ⟨s0, s1, s2, s3, s4⟩ := hSw
          first | (go_simp; done) | (go_simp; with_reducible rfl) | (go_simp; rw [IntKind.wrap_i64]; omega) | (go_simp; omega)
        simp only [Act.put, List.setIfInBounds_toArray, List.set_cons_zero, List.set_cons_succ]
        refine wpAnyH_take (i := 5) (v := .int .i64 (k : Int)) rfl (by kernel_rfl) (by kernel_rfl) (by kernel_rfl) (fun _ _ _ h => h) (Or.inl ⟨by kernel_rfl, ?_⟩) hHeld ?_
        · intro w' hSw
          obtain ⟨s0, s1, s2, s3, s4⟩ := hSw
          first | (go_simp; done) | (go_simp; with_reducible rfl) | (go_simp; rw [IntKind.wrap_i64]; omega) | (go_simp; omega)
        simp only [Act.put, List.setIfInBounds_toArray, List.set_cons_zero, List.set_cons_succ]
        refine wpAnyH_take (i := 6) (v := .pointer (some ⟨f, x + k, none⟩)) rfl (by kernel_rfl) (by kernel_rfl) (by kernel_rfl) (fun _ _ _ h => h) (Or.inl ⟨by kernel_rfl, ?_⟩) hHeld ?_
        · intro w' hSw
          obtain ⟨s0, s1, s2, s3, s4⟩ := hSw
          first | (go_simp; done) | (go_simp; with_reducible rfl) | (go_simp; rw [IntKind.wrap_i64]; omega) | (go_simp; omega)
        simp only [Act.put, List.setIfInBounds_toArray, List.set_cons_zero, List.set_cons_succ]
        refine wpAnyH_take (i := 7) (v := .bool true) rfl (by kernel_rfl) (by kernel_rfl) (by kernel_rfl) (fun _ _ _ h => h) (Or.inl ⟨by kernel_rfl, ?_⟩) hHeld ?_
        · intro w' hSw
          obtain ⟨s0, s1, s2, s3, s4⟩ := hSw
          first | (go_simp; done) | (go_simp; with_reducible rfl) | (go_simp; rw [IntKind.wrap_i64]; omega) | (go_simp; omega)
        simp only [Act.put, List.setIfInBounds_toArray, List.set_cons_zero, List.set_cons_succ]
        refine wpAnyH_take (i := 8) (v := .bool true) rfl (by kernel_rfl) (by kernel_rfl) (by kernel_rfl) (fun _ _ _ h => h) (Or.inl ⟨by kernel_rfl, ?_⟩) hHeld ?_
        · intro w' hSw
          obtain ⟨s0, s1, s2, s3, s4⟩ := hSw
          first | (go_simp; done) | (go_simp; with_reducible rfl) | (go_simp; rw [IntKind.wrap_i64]; omega) | (go_simp; omega)
        simp only [Act.put, List.setIfInBounds_toArray, List.set_cons_zero, List.set_cons_succ]
        refine wpAnyH_take (i := 9) (v := .pointer (some ⟨wr.heap.size + 1, 0, none⟩)) rfl (by kernel_rfl) (by kernel_rfl) (by kernel_rfl) (fun _ _ _ h => h) (Or.inl ⟨by kernel_rfl, ?_⟩) hHeld ?_
        · intro w' hSw
          obtain ⟨s0, s1, s2, s3, s4⟩ := hSw
          first | (go_simp; done) | (go_simp; with_reducible rfl) | (go_simp; rw [IntKind.wrap_i64]; omega) | (go_simp; omega)
        simp only [Act.put, List.setIfInBounds_toArray, List.set_cons_zero, List.set_cons_succ]
        refine wpAnyH_take (i := 10) (v := .int .i64 mm) rfl (by kernel_rfl) (by kernel_rfl) (by kernel_rfl) (fun _ _ _ h => h) (Or.inl ⟨by kernel_rfl, ?_⟩) hHeld ?_
        · intro w' hSw
          obtain ⟨s0, s1, s2, s3, s4⟩ := hSw
          first | (go_simp; done) | (go_simp; with_reducible rfl) | (go_simp; rw [IntKind.wrap_i64]; omega) | (go_simp; omega)
        simp only [Act.put, List.setIfInBounds_toArray, List.set_cons_zero, List.set_cons_succ]
        refine wpAnyH_take (i := 11) (v := .int .i64 mo) rfl (by kernel_rfl) (by kernel_rfl) (by kernel_rfl) (fun _ _ _ h => h) (Or.inl ⟨by kernel_rfl, ?_⟩) hHeld ?_
        · intro w' hSw
          obtain ⟨s0, s1, s2, s3, s4⟩ := hSw
          first | (go_simp; done) | (go_simp; with_reducible rfl) | (go_simp; rw [IntKind.wrap_i64]; omega) | (go_simp; omega)
        simp only [Act.put, List.setIfInBounds_toArray, List.set_cons_zero, List.set_cons_succ]
        refine wpAnyH_take (i := 12) (v := .int .i64 (mm / 2 ^ mo.toNat)) rfl (by kernel_rfl) (by kernel_rfl) (by kernel_rfl) (fun _ _ _ h => h) (Or.inl ⟨by kernel_rfl, ?_⟩) hHeld ?_
        · intro w' hSw
          obtain ⟨s0, s1, s2, s3, s4⟩ := hSw
          first | (go_simp; done) | (go_simp; with_reducible rfl) | (go_simp; rw [IntKind.wrap_i64]; omega) | (go_simp; omega)
        simp only [Act.put, List.setIfInBounds_toArray, List.set_cons_zero, List.set_cons_succ]
        refine wpAnyH_take (i := 13) (v := .int .i64 (bits BinOp.and IntKind.i64 (mm / 2 ^ mo.toNat) 1)) rfl (by kernel_rfl) (by kernel_rfl) (by kernel_rfl) (fun _ _ _ h => h) (Or.inl ⟨by kernel_rfl, ?_⟩) hHeld ?_
        · intro w' hSw
          obtain ⟨s0, s1, s2, s3, s4⟩ := hSw
          first | (go_simp; done) | (go_simp; with_reducible rfl) | (go_simp; rw [IntKind.wrap_i64]; omega) | (go_simp; omega)
        simp only [Act.put, List.setIfInBounds_toArray, List.set_cons_zero, List.set_cons_succ]
        refine wpAnyH_take (i := 14) (v := .bool (bits BinOp.and IntKind.i64 (mm / 2 ^ mo.toNat) 1 == 1)) rfl (by kernel_rfl) (by kernel_rfl) (by kernel_rfl) (fun _ _ _ h => h) (Or.inl ⟨by kernel_rfl, ?_⟩) hHeld ?_
        · intro w' hSw
          obtain ⟨s0, s1, s2, s3, s4⟩ := hSw
          first | (go_simp; done) | (go_simp; with_reducible rfl) | (go_simp; rw [IntKind.wrap_i64]; omega) | (go_simp; omega)
        simp only [Act.put, List.setIfInBounds_toArray, List.set_cons_zero, List.set_cons_succ]
        refine wpAnyH_take (i := 15) (v := .bool (bits BinOp.and IntKind.i64 (mm / 2 ^ mo.toNat) 1 == 1)) rfl (by kernel_rfl) (by kernel_rfl) (by kernel_rfl) (fun _ _ _ h => h) (Or.inl ⟨by kernel_rfl, ?_⟩) hHeld ?_
        · intro w' hSw
          obtain ⟨s0, s1, s2, s3, s4⟩ := hSw
          first | (go_simp; done) | (go_simp; with_reducible rfl) | (go_simp; rw [IntKind.wrap_i64]; omega) | (go_simp; omega)
        simp only [Act.put, List.setIfInBounds_toArray, List.set_cons_zero, List.set_cons_succ]
        refine wpAnyH_ready (rs := [16]) (by kernel_rfl) (by simp) ?_
        refine AllReadyH.cons rfl (fun KK hK => ?_) AllReadyH.nil
        go_simp
        go_wp2_with (first | (go_at_call 34; refine (HST.out _).mono ?_; rintro e w7 ⟨rfl, h7⟩; have B7 : Below wa.heap.size wa w7 := Below.trans (by repeat (first | with_reducible exact Below.refl _ _ | with_reducible refine Below.setCell ?_ (by first | omega | (simp; done) | (simp; omega)) _ | with_reducible refine bDrewN ?_ _ | with_reducible refine Below.drew ?_ | with_reducible refine Below.alloc ?_ (by first | omega | (simp; done) | (simp; omega)) _)) (h7.mono (by first | omega | (simp; done) | (simp; omega))); clear h7))
        refine hK.out _ _ (keep5K a0 a1 l0 l1 f0 za zl zf B7) (fun hHeld => ?_)
        clear hK KK
        refine wpAnyH_take (i := 17) (v := .pointer (some ⟨w2.heap.size, k * 2, none⟩)) rfl (by kernel_rfl) (by kernel_rfl) (by kernel_rfl) (fun _ _ _ h => h) (Or.inl ⟨by kernel_rfl, ?_⟩) hHeld ?_
        · intro w' hSw
          obtain ⟨s0, s1, s2, s3, s4⟩ := hSw
          first | (go_simp; done) | (go_simp; with_reducible rfl) | (go_simp; rw [IntKind.wrap_i64]; omega) | (go_simp; omega)
        simp only [Act.put, List.setIfInBounds_toArray, List.set_cons_zero, List.set_cons_succ]
        have s7 := B7.size
        have c70 := (B7.cell (p := ⟨w2.heap.size, k * 2, none⟩) zc).trans g0
        have c71 := (B7.cell (p := ⟨w2.heap.size, k * 2 + 1, none⟩) zc).trans g1
        have f70 := (B7.frozen (p := ⟨w2.heap.size, k * 2, none⟩) zc).trans fz0
        have f71 := (B7.frozen (p := ⟨w2.heap.size, k * 2 + 1, none⟩) zc).trans fz1
        refine wpAnyH_ready (rs := [18]) (by kernel_rfl) (by simp) ?_
        refine AllReadyH.cons rfl (fun KK hK => ?_) AllReadyH.nil
        go_simp
        have HKN : Hid (ClockRow w2 ((w7.setCell ⟨w2.heap.size, k * 2, none⟩ (.int .i64 y)).setCell ⟨w2.heap.size, k * 2 + 1, none⟩ (.bool z)) m (k + 1) (nxC V U O mo)) := by
          have := rowClock_on h1 HK.out (HBA.out.trans (B7.mono HBA.out.size))
          rw [HYZ.out] at this
          exact this
        have BS : Beside w2.heap.size w7 ((w7.setCell ⟨w2.heap.size, k * 2, none⟩ (.int .i64 y)).setCell ⟨w2.heap.size, k * 2 + 1, none⟩ (.bool z)) := (Beside.setCell _ _ _ _).trans (Beside.setCell _ _ _ _)
        obtain ⟨wn, hwn⟩ : ∃ v, v = ((w7.setCell ⟨w2.heap.size, k * 2, none⟩ (.int .i64 y)).setCell ⟨w2.heap.size, k * 2 + 1, none⟩ (.bool z)) := ⟨_, rfl⟩
        have cn0 : wn.cell? ⟨w2.heap.size, k * 2, none⟩ = some (.int .i64 y) := by rw [hwn]; simp [go_sem, c70]
        have cn1 : wn.cell? ⟨w2.heap.size, k * 2 + 1, none⟩ = some (.bool z) := by rw [hwn]; simp [go_sem, c71]
        rw [← hwn] at HKN BS ⊢
        have z7a : wr.heap.size < w7.heap.size := Nat.lt_of_lt_of_le za s7
        have z7l : wr.heap.size + 1 < w7.heap.size := Nat.lt_of_lt_of_le zl s7
        have z7f : f < w7.heap.size := Nat.lt_of_lt_of_le zf s7
        refine hK.out _ _ ⟨(BS.cell (p := ⟨wr.heap.size, 0, none⟩) z7a (by show wr.heap.size ≠ _; omega)).trans hHeld.1, (BS.cell (p := ⟨wr.heap.size, 1, none⟩) z7a (by show wr.heap.size ≠ _; omega)).trans hHeld.2.1, (BS.cell (p := ⟨wr.heap.size + 1, 0, none⟩) z7l (by show wr.heap.size + 1 ≠ _; omega)).trans hHeld.2.2.1, (BS.cell (p := ⟨wr.heap.size + 1, 1, none⟩) z7l (by show wr.heap.size + 1 ≠ _; omega)).trans hHeld.2.2.2.1, (BS.cell (p := ⟨f, x + k, none⟩) z7f (by show f ≠ _; omega)).trans hHeld.2.2.2.2⟩ (fun hHeld => ?_)
        clear hK KK
        refine wpAnyH_done (by kernel_rfl) ?_ _
        have n0 := hHeld.1
        have n1 := hHeld.2.1
        have zn : wr.heap.size < wn.heap.size := Nat.lt_of_lt_of_le z7a BS.2.2.2.1
        have znc : w2.heap.size < wn.heap.size := by omega
        have HBN : Hid (∀ B, B ≤ w2.heap.size → Below B wr wn) := fun B hB => ((HBA.out.trans (B7.mono HBA.out.size)).mono (by omega)).trans (BS.below hB (by omega))
        have HBW : Hid (∀ k, w2.heap.size < k → k < wr.heap.size → wn.heap[k]? = wr.heap[k]?) := fun k hk1 hk2 => (BS.2.2.2.2 k (by omega) (by omega)).trans ((HBA.out.trans (B7.mono HBA.out.size)).block k hk2)
        clear hHeld hwn c70 c71 f70 f71
        have HNN : Hid (wn.ownsRow (w2.heap.size + 1) 36 2 u12 (ntP (whC V U O mo) k).length (ntC (ntP (whC V U O mo) k))) := own_sameC HN.out (fun g hg => HBW.out g (by have := (HN.out.lt g hg).1; omega) (HN.out.lt g hg).2)
        go_upto_region 9 with fail
        refine wp_region_held_drew (S := fun w' => w'.cell? ⟨wr.heap.size, 0, none⟩ = some (.int .i64 r) ∧ w'.cell? ⟨wr.heap.size, 1, none⟩ = some (.bool l) ∧ w'.cell? ⟨w2.heap.size, k * 2, none⟩ = some (.int .i64 y) ∧ w'.cell? ⟨w2.heap.size, k * 2 + 1, none⟩ = some (.bool z)) (by kernel_rfl) ?_ (fun hHeld => ?_)
        · exact keep4K n0 n1 cn0 cn1 zn znc (by repeat (first | with_reducible exact Below.refl _ _ | with_reducible refine Below.setCell ?_ (by first | omega | (simp; done) | (simp; omega)) _ | with_reducible refine bDrewN ?_ _ | with_reducible refine Below.drew ?_ | with_reducible refine Below.alloc ?_ (by first | omega | (simp; done) | (simp; omega)) _))
        refine wpAnyH_take (i := 0) (v := .agg #[.int .i64 r, .bool l]) rfl (by kernel_rfl) (by kernel_rfl) (by kernel_rfl) (fun _ _ _ h => h) (Or.inl ⟨by kernel_rfl, ?_⟩) hHeld ?_
        · intro w' hSw
          obtain ⟨s0, s1, s2, s3⟩ := hSw
          first | (go_simp; done) | (go_simp; with_reducible rfl) | (go_simp; rw [IntKind.wrap_i64]; omega) | (go_simp; omega)
        simp only [Act.put, List.setIfInBounds_toArray, List.set_cons_zero, List.set_cons_succ]
        refine wpAnyH_take (i := 1) (v := .slice (some ⟨w2.heap.size, 0, none⟩) m m) rfl (by kernel_rfl) (by kernel_rfl) (by kernel_rfl) (fun _ _ _ h => h) (Or.inl ⟨by kernel_rfl, ?_⟩) hHeld ?_
        · intro w' hSw
          obtain ⟨s0, s1, s2, s3⟩ := hSw
          first | (go_simp; done) | (go_simp; with_reducible rfl) | (go_simp; rw [IntKind.wrap_i64]; omega) | (go_simp; omega)
        simp only [Act.put, List.setIfInBounds_toArray, List.set_cons_zero, List.set_cons_succ]
        refine wpAnyH_take (i := 2) (v := .int .i64 (k : Int)) rfl (by kernel_rfl) (by kernel_rfl) (by kernel_rfl) (fun _ _ _ h => h) (Or.inl ⟨by kernel_rfl, ?_⟩) hHeld ?_
        · intro w' hSw
          obtain ⟨s0, s1, s2, s3⟩ := hSw
          first | (go_simp; done) | (go_simp; with_reducible rfl) | (go_simp; rw [IntKind.wrap_i64]; omega) | (go_simp; omega)
        simp only [Act.put, List.setIfInBounds_toArray, List.set_cons_zero, List.set_cons_succ]
        refine wpAnyH_take (i := 3) (v := .pointer (some ⟨w2.heap.size, k * 2, none⟩)) rfl (by kernel_rfl) (by kernel_rfl) (by kernel_rfl) (fun _ _ _ h => h) (Or.inl ⟨by kernel_rfl, ?_⟩) hHeld ?_
        · intro w' hSw
          obtain ⟨s0, s1, s2, s3⟩ := hSw
          first | (go_simp; done) | (go_simp; with_reducible rfl) | (go_simp; rw [IntKind.wrap_i64]; omega) | (go_simp; omega)
        simp only [Act.put, List.setIfInBounds_toArray, List.set_cons_zero, List.set_cons_succ]
        refine wpAnyH_take (i := 4) (v := .agg #[.int .i64 y, .bool z]) rfl (by kernel_rfl) (by kernel_rfl) (by kernel_rfl) (fun _ _ _ h => h) (Or.inl ⟨by kernel_rfl, ?_⟩) hHeld ?_
        · intro w' hSw
          obtain ⟨s0, s1, s2, s3⟩ := hSw
          first | (go_simp; done) | (go_simp; with_reducible rfl) | (go_simp; rw [IntKind.wrap_i64]; omega) | (go_simp; omega)
        simp only [Act.put, List.setIfInBounds_toArray, List.set_cons_zero, List.set_cons_succ]
        refine wpAnyH_ready (rs := [5]) (by kernel_rfl) (by simp) ?_
        refine AllReadyH.cons rfl (fun KK hK => ?_) AllReadyH.nil
        go_simp
        go_wp2_with (first | (go_at_call 35; refine (HWT.out _).mono ?_; rintro ev w8 ⟨rfl, h8⟩; have B8 : Below wn.heap.size wn w8 := Below.trans (by repeat (first | with_reducible exact Below.refl _ _ | with_reducible refine Below.setCell ?_ (by first | omega | (simp; done) | (simp; omega)) _ | with_reducible refine bDrewN ?_ _ | with_reducible refine Below.drew ?_ | with_reducible refine Below.alloc ?_ (by first | omega | (simp; done) | (simp; omega)) _)) (h8.mono (by first | omega | (simp; done) | (simp; omega))); clear h8))
        refine hK.out _ _ (keep4K n0 n1 cn0 cn1 zn znc B8) (fun hHeld => ?_)
        clear hK KK
        refine wpAnyH_ready (rs := [6]) (by kernel_rfl) (by simp) ?_
        refine AllReadyH.cons rfl (fun KK hK => ?_) AllReadyH.nil
        go_simp
        refine hK.out _ _ hHeld (fun hHeld => ?_)
        clear hK KK
        refine wpAnyH_done (by kernel_rfl) ?_ _
        clear hHeld
        have HK8 : Hid (ClockRow w2 w8 m (k + 1) (nxC V U O mo)) := HKN.out.far (B8.mono (by omega))
        have HN8 : Hid (w8.ownsRow (w2.heap.size + 1) 36 2 u12 (ntP (whC V U O mo) k).length (ntC (ntP (whC V U O mo) k))) := own_sameC HNN.out (fun g hg => B8.block g (HNN.out.lt g hg).2)
        have z8 : w2.heap.size + 1 ≤ w8.heap.size := by have := B8.size; omega
        clear n0 n1 cn0 cn1 g0 g1 fz0 fz1
        by_cases wz : wt = 0
        · have HP0 : Hid (ntP (whC V U O mo) (k + 1) = ntP (whC V U O mo) k) := HPT.out.trans (if_pos wz)
          subst wz
          go_wp2
          go_roundw
          case rel => exact ⟨k + 1, by omega, by go_num, HK8, by rw [HP0.out]; exact HN8, z8⟩
          case measure => first | (simp [intOf]; done) | (simp [intOf]; omega)
        · have HP0 : Hid (ntP (whC V U O mo) (k + 1) = ntP (whC V U O mo) k ++ [((k : Int), wt)]) := HPT.out.trans (if_neg wz)
          have wzb : (wt == 0) = false := beq_eq_false_iff_ne.2 wz
          have hl6 : (ntP (whC V U O mo) k).length ≤ 60 := by omega
          go_wp2_with (at_builtin; refine list_Note (w2.heap.size + 1) u12 (ntP (whC V U O mo) k).length (ntC (ntP (whC V U O mo) k)) (.tmp 74) (.tmp 78) (by rfl) (by rfl) (by rfl) (by rfl) HN8.out (by omega) (by omega) ?_; intro g' cap' w9 hown9 hgrow9 hlt9 hat9; have B9 : Below (w2.heap.size + 1) w8 w9 := grown_below hgrow9 (by omega) (own_block HN8.out); have s9 := B9.size; clear hgrow9)
          have HK9 : Hid (ClockRow w2 w9 m (k + 1) (nxC V U O mo)) := HK8.out.far B9
          go_roundw
          case rel =>
            refine ⟨k + 1, by omega, by go_num, HK9, ?_, by omega⟩
            show World.ownsRow _ _ _ _ _ _ _
            rw [HP0.out, ntC_app, List.length_append]
            exact hown9
          case measure => first | (simp [intOf]; done) | (simp [intOf]; omega)
    · obtain rfl : k = m := by omega
      obtain ⟨t', d', hv, hOn⟩ := own_Note HN.out
      subst hv
      have HOC : Hid (OwnClock w.heap.size wr (some ⟨w2.heap.size, 0, none⟩) k (nxC V U O mo)) := HK.out.own zw
      have HON : Hid (OwnNote w.heap.size wr t' (ntP (whC V U O mo) k).length (fun j => (ntP (whC V U O mo) k).getD j (0, 0))) := hOn.mono (by omega)
      have HDD : Hid (∀ b b', some (⟨w2.heap.size, 0, none⟩ : Addr) = some ⟨b, 0, none⟩ → t' = some ⟨b', 0, none⟩ → b ≠ b') := by
        intro b b' e1 e2
        cases e1
        have := (HN.out.lt b' (by rw [e2]; rfl)).1
        omega
      clear hOn
      go_wp2
      exact bodyPost_ret (v := .tuple #[.slice (some ⟨w2.heap.size, 0, none⟩) k k, .slice t' (ntP (whC V U O mo) k).length d', .bool true]) (by simp [results, Tryd.results9, go_sem]) rfl (ck_yes HZ.out rfl HOC.out HON.out HDD.out hB)
end Go.Proofs.YtmoeoepinlcmdaaDoor
