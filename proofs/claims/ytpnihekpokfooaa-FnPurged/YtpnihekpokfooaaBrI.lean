/-
What is proved: a burner's run, as the program takes it.
-/
import Derived.Test.YtpnihekpokfooaaBuI
import Derived.Test.YtpnihekpokfooaaBrT
import Derived.Test.YtpnihekpokfooaaBrP
import Derived.Deep.RegionHeld3
import Derived.Deep.DeepCutAuto
namespace Go.Proofs.Ytpnihekpokfooaa
set_option maxRecDepth 40000
open Go.RowKit
set_option linter.unusedVariables false
set_option linter.unusedSimpArgs false

set_option maxRecDepth 20000 in
set_option maxHeartbeats 4000000 in
theorem implRun_no (s t r : Int) (sl : Option Addr) (n c : Nat) (V : Nat → Bool) (w : World) (hn : (n : Int) ≤ 1048576) (h : rgB (s, t, r) n = false) : Calls Try.prog 20 #[.agg #[.int .i64 s, .int .i64 t, .int .i64 r], .slice sl n c] w fun e w' => RunPost s t r n V w e w' := by
  have HN : Hid (rnN (s, t, r) n = 0 ∧ rnB (s, t, r) V n = (0, 0, 0) ∧ rgB (s, t, r) n = false) := ⟨by simp [rnN, h], by simp [rnB, h], h⟩
  go_enter Try.func20, Try.ntmps20
  go_wp2_with fail
  refine (implOk_any s t r _).mono ?_
  rintro e w1 ⟨rfl, h1⟩
  obtain ⟨hc, hf⟩ := bcell h1
  have q0 := hc (w.heap.size + 1) 0 (by first | omega | (simp; done) | (simp; omega))
  have f0 := hf (w.heap.size + 1) 0 (by first | omega | (simp; done) | (simp; omega))
  have q1 := hc (w.heap.size + 1) 1 (by first | omega | (simp; done) | (simp; omega))
  have f1 := hf (w.heap.size + 1) 1 (by first | omega | (simp; done) | (simp; omega))
  have q2 := hc (w.heap.size + 1) 2 (by first | omega | (simp; done) | (simp; omega))
  have f2 := hf (w.heap.size + 1) 2 (by first | omega | (simp; done) | (simp; omega))
  simp [go_sem] at q0 f0 q1 f1 q2 f2
  have B1 : Below w.heap.size w w1 := Below.trans (by repeat (first | with_reducible exact Below.refl _ _ | with_reducible refine Below.setCell ?_ (by first | omega | (simp; done) | (simp; omega)) _ | with_reducible refine bDrewN ?_ _ | with_reducible refine Below.drew ?_ | with_reducible refine Below.alloc ?_ (by first | omega | (simp; done) | (simp; omega)) _)) (h1.mono (by first | omega | (simp; done) | (simp; omega)))
  have z1 : w.heap.size + 1 < w1.heap.size := by have := h1.size; simp at this; omega
  clear hc hf h1
  cases k0 : okB s t r
  · go_wp2
    exact bodyPost_ret (v := .tuple #[.slice none 0 0, .agg #[.int .i64 0, .int .i64 0, .int .i64 0], .bool false]) (by simp [results, Try.results20, go_sem, q0, q1, q2]) rfl (runPost_of none 0 (by rw [HN.out.1, HN.out.2.1, HN.out.2.2]) (by rw [HN.out.1]; exact fun j hj => by omega) (by repeat (first | with_reducible exact Below.refl _ _ | with_reducible exact B1 | with_reducible refine Below.setCell ?_ (by first | omega | (simp; done) | (simp; omega)) _ | with_reducible refine bDrewN ?_ _ | with_reducible refine Below.drew ?_ | with_reducible refine Below.alloc ?_ (by first | omega | (simp; done) | (simp; omega)) _)))
  · have b1 : (1000 : Int) < (n : Int) := by
      unfold rgB at h; simp only [k0, Bool.true_and] at h
      have := of_decide_eq_false h; omega
    clear h
    go_wp2
    exact bodyPost_ret (v := .tuple #[.slice none 0 0, .agg #[.int .i64 0, .int .i64 0, .int .i64 0], .bool false]) (by simp [results, Try.results20, go_sem, q0, q1, q2]) rfl (runPost_of none 0 (by rw [HN.out.1, HN.out.2.1, HN.out.2.2]) (by rw [HN.out.1]; exact fun j hj => by omega) (by repeat (first | with_reducible exact Below.refl _ _ | with_reducible exact B1 | with_reducible refine Below.setCell ?_ (by first | omega | (simp; done) | (simp; omega)) _ | with_reducible refine bDrewN ?_ _ | with_reducible refine Below.drew ?_ | with_reducible refine Below.alloc ?_ (by first | omega | (simp; done) | (simp; omega)) _)))
set_option maxRecDepth 20000 in
set_option maxHeartbeats 16000000 in
theorem implRun_yes (s t r : Int) (sl : Option Addr) (n c : Nat) (V : Nat → Bool) (w : World) (hn : (n : Int) ≤ 1048576) (h : rgB (s, t, r) n = true) (HR : Hid (RowB w sl (n * 6) V)) : Calls Try.prog 20 #[.agg #[.int .i64 s, .int .i64 t, .int .i64 r], .slice sl n c] w fun e w' => RunPost s t r n V w e w' := by
  have hk : okB s t r = true ∧ n ≤ 1000 := by unfold rgB at h; simpa using h
  have HN : Hid (rnN (s, t, r) n = n ∧ rnB (s, t, r) V n = itR (s, t, r) V n ∧ rgB (s, t, r) n = true) := ⟨by simp [rnN, h], by simp [rnB, h], h⟩
  have HK : Hid (∀ k, okB (itR (s, t, r) V k).1 (itR (s, t, r) V k).2.1 (itR (s, t, r) V k).2.2 = true) := itR_ok hk.1
  obtain ⟨h0, h1000⟩ := hk
  have n1000 : (n : Int) ≤ 1000 := by omega
  have hmk := make_Out n (by omega)
  clear h
  obtain ⟨U, hU⟩ : ∃ U, outU (s, t, r) V = U := ⟨_, rfl⟩
  have HU : Hid (∀ k, U (k * 3) = fanB (itR (s, t, r) V (k + 1)).1 ∧ U (k * 3 + 1) = sparkB (itR (s, t, r) V (k + 1)).1 ∧ U (k * 3 + 2) = valveB (itR (s, t, r) V (k + 1)).1) := fun k => by rw [← hU]; exact ⟨outU0 _ _ _, outU1 _ _ _, outU2 _ _ _⟩
  have HUU : Hid (outU (s, t, r) V = U) := hU
  clear hU
  go_enter Try.func20, Try.ntmps20
  go_wp2_with fail
  refine (implOk_any s t r _).mono ?_
  rintro e w1 ⟨rfl, h1⟩
  rw [h0]
  have A1 : Hid (BurAt w1 w.heap.size (s, t, r)) := by
    show BurAt _ _ _
    refine BurAt.below (w := (w.alloc (.cells #[.int .i64 s, .int .i64 t, .int .i64 r] 25)).alloc (.cells #[.int .i64 0, .int .i64 0, .int .i64 0] 25)) ?_ h1
    refine ⟨by simp; omega, ⟨?_, ?_, ?_⟩, ?_, ?_, ?_⟩ <;> simp [go_sem]
  have R1 : Hid (BurAt w1 (w.heap.size + 1) (0, 0, 0)) := by
    show BurAt _ _ _
    refine BurAt.below (w := (w.alloc (.cells #[.int .i64 s, .int .i64 t, .int .i64 r] 25)).alloc (.cells #[.int .i64 0, .int .i64 0, .int .i64 0] 25)) ?_ h1
    refine ⟨by simp, ⟨?_, ?_, ?_⟩, ?_, ?_, ?_⟩ <;> simp [go_sem]
  have B1 : Hid (Below w.heap.size w w1) := Below.trans (by repeat (first | with_reducible exact Below.refl _ _ | with_reducible refine Below.setCell ?_ (by first | omega | (simp; done) | (simp; omega)) _ | with_reducible refine bDrewN ?_ _ | with_reducible refine Below.drew ?_ | with_reducible refine Below.alloc ?_ (by first | omega | (simp; done) | (simp; omega)) _)) (h1.mono (by first | omega | (simp; done) | (simp; omega)))
  have z1 : w.heap.size + 1 < w1.heap.size := R1.out.1
  clear h1 h0
  go_upto_region 3 with fail
  go_cut [7, 8] (fun a b wx => ∃ bt bo base top, a = .slice (some ⟨bt, 0, none⟩) 16 16 ∧ b = .slice (some ⟨bo, 0, none⟩) n n ∧ TabG base top wx bt ∧ OutAt wx bo n 0 U ∧ (bo < base ∨ top ≤ bo) ∧ w1.heap.size ≤ base ∧ w1.heap.size ≤ bo ∧ Below w1.heap.size w1 wx)
  case first =>
    go_region_with (first
      | (go_at_call 38; refine (tableG_any _).mono ?_; rintro e w5 ⟨bt, rfl, TB, h5⟩; have HT : Hid (TabG _ w5.heap.size w5 bt) := TB; have H5 : Hid (Below _ _ w5) := h5; have s5 := h5.size; (try simp at s5); clear TB h5))
    all_goals
      go_wp2_with fail
      go_meet
      case rel =>
        first
          | exact ⟨bt, w5.heap.size, w1.heap.size, w5.heap.size, rfl, rfl, HT.out.below (by repeat (first | with_reducible exact Below.refl _ _ | with_reducible refine Below.setCell ?_ (by first | omega | (simp; done) | (simp; omega)) _ | with_reducible refine bDrewN ?_ _ | with_reducible refine Below.drew ?_ | with_reducible refine Below.alloc ?_ (by first | omega | (simp; done) | (simp; omega)) _)), outAt_new _ _ _ _, Or.inr (Nat.le_refl _), Nat.le_refl _, by omega, (Below.trans (Below.trans (by repeat (first | with_reducible exact Below.refl _ _ | with_reducible refine Below.setCell ?_ (by first | omega | (simp; done) | (simp; omega)) _ | with_reducible refine bDrewN ?_ _ | with_reducible refine Below.drew ?_ | with_reducible refine Below.alloc ?_ (by first | omega | (simp; done) | (simp; omega)) _)) (H5.out.mono (by first | omega | (simp; done) | (simp; omega)))) (Below.mono (by repeat (first | with_reducible exact Below.refl _ _ | with_reducible refine Below.setCell ?_ (by first | omega | (simp; done) | (simp; omega)) _ | with_reducible refine bDrewN ?_ _ | with_reducible refine Below.drew ?_ | with_reducible refine Below.alloc ?_ (by first | omega | (simp; done) | (simp; omega)) _)) (by first | omega | (simp; done) | (simp; omega))))⟩
          | exact ⟨bt, w1.heap.size, w1.heap.size + 1, w5.heap.size, rfl, rfl, (by have := HT.out; simpa using this), (outAt_new w1.drew n U 31).below H5.out, Or.inl (by omega), by omega, Nat.le_refl _, (Below.trans (by repeat (first | with_reducible exact Below.refl _ _ | with_reducible refine Below.setCell ?_ (by first | omega | (simp; done) | (simp; omega)) _ | with_reducible refine bDrewN ?_ _ | with_reducible refine Below.drew ?_ | with_reducible refine Below.alloc ?_ (by first | omega | (simp; done) | (simp; omega)) _)) (H5.out.mono (by first | omega | (simp; done) | (simp; omega))))⟩
  case rest =>
  obtain ⟨bt, bo, base, top, rfl, rfl, TG, OA, ho, hb1, hb2, h2⟩ := hcut
  rename World => w2
  have A2 : Hid (BurAt w2 w.heap.size (itR (s, t, r) V 0)) := A1.out.below h2
  have R2 : Hid (BurAt w2 (w.heap.size + 1) (0, 0, 0)) := R1.out.below h2
  have B2 : Hid (Below w.heap.size w w2) := B1.out.trans (h2.mono B1.out.size)
  have T2 : Hid (TabG base top w2 bt) := TG
  have O2 : Hid (OutAt w2 bo n 0 U) := OA
  clear TG OA h2 A1 R1 B1
  go_wp2_with fail
  go_loopw [26] (fun i wr => ∃ k : Nat, k ≤ n ∧ i = .int .i64 k ∧ Hid (BurAt wr w.heap.size (itR (s, t, r) V k)) ∧ Hid (BurAt wr (w.heap.size + 1) (0, 0, 0)) ∧ Hid (TabG base top wr bt) ∧ Hid (OutAt wr bo n k U) ∧ Hid (Below w.heap.size w wr)) (fun i _ => n - (intOf i).toNat)
  case atStart => exact ⟨0, Nat.zero_le _, rfl, A2.out, R2.out, T2.out, O2.out, B2.out⟩
  case round =>
    obtain ⟨k, hk, rfl, HA, HRS, HT, HO, HB⟩ := hrel
    by_cases h1 : k < n
    case pos =>
      obtain ⟨g, o, rfl, hg0, c0⟩ := HR.out (k * 6) (by omega)
      obtain ⟨g', o', e', hg1, c1⟩ := HR.out (k * 6 + 1) (by omega)
      cases e'
      obtain ⟨g', o', e', hg2, c2⟩ := HR.out (k * 6 + 2) (by omega)
      cases e'
      obtain ⟨g', o', e', hg3, c3⟩ := HR.out (k * 6 + 3) (by omega)
      cases e'
      obtain ⟨g', o', e', hg4, c4⟩ := HR.out (k * 6 + 4) (by omega)
      cases e'
      obtain ⟨g', o', e', hg5, c5⟩ := HR.out (k * 6 + 5) (by omega)
      cases e'
      have d0 : wr.cell? ⟨g, o + k * 6, none⟩ = some (.bool (V (k * 6))) := (HB.out.cell (p := ⟨g, o + (k * 6), none⟩) hg0).trans c0
      have d1 : wr.cell? ⟨g, o + k * 6 + 1, none⟩ = some (.bool (V (k * 6 + 1))) := (HB.out.cell (p := ⟨g, o + (k * 6 + 1), none⟩) hg1).trans c1
      have d2 : wr.cell? ⟨g, o + k * 6 + 2, none⟩ = some (.bool (V (k * 6 + 2))) := (HB.out.cell (p := ⟨g, o + (k * 6 + 2), none⟩) hg2).trans c2
      have d3 : wr.cell? ⟨g, o + k * 6 + 3, none⟩ = some (.bool (V (k * 6 + 3))) := (HB.out.cell (p := ⟨g, o + (k * 6 + 3), none⟩) hg3).trans c3
      have d4 : wr.cell? ⟨g, o + k * 6 + 4, none⟩ = some (.bool (V (k * 6 + 4))) := (HB.out.cell (p := ⟨g, o + (k * 6 + 4), none⟩) hg4).trans c4
      have d5 : wr.cell? ⟨g, o + k * 6 + 5, none⟩ = some (.bool (V (k * 6 + 5))) := (HB.out.cell (p := ⟨g, o + (k * 6 + 5), none⟩) hg5).trans c5
      have zg : g < wr.heap.size := Nat.lt_of_lt_of_le hg0 HB.out.size
      have k1 : (k : Int) < (n : Int) := by omega
      have HX : Hid (∀ b w, TabAt w b → Calls Try.prog 37 #[.slice (some ⟨b, 0, none⟩) 16 16, .agg #[.int .i64 (itR (s, t, r) V k).1, .int .i64 (itR (s, t, r) V k).2.1, .int .i64 (itR (s, t, r) V k).2.2], .agg #[.bool (V (k * 6)), .bool (V (k * 6 + 1)), .bool (V (k * 6 + 2)), .bool (V (k * 6 + 3)), .bool (V (k * 6 + 4)), .bool (V (k * 6 + 5))]] w fun e w' => e = .returned (.agg #[.int .i64 (itR (s, t, r) V (k + 1)).1, .int .i64 (itR (s, t, r) V (k + 1)).2.1, .int .i64 (itR (s, t, r) V (k + 1)).2.2]) ∧ Below w.heap.size w w') := fun b w hb => behind_any b _ _ _ _ _ _ _ _ _ w (HK.out k) hb
      have HD : Hid (∀ w, Calls Try.prog 39 #[.agg #[.int .i64 (itR (s, t, r) V (k + 1)).1, .int .i64 (itR (s, t, r) V (k + 1)).2.1, .int .i64 (itR (s, t, r) V (k + 1)).2.2]] w fun e w' => e = .returned (.agg #[.bool (U (k * 3)), .bool (U (k * 3 + 1)), .bool (U (k * 3 + 2))]) ∧ Below w.heap.size w w') := fun w => by rw [(HU.out k).1, (HU.out k).2.1, (HU.out k).2.2]; exact does_any _ _ _ w
      obtain ⟨u0, hu0⟩ : ∃ u, V (k * 6) = u := ⟨_, rfl⟩
      rw [hu0] at d0 HX
      obtain ⟨u1, hu1⟩ : ∃ u, V (k * 6 + 1) = u := ⟨_, rfl⟩
      rw [hu1] at d1 HX
      obtain ⟨u2, hu2⟩ : ∃ u, V (k * 6 + 2) = u := ⟨_, rfl⟩
      rw [hu2] at d2 HX
      obtain ⟨u3, hu3⟩ : ∃ u, V (k * 6 + 3) = u := ⟨_, rfl⟩
      rw [hu3] at d3 HX
      obtain ⟨u4, hu4⟩ : ∃ u, V (k * 6 + 4) = u := ⟨_, rfl⟩
      rw [hu4] at d4 HX
      obtain ⟨u5, hu5⟩ : ∃ u, V (k * 6 + 5) = u := ⟨_, rfl⟩
      rw [hu5] at d5 HX
      clear hu0 c0 hg0 hu1 c1 hg1 hu2 c2 hg2 hu3 c3 hg3 hu4 c4 hg4 hu5 c5 hg5
      obtain ⟨⟨x0, x1, x2⟩, hx⟩ : ∃ x, itR (s, t, r) V k = x := ⟨_, rfl⟩
      obtain ⟨⟨y0, y1, y2⟩, hy⟩ : ∃ y, itR (s, t, r) V (k + 1) = y := ⟨_, rfl⟩
      rw [hx] at HX HA
      rw [hy] at HX HD
      have HY : Hid (itR (s, t, r) V (k + 1) = (y0, y1, y2)) := hy
      clear hx hy
      obtain ⟨o0, ho0⟩ : ∃ o, U (k * 3) = o := ⟨_, rfl⟩
      obtain ⟨o1, ho1⟩ : ∃ o, U (k * 3 + 1) = o := ⟨_, rfl⟩
      obtain ⟨o2, ho2⟩ : ∃ o, U (k * 3 + 2) = o := ⟨_, rfl⟩
      rw [ho0, ho1, ho2] at HD
      have E0 : Hid (o0 = U (k * 3) ∧ o1 = U (k * 3 + 1) ∧ o2 = U (k * 3 + 2)) := ⟨ho0.symm, ho1.symm, ho2.symm⟩
      clear ho0 ho1 ho2
      obtain ⟨zb, ⟨a0, a1, a2⟩, -⟩ := HA.out
      go_wp2_with fail
      refine (HX.out bt _ ((HT.out.below (by repeat (first | with_reducible exact Below.refl _ _ | with_reducible refine Below.setCell ?_ (by first | omega | (simp; done) | (simp; omega)) _ | with_reducible refine bDrewN ?_ _ | with_reducible refine Below.drew ?_ | with_reducible refine Below.alloc ?_ (by first | omega | (simp; done) | (simp; omega)) _))).at)).mono ?_
      rintro e w3 ⟨rfl, h3⟩
      have hb3 : Below wr.heap.size wr w3 := Below.trans (by repeat (first | with_reducible exact Below.refl _ _ | with_reducible refine Below.setCell ?_ (by first | omega | (simp; done) | (simp; omega)) _ | with_reducible refine bDrewN ?_ _ | with_reducible refine Below.drew ?_ | with_reducible refine Below.alloc ?_ (by first | omega | (simp; done) | (simp; omega)) _)) (h3.mono (by first | omega | (simp; done) | (simp; omega)))
      have A3 : Hid (BurAt w3 w.heap.size (x0, x1, x2)) := HA.out.below hb3
      have R3 : Hid (BurAt w3 (w.heap.size + 1) (0, 0, 0)) := HRS.out.below hb3
      have T3 : Hid (TabG base top w3 bt) := HT.out.below hb3
      have O3 : Hid (OutAt w3 bo n k U) := HO.out.below hb3
      have B3 : Hid (Below w.heap.size w w3) := HB.out.trans (hb3.mono HB.out.size)
      clear h3 hb3 a0 a1 a2 zb d0 d1 d2 d3 d4 d5
      obtain ⟨zb, ⟨a0, a1, a2⟩, f0, f1, f2⟩ := A3.out
      go_wp2_with fail
      refine (HD.out _).mono ?_
      rintro e w4 ⟨rfl, h4⟩
      have A4 : Hid (BurAt w4 w.heap.size (y0, y1, y2)) := A3.out.put.below h4
      have R4 : Hid (BurAt w4 (w.heap.size + 1) (0, 0, 0)) := (R3.out.beside (beside3 w.heap.size _ 0 1 2 _ _ _) (by omega)).below h4
      have T4 : Hid (TabG base top w4 bt) := (T3.out.set3 (Or.inl (by omega))).below h4
      have O4 : Hid (OutAt w4 bo n k U) := (O3.out.beside (beside3 w.heap.size _ 0 1 2 _ _ _) (by omega)).below h4
      have B4 : Hid (Below w.heap.size w w4) := (B3.out.trans ((beside3 w.heap.size _ 0 1 2 _ _ _).below (Nat.le_refl _) B3.out.size)).trans (h4.mono (by have := B3.out.size; simpa using this))
      clear h4 a0 a1 a2 f0 f1 f2 zb A3 R3 T3 O3 B3
      obtain ⟨zo, fo, co⟩ := O4.out
      have e0 := co (k * 3) (by omega)
      have e1 := co (k * 3 + 1) (by omega)
      have e2 := co (k * 3 + 2) (by omega)
      have g0 := fo (k * 3)
      have g1 := fo (k * 3 + 1)
      have g2 := fo (k * 3 + 2)
      clear co fo
      go_wp2
      go_roundw
      case rel => exact ⟨k + 1, by omega, by go_num, (by rw [HY.out]; exact A4.out.beside (beside3 bo _ _ _ _ _ _ _) (by omega)), R4.out.beside (beside3 bo _ _ _ _ _ _ _) (by omega), T4.out.beside (beside3 bo _ _ _ _ _ _ _) (by omega), O4.out.on E0.out.1 E0.out.2.1 E0.out.2.2, (B4.out.trans ((beside3 bo _ _ _ _ _ _ _).below (by omega) B4.out.size))⟩
      case measure => simp [intOf]; omega
    case neg =>
      obtain rfl : k = n := by omega
      obtain ⟨⟨x0, x1, x2⟩, hx⟩ : ∃ x, itR (s, t, r) V k = x := ⟨_, rfl⟩
      rw [hx] at HA HN
      clear hx
      obtain ⟨zb, ⟨a0, a1, a2⟩, -⟩ := HA.out
      obtain ⟨zr, ⟨r0, r1, r2⟩, f0, f1, f2⟩ := HRS.out
      go_upto_region 10 with fail
      go_region
      all_goals
        go_wp2
        exact bodyPost_ret (v := .tuple #[.slice (some ⟨bo, 0, none⟩) k k, .agg #[.int .i64 x0, .int .i64 x1, .int .i64 x2], .bool true]) (by simp [results, Try.results20, go_sem, *]) rfl (runPost_of (some ⟨bo, 0, none⟩) k (by rw [HN.out.1, HN.out.2.1, HN.out.2.2]) (by rw [HN.out.1, HUU.out]; first | exact ((HO.out.beside (beside3 (w.heap.size + 1) _ 0 1 2 _ _ _) (by omega)).below (by repeat (first | with_reducible exact Below.refl _ _ | with_reducible refine Below.setCell ?_ (by first | omega | (simp; done) | (simp; omega)) _ | with_reducible refine bDrewN ?_ _ | with_reducible refine Below.drew ?_ | with_reducible refine Below.alloc ?_ (by first | omega | (simp; done) | (simp; omega)) _))).own (by omega) | exact ((HO.out.below (by repeat (first | with_reducible exact Below.refl _ _ | with_reducible refine Below.setCell ?_ (by first | omega | (simp; done) | (simp; omega)) _ | with_reducible refine bDrewN ?_ _ | with_reducible refine Below.drew ?_ | with_reducible refine Below.alloc ?_ (by first | omega | (simp; done) | (simp; omega)) _))).beside (beside3 (w.heap.size + 1) _ 0 1 2 _ _ _) (by omega)).own (by omega)) (by have B5 := HB.out; exact (by repeat (first | with_reducible exact Below.refl _ _ | with_reducible exact B5 | with_reducible refine Below.setCell ?_ (by first | omega | (simp; done) | (simp; omega)) _ | with_reducible refine bDrewN ?_ _ | with_reducible refine Below.drew ?_ | with_reducible refine Below.alloc ?_ (by first | omega | (simp; done) | (simp; omega)) _))))
theorem implRun_any (s t r : Int) (sl : Option Addr) (n c : Nat) (V : Nat → Bool) (w : World) (hn : (n : Int) ≤ 1048576) (HR : Hid (RowB w sl (n * 6) V)) : Calls Try.prog 20 #[.agg #[.int .i64 s, .int .i64 t, .int .i64 r], .slice sl n c] w fun e w' => RunPost s t r n V w e w' := by
  cases h : rgB (s, t, r) n
  · exact implRun_no s t r sl n c V w hn h
  · exact implRun_yes s t r sl n c V w hn h HR
end Go.Proofs.Ytpnihekpokfooaa
