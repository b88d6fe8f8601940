/-
What is proved: a burner's step, as the program tells it.
-/
import Derived.Test.YtpnihekpokfooaaBuB
import Derived.Test.YtpnihekpokfooaaBuN
import Derived.Deep.RegionHeld3
import Derived.Deep.DeepCutAuto
namespace Go.Proofs.Ytpnihekpokfooaa
set_option maxRecDepth 40000
open Go.RowKit
set_option linter.unusedVariables false
set_option linter.unusedSimpArgs false

theorem keep9 {W W' : World} {p q : Nat} {vp0 vp1 vp2 vq0 vq1 vq2 vq3 vq4 vq5 : Value} (hp0 : W.cell? ⟨p, 0, none⟩ = some vp0) (hp1 : W.cell? ⟨p, 1, none⟩ = some vp1) (hp2 : W.cell? ⟨p, 2, none⟩ = some vp2) (hq0 : W.cell? ⟨q, 0, none⟩ = some vq0) (hq1 : W.cell? ⟨q, 1, none⟩ = some vq1) (hq2 : W.cell? ⟨q, 2, none⟩ = some vq2) (hq3 : W.cell? ⟨q, 3, none⟩ = some vq3) (hq4 : W.cell? ⟨q, 4, none⟩ = some vq4) (hq5 : W.cell? ⟨q, 5, none⟩ = some vq5) (zp : p < W.heap.size) (zq : q < W.heap.size) (hb : Below W.heap.size W W') : W'.cell? ⟨p, 0, none⟩ = some vp0 ∧ W'.cell? ⟨p, 1, none⟩ = some vp1 ∧ W'.cell? ⟨p, 2, none⟩ = some vp2 ∧ W'.cell? ⟨q, 0, none⟩ = some vq0 ∧ W'.cell? ⟨q, 1, none⟩ = some vq1 ∧ W'.cell? ⟨q, 2, none⟩ = some vq2 ∧ W'.cell? ⟨q, 3, none⟩ = some vq3 ∧ W'.cell? ⟨q, 4, none⟩ = some vq4 ∧ W'.cell? ⟨q, 5, none⟩ = some vq5 :=
  ⟨(hb.cell (p := ⟨p, 0, none⟩) zp).trans hp0, (hb.cell (p := ⟨p, 1, none⟩) zp).trans hp1, (hb.cell (p := ⟨p, 2, none⟩) zp).trans hp2, (hb.cell (p := ⟨q, 0, none⟩) zq).trans hq0, (hb.cell (p := ⟨q, 1, none⟩) zq).trans hq1, (hb.cell (p := ⟨q, 2, none⟩) zq).trans hq2, (hb.cell (p := ⟨q, 3, none⟩) zq).trans hq3, (hb.cell (p := ⟨q, 4, none⟩) zq).trans hq4, (hb.cell (p := ⟨q, 5, none⟩) zq).trans hq5⟩
set_option maxHeartbeats 2000000 in
theorem does_any (s t r : Int) (w : World) : Calls Try.prog 39 #[.agg #[.int .i64 s, .int .i64 t, .int .i64 r]] w fun e w' => e = .returned (.agg #[.bool (fanB s), .bool (sparkB s), .bool (valveB s)]) ∧ Below w.heap.size w w' := by
  by_cases e1 : s = 1
  · subst e1
    go_enter Try.func39, Try.ntmps39
    go_wp2
    exact bodyPost_ret (v := .agg #[.bool true, .bool false, .bool false]) (by simp [results, Try.results39, go_sem]) rfl ⟨rfl, (by repeat (first | with_reducible exact Below.refl _ _ | with_reducible refine Below.setCell ?_ (by first | omega | (simp; done) | (simp; omega)) _ | with_reducible refine bDrewN ?_ _ | with_reducible refine Below.drew ?_ | with_reducible refine Below.alloc ?_ (by first | omega | (simp; done) | (simp; omega)) _))⟩
  by_cases e2 : s = 2
  · subst e2
    go_enter Try.func39, Try.ntmps39
    go_wp2
    exact bodyPost_ret (v := .agg #[.bool true, .bool true, .bool true]) (by simp [results, Try.results39, go_sem]) rfl ⟨rfl, (by repeat (first | with_reducible exact Below.refl _ _ | with_reducible refine Below.setCell ?_ (by first | omega | (simp; done) | (simp; omega)) _ | with_reducible refine bDrewN ?_ _ | with_reducible refine Below.drew ?_ | with_reducible refine Below.alloc ?_ (by first | omega | (simp; done) | (simp; omega)) _))⟩
  by_cases e3 : s = 3
  · subst e3
    go_enter Try.func39, Try.ntmps39
    go_wp2
    exact bodyPost_ret (v := .agg #[.bool true, .bool false, .bool true]) (by simp [results, Try.results39, go_sem]) rfl ⟨rfl, (by repeat (first | with_reducible exact Below.refl _ _ | with_reducible refine Below.setCell ?_ (by first | omega | (simp; done) | (simp; omega)) _ | with_reducible refine bDrewN ?_ _ | with_reducible refine Below.drew ?_ | with_reducible refine Below.alloc ?_ (by first | omega | (simp; done) | (simp; omega)) _))⟩
  have b1 : (s == 1) = false := by simpa using e1
  have b2 : (s == 2) = false := by simpa using e2
  have b3 : (s == 3) = false := by simpa using e3
  have HF : Hid (fanB s = false ∧ sparkB s = false ∧ valveB s = false) := show _ ∧ _ ∧ _ by simp [fanB, sparkB, valveB, e1, e2, e3]
  go_enter Try.func39, Try.ntmps39
  go_wp2
  exact bodyPost_ret (v := .agg #[.bool false, .bool false, .bool false]) (by simp [results, Try.results39, go_sem]) rfl ⟨by rw [HF.out.1, HF.out.2.1, HF.out.2.2], (by repeat (first | with_reducible exact Below.refl _ _ | with_reducible refine Below.setCell ?_ (by first | omega | (simp; done) | (simp; omega)) _ | with_reducible refine bDrewN ?_ _ | with_reducible refine Below.drew ?_ | with_reducible refine Below.alloc ?_ (by first | omega | (simp; done) | (simp; omega)) _))⟩
set_option maxRecDepth 20000 in
set_option maxHeartbeats 8000000 in
theorem implStep_no (s t r : Int) (air gas fl st sp rs : Bool) (w : World) (h : okB s t r = false) : Calls Try.prog 14 #[.agg #[.int .i64 s, .int .i64 t, .int .i64 r], .agg #[.bool air, .bool gas, .bool fl, .bool st, .bool sp, .bool rs]] w fun e w' => e = .returned (.tuple #[.agg #[.int .i64 (stN s t r air gas fl st sp rs).1, .int .i64 (stN s t r air gas fl st sp rs).2.1, .int .i64 (stN s t r air gas fl st sp rs).2.2], .agg #[.bool (stF s t r air gas fl st sp rs), .bool (stS s t r air gas fl st sp rs), .bool (stV s t r air gas fl st sp rs)], .bool (okB s t r)]) ∧ Below w.heap.size w w' := by
  have HN : Hid (stN s t r air gas fl st sp rs = (0, 0, 0) ∧ stF s t r air gas fl st sp rs = false ∧ stS s t r air gas fl st sp rs = false ∧ stV s t r air gas fl st sp rs = false ∧ okB s t r = false) := ⟨by simp [stN, h], by simp [stF, h], by simp [stS, h], by simp [stV, h], h⟩
  go_enter Try.func14, Try.ntmps14
  go_wp2_with fail
  refine (implOk_any s t r _).mono ?_
  rintro e w1 ⟨rfl, h1⟩
  rw [h]
  obtain ⟨hc, hf⟩ := bcell h1
  have q0 := hc (w.heap.size + 1 + 1) 0 (by first | omega | (simp; done) | (simp; omega))
  have f0 := hf (w.heap.size + 1 + 1) 0 (by first | omega | (simp; done) | (simp; omega))
  have k0 := hc (w.heap.size + 1 + 1 + 1) 0 (by first | omega | (simp; done) | (simp; omega))
  have g0 := hf (w.heap.size + 1 + 1 + 1) 0 (by first | omega | (simp; done) | (simp; omega))
  have q1 := hc (w.heap.size + 1 + 1) 1 (by first | omega | (simp; done) | (simp; omega))
  have f1 := hf (w.heap.size + 1 + 1) 1 (by first | omega | (simp; done) | (simp; omega))
  have k1 := hc (w.heap.size + 1 + 1 + 1) 1 (by first | omega | (simp; done) | (simp; omega))
  have g1 := hf (w.heap.size + 1 + 1 + 1) 1 (by first | omega | (simp; done) | (simp; omega))
  have q2 := hc (w.heap.size + 1 + 1) 2 (by first | omega | (simp; done) | (simp; omega))
  have f2 := hf (w.heap.size + 1 + 1) 2 (by first | omega | (simp; done) | (simp; omega))
  have k2 := hc (w.heap.size + 1 + 1 + 1) 2 (by first | omega | (simp; done) | (simp; omega))
  have g2 := hf (w.heap.size + 1 + 1 + 1) 2 (by first | omega | (simp; done) | (simp; omega))
  simp [go_sem] at q0 f0 k0 g0 q1 f1 k1 g1 q2 f2 k2 g2
  have B1 : Below w.heap.size w w1 := Below.trans (by repeat (first | with_reducible exact Below.refl _ _ | with_reducible refine Below.setCell ?_ (by first | omega | (simp; done) | (simp; omega)) _ | with_reducible refine bDrewN ?_ _ | with_reducible refine Below.drew ?_ | with_reducible refine Below.alloc ?_ (by first | omega | (simp; done) | (simp; omega)) _)) (h1.mono (by first | omega | (simp; done) | (simp; omega)))
  have z1 : w.heap.size + 1 + 1 + 1 < w1.heap.size := by have := h1.size; simp at this; omega
  clear hc hf h1
  go_wp2
  exact bodyPost_ret (v := .tuple #[.agg #[.int .i64 0, .int .i64 0, .int .i64 0], .agg #[.bool false, .bool false, .bool false], .bool false]) (by simp [results, Try.results14, go_sem, q0, q1, q2, k0, k1, k2]) rfl ⟨by rw [HN.out.1, HN.out.2.1, HN.out.2.2.1, HN.out.2.2.2.1, HN.out.2.2.2.2], (by repeat (first | with_reducible exact Below.refl _ _ | with_reducible exact B1 | with_reducible refine Below.setCell ?_ (by first | omega | (simp; done) | (simp; omega)) _ | with_reducible refine bDrewN ?_ _ | with_reducible refine Below.drew ?_ | with_reducible refine Below.alloc ?_ (by first | omega | (simp; done) | (simp; omega)) _))⟩
set_option maxRecDepth 20000 in
set_option maxHeartbeats 16000000 in
theorem implStep_yes (s t r : Int) (air gas fl st sp rs : Bool) (w : World) (h : okB s t r = true) : Calls Try.prog 14 #[.agg #[.int .i64 s, .int .i64 t, .int .i64 r], .agg #[.bool air, .bool gas, .bool fl, .bool st, .bool sp, .bool rs]] w fun e w' => e = .returned (.tuple #[.agg #[.int .i64 (stN s t r air gas fl st sp rs).1, .int .i64 (stN s t r air gas fl st sp rs).2.1, .int .i64 (stN s t r air gas fl st sp rs).2.2], .agg #[.bool (stF s t r air gas fl st sp rs), .bool (stS s t r air gas fl st sp rs), .bool (stV s t r air gas fl st sp rs)], .bool (okB s t r)]) ∧ Below w.heap.size w w' := by
  obtain ⟨⟨y0, y1, y2⟩, hy⟩ : ∃ y, nextV s t r air gas fl st sp rs = y := ⟨_, rfl⟩
  have HN : Hid (stN s t r air gas fl st sp rs = (y0, y1, y2) ∧ stF s t r air gas fl st sp rs = fanB y0 ∧ stS s t r air gas fl st sp rs = sparkB y0 ∧ stV s t r air gas fl st sp rs = valveB y0 ∧ okB s t r = true) := ⟨by simp [stN, h, hy], by simp [stF, h, hy], by simp [stS, h, hy], by simp [stV, h, hy], h⟩
  have HX : Hid (∀ b w, TabAt w b → Calls Try.prog 37 #[.slice (some ⟨b, 0, none⟩) 16 16, .agg #[.int .i64 s, .int .i64 t, .int .i64 r], .agg #[.bool air, .bool gas, .bool fl, .bool st, .bool sp, .bool rs]] w fun e w' => e = .returned (.agg #[.int .i64 y0, .int .i64 y1, .int .i64 y2]) ∧ Below w.heap.size w w') := fun b w hb => by have := behind_any b s t r air gas fl st sp rs w h hb; rw [hy] at this; exact this
  clear hy
  obtain ⟨o0, ho0⟩ : ∃ o0, fanB y0 = o0 := ⟨_, rfl⟩
  obtain ⟨o1, ho1⟩ : ∃ o1, sparkB y0 = o1 := ⟨_, rfl⟩
  obtain ⟨o2, ho2⟩ : ∃ o2, valveB y0 = o2 := ⟨_, rfl⟩
  have HO : Hid (∀ w, Calls Try.prog 39 #[.agg #[.int .i64 y0, .int .i64 y1, .int .i64 y2]] w fun e w' => e = .returned (.agg #[.bool o0, .bool o1, .bool o2]) ∧ Below w.heap.size w w') := fun w => by have := does_any y0 y1 y2 w; rw [ho0, ho1, ho2] at this; exact this
  rw [ho0, ho1, ho2] at HN
  clear ho0 ho1 ho2
  go_enter Try.func14, Try.ntmps14
  go_wp2_with fail
  refine (implOk_any s t r _).mono ?_
  rintro e w1 ⟨rfl, h1⟩
  rw [h]
  clear h
  obtain ⟨hc, hf⟩ := bcell h1
  have a0 := hc w.heap.size 0 (by first | omega | (simp; done) | (simp; omega))
  have a1 := hc w.heap.size 1 (by first | omega | (simp; done) | (simp; omega))
  have a2 := hc w.heap.size 2 (by first | omega | (simp; done) | (simp; omega))
  have b0 := hc (w.heap.size + 1) 0 (by first | omega | (simp; done) | (simp; omega))
  have b1 := hc (w.heap.size + 1) 1 (by first | omega | (simp; done) | (simp; omega))
  have b2 := hc (w.heap.size + 1) 2 (by first | omega | (simp; done) | (simp; omega))
  have b3 := hc (w.heap.size + 1) 3 (by first | omega | (simp; done) | (simp; omega))
  have b4 := hc (w.heap.size + 1) 4 (by first | omega | (simp; done) | (simp; omega))
  have b5 := hc (w.heap.size + 1) 5 (by first | omega | (simp; done) | (simp; omega))
  have q0 := hc (w.heap.size + 1 + 1) 0 (by first | omega | (simp; done) | (simp; omega))
  have f0 := hf (w.heap.size + 1 + 1) 0 (by first | omega | (simp; done) | (simp; omega))
  have k0 := hc (w.heap.size + 1 + 1 + 1) 0 (by first | omega | (simp; done) | (simp; omega))
  have g0 := hf (w.heap.size + 1 + 1 + 1) 0 (by first | omega | (simp; done) | (simp; omega))
  have q1 := hc (w.heap.size + 1 + 1) 1 (by first | omega | (simp; done) | (simp; omega))
  have f1 := hf (w.heap.size + 1 + 1) 1 (by first | omega | (simp; done) | (simp; omega))
  have k1 := hc (w.heap.size + 1 + 1 + 1) 1 (by first | omega | (simp; done) | (simp; omega))
  have g1 := hf (w.heap.size + 1 + 1 + 1) 1 (by first | omega | (simp; done) | (simp; omega))
  have q2 := hc (w.heap.size + 1 + 1) 2 (by first | omega | (simp; done) | (simp; omega))
  have f2 := hf (w.heap.size + 1 + 1) 2 (by first | omega | (simp; done) | (simp; omega))
  have k2 := hc (w.heap.size + 1 + 1 + 1) 2 (by first | omega | (simp; done) | (simp; omega))
  have g2 := hf (w.heap.size + 1 + 1 + 1) 2 (by first | omega | (simp; done) | (simp; omega))
  simp [go_sem] at q0 f0 k0 g0 a0 q1 f1 k1 g1 a1 q2 f2 k2 g2 a2 b0 b1 b2 b3 b4 b5
  have B1 : Below w.heap.size w w1 := Below.trans (by repeat (first | with_reducible exact Below.refl _ _ | with_reducible refine Below.setCell ?_ (by first | omega | (simp; done) | (simp; omega)) _ | with_reducible refine bDrewN ?_ _ | with_reducible refine Below.drew ?_ | with_reducible refine Below.alloc ?_ (by first | omega | (simp; done) | (simp; omega)) _)) (h1.mono (by first | omega | (simp; done) | (simp; omega)))
  have z1 : w.heap.size + 1 + 1 + 1 < w1.heap.size := by have := h1.size; simp at this; omega
  clear hc hf h1
  go_upto_region 3 with fail
  go_cut [7] (fun a wx => ∃ p, a = .pointer (some ⟨p, 0, none⟩) ∧ w1.heap.size ≤ p ∧ p < wx.heap.size ∧ wx.cell? ⟨p, 0, none⟩ = some (.int .i64 y0) ∧ wx.cell? ⟨p, 1, none⟩ = some (.int .i64 y1) ∧ wx.cell? ⟨p, 2, none⟩ = some (.int .i64 y2) ∧ Below w1.heap.size w1 wx)
  case first =>
    go_region_held3 (fun w' => w'.cell? ⟨w.heap.size, 0, none⟩ = some (.int .i64 s) ∧ w'.cell? ⟨w.heap.size, 1, none⟩ = some (.int .i64 t) ∧ w'.cell? ⟨w.heap.size, 2, none⟩ = some (.int .i64 r) ∧ w'.cell? ⟨w.heap.size + 1, 0, none⟩ = some (.bool air) ∧ w'.cell? ⟨w.heap.size + 1, 1, none⟩ = some (.bool gas) ∧ w'.cell? ⟨w.heap.size + 1, 2, none⟩ = some (.bool fl) ∧ w'.cell? ⟨w.heap.size + 1, 3, none⟩ = some (.bool st) ∧ w'.cell? ⟨w.heap.size + 1, 4, none⟩ = some (.bool sp) ∧ w'.cell? ⟨w.heap.size + 1, 5, none⟩ = some (.bool rs)) (first | (refine keep9 a0 a1 a2 b0 b1 b2 b3 b4 b5 (by omega) (by omega) ?_; exact (by repeat (first | with_reducible exact Below.refl _ _ | with_reducible exact B6 | with_reducible exact B5 | with_reducible refine Below.setCell ?_ (by first | omega | (simp; done) | (simp; omega)) _ | with_reducible refine bDrewN ?_ _ | with_reducible refine Below.drew ?_ | with_reducible refine Below.alloc ?_ (by first | omega | (simp; done) | (simp; omega)) _)))) (first
      | (go_at_call 38; refine (table_any _).mono ?_; rintro e w5 ⟨bt, rfl, TB, h5⟩; have HT : Hid (TabAt w5 bt) := TB; have B5 : Below w1.heap.size w1 w5 := Below.trans (by repeat (first | with_reducible exact Below.refl _ _ | with_reducible refine Below.setCell ?_ (by first | omega | (simp; done) | (simp; omega)) _ | with_reducible refine bDrewN ?_ _ | with_reducible refine Below.drew ?_ | with_reducible refine Below.alloc ?_ (by first | omega | (simp; done) | (simp; omega)) _)) (h5.mono (by first | omega | (simp; done) | (simp; omega))); have s5 := B5.size; have s5b := h5.size; (try simp at s5b); obtain ⟨hc5, hf5⟩ := bcell h5; (try (have ck0 := hc5 w1.heap.size 0 (by first | omega | (simp; done) | (simp; omega)); have ck1 := hc5 w1.heap.size 1 (by first | omega | (simp; done) | (simp; omega)); have ck2 := hc5 w1.heap.size 2 (by first | omega | (simp; done) | (simp; omega)); have fk0 := hf5 w1.heap.size 0 (by first | omega | (simp; done) | (simp; omega)); have fk1 := hf5 w1.heap.size 1 (by first | omega | (simp; done) | (simp; omega)); have fk2 := hf5 w1.heap.size 2 (by first | omega | (simp; done) | (simp; omega)); simp [go_sem] at ck0 ck1 ck2 fk0 fk1 fk2)); clear hc5 hf5 h5 TB)
      | (go_at_call 37; refine (HX.out bt _ (HT.out.below (by repeat (first | with_reducible exact Below.refl _ _ | with_reducible refine Below.setCell ?_ (by first | omega | (simp; done) | (simp; omega)) _ | with_reducible refine bDrewN ?_ _ | with_reducible refine Below.drew ?_ | with_reducible refine Below.alloc ?_ (by first | omega | (simp; done) | (simp; omega)) _)))).mono ?_; rintro e w6 ⟨rfl, h6⟩; have B6 : Below w1.heap.size w1 w6 := Below.trans (by repeat (first | with_reducible exact Below.refl _ _ | with_reducible exact B5 | with_reducible refine Below.setCell ?_ (by first | omega | (simp; done) | (simp; omega)) _ | with_reducible refine bDrewN ?_ _ | with_reducible refine Below.drew ?_ | with_reducible refine Below.alloc ?_ (by first | omega | (simp; done) | (simp; omega)) _)) (h6.mono (by first | omega | (simp; done) | (simp; omega))); have s6 := B6.size; have s6b := h6.size; (try simp at s6b); obtain ⟨hc6, hf6⟩ := bcell h6; (try (have cl0 := (hc6 w1.heap.size 0 (by first | omega | (simp; done) | (simp; omega))).trans ck0; have cl1 := (hc6 w1.heap.size 1 (by first | omega | (simp; done) | (simp; omega))).trans ck1; have cl2 := (hc6 w1.heap.size 2 (by first | omega | (simp; done) | (simp; omega))).trans ck2; have fl0 := (hf6 w1.heap.size 0 (by first | omega | (simp; done) | (simp; omega))).trans fk0; have fl1 := (hf6 w1.heap.size 1 (by first | omega | (simp; done) | (simp; omega))).trans fk1; have fl2 := (hf6 w1.heap.size 2 (by first | omega | (simp; done) | (simp; omega))).trans fk2)); (try (have cm0 := hc6 w5.heap.size 0 (by first | omega | (simp; done) | (simp; omega)); have cm1 := hc6 w5.heap.size 1 (by first | omega | (simp; done) | (simp; omega)); have cm2 := hc6 w5.heap.size 2 (by first | omega | (simp; done) | (simp; omega)); have fm0 := hf6 w5.heap.size 0 (by first | omega | (simp; done) | (simp; omega)); have fm1 := hf6 w5.heap.size 1 (by first | omega | (simp; done) | (simp; omega)); have fm2 := hf6 w5.heap.size 2 (by first | omega | (simp; done) | (simp; omega)); simp [go_sem] at cm0 cm1 cm2 fm0 fm1 fm2)); clear hc6 hf6 h6))
    all_goals
      go_wp2_with fail
      go_meet
      case rel =>
        refine ⟨_, rfl, ?_, ?_, ?_, ?_, ?_, (by repeat (first | with_reducible exact Below.refl _ _ | with_reducible exact B6 | with_reducible refine Below.setCell ?_ (by first | omega | (simp; done) | (simp; omega)) _ | with_reducible refine bDrewN ?_ _ | with_reducible refine Below.drew ?_ | with_reducible refine Below.alloc ?_ (by first | omega | (simp; done) | (simp; omega)) _))⟩
        all_goals first | omega | (simp [go_sem, *]; done) | (simp; omega) | (simp [*]; omega)
  case rest =>
  obtain ⟨p, rfl, lp, up, n0, n1, n2, h2⟩ := hcut
  rename World => w2
  have Bn : Below w.heap.size w w2 := B1.trans (h2.mono B1.size)
  have s2 := h2.size
  have z4 : w.heap.size + 1 + 1 < w1.heap.size := by omega
  have y4 : w.heap.size + 1 + 1 < w2.heap.size := by omega
  have y5 : w.heap.size + 1 + 1 + 1 < w2.heap.size := by omega
  replace q0 := (h2.cell (p := ⟨w.heap.size + 1 + 1, 0, none⟩) z4).trans q0
  replace f0 := (h2.frozen (p := ⟨w.heap.size + 1 + 1, 0, none⟩) z4).trans f0
  replace k0 := (h2.cell (p := ⟨w.heap.size + 1 + 1 + 1, 0, none⟩) z1).trans k0
  replace g0 := (h2.frozen (p := ⟨w.heap.size + 1 + 1 + 1, 0, none⟩) z1).trans g0
  replace q1 := (h2.cell (p := ⟨w.heap.size + 1 + 1, 1, none⟩) z4).trans q1
  replace f1 := (h2.frozen (p := ⟨w.heap.size + 1 + 1, 1, none⟩) z4).trans f1
  replace k1 := (h2.cell (p := ⟨w.heap.size + 1 + 1 + 1, 1, none⟩) z1).trans k1
  replace g1 := (h2.frozen (p := ⟨w.heap.size + 1 + 1 + 1, 1, none⟩) z1).trans g1
  replace q2 := (h2.cell (p := ⟨w.heap.size + 1 + 1, 2, none⟩) z4).trans q2
  replace f2 := (h2.frozen (p := ⟨w.heap.size + 1 + 1, 2, none⟩) z4).trans f2
  replace k2 := (h2.cell (p := ⟨w.heap.size + 1 + 1 + 1, 2, none⟩) z1).trans k2
  replace g2 := (h2.frozen (p := ⟨w.heap.size + 1 + 1 + 1, 2, none⟩) z1).trans g2
  clear h2 a0 a1 a2 b0 b1 b2 b3 b4 b5
  go_upto_region 4 with fail
  obtain ⟨wn, hwn⟩ : ∃ wn, wn = w2 := ⟨_, rfl⟩
  subst hwn
  have np : p ≠ w.heap.size + 1 + 1 := by omega
  have np2 : p ≠ w.heap.size + 1 + 1 + 1 := by omega
  have zp : w.heap.size + 1 + 1 + 1 < p := by omega
  go_region_with (first
    | (go_at_call 39; refine (HO.out _).mono ?_; rintro e w7 ⟨rfl, h7⟩; obtain ⟨hc, hf⟩ := bcell h7; have u0 := hc p 0 (by first | omega | (simp; done) | (simp; omega)); have v0 := hc (w.heap.size + 1 + 1) 0 (by first | omega | (simp; done) | (simp; omega)); have x0 := hf (w.heap.size + 1 + 1) 0 (by first | omega | (simp; done) | (simp; omega)); have m0 := hc (w.heap.size + 1 + 1 + 1) 0 (by first | omega | (simp; done) | (simp; omega)); have j0 := hf (w.heap.size + 1 + 1 + 1) 0 (by first | omega | (simp; done) | (simp; omega)); have u1 := hc p 1 (by first | omega | (simp; done) | (simp; omega)); have v1 := hc (w.heap.size + 1 + 1) 1 (by first | omega | (simp; done) | (simp; omega)); have x1 := hf (w.heap.size + 1 + 1) 1 (by first | omega | (simp; done) | (simp; omega)); have m1 := hc (w.heap.size + 1 + 1 + 1) 1 (by first | omega | (simp; done) | (simp; omega)); have j1 := hf (w.heap.size + 1 + 1 + 1) 1 (by first | omega | (simp; done) | (simp; omega)); have u2 := hc p 2 (by first | omega | (simp; done) | (simp; omega)); have v2 := hc (w.heap.size + 1 + 1) 2 (by first | omega | (simp; done) | (simp; omega)); have x2 := hf (w.heap.size + 1 + 1) 2 (by first | omega | (simp; done) | (simp; omega)); have m2 := hc (w.heap.size + 1 + 1 + 1) 2 (by first | omega | (simp; done) | (simp; omega)); have j2 := hf (w.heap.size + 1 + 1 + 1) 2 (by first | omega | (simp; done) | (simp; omega)); simp [go_sem, n0, q0, f0, k0, g0, n1, q1, f1, k1, g1, n2, q2, f2, k2, g2, np, np2] at u0 v0 x0 m0 j0 u1 v1 x1 m1 j1 u2 v2 x2 m2 j2; have B7 : Below w.heap.size w w7 := Below.trans (by repeat (first | with_reducible exact Below.refl _ _ | with_reducible exact Bn | with_reducible refine Below.setCell ?_ (by first | omega | (simp; done) | (simp; omega)) _ | with_reducible refine bDrewN ?_ _ | with_reducible refine Below.drew ?_ | with_reducible refine Below.alloc ?_ (by first | omega | (simp; done) | (simp; omega)) _)) (h7.mono (by first | omega | (simp; done) | (simp; omega))); clear hc hf h7))
  all_goals
    go_wp2
    exact bodyPost_ret (v := .tuple #[.agg #[.int .i64 y0, .int .i64 y1, .int .i64 y2], .agg #[.bool o0, .bool o1, .bool o2], .bool true]) (by simp [results, Try.results14, go_sem, *]) rfl ⟨by rw [HN.out.1, HN.out.2.1, HN.out.2.2.1, HN.out.2.2.2.1, HN.out.2.2.2.2], (by repeat (first | with_reducible exact Below.refl _ _ | with_reducible exact B7 | with_reducible refine Below.setCell ?_ (by first | omega | (simp; done) | (simp; omega)) _ | with_reducible refine bDrewN ?_ _ | with_reducible refine Below.drew ?_ | with_reducible refine Below.alloc ?_ (by first | omega | (simp; done) | (simp; omega)) _))⟩
theorem implStep_any (s t r : Int) (air gas fl st sp rs : Bool) (w : World) : Calls Try.prog 14 #[.agg #[.int .i64 s, .int .i64 t, .int .i64 r], .agg #[.bool air, .bool gas, .bool fl, .bool st, .bool sp, .bool rs]] w fun e w' => e = .returned (.tuple #[.agg #[.int .i64 (stN s t r air gas fl st sp rs).1, .int .i64 (stN s t r air gas fl st sp rs).2.1, .int .i64 (stN s t r air gas fl st sp rs).2.2], .agg #[.bool (stF s t r air gas fl st sp rs), .bool (stS s t r air gas fl st sp rs), .bool (stV s t r air gas fl st sp rs)], .bool (okB s t r)]) ∧ Below w.heap.size w w' := by
  cases h : okB s t r
  · have := implStep_no s t r air gas fl st sp rs w h; rw [h] at this; exact this
  · have := implStep_yes s t r air gas fl st sp rs w h; rw [h] at this; exact this
end Go.Proofs.Ytpnihekpokfooaa
