/-
What is proved: a burner's step, as the specification tells it.
-/
import Derived.Test.YtpnihekpokfooaaBuS
import Derived.Test.YtpnihekpokfooaaBuN
import Derived.Deep.RegionHeld3
import Derived.Deep.DeepCutAuto
namespace Go.Proofs.Ytpnihekpokfooaa
set_option maxRecDepth 40000
open Go.RowKit
set_option linter.unusedVariables false
set_option linter.unusedSimpArgs false

set_option maxRecDepth 20000 in
set_option maxHeartbeats 8000000 in
theorem specStep_no (s t r : Int) (air gas fl st sp rs : Bool) (w : World) (h : okB s t r = false) : Calls Try.prog 12 #[.agg #[.int .i64 s, .int .i64 t, .int .i64 r], .agg #[.bool air, .bool gas, .bool fl, .bool st, .bool sp, .bool rs]] w fun e w' => e = .returned (.tuple #[.agg #[.int .i64 (stN s t r air gas fl st sp rs).1, .int .i64 (stN s t r air gas fl st sp rs).2.1, .int .i64 (stN s t r air gas fl st sp rs).2.2], .agg #[.bool (stF s t r air gas fl st sp rs), .bool (stS s t r air gas fl st sp rs), .bool (stV s t r air gas fl st sp rs)], .bool (okB s t r)]) ∧ Below w.heap.size w w' := by
  have HN : Hid (stN s t r air gas fl st sp rs = (0, 0, 0) ∧ stF s t r air gas fl st sp rs = false ∧ stS s t r air gas fl st sp rs = false ∧ stV s t r air gas fl st sp rs = false ∧ okB s t r = false) := ⟨by simp [stN, h], by simp [stF, h], by simp [stS, h], by simp [stV, h], h⟩
  go_enter Try.func12, Try.ntmps12
  go_wp2_with fail
  refine (specOk_any s t r _).mono ?_
  rintro e w1 ⟨rfl, h1⟩
  rw [h]
  obtain ⟨hc, hf⟩ := bcell h1
  have q0 := hc (w.heap.size + 1 + 1) 0 (by first | omega | (simp; done) | (simp; omega))
  have f0 := hf (w.heap.size + 1 + 1) 0 (by first | omega | (simp; done) | (simp; omega))
  have k0 := hc (w.heap.size + 1 + 1 + 1) 0 (by first | omega | (simp; done) | (simp; omega))
  have g0 := hf (w.heap.size + 1 + 1 + 1) 0 (by first | omega | (simp; done) | (simp; omega))
  have q1 := hc (w.heap.size + 1 + 1) 1 (by first | omega | (simp; done) | (simp; omega))
  have f1 := hf (w.heap.size + 1 + 1) 1 (by first | omega | (simp; done) | (simp; omega))
  have k1 := hc (w.heap.size + 1 + 1 + 1) 1 (by first | omega | (simp; done) | (simp; omega))
  have g1 := hf (w.heap.size + 1 + 1 + 1) 1 (by first | omega | (simp; done) | (simp; omega))
  have q2 := hc (w.heap.size + 1 + 1) 2 (by first | omega | (simp; done) | (simp; omega))
  have f2 := hf (w.heap.size + 1 + 1) 2 (by first | omega | (simp; done) | (simp; omega))
  have k2 := hc (w.heap.size + 1 + 1 + 1) 2 (by first | omega | (simp; done) | (simp; omega))
  have g2 := hf (w.heap.size + 1 + 1 + 1) 2 (by first | omega | (simp; done) | (simp; omega))
  simp [go_sem] at q0 f0 k0 g0 q1 f1 k1 g1 q2 f2 k2 g2
  have B1 : Below w.heap.size w w1 := Below.trans (by repeat (first | with_reducible exact Below.refl _ _ | with_reducible refine Below.setCell ?_ (by first | omega | (simp; done) | (simp; omega)) _ | with_reducible refine bDrewN ?_ _ | with_reducible refine Below.drew ?_ | with_reducible refine Below.alloc ?_ (by first | omega | (simp; done) | (simp; omega)) _)) (h1.mono (by first | omega | (simp; done) | (simp; omega)))
  have z1 : w.heap.size + 1 + 1 + 1 < w1.heap.size := by have := h1.size; simp at this; omega
  clear hc hf h1
  go_wp2
  exact bodyPost_ret (v := .tuple #[.agg #[.int .i64 0, .int .i64 0, .int .i64 0], .agg #[.bool false, .bool false, .bool false], .bool false]) (by simp [results, Try.results12, go_sem, q0, q1, q2, k0, k1, k2]) rfl ⟨by rw [HN.out.1, HN.out.2.1, HN.out.2.2.1, HN.out.2.2.2.1, HN.out.2.2.2.2], (by repeat (first | with_reducible exact Below.refl _ _ | with_reducible exact B1 | with_reducible refine Below.setCell ?_ (by first | omega | (simp; done) | (simp; omega)) _ | with_reducible refine bDrewN ?_ _ | with_reducible refine Below.drew ?_ | with_reducible refine Below.alloc ?_ (by first | omega | (simp; done) | (simp; omega)) _))⟩
set_option maxRecDepth 20000 in
set_option maxHeartbeats 16000000 in
theorem specStep_yes (s t r : Int) (air gas fl st sp rs : Bool) (w : World) (h : okB s t r = true) : Calls Try.prog 12 #[.agg #[.int .i64 s, .int .i64 t, .int .i64 r], .agg #[.bool air, .bool gas, .bool fl, .bool st, .bool sp, .bool rs]] w fun e w' => e = .returned (.tuple #[.agg #[.int .i64 (stN s t r air gas fl st sp rs).1, .int .i64 (stN s t r air gas fl st sp rs).2.1, .int .i64 (stN s t r air gas fl st sp rs).2.2], .agg #[.bool (stF s t r air gas fl st sp rs), .bool (stS s t r air gas fl st sp rs), .bool (stV s t r air gas fl st sp rs)], .bool (okB s t r)]) ∧ Below w.heap.size w w' := by
  obtain ⟨⟨y0, y1, y2⟩, hy⟩ : ∃ y, nextV s t r air gas fl st sp rs = y := ⟨_, rfl⟩
  have HN : Hid (stN s t r air gas fl st sp rs = (y0, y1, y2) ∧ stF s t r air gas fl st sp rs = fanB y0 ∧ stS s t r air gas fl st sp rs = sparkB y0 ∧ stV s t r air gas fl st sp rs = valveB y0 ∧ okB s t r = true) := ⟨by simp [stN, h, hy], by simp [stF, h, hy], by simp [stS, h, hy], by simp [stV, h, hy], h⟩
  have HX : Hid (∀ w, Calls Try.prog 35 #[.agg #[.int .i64 s, .int .i64 t, .int .i64 r], .agg #[.bool air, .bool gas, .bool fl, .bool st, .bool sp, .bool rs]] w fun e w' => e = .returned (.agg #[.int .i64 y0, .int .i64 y1, .int .i64 y2]) ∧ Below w.heap.size w w') := fun w => by have := l15Next_any s t r air gas fl st sp rs w h; rw [hy] at this; exact this
  clear hy
  obtain ⟨o0, ho0⟩ : ∃ o0, fanB y0 = o0 := ⟨_, rfl⟩
  obtain ⟨o1, ho1⟩ : ∃ o1, sparkB y0 = o1 := ⟨_, rfl⟩
  obtain ⟨o2, ho2⟩ : ∃ o2, valveB y0 = o2 := ⟨_, rfl⟩
  have HO : Hid (∀ w, Calls Try.prog 36 #[.agg #[.int .i64 y0, .int .i64 y1, .int .i64 y2]] w fun e w' => e = .returned (.agg #[.bool o0, .bool o1, .bool o2]) ∧ Below w.heap.size w w') := fun w => by have := l15Out_any y0 y1 y2 w; rw [ho0, ho1, ho2] at this; exact this
  rw [ho0, ho1, ho2] at HN
  clear ho0 ho1 ho2
  go_enter Try.func12, Try.ntmps12
  go_wp2_with fail
  refine (specOk_any s t r _).mono ?_
  rintro e w1 ⟨rfl, h1⟩
  rw [h]
  clear h
  obtain ⟨hc, hf⟩ := bcell h1
  have a0 := hc w.heap.size 0 (by first | omega | (simp; done) | (simp; omega))
  have a1 := hc w.heap.size 1 (by first | omega | (simp; done) | (simp; omega))
  have a2 := hc w.heap.size 2 (by first | omega | (simp; done) | (simp; omega))
  have b0 := hc (w.heap.size + 1) 0 (by first | omega | (simp; done) | (simp; omega))
  have b1 := hc (w.heap.size + 1) 1 (by first | omega | (simp; done) | (simp; omega))
  have b2 := hc (w.heap.size + 1) 2 (by first | omega | (simp; done) | (simp; omega))
  have b3 := hc (w.heap.size + 1) 3 (by first | omega | (simp; done) | (simp; omega))
  have b4 := hc (w.heap.size + 1) 4 (by first | omega | (simp; done) | (simp; omega))
  have b5 := hc (w.heap.size + 1) 5 (by first | omega | (simp; done) | (simp; omega))
  have q0 := hc (w.heap.size + 1 + 1) 0 (by first | omega | (simp; done) | (simp; omega))
  have f0 := hf (w.heap.size + 1 + 1) 0 (by first | omega | (simp; done) | (simp; omega))
  have k0 := hc (w.heap.size + 1 + 1 + 1) 0 (by first | omega | (simp; done) | (simp; omega))
  have g0 := hf (w.heap.size + 1 + 1 + 1) 0 (by first | omega | (simp; done) | (simp; omega))
  have q1 := hc (w.heap.size + 1 + 1) 1 (by first | omega | (simp; done) | (simp; omega))
  have f1 := hf (w.heap.size + 1 + 1) 1 (by first | omega | (simp; done) | (simp; omega))
  have k1 := hc (w.heap.size + 1 + 1 + 1) 1 (by first | omega | (simp; done) | (simp; omega))
  have g1 := hf (w.heap.size + 1 + 1 + 1) 1 (by first | omega | (simp; done) | (simp; omega))
  have q2 := hc (w.heap.size + 1 + 1) 2 (by first | omega | (simp; done) | (simp; omega))
  have f2 := hf (w.heap.size + 1 + 1) 2 (by first | omega | (simp; done) | (simp; omega))
  have k2 := hc (w.heap.size + 1 + 1 + 1) 2 (by first | omega | (simp; done) | (simp; omega))
  have g2 := hf (w.heap.size + 1 + 1 + 1) 2 (by first | omega | (simp; done) | (simp; omega))
  simp [go_sem] at q0 f0 k0 g0 a0 q1 f1 k1 g1 a1 q2 f2 k2 g2 a2 b0 b1 b2 b3 b4 b5
  have B1 : Below w.heap.size w w1 := Below.trans (by repeat (first | with_reducible exact Below.refl _ _ | with_reducible refine Below.setCell ?_ (by first | omega | (simp; done) | (simp; omega)) _ | with_reducible refine bDrewN ?_ _ | with_reducible refine Below.drew ?_ | with_reducible refine Below.alloc ?_ (by first | omega | (simp; done) | (simp; omega)) _)) (h1.mono (by first | omega | (simp; done) | (simp; omega)))
  have z1 : w.heap.size + 1 + 1 + 1 < w1.heap.size := by have := h1.size; simp at this; omega
  clear hc hf h1
  go_wp2_with fail
  refine (HX.out _).mono ?_
  rintro e w2 ⟨rfl, h2⟩
  have Bn : Below w.heap.size w w2 := B1.trans (h2.mono B1.size)
  have s2 := h2.size
  have z4 : w.heap.size + 1 + 1 < w1.heap.size := by omega
  have y4 : w.heap.size + 1 + 1 < w2.heap.size := by omega
  have y5 : w.heap.size + 1 + 1 + 1 < w2.heap.size := by omega
  replace q0 := (h2.cell (p := ⟨w.heap.size + 1 + 1, 0, none⟩) z4).trans q0
  replace f0 := (h2.frozen (p := ⟨w.heap.size + 1 + 1, 0, none⟩) z4).trans f0
  replace k0 := (h2.cell (p := ⟨w.heap.size + 1 + 1 + 1, 0, none⟩) z1).trans k0
  replace g0 := (h2.frozen (p := ⟨w.heap.size + 1 + 1 + 1, 0, none⟩) z1).trans g0
  replace q1 := (h2.cell (p := ⟨w.heap.size + 1 + 1, 1, none⟩) z4).trans q1
  replace f1 := (h2.frozen (p := ⟨w.heap.size + 1 + 1, 1, none⟩) z4).trans f1
  replace k1 := (h2.cell (p := ⟨w.heap.size + 1 + 1 + 1, 1, none⟩) z1).trans k1
  replace g1 := (h2.frozen (p := ⟨w.heap.size + 1 + 1 + 1, 1, none⟩) z1).trans g1
  replace q2 := (h2.cell (p := ⟨w.heap.size + 1 + 1, 2, none⟩) z4).trans q2
  replace f2 := (h2.frozen (p := ⟨w.heap.size + 1 + 1, 2, none⟩) z4).trans f2
  replace k2 := (h2.cell (p := ⟨w.heap.size + 1 + 1 + 1, 2, none⟩) z1).trans k2
  replace g2 := (h2.frozen (p := ⟨w.heap.size + 1 + 1 + 1, 2, none⟩) z1).trans g2
  clear h2 a0 a1 a2 b0 b1 b2 b3 b4 b5
  go_upto_region 4 with fail
  obtain ⟨wn, hwn⟩ : ∃ wn, wn = w2.alloc (.cells #[.int .i64 y0, .int .i64 y1, .int .i64 y2] 25) := ⟨_, rfl⟩
  rw [← hwn]
  have n0 : wn.cell? ⟨w2.heap.size, 0, none⟩ = some (.int .i64 y0) := by rw [hwn]; simp [go_sem]
  have n1 : wn.cell? ⟨w2.heap.size, 1, none⟩ = some (.int .i64 y1) := by rw [hwn]; simp [go_sem]
  have n2 : wn.cell? ⟨w2.heap.size, 2, none⟩ = some (.int .i64 y2) := by rw [hwn]; simp [go_sem]
  have hb : Below w2.heap.size w2 wn := by rw [hwn]; exact (by repeat (first | with_reducible exact Below.refl _ _ | with_reducible refine Below.setCell ?_ (by first | omega | (simp; done) | (simp; omega)) _ | with_reducible refine bDrewN ?_ _ | with_reducible refine Below.drew ?_ | with_reducible refine Below.alloc ?_ (by first | omega | (simp; done) | (simp; omega)) _))
  have up : w2.heap.size < wn.heap.size := by rw [hwn]; simp
  replace q0 := (hb.cell (p := ⟨w.heap.size + 1 + 1, 0, none⟩) y4).trans q0
  replace f0 := (hb.frozen (p := ⟨w.heap.size + 1 + 1, 0, none⟩) y4).trans f0
  replace k0 := (hb.cell (p := ⟨w.heap.size + 1 + 1 + 1, 0, none⟩) y5).trans k0
  replace g0 := (hb.frozen (p := ⟨w.heap.size + 1 + 1 + 1, 0, none⟩) y5).trans g0
  replace q1 := (hb.cell (p := ⟨w.heap.size + 1 + 1, 1, none⟩) y4).trans q1
  replace f1 := (hb.frozen (p := ⟨w.heap.size + 1 + 1, 1, none⟩) y4).trans f1
  replace k1 := (hb.cell (p := ⟨w.heap.size + 1 + 1 + 1, 1, none⟩) y5).trans k1
  replace g1 := (hb.frozen (p := ⟨w.heap.size + 1 + 1 + 1, 1, none⟩) y5).trans g1
  replace q2 := (hb.cell (p := ⟨w.heap.size + 1 + 1, 2, none⟩) y4).trans q2
  replace f2 := (hb.frozen (p := ⟨w.heap.size + 1 + 1, 2, none⟩) y4).trans f2
  replace k2 := (hb.cell (p := ⟨w.heap.size + 1 + 1 + 1, 2, none⟩) y5).trans k2
  replace g2 := (hb.frozen (p := ⟨w.heap.size + 1 + 1 + 1, 2, none⟩) y5).trans g2
  replace Bn : Below w.heap.size w wn := Bn.trans (hb.mono Bn.size)
  obtain ⟨p, hp⟩ : ∃ p, w2.heap.size = p := ⟨_, rfl⟩
  rw [hp] at n0 n1 n2 up s2 ⊢
  clear hwn hb hp
  have lp : w1.heap.size ≤ p := s2
  have np : p ≠ w.heap.size + 1 + 1 := by omega
  have np2 : p ≠ w.heap.size + 1 + 1 + 1 := by omega
  have zp : w.heap.size + 1 + 1 + 1 < p := by omega
  go_region_with (first
    | (go_at_call 36; refine (HO.out _).mono ?_; rintro e w7 ⟨rfl, h7⟩; obtain ⟨hc, hf⟩ := bcell h7; have u0 := hc p 0 (by first | omega | (simp; done) | (simp; omega)); have v0 := hc (w.heap.size + 1 + 1) 0 (by first | omega | (simp; done) | (simp; omega)); have x0 := hf (w.heap.size + 1 + 1) 0 (by first | omega | (simp; done) | (simp; omega)); have m0 := hc (w.heap.size + 1 + 1 + 1) 0 (by first | omega | (simp; done) | (simp; omega)); have j0 := hf (w.heap.size + 1 + 1 + 1) 0 (by first | omega | (simp; done) | (simp; omega)); have u1 := hc p 1 (by first | omega | (simp; done) | (simp; omega)); have v1 := hc (w.heap.size + 1 + 1) 1 (by first | omega | (simp; done) | (simp; omega)); have x1 := hf (w.heap.size + 1 + 1) 1 (by first | omega | (simp; done) | (simp; omega)); have m1 := hc (w.heap.size + 1 + 1 + 1) 1 (by first | omega | (simp; done) | (simp; omega)); have j1 := hf (w.heap.size + 1 + 1 + 1) 1 (by first | omega | (simp; done) | (simp; omega)); have u2 := hc p 2 (by first | omega | (simp; done) | (simp; omega)); have v2 := hc (w.heap.size + 1 + 1) 2 (by first | omega | (simp; done) | (simp; omega)); have x2 := hf (w.heap.size + 1 + 1) 2 (by first | omega | (simp; done) | (simp; omega)); have m2 := hc (w.heap.size + 1 + 1 + 1) 2 (by first | omega | (simp; done) | (simp; omega)); have j2 := hf (w.heap.size + 1 + 1 + 1) 2 (by first | omega | (simp; done) | (simp; omega)); simp [go_sem, n0, q0, f0, k0, g0, n1, q1, f1, k1, g1, n2, q2, f2, k2, g2, np, np2] at u0 v0 x0 m0 j0 u1 v1 x1 m1 j1 u2 v2 x2 m2 j2; have B7 : Below w.heap.size w w7 := Below.trans (by repeat (first | with_reducible exact Below.refl _ _ | with_reducible exact Bn | with_reducible refine Below.setCell ?_ (by first | omega | (simp; done) | (simp; omega)) _ | with_reducible refine bDrewN ?_ _ | with_reducible refine Below.drew ?_ | with_reducible refine Below.alloc ?_ (by first | omega | (simp; done) | (simp; omega)) _)) (h7.mono (by first | omega | (simp; done) | (simp; omega))); clear hc hf h7))
  all_goals
    go_wp2
    exact bodyPost_ret (v := .tuple #[.agg #[.int .i64 y0, .int .i64 y1, .int .i64 y2], .agg #[.bool o0, .bool o1, .bool o2], .bool true]) (by simp [results, Try.results12, go_sem, *]) rfl ⟨by rw [HN.out.1, HN.out.2.1, HN.out.2.2.1, HN.out.2.2.2.1, HN.out.2.2.2.2], (by repeat (first | with_reducible exact Below.refl _ _ | with_reducible exact B7 | with_reducible refine Below.setCell ?_ (by first | omega | (simp; done) | (simp; omega)) _ | with_reducible refine bDrewN ?_ _ | with_reducible refine Below.drew ?_ | with_reducible refine Below.alloc ?_ (by first | omega | (simp; done) | (simp; omega)) _))⟩
theorem specStep_any (s t r : Int) (air gas fl st sp rs : Bool) (w : World) : Calls Try.prog 12 #[.agg #[.int .i64 s, .int .i64 t, .int .i64 r], .agg #[.bool air, .bool gas, .bool fl, .bool st, .bool sp, .bool rs]] w fun e w' => e = .returned (.tuple #[.agg #[.int .i64 (stN s t r air gas fl st sp rs).1, .int .i64 (stN s t r air gas fl st sp rs).2.1, .int .i64 (stN s t r air gas fl st sp rs).2.2], .agg #[.bool (stF s t r air gas fl st sp rs), .bool (stS s t r air gas fl st sp rs), .bool (stV s t r air gas fl st sp rs)], .bool (okB s t r)]) ∧ Below w.heap.size w w' := by
  cases h : okB s t r
  · have := specStep_no s t r air gas fl st sp rs w h; rw [h] at this; exact this
  · have := specStep_yes s t r air gas fl st sp rs w h; rw [h] at this; exact this
end Go.Proofs.Ytpnihekpokfooaa
