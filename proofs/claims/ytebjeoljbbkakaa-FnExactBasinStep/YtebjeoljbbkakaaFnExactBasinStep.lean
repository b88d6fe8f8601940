/-
What is proved: at every basin, every full, every curve and every day's water impl.BasinStep answers as the specification's BasinStep and leaves the curve alone; no condition.
-/
import Derived.Test.YtebjeoljbbkakaaBasinA
import Derived.Test.YtebjeoljbbkakaaBasinL
import Derived.Test.YtebjeoljbbkakaaCurveK
import Derived.Test.YtebjeoljbbkakaaOpenKnots
import Derived.Deep.RegionHeld3
import Derived.Deep.DeepCutAuto
namespace Go.Proofs.Ytebjeoljbbkakaa
set_option maxRecDepth 40000
open Go.ChangeShapes Go.WideShapes Go.ChangeAt Go.RowKit
set_option linter.unusedVariables false
set_option linter.unusedSimpArgs false

theorem keepB {W W' : World} {p r : Nat} {a0 a1 a2 a3 a4 a5 a6 : Value} (h0 : W.cell? ⟨p, 0, none⟩ = some a0) (h1 : W.cell? ⟨p, 1, none⟩ = some a1) (h2 : W.cell? ⟨p, 2, none⟩ = some a2) (h3 : W.cell? ⟨p, 3, none⟩ = some a3) (h4 : W.cell? ⟨r, 0, none⟩ = some a4) (h5 : W.cell? ⟨r, 1, none⟩ = some a5) (h6 : W.cell? ⟨r, 2, none⟩ = some a6) (zp : p < W.heap.size) (zr : r < W.heap.size) (hb : Below W.heap.size W W') : W'.cell? ⟨p, 0, none⟩ = some a0 ∧ W'.cell? ⟨p, 1, none⟩ = some a1 ∧ W'.cell? ⟨p, 2, none⟩ = some a2 ∧ W'.cell? ⟨p, 3, none⟩ = some a3 ∧ W'.cell? ⟨r, 0, none⟩ = some a4 ∧ W'.cell? ⟨r, 1, none⟩ = some a5 ∧ W'.cell? ⟨r, 2, none⟩ = some a6 :=
  ⟨(hb.cell (p := ⟨p, 0, none⟩) zp).trans h0, (hb.cell (p := ⟨p, 1, none⟩) zp).trans h1, (hb.cell (p := ⟨p, 2, none⟩) zp).trans h2, (hb.cell (p := ⟨p, 3, none⟩) zp).trans h3, (hb.cell (p := ⟨r, 0, none⟩) zr).trans h4, (hb.cell (p := ⟨r, 1, none⟩) zr).trans h5, (hb.cell (p := ⟨r, 2, none⟩) zr).trans h6⟩

set_option maxRecDepth 20000 in
set_option maxHeartbeats 4000000 in
theorem basinStep_near (w : World) (S I O P full q k d r0 r1 r2 r3 : Int) (b : Bool) (s : Option Addr) (n c : Nat) (V : Nat → Int) (hn : (n : Int) ≤ 1048576) (HR : Hid (RowI w s (n * 2) V))
    (H1 : Hid (∀ s c w, RowI w s (n * 2) V → Calls Try.prog 12 #[.agg #[.int .i64 S, .int .i64 I, .int .i64 O, .int .i64 P], .int .i64 full, .slice s n c, .agg #[.int .i64 q, .int .i64 k, .int .i64 d]] w fun e w' => e = .returned (.tuple #[.agg #[.int .i64 r0, .int .i64 r1, .int .i64 r2, .int .i64 r3], .bool b]) ∧ Below w.heap.size w w'))
    (H2 : Hid (∀ s c w, RowI w s (n * 2) V → Calls Try.prog 16 #[.agg #[.int .i64 S, .int .i64 I, .int .i64 O, .int .i64 P], .int .i64 full, .slice s n c, .agg #[.int .i64 q, .int .i64 k, .int .i64 d]] w fun e w' => e = .returned (.tuple #[.agg #[.int .i64 r0, .int .i64 r1, .int .i64 r2, .int .i64 r3], .bool b]) ∧ Below w.heap.size w w')) :
    Calls Try.prog 4 #[.agg #[.int .i64 S, .int .i64 I, .int .i64 O, .int .i64 P], .int .i64 full, .slice s n c, .agg #[.int .i64 q, .int .i64 k, .int .i64 d]] w fun e w' => e = .returned (.bool true) ∧ Below w.heap.size w w' := by
  go_enter Try.func4, Try.ntmps4
  go_wp2_with fail
  refine (szK_on _ n _ _ _ (by omega) (by omega) (by omega)).mono ?_
  rintro e w0 ⟨rfl, rfl⟩
  go_upto_region 5 with fail
  obtain ⟨wd, hwd⟩ : ∃ wd, wd = ((w.alloc (.cells #[.int .i64 S, .int .i64 I, .int .i64 O, .int .i64 P] 32)).alloc (.cells #[.int .i64 q, .int .i64 k, .int .i64 d] 35)) := ⟨_, rfl⟩
  rw [← hwd]
  have q0 : wd.cell? ⟨w.heap.size, 0, none⟩ = some (.int .i64 S) := by rw [hwd]; simp [go_sem]
  have q1 : wd.cell? ⟨w.heap.size, 1, none⟩ = some (.int .i64 I) := by rw [hwd]; simp [go_sem]
  have q2 : wd.cell? ⟨w.heap.size, 2, none⟩ = some (.int .i64 O) := by rw [hwd]; simp [go_sem]
  have q3 : wd.cell? ⟨w.heap.size, 3, none⟩ = some (.int .i64 P) := by rw [hwd]; simp [go_sem]
  have q4 : wd.cell? ⟨w.heap.size + 1, 0, none⟩ = some (.int .i64 q) := by rw [hwd]; simp [go_sem]
  have q5 : wd.cell? ⟨w.heap.size + 1, 1, none⟩ = some (.int .i64 k) := by rw [hwd]; simp [go_sem]
  have q6 : wd.cell? ⟨w.heap.size + 1, 2, none⟩ = some (.int .i64 d) := by rw [hwd]; simp [go_sem]
  have z0 : w.heap.size < wd.heap.size := by rw [hwd]; simp; omega
  have z1 : w.heap.size + 1 < wd.heap.size := by rw [hwd]; simp
  have B0 : Below w.heap.size w wd := by rw [hwd]; exact (by repeat (first | with_reducible exact Below.refl _ _ | with_reducible refine Below.setCell ?_ (by first | omega | (simp; done) | (simp; omega)) _ | with_reducible refine bDrewN ?_ _ | with_reducible refine Below.drew ?_ | with_reducible refine Below.alloc ?_ (by first | omega | (simp; done) | (simp; omega)) _))
  have s0 := B0.size
  clear hwd
  go_cut [10, 11] (fun s t wx => ∃ g : Nat, s = .pointer (some ⟨g, 0, none⟩) ∧ t = .bool b ∧ wd.heap.size ≤ g ∧ g < wx.heap.size ∧ wx.cell? ⟨g, 0, none⟩ = some (.int .i64 r0) ∧ wx.cell? ⟨g, 1, none⟩ = some (.int .i64 r1) ∧ wx.cell? ⟨g, 2, none⟩ = some (.int .i64 r2) ∧ wx.cell? ⟨g, 3, none⟩ = some (.int .i64 r3) ∧ Below wd.heap.size wd wx)
  case first =>
    go_region_held3 (fun w' => w'.cell? ⟨w.heap.size, 0, none⟩ = some (.int .i64 S) ∧ w'.cell? ⟨w.heap.size, 1, none⟩ = some (.int .i64 I) ∧ w'.cell? ⟨w.heap.size, 2, none⟩ = some (.int .i64 O) ∧ w'.cell? ⟨w.heap.size, 3, none⟩ = some (.int .i64 P) ∧ w'.cell? ⟨w.heap.size + 1, 0, none⟩ = some (.int .i64 q) ∧ w'.cell? ⟨w.heap.size + 1, 1, none⟩ = some (.int .i64 k) ∧ w'.cell? ⟨w.heap.size + 1, 2, none⟩ = some (.int .i64 d)) (first | (refine keepB q0 q1 q2 q3 q4 q5 q6 z0 z1 ?_; exact (by repeat (first | with_reducible exact Below.refl _ _ | with_reducible exact B3 | with_reducible exact Bk | with_reducible refine Below.setCell ?_ (by first | omega | (simp; done) | (simp; omega)) _ | with_reducible refine bDrewN ?_ _ | with_reducible refine Below.drew ?_ | with_reducible refine Below.alloc ?_ (by first | omega | (simp; done) | (simp; omega)) _)))) (first
      | (go_at_call 13; refine (toBasin_any S I O P _).mono ?_; rintro e w1 ⟨rfl, rfl⟩)
      | (go_at_call 14; refine (toKnotS_any _ n _ V _ hn (HR.out.below (Below.trans B0 (by repeat (first | with_reducible exact Below.refl _ _ | with_reducible refine Below.setCell ?_ (by first | omega | (simp; done) | (simp; omega)) _ | with_reducible refine bDrewN ?_ _ | with_reducible refine Below.drew ?_ | with_reducible refine Below.alloc ?_ (by first | omega | (simp; done) | (simp; omega)) _))))).mono ?_; rintro e wk ⟨bk, rfl, lk, uk, Rk, hk⟩; have Bk : Below wd.heap.size wd wk := Below.trans (by repeat (first | with_reducible exact Below.refl _ _ | with_reducible refine Below.setCell ?_ (by first | omega | (simp; done) | (simp; omega)) _ | with_reducible refine bDrewN ?_ _ | with_reducible refine Below.drew ?_ | with_reducible refine Below.alloc ?_ (by first | omega | (simp; done) | (simp; omega)) _)) (hk.mono (by first | omega | (simp; done) | (simp; omega))); have sk := Bk.size; have HK : Hid (RowI wk (some ⟨bk, 0, none⟩) (n * 2) V) := Rk; obtain ⟨hck, hfk⟩ := bcell hk; have sk2 := hk.size; (try simp at sk2); (try (have cy0 := hck (wd.heap.size) 0 (by first | omega | (simp; done) | (simp; omega)); have cy1 := hck (wd.heap.size) 1 (by first | omega | (simp; done) | (simp; omega)); have cy2 := hck (wd.heap.size) 2 (by first | omega | (simp; done) | (simp; omega)); have cy3 := hck (wd.heap.size) 3 (by first | omega | (simp; done) | (simp; omega)); have fy0 := hfk (wd.heap.size) 0 (by first | omega | (simp; done) | (simp; omega)); have fy1 := hfk (wd.heap.size) 1 (by first | omega | (simp; done) | (simp; omega)); have fy2 := hfk (wd.heap.size) 2 (by first | omega | (simp; done) | (simp; omega)); have fy3 := hfk (wd.heap.size) 3 (by first | omega | (simp; done) | (simp; omega)); simp (maxDischargeDepth := 12) [go_sem] at cy0 fy0 cy1 fy1 cy2 fy2 cy3 fy3)); (try (have cz0 := hck (wd.heap.size + 1 + 1 + 1) 0 (by first | omega | (simp; done) | (simp; omega)); have cz1 := hck (wd.heap.size + 1 + 1 + 1) 1 (by first | omega | (simp; done) | (simp; omega)); have cz2 := hck (wd.heap.size + 1 + 1 + 1) 2 (by first | omega | (simp; done) | (simp; omega)); have cz3 := hck (wd.heap.size + 1 + 1 + 1) 3 (by first | omega | (simp; done) | (simp; omega)); have fz0 := hfk (wd.heap.size + 1 + 1 + 1) 0 (by first | omega | (simp; done) | (simp; omega)); have fz1 := hfk (wd.heap.size + 1 + 1 + 1) 1 (by first | omega | (simp; done) | (simp; omega)); have fz2 := hfk (wd.heap.size + 1 + 1 + 1) 2 (by first | omega | (simp; done) | (simp; omega)); have fz3 := hfk (wd.heap.size + 1 + 1 + 1) 3 (by first | omega | (simp; done) | (simp; omega)); simp (maxDischargeDepth := 12) [go_sem] at cz0 fz0 cz1 fz1 cz2 fz2 cz3 fz3)); clear hck hfk Rk)
      | (go_at_call 15; refine (toWater_any q k d _).mono ?_; rintro e w2 ⟨rfl, rfl⟩)
      | (go_at_call 12; refine (H1.out _ _ _ (HK.out.below (by repeat (first | with_reducible exact Below.refl _ _ | with_reducible refine Below.setCell ?_ (by first | omega | (simp; done) | (simp; omega)) _ | with_reducible refine bDrewN ?_ _ | with_reducible refine Below.drew ?_ | with_reducible refine Below.alloc ?_ (by first | omega | (simp; done) | (simp; omega)) _)))).mono ?_; rintro e w3 ⟨rfl, h3⟩; have B3 : Below wd.heap.size wd w3 := Below.trans (by repeat (first | with_reducible exact Below.refl _ _ | with_reducible exact Bk | with_reducible refine Below.setCell ?_ (by first | omega | (simp; done) | (simp; omega)) _ | with_reducible refine bDrewN ?_ _ | with_reducible refine Below.drew ?_ | with_reducible refine Below.alloc ?_ (by first | omega | (simp; done) | (simp; omega)) _)) (h3.mono (by first | omega | (simp; done) | (simp; omega))); have s3 := B3.size; have s3b := h3.size; (try simp at s3b); obtain ⟨hc3, hf3⟩ := bcell h3; (try (have ck0 := hc3 (wk.heap.size) 0 (by first | omega | (simp; done) | (simp; omega)); have ck1 := hc3 (wk.heap.size) 1 (by first | omega | (simp; done) | (simp; omega)); have ck2 := hc3 (wk.heap.size) 2 (by first | omega | (simp; done) | (simp; omega)); have ck3 := hc3 (wk.heap.size) 3 (by first | omega | (simp; done) | (simp; omega)); have fk0 := hf3 (wk.heap.size) 0 (by first | omega | (simp; done) | (simp; omega)); have fk1 := hf3 (wk.heap.size) 1 (by first | omega | (simp; done) | (simp; omega)); have fk2 := hf3 (wk.heap.size) 2 (by first | omega | (simp; done) | (simp; omega)); have fk3 := hf3 (wk.heap.size) 3 (by first | omega | (simp; done) | (simp; omega)); simp (maxDischargeDepth := 12) [go_sem] at ck0 fk0 ck1 fk1 ck2 fk2 ck3 fk3)); (try (have ck0 := hc3 (wk.heap.size + 1 + 1 + 1) 0 (by first | omega | (simp; done) | (simp; omega)); have ck1 := hc3 (wk.heap.size + 1 + 1 + 1) 1 (by first | omega | (simp; done) | (simp; omega)); have ck2 := hc3 (wk.heap.size + 1 + 1 + 1) 2 (by first | omega | (simp; done) | (simp; omega)); have ck3 := hc3 (wk.heap.size + 1 + 1 + 1) 3 (by first | omega | (simp; done) | (simp; omega)); have fk0 := hf3 (wk.heap.size + 1 + 1 + 1) 0 (by first | omega | (simp; done) | (simp; omega)); have fk1 := hf3 (wk.heap.size + 1 + 1 + 1) 1 (by first | omega | (simp; done) | (simp; omega)); have fk2 := hf3 (wk.heap.size + 1 + 1 + 1) 2 (by first | omega | (simp; done) | (simp; omega)); have fk3 := hf3 (wk.heap.size + 1 + 1 + 1) 3 (by first | omega | (simp; done) | (simp; omega)); simp (maxDischargeDepth := 12) [go_sem] at ck0 fk0 ck1 fk1 ck2 fk2 ck3 fk3)); (have b3k : Below wk.heap.size wk w3 := Below.trans (by repeat (first | with_reducible exact Below.refl _ _ | with_reducible refine Below.setCell ?_ (by first | omega | (simp; done) | (simp; omega)) _ | with_reducible refine bDrewN ?_ _ | with_reducible refine Below.drew ?_ | with_reducible refine Below.alloc ?_ (by first | omega | (simp; done) | (simp; omega)) _)) (h3.mono (by first | omega | (simp; done) | (simp; omega)))); (try (have cm0 := (b3k.cell (p := ⟨wd.heap.size, 0, none⟩) (by first | omega | (simp; done) | (simp; omega))).trans cy0; have cm1 := (b3k.cell (p := ⟨wd.heap.size, 1, none⟩) (by first | omega | (simp; done) | (simp; omega))).trans cy1; have cm2 := (b3k.cell (p := ⟨wd.heap.size, 2, none⟩) (by first | omega | (simp; done) | (simp; omega))).trans cy2; have cm3 := (b3k.cell (p := ⟨wd.heap.size, 3, none⟩) (by first | omega | (simp; done) | (simp; omega))).trans cy3; have fm0 := (b3k.frozen (p := ⟨wd.heap.size, 0, none⟩) (by first | omega | (simp; done) | (simp; omega))).trans fy0; have fm1 := (b3k.frozen (p := ⟨wd.heap.size, 1, none⟩) (by first | omega | (simp; done) | (simp; omega))).trans fy1; have fm2 := (b3k.frozen (p := ⟨wd.heap.size, 2, none⟩) (by first | omega | (simp; done) | (simp; omega))).trans fy2; have fm3 := (b3k.frozen (p := ⟨wd.heap.size, 3, none⟩) (by first | omega | (simp; done) | (simp; omega))).trans fy3)); (try (have cn0 := (b3k.cell (p := ⟨wd.heap.size + 1 + 1 + 1, 0, none⟩) (by first | omega | (simp; done) | (simp; omega))).trans cz0; have cn1 := (b3k.cell (p := ⟨wd.heap.size + 1 + 1 + 1, 1, none⟩) (by first | omega | (simp; done) | (simp; omega))).trans cz1; have cn2 := (b3k.cell (p := ⟨wd.heap.size + 1 + 1 + 1, 2, none⟩) (by first | omega | (simp; done) | (simp; omega))).trans cz2; have cn3 := (b3k.cell (p := ⟨wd.heap.size + 1 + 1 + 1, 3, none⟩) (by first | omega | (simp; done) | (simp; omega))).trans cz3; have fn0 := (b3k.frozen (p := ⟨wd.heap.size + 1 + 1 + 1, 0, none⟩) (by first | omega | (simp; done) | (simp; omega))).trans fz0; have fn1 := (b3k.frozen (p := ⟨wd.heap.size + 1 + 1 + 1, 1, none⟩) (by first | omega | (simp; done) | (simp; omega))).trans fz1; have fn2 := (b3k.frozen (p := ⟨wd.heap.size + 1 + 1 + 1, 2, none⟩) (by first | omega | (simp; done) | (simp; omega))).trans fz2; have fn3 := (b3k.frozen (p := ⟨wd.heap.size + 1 + 1 + 1, 3, none⟩) (by first | omega | (simp; done) | (simp; omega))).trans fz3)); clear hc3 hf3))
    all_goals
      go_wp2_with fail
      go_meet
      case rel =>
        refine ⟨_, rfl, rfl, ?_, ?_, ?_, ?_, ?_, ?_, (by repeat (first | with_reducible exact Below.refl _ _ | with_reducible exact B3 | with_reducible refine Below.setCell ?_ (by first | omega | (simp; done) | (simp; omega)) _ | with_reducible refine bDrewN ?_ _ | with_reducible refine Below.drew ?_ | with_reducible refine Below.alloc ?_ (by first | omega | (simp; done) | (simp; omega)) _))⟩
        all_goals first | omega | (simp [go_sem, *]; done) | (simp [go_sem, *, Nat.add_assoc]; done) | (simp; omega) | (simp [*]; omega)
  case rest =>
    obtain ⟨g, rfl, rfl, hg1, hg2, g0, g1, g2, g3, hB⟩ := hcut
    replace q0 := (hB.cell (p := ⟨w.heap.size, 0, none⟩) z0).trans q0
    replace q1 := (hB.cell (p := ⟨w.heap.size, 1, none⟩) z0).trans q1
    replace q2 := (hB.cell (p := ⟨w.heap.size, 2, none⟩) z0).trans q2
    replace q3 := (hB.cell (p := ⟨w.heap.size, 3, none⟩) z0).trans q3
    replace q4 := (hB.cell (p := ⟨w.heap.size + 1, 0, none⟩) z1).trans q4
    replace q5 := (hB.cell (p := ⟨w.heap.size + 1, 1, none⟩) z1).trans q5
    replace q6 := (hB.cell (p := ⟨w.heap.size + 1, 2, none⟩) z1).trans q6
    replace z0 := Nat.lt_of_lt_of_le z0 hB.size
    replace z1 := Nat.lt_of_lt_of_le z1 hB.size
    replace B0 : Below w.heap.size w wc := B0.trans (hB.mono s0)
    clear s0 hg1
    have s0 := B0.size
    clear hB
    go_wp2_with fail
    refine (toKnotS_any _ n _ V _ hn (HR.out.below B0)).mono ?_
    rintro e wx ⟨bx, rfl, lx, ux, Rx, hx⟩
    have RX : Hid (RowI wx (some ⟨bx, 0, none⟩) (n * 2) V) := Rx
    replace q0 := (hx.cell (p := ⟨w.heap.size, 0, none⟩) (Nat.lt_of_lt_of_le z0 (Nat.le_refl _))).trans q0
    replace q1 := (hx.cell (p := ⟨w.heap.size, 1, none⟩) (Nat.lt_of_lt_of_le z0 (Nat.le_refl _))).trans q1
    replace q2 := (hx.cell (p := ⟨w.heap.size, 2, none⟩) (Nat.lt_of_lt_of_le z0 (Nat.le_refl _))).trans q2
    replace q3 := (hx.cell (p := ⟨w.heap.size, 3, none⟩) (Nat.lt_of_lt_of_le z0 (Nat.le_refl _))).trans q3
    replace q4 := (hx.cell (p := ⟨w.heap.size + 1, 0, none⟩) z1).trans q4
    replace q5 := (hx.cell (p := ⟨w.heap.size + 1, 1, none⟩) z1).trans q5
    replace q6 := (hx.cell (p := ⟨w.heap.size + 1, 2, none⟩) z1).trans q6
    replace g0 := (hx.cell (p := ⟨g, 0, none⟩) hg2).trans g0
    replace g1 := (hx.cell (p := ⟨g, 1, none⟩) hg2).trans g1
    replace g2 := (hx.cell (p := ⟨g, 2, none⟩) hg2).trans g2
    replace g3 := (hx.cell (p := ⟨g, 3, none⟩) hg2).trans g3
    replace hg2 := Nat.lt_of_lt_of_le hg2 hx.size
    replace z0 := Nat.lt_of_lt_of_le z0 hx.size
    replace z1 := Nat.lt_of_lt_of_le z1 hx.size
    replace B0 : Below w.heap.size w wx := B0.trans (hx.mono s0)
    clear s0 hx Rx lx ux
    have s0 := B0.size
    go_upto_region 7 with fail
    go_cut [13, 14] (fun s t w_ => ∃ g : Nat, s = .pointer (some ⟨g, 0, none⟩) ∧ t = .bool b ∧ wx.heap.size ≤ g ∧ g < w_.heap.size ∧ w_.cell? ⟨g, 0, none⟩ = some (.int .i64 r0) ∧ w_.cell? ⟨g, 1, none⟩ = some (.int .i64 r1) ∧ w_.cell? ⟨g, 2, none⟩ = some (.int .i64 r2) ∧ w_.cell? ⟨g, 3, none⟩ = some (.int .i64 r3) ∧ Below wx.heap.size wx w_)
    case first =>
      go_region_held3 (fun w' => w'.cell? ⟨w.heap.size, 0, none⟩ = some (.int .i64 S) ∧ w'.cell? ⟨w.heap.size, 1, none⟩ = some (.int .i64 I) ∧ w'.cell? ⟨w.heap.size, 2, none⟩ = some (.int .i64 O) ∧ w'.cell? ⟨w.heap.size, 3, none⟩ = some (.int .i64 P) ∧ w'.cell? ⟨w.heap.size + 1, 0, none⟩ = some (.int .i64 q) ∧ w'.cell? ⟨w.heap.size + 1, 1, none⟩ = some (.int .i64 k) ∧ w'.cell? ⟨w.heap.size + 1, 2, none⟩ = some (.int .i64 d)) (first | (refine keepB q0 q1 q2 q3 q4 q5 q6 z0 z1 ?_; exact (by repeat (first | with_reducible exact Below.refl _ _ | with_reducible exact B3 | with_reducible refine Below.setCell ?_ (by first | omega | (simp; done) | (simp; omega)) _ | with_reducible refine bDrewN ?_ _ | with_reducible refine Below.drew ?_ | with_reducible refine Below.alloc ?_ (by first | omega | (simp; done) | (simp; omega)) _)))) (first
        | (go_at_call 13; refine (toBasin_any S I O P _).mono ?_; rintro e w1 ⟨rfl, rfl⟩)
        | (go_at_call 15; refine (toWater_any q k d _).mono ?_; rintro e w2 ⟨rfl, rfl⟩)
        | (go_at_call 16; refine (H2.out _ _ _ (RX.out.below (by repeat (first | with_reducible exact Below.refl _ _ | with_reducible refine Below.setCell ?_ (by first | omega | (simp; done) | (simp; omega)) _ | with_reducible refine bDrewN ?_ _ | with_reducible refine Below.drew ?_ | with_reducible refine Below.alloc ?_ (by first | omega | (simp; done) | (simp; omega)) _)))).mono ?_; rintro e w3 ⟨rfl, h3⟩; have B3 : Below wx.heap.size wx w3 := Below.trans (by repeat (first | with_reducible exact Below.refl _ _ | with_reducible refine Below.setCell ?_ (by first | omega | (simp; done) | (simp; omega)) _ | with_reducible refine bDrewN ?_ _ | with_reducible refine Below.drew ?_ | with_reducible refine Below.alloc ?_ (by first | omega | (simp; done) | (simp; omega)) _)) (h3.mono (by first | omega | (simp; done) | (simp; omega))); have s3 := B3.size; have s3b := h3.size; (try simp at s3b); obtain ⟨hc3, hf3⟩ := bcell h3; (try (have ck0 := hc3 (wx.heap.size) 0 (by first | omega | (simp; done) | (simp; omega)); have ck1 := hc3 (wx.heap.size) 1 (by first | omega | (simp; done) | (simp; omega)); have ck2 := hc3 (wx.heap.size) 2 (by first | omega | (simp; done) | (simp; omega)); have ck3 := hc3 (wx.heap.size) 3 (by first | omega | (simp; done) | (simp; omega)); have fk0 := hf3 (wx.heap.size) 0 (by first | omega | (simp; done) | (simp; omega)); have fk1 := hf3 (wx.heap.size) 1 (by first | omega | (simp; done) | (simp; omega)); have fk2 := hf3 (wx.heap.size) 2 (by first | omega | (simp; done) | (simp; omega)); have fk3 := hf3 (wx.heap.size) 3 (by first | omega | (simp; done) | (simp; omega)); simp (maxDischargeDepth := 12) [go_sem] at ck0 fk0 ck1 fk1 ck2 fk2 ck3 fk3)); (try (have ck0 := hc3 (wx.heap.size + 1 + 1 + 1) 0 (by first | omega | (simp; done) | (simp; omega)); have ck1 := hc3 (wx.heap.size + 1 + 1 + 1) 1 (by first | omega | (simp; done) | (simp; omega)); have ck2 := hc3 (wx.heap.size + 1 + 1 + 1) 2 (by first | omega | (simp; done) | (simp; omega)); have ck3 := hc3 (wx.heap.size + 1 + 1 + 1) 3 (by first | omega | (simp; done) | (simp; omega)); have fk0 := hf3 (wx.heap.size + 1 + 1 + 1) 0 (by first | omega | (simp; done) | (simp; omega)); have fk1 := hf3 (wx.heap.size + 1 + 1 + 1) 1 (by first | omega | (simp; done) | (simp; omega)); have fk2 := hf3 (wx.heap.size + 1 + 1 + 1) 2 (by first | omega | (simp; done) | (simp; omega)); have fk3 := hf3 (wx.heap.size + 1 + 1 + 1) 3 (by first | omega | (simp; done) | (simp; omega)); simp (maxDischargeDepth := 12) [go_sem] at ck0 fk0 ck1 fk1 ck2 fk2 ck3 fk3)); (try (have ck0 := hc3 (wx.heap.size + 1 + 1 + 1 + 1 + 1 + 1) 0 (by first | omega | (simp; done) | (simp; omega)); have ck1 := hc3 (wx.heap.size + 1 + 1 + 1 + 1 + 1 + 1) 1 (by first | omega | (simp; done) | (simp; omega)); have ck2 := hc3 (wx.heap.size + 1 + 1 + 1 + 1 + 1 + 1) 2 (by first | omega | (simp; done) | (simp; omega)); have ck3 := hc3 (wx.heap.size + 1 + 1 + 1 + 1 + 1 + 1) 3 (by first | omega | (simp; done) | (simp; omega)); have fk0 := hf3 (wx.heap.size + 1 + 1 + 1 + 1 + 1 + 1) 0 (by first | omega | (simp; done) | (simp; omega)); have fk1 := hf3 (wx.heap.size + 1 + 1 + 1 + 1 + 1 + 1) 1 (by first | omega | (simp; done) | (simp; omega)); have fk2 := hf3 (wx.heap.size + 1 + 1 + 1 + 1 + 1 + 1) 2 (by first | omega | (simp; done) | (simp; omega)); have fk3 := hf3 (wx.heap.size + 1 + 1 + 1 + 1 + 1 + 1) 3 (by first | omega | (simp; done) | (simp; omega)); simp (maxDischargeDepth := 12) [go_sem] at ck0 fk0 ck1 fk1 ck2 fk2 ck3 fk3)); clear hc3 hf3))
      all_goals
        go_wp2_with fail
        go_meet
        case rel =>
          refine ⟨_, rfl, rfl, ?_, ?_, ?_, ?_, ?_, ?_, (by repeat (first | with_reducible exact Below.refl _ _ | with_reducible exact B3 | with_reducible refine Below.setCell ?_ (by first | omega | (simp; done) | (simp; omega)) _ | with_reducible refine bDrewN ?_ _ | with_reducible refine Below.drew ?_ | with_reducible refine Below.alloc ?_ (by first | omega | (simp; done) | (simp; omega)) _))⟩
          all_goals first | omega | (simp [go_sem, *]; done) | (simp [go_sem, *, Nat.add_assoc]; done) | (simp; omega) | (simp [*]; omega)
    case rest =>
      obtain ⟨g', rfl, rfl, hk1, hk2, k0, k1, k2, k3, hB⟩ := hcut
      have RX2 : Hid (RowI wc (some ⟨bx, 0, none⟩) (n * 2) V) := RX.out.below hB
      replace g0 := (hB.cell (p := ⟨g, 0, none⟩) hg2).trans g0
      replace g1 := (hB.cell (p := ⟨g, 1, none⟩) hg2).trans g1
      replace g2 := (hB.cell (p := ⟨g, 2, none⟩) hg2).trans g2
      replace g3 := (hB.cell (p := ⟨g, 3, none⟩) hg2).trans g3
      replace B0 : Below w.heap.size w wc := B0.trans (hB.mono s0)
      clear s0 hB RX
      have s0 := B0.size
      go_wp2_with fail
      refine (eqBasin_any r0 r1 r2 r3 _).mono ?_
      rintro e w5 ⟨rfl, h5⟩
      have RX3 : Hid (RowI w5 (some ⟨bx, 0, none⟩) (n * 2) V) := RX2.out.below h5
      replace B0 : Below w.heap.size w w5 := B0.trans (h5.mono s0)
      clear s0 h5 RX2 g0 g1 g2 g3 k0 k1 k2 k3
      have s0 := B0.size
      go_wp2_with fail
      refine (toKnotS_any _ n _ V _ hn (HR.out.below B0)).mono ?_
      rintro e w6 ⟨by', rfl, ly, uy, Ry, hy⟩
      have RY : Hid (RowI w6 (some ⟨by', 0, none⟩) (n * 2) V) := Ry
      have RX4 : Hid (RowI w6 (some ⟨bx, 0, none⟩) (n * 2) V) := RX3.out.below hy
      replace B0 : Below w.heap.size w w6 := B0.trans (hy.mono s0)
      clear s0 hy Ry RX3
      have s0 := B0.size
      go_wp2_with fail
      refine (eqKnotS_any _ _ n _ _ V _ hn RX4.out RY.out).mono ?_
      rintro e w7 ⟨rfl, h7⟩
      replace B0 : Below w.heap.size w w7 := B0.trans (h7.mono s0)
      go_wp2
      go_ret
      exact ⟨rfl, B0⟩

set_option maxHeartbeats 400000 in
theorem basinStep_far (w : World) (S I O P full q k d : Int) (s : Option Addr) (n c : Nat) (hf : 1048576 < (n : Int)) (hf2 : (n : Int) ≤ 9223372036854775807) :
    Calls Try.prog 4 #[.agg #[.int .i64 S, .int .i64 I, .int .i64 O, .int .i64 P], .int .i64 full, .slice s n c, .agg #[.int .i64 q, .int .i64 k, .int .i64 d]] w fun e w' => e = .returned (.bool true) ∧ Below w.heap.size w w' := by
  go_enter Try.func4, Try.ntmps4
  go_wp2_with fail
  refine (szK_off _ n _ _ _ (by omega) (by omega) hf hf2).mono ?_
  rintro e w0 ⟨rfl, rfl⟩
  go_wp2
  go_ret
  exact ⟨rfl, (by repeat (first | with_reducible exact Below.refl _ _ | with_reducible refine Below.setCell ?_ (by first | omega | (simp; done) | (simp; omega)) _ | with_reducible refine bDrewN ?_ _ | with_reducible refine Below.drew ?_ | with_reducible refine Below.alloc ?_ (by first | omega | (simp; done) | (simp; omega)) _))⟩

theorem fnExactBasinStep_walk (w : World) (S : Int) (wS : (Lit.int .i64 S).wf = true) (I : Int) (wI : (Lit.int .i64 I).wf = true) (O : Int) (wO : (Lit.int .i64 O).wf = true) (P : Int) (wP : (Lit.int .i64 P).wf = true) (full : Int) (wfull : (Lit.int .i64 full).wf = true) (s : Option Addr) (n c : Nat) (V : Nat → Int) (hn : n ≤ 9223372036854775807) (R : RowI w s (n * 2) V) (q : Int) (wq : (Lit.int .i64 q).wf = true) (k : Int) (wk : (Lit.int .i64 k).wf = true) (d : Int) (wd : (Lit.int .i64 d).wf = true) :
    Calls Try.prog 4 #[.agg #[.int .i64 S, .int .i64 I, .int .i64 O, .int .i64 P], .int .i64 full, .slice s n c, .agg #[.int .i64 q, .int .i64 k, .int .i64 d]] w fun e w' => e = .returned (.bool true) ∧ Below w.heap.size w w' := by
  by_cases h : n ≤ 1048576
  · obtain ⟨y, ok, hav⟩ := av_exists n V d
    exact basinStep_near w S I O P full q k d _ _ _ _ _ s n c V (by omega) R (fun s c w h => specBasin_any S I O P full q k d y ok s n c V w hav h) (fun s c w h => implBasin_any S I O P full q k d y ok s n c V w hav h)
  · exact basinStep_far w S I O P full q k d s n c (by omega) (by omega)

set_option maxRecDepth 100000 in
theorem fnExactBasinStep_lifted (os : Os) (started : os.Started) (H : Type) (enc : TypeId × Value → H) :
    ReturnsInHanded {} Try.checked os 4 .any (Rows.fnExactBasinStepSpec.pre6 enc Try.prog Try.f4 Rows.fnExactBasinStepRow.domain false) (Rows.fnExactBasinStepSpec.post enc Try.prog Try.f4 false true false false) := by
  refine returnsInHanded_of_change (C := Try.checked) own started (by kernel_rfl) Try.func4
    (ChangeSpec.witness6 (enc := enc) (C := Try.checked) false ⟨#[], #[.agg #[.int .i64 0, .int .i64 0, .int .i64 0, .int .i64 0], .int .i64 0, .slice none 0 0, .agg #[.int .i64 0, .int .i64 0, .int .i64 0]], []⟩ 8 (by kernel_rfl) (by kernel_rfl) (by kernel_rfl) (by kernel_rfl)) ?_
  intro W base args ds gs before hval0 hW hcnd _
  have hval : ∀ (j : Nat) t v, Try.f4.params[j]? = some t → args[j]? = some v → Value.okWide Try.prog W .any base t v := hval0
  have hW' := hW
  obtain ⟨p, q, hA0, hV, rfl, hfz, hnd⟩ := hW
  have hA : DataW.TrodAll enc Try.prog W 0 (fun _ => true) true Try.f4.params.toList args.toList ds p := hA0
  rw [Try.params4] at hA hval
  obtain ⟨v0, vs0, d0, ds0, p0, q0, hargs, rfl, rfl, h0, r0⟩ := trodAll_cons hA
  obtain ⟨v1, vs1, d1, ds1, p1, q1, rfl, rfl, rfl, h1, r1⟩ := trodAll_cons r0
  obtain ⟨v2, vs2, d2, ds2, p2, q2, rfl, rfl, rfl, h2, r2⟩ := trodAll_cons r1
  obtain ⟨v3, vs3, d3, ds3, p3, q3, rfl, rfl, rfl, h3, r3⟩ := trodAll_cons r2
  obtain ⟨rfl, rfl, rfl⟩ := trodAll_nil r3
  obtain rfl : args = #[v0, v1, v2, v3] := by cases args; simp_all
  obtain ⟨rfl, rfl⟩ := trodVars_none hV
  have k0 := h0
  have lt0 : ∀ x ∈ p0, x.block < W.heap.size := by obtain ⟨m, hm⟩ := k0; exact DataW.trod_lt m _ _ _ hm
  have k1 := h1
  have lt1 : ∀ x ∈ p1, x.block < W.heap.size := by obtain ⟨m, hm⟩ := k1; exact DataW.trod_lt m _ _ _ hm
  have k2 := h2
  have lt2 : ∀ x ∈ p2, x.block < W.heap.size := by obtain ⟨m, hm⟩ := k2; exact DataW.trod_lt m _ _ _ hm
  have k3 := h3
  have lt3 : ∀ x ∈ p3, x.block < W.heap.size := by obtain ⟨m, hm⟩ := k3; exact DataW.trod_lt m _ _ _ hm
  obtain ⟨vs0, rfl, c0⟩ := open_cells Try.underlying32 (ts := [2, 2, 2, 2]) (by kernel_rfl) (by kernel_rfl) (hval 0 32 v0 rfl rfl)
  obtain ⟨x0_0, r0_0, rfl, o0_0, c0_0⟩ := cellsOk_cons c0
  obtain ⟨a0_0, rfl, w0_0⟩ := cell_int Try.underlying2 o0_0
  obtain ⟨x0_1, r0_1, rfl, o0_1, c0_1⟩ := cellsOk_cons c0_0
  obtain ⟨a0_1, rfl, w0_1⟩ := cell_int Try.underlying2 o0_1
  obtain ⟨x0_2, r0_2, rfl, o0_2, c0_2⟩ := cellsOk_cons c0_1
  obtain ⟨a0_2, rfl, w0_2⟩ := cell_int Try.underlying2 o0_2
  obtain ⟨x0_3, r0_3, rfl, o0_3, c0_3⟩ := cellsOk_cons c0_2
  obtain ⟨a0_3, rfl, w0_3⟩ := cell_int Try.underlying2 o0_3
  obtain rfl := cellsOk_nil c0_3
  obtain ⟨a1, rfl, rfl, rfl, w1⟩ := open_int Try.underlying2 (hval 1 2 v1 rfl rfl) h1
  obtain ⟨s2, n2, c2, V2, rfl, m2, R2⟩ := open_pairs Try.underlying33 Try.underlying69 (by kernel_rfl) rfl rfl (by kernel_rfl) (by kernel_rfl) (by kernel_rfl) (by kernel_rfl) (hval 2 33 v2 rfl rfl) h2
  obtain ⟨vs3, rfl, c3⟩ := open_cells Try.underlying35 (ts := [2, 2, 2]) (by kernel_rfl) (by kernel_rfl) (hval 3 35 v3 rfl rfl)
  obtain ⟨x3_0, r3_0, rfl, o3_0, c3_0⟩ := cellsOk_cons c3
  obtain ⟨a3_0, rfl, w3_0⟩ := cell_int Try.underlying2 o3_0
  obtain ⟨x3_1, r3_1, rfl, o3_1, c3_1⟩ := cellsOk_cons c3_0
  obtain ⟨a3_1, rfl, w3_1⟩ := cell_int Try.underlying2 o3_1
  obtain ⟨x3_2, r3_2, rfl, o3_2, c3_2⟩ := cellsOk_cons c3_1
  obtain ⟨a3_2, rfl, w3_2⟩ := cell_int Try.underlying2 o3_2
  obtain rfl := cellsOk_nil c3_2
  clear hA0 hval0
  refine (fnExactBasinStep_walk W a0_0 w0_0 a0_1 w0_1 a0_2 w0_2 a0_3 w0_3 a1 w1 s2 n2 c2 V2 m2 R2 a3_0 w3_0 a3_1 w3_1 a3_2 w3_2).mono fun e W' ⟨he, bel⟩ => ?_
  subst he
  exact ⟨_, rfl, _, _, _, [], _, [], hW', trodAll_mk1 (shut_bool Try.underlying4 _), (trodAll_cons_mk (Below.trod laidOut (by kernel_rfl) (of_decide_eq_true (by kernel_rfl)) k0 bel lt0) (trodAll_cons_mk (Below.trod laidOut (by kernel_rfl) (of_decide_eq_true (by kernel_rfl)) k1 bel lt1) (trodAll_cons_mk (Below.trod laidOut (by kernel_rfl) (of_decide_eq_true (by kernel_rfl)) k2 bel lt2) (trodAll_cons_mk (Below.trod laidOut (by kernel_rfl) (of_decide_eq_true (by kernel_rfl)) k3 bel lt3) trodAll_mk0)))), rfl, bel.frame _, fun h => by cases h⟩

theorem fnExactBasinStep_holds : Rows.FnExactBasinStepSaid :=
  OpenClaim.holds_of_wide 4 Try.f4 rfl rfl rfl rfl rfl rfl rfl ⟨rfl, rfl, rfl, rfl, rfl⟩ rfl rfl rfl rfl rfl (by kernel_rfl) Try.func4 (by kernel_rfl)
    (of_decide_eq_true (by kernel_rfl)) (by unfold Func.isWrapper; first | (rw [if_pos (by decide +kernel)]; kernel_rfl) | (rw [if_neg (by decide +kernel)]; exact ⟨rfl, rfl⟩))
    (fun os started H enc _ => fnExactBasinStep_lifted os started H enc)
#print axioms fnExactBasinStep_holds
end Go.Proofs.Ytebjeoljbbkakaa
