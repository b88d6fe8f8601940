/-
What is proved: at every basin, every full, every curve and every list of days impl.BasinRun answers as the specification's BasinRun and leaves the curve and the list alone; no condition.
-/
import Derived.Test.YtebjeoljbbkakaaBRunS
import Derived.Test.YtebjeoljbbkakaaBRunI
import Derived.Test.YtebjeoljbbkakaaBasinL
import Derived.Test.YtebjeoljbbkakaaCurveK
import Derived.Test.YtebjeoljbbkakaaWatersE
import Derived.Deep.RegionHeld3
import Derived.Deep.DeepCutAuto
namespace Go.Proofs.Ytebjeoljbbkakaa
set_option maxRecDepth 40000
open Go.ChangeShapes Go.WideShapes Go.ChangeAt Go.RowKit
set_option linter.unusedVariables false
set_option linter.unusedSimpArgs false

set_option maxRecDepth 20000 in
set_option maxHeartbeats 4000000 in
theorem basinRun_near (w : World) (x0 x1 x2 x3 full y0 y1 y2 y3 z : Int) (s : Option Addr) (m c : Nat) (V : Nat → Int) (t : Option Addr) (n e : Nat) (A : Nat → Int) (hm : (m : Int) ≤ 1048576) (hn : (n : Int) ≤ 1048576) (hl : (n : Int) ≤ 1048576 - (m : Int)) (HV : Hid (RowI w s (m * 2) V)) (HR : Hid (RowI w t (n * 3) A))
    (H1 : Hid (∀ s c t e w, RowI w s (m * 2) V → RowI w t (n * 3) A → Calls Try.prog 20 #[.agg #[.int .i64 x0, .int .i64 x1, .int .i64 x2, .int .i64 x3], .int .i64 full, .slice s m c, .slice t n e] w fun r w' => r = .returned (.tuple #[.agg #[.int .i64 y0, .int .i64 y1, .int .i64 y2, .int .i64 y3], .int .i64 z]) ∧ Below w.heap.size w w'))
    (H2 : Hid (∀ s c t e w, RowI w s (m * 2) V → RowI w t (n * 3) A → Calls Try.prog 22 #[.agg #[.int .i64 x0, .int .i64 x1, .int .i64 x2, .int .i64 x3], .int .i64 full, .slice s m c, .slice t n e] w fun r w' => r = .returned (.tuple #[.agg #[.int .i64 y0, .int .i64 y1, .int .i64 y2, .int .i64 y3], .int .i64 z]) ∧ Below w.heap.size w w')) :
    Calls Try.prog 5 #[.agg #[.int .i64 x0, .int .i64 x1, .int .i64 x2, .int .i64 x3], .int .i64 full, .slice s m c, .slice t n e] w fun r w' => r = .returned (.bool true) ∧ Below w.heap.size w w' := by
  go_enter Try.func5, Try.ntmps5
  go_wp2_with fail
  refine (szK_on _ m _ _ _ (by omega) (by omega) (by omega)).mono ?_
  rintro r w0 ⟨rfl, rfl⟩
  go_wp2_with fail
  refine (szW_on _ n _ _ _ (by omega) (by omega) (by omega)).mono ?_
  rintro r w0 ⟨rfl, rfl⟩
  go_wp2_with fail
  refine (toBasin_any x0 x1 x2 x3 _).mono ?_
  rintro r wq ⟨rfl, hq⟩
  obtain ⟨wa, hwa⟩ : ∃ wa, wa = w.alloc (.cells #[.int .i64 x0, .int .i64 x1, .int .i64 x2, .int .i64 x3] 32) := ⟨_, rfl⟩
  have A0 : Hid (BasAt wq w.heap.size x0 x1 x2 x3) := by
    have b : Below wa.heap.size wa wq := by rw [hwa, hq]; exact (by repeat (first | with_reducible exact Below.refl _ _ | with_reducible refine Below.setCell ?_ (by first | omega | (simp; done) | (simp; omega)) _ | with_reducible refine bDrewN ?_ _ | with_reducible refine Below.drew ?_ | with_reducible refine Below.alloc ?_ (by first | omega | (simp; done) | (simp; omega)) _))
    refine BasAt.low (w := wa) ?_ b (by rw [hwa]; simp)
    rw [hwa]
    exact ⟨by simp, fun o => by simp [go_sem], by simp [go_sem], by simp [go_sem], by simp [go_sem], by simp [go_sem]⟩
  have B0 : Below w.heap.size w wq := by rw [hq]; exact (by repeat (first | with_reducible exact Below.refl _ _ | with_reducible refine Below.setCell ?_ (by first | omega | (simp; done) | (simp; omega)) _ | with_reducible refine bDrewN ?_ _ | with_reducible refine Below.drew ?_ | with_reducible refine Below.alloc ?_ (by first | omega | (simp; done) | (simp; omega)) _))
  clear hq hwa
  go_wp2_with fail
  refine (toKnotS_any _ m _ V _ hm (HV.out.below B0)).mono ?_
  rintro r w1 ⟨ba1, rfl, la1, ua1, Ra1, h⟩
  clear la1 ua1
  replace B0 : Below w.heap.size w w1 := B0.trans (h.mono B0.size)
  replace A0 : Hid (BasAt w1 w.heap.size x0 x1 x2 x3) := A0.out.below h
  clear h
  have Pa1 : Hid (RowI w1 (some ⟨ba1, 0, none⟩) (m * 2) V) := Ra1
  clear Ra1
  go_wp2_with fail
  refine (toWaterS_any _ n _ A _ hn (HR.out.below B0)).mono ?_
  rintro r w2 ⟨ba2, rfl, la2, ua2, Ra2, h⟩
  clear la2 ua2
  replace B0 : Below w.heap.size w w2 := B0.trans (h.mono B0.size)
  replace A0 : Hid (BasAt w2 w.heap.size x0 x1 x2 x3) := A0.out.below h
  replace Pa1 : Hid (RowI w2 (some ⟨ba1, 0, none⟩) (m * 2) V) := Pa1.out.below h
  clear h
  have Pa2 : Hid (RowI w2 (some ⟨ba2, 0, none⟩) (n * 3) A) := Ra2
  clear Ra2
  go_wp2_with fail
  refine (H1.out _ _ _ _ _ Pa1.out Pa2.out).mono ?_
  rintro r w3 ⟨rfl, h⟩
  clear Pa1
  clear Pa2
  replace B0 : Below w.heap.size w w3 := B0.trans (h.mono B0.size)
  replace A0 : Hid (BasAt w3 w.heap.size x0 x1 x2 x3) := A0.out.below h
  clear h
  have HQ : Hid (∀ ob, RowI (w3.alloc ob) s (m * 2) V) := fun ob => (HV.out.below B0).below (below0 w3 ob)
  go_wp2_with fail
  refine (toKnotS_any _ m _ V _ hm (HQ.out _)).mono ?_
  rintro r w4 ⟨bx1, rfl, lx1, ux1, Rx1, h⟩
  clear HQ
  have AW : Hid (BasAt w4 w3.heap.size y0 y1 y2 y3) := by
    refine BasAt.low (w := w3.alloc (.cells #[.int .i64 y0, .int .i64 y1, .int .i64 y2, .int .i64 y3] 37)) ?_ h (by simp)
    exact ⟨by simp, fun o => by simp [go_sem], by simp [go_sem], by simp [go_sem], by simp [go_sem], by simp [go_sem]⟩
  replace h : Below w3.heap.size w3 w4 := Below.trans (by repeat (first | with_reducible exact Below.refl _ _ | with_reducible refine Below.setCell ?_ (by first | omega | (simp; done) | (simp; omega)) _ | with_reducible refine bDrewN ?_ _ | with_reducible refine Below.drew ?_ | with_reducible refine Below.alloc ?_ (by first | omega | (simp; done) | (simp; omega)) _)) (h.mono (by first | omega | (simp; done) | (simp; omega)))
  clear lx1 ux1
  replace B0 : Below w.heap.size w w4 := B0.trans (h.mono B0.size)
  replace A0 : Hid (BasAt w4 w.heap.size x0 x1 x2 x3) := A0.out.below h
  clear h
  have Px1 : Hid (RowI w4 (some ⟨bx1, 0, none⟩) (m * 2) V) := Rx1
  clear Rx1
  go_wp2_with fail
  refine (toWaterS_any _ n _ A _ hn (HR.out.below B0)).mono ?_
  rintro r w5 ⟨bx2, rfl, lx2, ux2, Rx2, h⟩
  clear lx2 ux2
  replace B0 : Below w.heap.size w w5 := B0.trans (h.mono B0.size)
  replace A0 : Hid (BasAt w5 w.heap.size x0 x1 x2 x3) := A0.out.below h
  replace Px1 : Hid (RowI w5 (some ⟨bx1, 0, none⟩) (m * 2) V) := Px1.out.below h
  replace AW : Hid (BasAt w5 w3.heap.size y0 y1 y2 y3) := AW.out.below h
  clear h
  have Px2 : Hid (RowI w5 (some ⟨bx2, 0, none⟩) (n * 3) A) := Rx2
  clear Rx2
  obtain ⟨p_A0, f_A0, a_A0, b_A0, c_A0, d_A0⟩ := A0.out
  go_wp2_with fail
  refine (toBasin_any x0 x1 x2 x3 _).mono ?_
  rintro r w6 ⟨rfl, hq⟩
  have h : Below w5.heap.size w5 w6 := by rw [hq]; exact (by repeat (first | with_reducible exact Below.refl _ _ | with_reducible refine Below.setCell ?_ (by first | omega | (simp; done) | (simp; omega)) _ | with_reducible refine bDrewN ?_ _ | with_reducible refine Below.drew ?_ | with_reducible refine Below.alloc ?_ (by first | omega | (simp; done) | (simp; omega)) _))
  clear hq
  clear p_A0 f_A0 a_A0 b_A0 c_A0 d_A0
  replace B0 : Below w.heap.size w w6 := B0.trans (h.mono B0.size)
  replace A0 : Hid (BasAt w6 w.heap.size x0 x1 x2 x3) := A0.out.below h
  replace Px1 : Hid (RowI w6 (some ⟨bx1, 0, none⟩) (m * 2) V) := Px1.out.below h
  replace AW : Hid (BasAt w6 w3.heap.size y0 y1 y2 y3) := AW.out.below h
  replace Px2 : Hid (RowI w6 (some ⟨bx2, 0, none⟩) (n * 3) A) := Px2.out.below h
  clear h
  go_wp2_with fail
  refine (H2.out _ _ _ _ _ Px1.out Px2.out).mono ?_
  rintro r w7 ⟨rfl, h⟩
  replace B0 : Below w.heap.size w w7 := B0.trans (h.mono B0.size)
  replace A0 : Hid (BasAt w7 w.heap.size x0 x1 x2 x3) := A0.out.below h
  replace Px1 : Hid (RowI w7 (some ⟨bx1, 0, none⟩) (m * 2) V) := Px1.out.below h
  replace AW : Hid (BasAt w7 w3.heap.size y0 y1 y2 y3) := AW.out.below h
  replace Px2 : Hid (RowI w7 (some ⟨bx2, 0, none⟩) (n * 3) A) := Px2.out.below h
  clear h
  have G0 : Hid (∀ ob, BasAt (w7.alloc ob) w3.heap.size y0 y1 y2 y3) := fun ob => AW.out.below (below0 w7 ob)
  obtain ⟨p_G, f_G, a_G, b_G, c_G, d_G⟩ := G0.out (.cells #[.int .i64 y0, .int .i64 y1, .int .i64 y2, .int .i64 y3] 37)
  obtain ⟨p_AW, f_AW, a_AW, b_AW, c_AW, d_AW⟩ := AW.out
  go_wp2_with fail
  refine (eqBasin_any y0 y1 y2 y3 _).mono ?_
  rintro r w8 ⟨rfl, h⟩
  replace h : Below w7.heap.size w7 w8 := Below.trans (by repeat (first | with_reducible exact Below.refl _ _ | with_reducible refine Below.setCell ?_ (by first | omega | (simp; done) | (simp; omega)) _ | with_reducible refine bDrewN ?_ _ | with_reducible refine Below.drew ?_ | with_reducible refine Below.alloc ?_ (by first | omega | (simp; done) | (simp; omega)) _)) (h.mono (by first | omega | (simp; done) | (simp; omega)))
  clear G0 p_G f_G a_G b_G c_G d_G
  clear p_AW f_AW a_AW b_AW c_AW d_AW
  clear AW
  replace B0 : Below w.heap.size w w8 := B0.trans (h.mono B0.size)
  replace A0 : Hid (BasAt w8 w.heap.size x0 x1 x2 x3) := A0.out.below h
  replace Px1 : Hid (RowI w8 (some ⟨bx1, 0, none⟩) (m * 2) V) := Px1.out.below h
  replace Px2 : Hid (RowI w8 (some ⟨bx2, 0, none⟩) (n * 3) A) := Px2.out.below h
  clear h
  clear A0
  go_wp2_with fail
  refine (toKnotS_any _ m _ V _ hm (HV.out.below B0)).mono ?_
  rintro r w9 ⟨bv1, rfl, lv1, uv1, Rv1, h⟩
  clear lv1 uv1
  replace B0 : Below w.heap.size w w9 := B0.trans (h.mono B0.size)
  replace Px1 : Hid (RowI w9 (some ⟨bx1, 0, none⟩) (m * 2) V) := Px1.out.below h
  replace Px2 : Hid (RowI w9 (some ⟨bx2, 0, none⟩) (n * 3) A) := Px2.out.below h
  clear h
  have Pv1 : Hid (RowI w9 (some ⟨bv1, 0, none⟩) (m * 2) V) := Rv1
  clear Rv1
  go_wp2_with fail
  refine (eqKnotS_any _ _ m _ _ V _ hm Px1.out Pv1.out).mono ?_
  rintro r w10 ⟨rfl, h⟩
  clear Pv1
  clear Px1
  replace B0 : Below w.heap.size w w10 := B0.trans (h.mono B0.size)
  replace Px2 : Hid (RowI w10 (some ⟨bx2, 0, none⟩) (n * 3) A) := Px2.out.below h
  clear h
  go_wp2_with fail
  refine (toWaterS_any _ n _ A _ hn (HR.out.below B0)).mono ?_
  rintro r w11 ⟨bv2, rfl, lv2, uv2, Rv2, h⟩
  clear lv2 uv2
  replace B0 : Below w.heap.size w w11 := B0.trans (h.mono B0.size)
  replace Px2 : Hid (RowI w11 (some ⟨bx2, 0, none⟩) (n * 3) A) := Px2.out.below h
  clear h
  have Pv2 : Hid (RowI w11 (some ⟨bv2, 0, none⟩) (n * 3) A) := Rv2
  clear Rv2
  go_wp2_with fail
  refine (eqWaterS_any _ _ n _ _ A _ hn Px2.out Pv2.out).mono ?_
  rintro r w12 ⟨rfl, h⟩
  clear Pv2
  clear Px2
  replace B0 : Below w.heap.size w w12 := B0.trans (h.mono B0.size)
  clear h
  go_wp2
  go_ret
  exact ⟨rfl, B0⟩

set_option maxHeartbeats 400000 in
theorem basinRun_far1 (w : World) (x0 x1 x2 x3 full : Int) (s : Option Addr) (m c : Nat) (t : Option Addr) (n e : Nat) (hf : 1048576 < (m : Int)) (hf2 : (m : Int) ≤ 9223372036854775807) :
    Calls Try.prog 5 #[.agg #[.int .i64 x0, .int .i64 x1, .int .i64 x2, .int .i64 x3], .int .i64 full, .slice s m c, .slice t n e] w fun r w' => r = .returned (.bool true) ∧ Below w.heap.size w w' := by
  go_enter Try.func5, Try.ntmps5
  go_wp2_with fail
  refine (szK_off _ m _ _ _ (by omega) (by omega) hf hf2).mono ?_
  rintro r w0 ⟨rfl, rfl⟩
  go_wp2
  go_ret
  exact ⟨rfl, (by repeat (first | with_reducible exact Below.refl _ _ | with_reducible refine Below.setCell ?_ (by first | omega | (simp; done) | (simp; omega)) _ | with_reducible refine bDrewN ?_ _ | with_reducible refine Below.drew ?_ | with_reducible refine Below.alloc ?_ (by first | omega | (simp; done) | (simp; omega)) _))⟩
set_option maxHeartbeats 400000 in
theorem basinRun_far2 (w : World) (x0 x1 x2 x3 full : Int) (s : Option Addr) (m c : Nat) (t : Option Addr) (n e : Nat) (hm : (m : Int) ≤ 1048576) (hf : 1048576 - (m : Int) < (n : Int)) (hf2 : (n : Int) ≤ 9223372036854775807) :
    Calls Try.prog 5 #[.agg #[.int .i64 x0, .int .i64 x1, .int .i64 x2, .int .i64 x3], .int .i64 full, .slice s m c, .slice t n e] w fun r w' => r = .returned (.bool true) ∧ Below w.heap.size w w' := by
  go_enter Try.func5, Try.ntmps5
  go_wp2_with fail
  refine (szK_on _ m _ _ _ (by omega) (by omega) (by omega)).mono ?_
  rintro r w0 ⟨rfl, rfl⟩
  go_wp2_with fail
  refine (szW_off _ n _ _ _ (by omega) (by omega) hf hf2).mono ?_
  rintro r w0 ⟨rfl, rfl⟩
  go_wp2
  go_ret
  exact ⟨rfl, (by repeat (first | with_reducible exact Below.refl _ _ | with_reducible refine Below.setCell ?_ (by first | omega | (simp; done) | (simp; omega)) _ | with_reducible refine bDrewN ?_ _ | with_reducible refine Below.drew ?_ | with_reducible refine Below.alloc ?_ (by first | omega | (simp; done) | (simp; omega)) _))⟩

theorem fnExactBasinRun_walk (w : World) (x0 : Int) (wx0 : (Lit.int .i64 x0).wf = true) (x1 : Int) (wx1 : (Lit.int .i64 x1).wf = true) (x2 : Int) (wx2 : (Lit.int .i64 x2).wf = true) (x3 : Int) (wx3 : (Lit.int .i64 x3).wf = true) (full : Int) (wfull : (Lit.int .i64 full).wf = true) (s : Option Addr) (m c : Nat) (V : Nat → Int) (hm : m ≤ 9223372036854775807) (R : RowI w s (m * 2) V) (t : Option Addr) (n e : Nat) (A : Nat → Int) (hn : n ≤ 9223372036854775807) (R2 : RowI w t (n * 3) A) :
    Calls Try.prog 5 #[.agg #[.int .i64 x0, .int .i64 x1, .int .i64 x2, .int .i64 x3], .int .i64 full, .slice s m c, .slice t n e] w fun r w' => r = .returned (.bool true) ∧ Below w.heap.size w w' := by
  by_cases h : m ≤ 1048576
  · by_cases h2 : (n : Int) ≤ 1048576 - (m : Int)
    · obtain ⟨Y, hY1⟩ := Classical.axiomOfChoice (fun d => av_exists m V d)
      obtain ⟨Kf, hY⟩ := Classical.axiomOfChoice hY1
      have hex : ∃ v, RunBV full Y Kf (x0, x1, x2, x3) A n v := runBV_exists full Y Kf (x0, x1, x2, x3) A n
      obtain ⟨v, hv⟩ := hex
      obtain ⟨y0, y1, y2, y3, z, rfl⟩ := hv.form
      exact basinRun_near w x0 x1 x2 x3 full y0 y1 y2 y3 z s m c V t n e A (by omega) (by omega) h2 R R2
        (fun s c t e w q q' => (specBasinRun_any x0 x1 x2 x3 full s m c V t n e A Y Kf w hY q q').mono fun r w' ⟨⟨u, hu, k1⟩, k2⟩ => by rw [hu.one hv] at k1; exact ⟨k1, k2⟩)
        (fun s c t e w q q' => (implBasinRun_any x0 x1 x2 x3 full s m c V t n e A Y Kf w hY q q').mono fun r w' ⟨⟨u, hu, k1⟩, k2⟩ => by rw [hu.one hv] at k1; exact ⟨k1, k2⟩)
    · exact basinRun_far2 w x0 x1 x2 x3 full s m c t n e (by omega) (by omega) (by omega)
  · exact basinRun_far1 w x0 x1 x2 x3 full s m c t n e (by omega) (by omega)

set_option maxRecDepth 100000 in
theorem fnExactBasinRun_lifted (os : Os) (started : os.Started) (H : Type) (enc : TypeId × Value → H) :
    ReturnsInHanded {} Try.checked os 5 .any (Rows.fnExactBasinRunSpec.pre6 enc Try.prog Try.f5 Rows.fnExactBasinRunRow.domain false) (Rows.fnExactBasinRunSpec.post enc Try.prog Try.f5 false true false false) := by
  refine returnsInHanded_of_change (C := Try.checked) own started (by kernel_rfl) Try.func5
    (ChangeSpec.witness6 (enc := enc) (C := Try.checked) false ⟨#[], #[.agg #[.int .i64 0, .int .i64 0, .int .i64 0, .int .i64 0], .int .i64 0, .slice none 0 0, .slice none 0 0], []⟩ 8 (by kernel_rfl) (by kernel_rfl) (by kernel_rfl) (by kernel_rfl)) ?_
  intro W base args ds gs before hval0 hW hcnd _
  have hval : ∀ (j : Nat) t v, Try.f5.params[j]? = some t → args[j]? = some v → Value.okWide Try.prog W .any base t v := hval0
  have hW' := hW
  obtain ⟨p, q, hA0, hV, rfl, hfz, hnd⟩ := hW
  have hA : DataW.TrodAll enc Try.prog W 0 (fun _ => true) true Try.f5.params.toList args.toList ds p := hA0
  rw [Try.params5] at hA hval
  obtain ⟨v0, vs0, d0, ds0, p0, q0, hargs, rfl, rfl, h0, r0⟩ := trodAll_cons hA
  obtain ⟨v1, vs1, d1, ds1, p1, q1, rfl, rfl, rfl, h1, r1⟩ := trodAll_cons r0
  obtain ⟨v2, vs2, d2, ds2, p2, q2, rfl, rfl, rfl, h2, r2⟩ := trodAll_cons r1
  obtain ⟨v3, vs3, d3, ds3, p3, q3, rfl, rfl, rfl, h3, r3⟩ := trodAll_cons r2
  obtain ⟨rfl, rfl, rfl⟩ := trodAll_nil r3
  obtain rfl : args = #[v0, v1, v2, v3] := by cases args; simp_all
  obtain ⟨rfl, rfl⟩ := trodVars_none hV
  have k0 := h0
  have lt0 : ∀ x ∈ p0, x.block < W.heap.size := by obtain ⟨m, hm⟩ := k0; exact DataW.trod_lt m _ _ _ hm
  have k1 := h1
  have lt1 : ∀ x ∈ p1, x.block < W.heap.size := by obtain ⟨m, hm⟩ := k1; exact DataW.trod_lt m _ _ _ hm
  have k2 := h2
  have lt2 : ∀ x ∈ p2, x.block < W.heap.size := by obtain ⟨m, hm⟩ := k2; exact DataW.trod_lt m _ _ _ hm
  have k3 := h3
  have lt3 : ∀ x ∈ p3, x.block < W.heap.size := by obtain ⟨m, hm⟩ := k3; exact DataW.trod_lt m _ _ _ hm
  obtain ⟨vs0, rfl, c0⟩ := open_cells Try.underlying32 (ts := [2, 2, 2, 2]) (by kernel_rfl) (by kernel_rfl) (hval 0 32 v0 rfl rfl)
  obtain ⟨x0_0, r0_0, rfl, o0_0, c0_0⟩ := cellsOk_cons c0
  obtain ⟨a0_0, rfl, w0_0⟩ := cell_int Try.underlying2 o0_0
  obtain ⟨x0_1, r0_1, rfl, o0_1, c0_1⟩ := cellsOk_cons c0_0
  obtain ⟨a0_1, rfl, w0_1⟩ := cell_int Try.underlying2 o0_1
  obtain ⟨x0_2, r0_2, rfl, o0_2, c0_2⟩ := cellsOk_cons c0_1
  obtain ⟨a0_2, rfl, w0_2⟩ := cell_int Try.underlying2 o0_2
  obtain ⟨x0_3, r0_3, rfl, o0_3, c0_3⟩ := cellsOk_cons c0_2
  obtain ⟨a0_3, rfl, w0_3⟩ := cell_int Try.underlying2 o0_3
  obtain rfl := cellsOk_nil c0_3
  obtain ⟨a1, rfl, rfl, rfl, w1⟩ := open_int Try.underlying2 (hval 1 2 v1 rfl rfl) h1
  obtain ⟨s2, n2, c2, V2, rfl, m2, R2⟩ := open_pairs Try.underlying33 Try.underlying69 (by kernel_rfl) rfl rfl (by kernel_rfl) (by kernel_rfl) (by kernel_rfl) (by kernel_rfl) (hval 2 33 v2 rfl rfl) h2
  obtain ⟨s3, n3, c3, V3, rfl, m3, R3⟩ := open_triples Try.underlying48 Try.underlying35 (by kernel_rfl) rfl rfl rfl (by kernel_rfl) (by kernel_rfl) (by kernel_rfl) (by kernel_rfl) (by kernel_rfl) (by kernel_rfl) (hval 3 48 v3 rfl rfl) h3
  clear hA0 hval0
  refine (fnExactBasinRun_walk W a0_0 w0_0 a0_1 w0_1 a0_2 w0_2 a0_3 w0_3 a1 w1 s2 n2 c2 V2 m2 R2 s3 n3 c3 V3 m3 R3).mono fun e W' ⟨he, bel⟩ => ?_
  subst he
  exact ⟨_, rfl, _, _, _, [], _, [], hW', trodAll_mk1 (shut_bool Try.underlying4 _), (trodAll_cons_mk (Below.trod laidOut (by kernel_rfl) (of_decide_eq_true (by kernel_rfl)) k0 bel lt0) (trodAll_cons_mk (Below.trod laidOut (by kernel_rfl) (of_decide_eq_true (by kernel_rfl)) k1 bel lt1) (trodAll_cons_mk (Below.trod laidOut (by kernel_rfl) (of_decide_eq_true (by kernel_rfl)) k2 bel lt2) (trodAll_cons_mk (Below.trod laidOut (by kernel_rfl) (of_decide_eq_true (by kernel_rfl)) k3 bel lt3) trodAll_mk0)))), rfl, bel.frame _, fun h => by cases h⟩

theorem fnExactBasinRun_holds : Rows.FnExactBasinRunSaid :=
  OpenClaim.holds_of_wide 5 Try.f5 rfl rfl rfl rfl rfl rfl rfl ⟨rfl, rfl, rfl, rfl, rfl⟩ rfl rfl rfl rfl rfl (by kernel_rfl) Try.func5 (by kernel_rfl)
    (of_decide_eq_true (by kernel_rfl)) (by unfold Func.isWrapper; first | (rw [if_pos (by decide +kernel)]; kernel_rfl) | (rw [if_neg (by decide +kernel)]; exact ⟨rfl, rfl⟩))
    (fun os started H enc _ => fnExactBasinRun_lifted os started H enc)
#print axioms fnExactBasinRun_holds
end Go.Proofs.Ytebjeoljbbkakaa
