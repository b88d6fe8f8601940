/-
What is proved: a drum that is controlled, all drawn from every code, is the one that the feeds, fires and draws lead to when they are run; no condition.
-/
import Derived.Test.YtigcbgiakijloaaCtD
import Derived.Test.YtigcbgiakijloaaCtV
import Derived.Test.YtigcbgiakijloaaCtlS
import Derived.Test.YtigcbgiakijloaaCtlI
import Derived.Test.YtigcbgiakijloaaCtlN
import Derived.Test.YtigcbgiakijloaaRunI
import Derived.Test.YtigcbgiakijloaaOpen8
import Derived.Deep.DeepCutAuto
import Derived.Deep.RegionLaw
namespace Go.Proofs.Ytigcbgiakijloaa
set_option maxRecDepth 40000
open Go.ChangeShapes Go.WideShapes Go.ChangeAt Go.RowKit
set_option linter.unusedVariables false
set_option linter.unusedSimpArgs false

set_option maxHeartbeats 400000 in
theorem ctw_far (w : World) (s : Option Addr) (n c : Nat) (h : (1048576 : Int) < n) :
    Calls Try.prog 4 #[.slice s n c] w fun e w' => e = .returned (.bool true) ∧ Below w.heap.size w w' := by
  go_enter Try.func4, Try.ntmps4
  go_wp2_with fail
  refine (big_yes _ _ _ _ h).mono ?_
  rintro e w1 ⟨rfl, rfl⟩
  go_wp2
  go_ret
  exact ⟨rfl, Below.refl _ _⟩
set_option maxRecDepth 20000 in
set_option maxHeartbeats 16000000 in
theorem ctw_near (w : World) (s : Option Addr) (n c : Nat) (h : (n : Int) ≤ 1048576) (HC : Hid (Code8 w s n)) :
    Calls Try.prog 4 #[.slice s n c] w fun e w' => e = .returned (.bool true) ∧ Below w.heap.size w w' := by
  go_enter Try.func4, Try.ntmps4
  go_wp2_with fail
  refine (big_no _ _ _ _ h).mono ?_
  rintro e w1 ⟨rfl, rfl⟩
  go_wp2_with fail
  refine (drawControlled_any HC).mono ?_
  rintro e w2 ⟨x0, x1, x2, x3, x4, x5, x6, L, tf, mf, cf, F, te, me, ce, Dr, rfl, hmf, hme, RF, RE, B2⟩
  have HF : Hid (RowI w2 tf mf F) := RF
  have HE : Hid (RowI w2 te me Dr) := RE
  have HB : Hid (Below w1.heap.size w1 w2) := B2
  clear RF RE B2 HC
  obtain ⟨m, ⟨y0, y1, y2, y3, y4, y5, y6⟩, ok, hv, hm⟩ := ctl_some (x0, x1, x2, x3, x4, x5, x6) L mf me F Dr
  have SV : Hid (∀ w, RowI w tf mf F → RowI w te me Dr → Calls Try.prog 13 #[.agg #[.int .i64 x0, .int .i64 x1, .int .i64 x2, .int .i64 x3, .int .i64 x4, .int .i64 x5, .int .i64 x6], .int .i64 L, .slice tf mf cf, .slice te me ce] w fun e w' => ∃ s' c', e = .returned (.tuple #[.slice s' m c', .agg #[.int .i64 y0, .int .i64 y1, .int .i64 y2, .int .i64 y3, .int .i64 y4, .int .i64 y5, .int .i64 y6], .bool ok]) ∧ OwnI w.heap.size w' s' m (feedK (x0, x1, x2, x3, x4, x5, x6) L F Dr) ∧ Below w.heap.size w w') := fun w q q2 => (specCtl_any x0 x1 x2 x3 x4 x5 x6 L tf mf cf me F te ce Dr w (by omega) (by omega) q q2).mono fun e w' ⟨m', y', b', s', c', k1, k2, k3, k4⟩ => by obtain ⟨rfl, rfl, rfl⟩ := k1.one hv; exact ⟨s', c', k2, k3, k4⟩
  have IV : Hid (∀ w, RowI w tf mf F → RowI w te me Dr → Calls Try.prog 14 #[.agg #[.int .i64 x0, .int .i64 x1, .int .i64 x2, .int .i64 x3, .int .i64 x4, .int .i64 x5, .int .i64 x6], .int .i64 L, .slice tf mf cf, .slice te me ce] w fun e w' => ∃ s' c', e = .returned (.tuple #[.slice s' m c', .agg #[.int .i64 y0, .int .i64 y1, .int .i64 y2, .int .i64 y3, .int .i64 y4, .int .i64 y5, .int .i64 y6], .bool ok]) ∧ OwnI w.heap.size w' s' m (feedK (x0, x1, x2, x3, x4, x5, x6) L F Dr) ∧ Below w.heap.size w w') := fun w q q2 => (implCtl_any x0 x1 x2 x3 x4 x5 x6 L tf mf cf me F te ce Dr w (by omega) (by omega) q q2).mono fun e w' ⟨m', y', b', s', c', k1, k2, k3, k4⟩ => by obtain ⟨rfl, rfl, rfl⟩ := k1.one hv; exact ⟨s', c', k2, k3, k4⟩
  have HCV : Hid (CtlV (x0, x1, x2, x3, x4, x5, x6) L mf me F Dr m (y0, y1, y2, y3, y4, y5, y6) ok) := hv
  have m40 : (m : Int) ≤ 40 := by omega
  clear hv
  go_upto_region 4 with fail
  obtain ⟨w3, hw_⟩ : ∃ x_, x_ = w2.alloc (.cells #[.int .i64 x0, .int .i64 x1, .int .i64 x2, .int .i64 x3, .int .i64 x4, .int .i64 x5, .int .i64 x6] 25) := ⟨_, rfl⟩
  rw [← hw_]
  have Hd : Hid (Blk w3 w2.heap.size [.int .i64 x0, .int .i64 x1, .int .i64 x2, .int .i64 x3, .int .i64 x4, .int .i64 x5, .int .i64 x6]) := by show Blk _ _ _; rw [hw_]; exact Blk.new w2 #[.int .i64 x0, .int .i64 x1, .int .i64 x2, .int .i64 x3, .int .i64 x4, .int .i64 x5, .int .i64 x6] _
  have bl_ : Below w2.heap.size w2 w3 := by rw [hw_]; exact below0 _ _
  clear hw_
  replace HF : Hid (RowI w3 tf mf F) := HF.out.below bl_
  replace HE : Hid (RowI w3 te me Dr) := HE.out.below bl_
  replace HB : Hid (Below w1.heap.size w1 w3) := HB.out.trans (bl_.mono HB.out.size)
  obtain ⟨gd, hg_⟩ : ∃ g, g = w2.heap.size := ⟨_, rfl⟩
  rw [← hg_] at Hd ⊢
  clear hg_ bl_
  obtain ⟨z_d, f_d, c_d⟩ := Hd.out
  have dc0 : w3.cell? ⟨gd, 0, none⟩ = some (.int .i64 x0) := c_d 0 _ rfl
  have dc1 : w3.cell? ⟨gd, 1, none⟩ = some (.int .i64 x1) := c_d 1 _ rfl
  have dc2 : w3.cell? ⟨gd, 2, none⟩ = some (.int .i64 x2) := c_d 2 _ rfl
  have dc3 : w3.cell? ⟨gd, 3, none⟩ = some (.int .i64 x3) := c_d 3 _ rfl
  have dc4 : w3.cell? ⟨gd, 4, none⟩ = some (.int .i64 x4) := c_d 4 _ rfl
  have dc5 : w3.cell? ⟨gd, 5, none⟩ = some (.int .i64 x5) := c_d 5 _ rfl
  have dc6 : w3.cell? ⟨gd, 6, none⟩ = some (.int .i64 x6) := c_d 6 _ rfl
  clear f_d c_d
  go_wp2_with fail
  refine (SV.out _ HF.out HE.out).mono ?_
  rintro e w4 ⟨sW, cW, rfl, OW, h4⟩
  clear OW
  clear dc0 dc1 dc2 dc3 dc4 dc5 dc6 z_d
  replace Hd : Hid (Blk w4 gd [.int .i64 x0, .int .i64 x1, .int .i64 x2, .int .i64 x3, .int .i64 x4, .int .i64 x5, .int .i64 x6]) := Hd.out.below h4
  replace HF : Hid (RowI w4 tf mf F) := HF.out.below h4
  replace HE : Hid (RowI w4 te me Dr) := HE.out.below h4
  replace HB : Hid (Below w1.heap.size w1 w4) := HB.out.trans (h4.mono HB.out.size)
  clear h4 SV
  go_upto_region 5 with fail
  obtain ⟨w5, hw_⟩ : ∃ x_, x_ = w4.alloc (.cells #[.int .i64 y0, .int .i64 y1, .int .i64 y2, .int .i64 y3, .int .i64 y4, .int .i64 y5, .int .i64 y6] 25) := ⟨_, rfl⟩
  rw [← hw_]
  have Hs : Hid (Blk w5 w4.heap.size [.int .i64 y0, .int .i64 y1, .int .i64 y2, .int .i64 y3, .int .i64 y4, .int .i64 y5, .int .i64 y6]) := by show Blk _ _ _; rw [hw_]; exact Blk.new w4 #[.int .i64 y0, .int .i64 y1, .int .i64 y2, .int .i64 y3, .int .i64 y4, .int .i64 y5, .int .i64 y6] _
  have bl_ : Below w4.heap.size w4 w5 := by rw [hw_]; exact below0 _ _
  clear hw_
  replace Hd : Hid (Blk w5 gd [.int .i64 x0, .int .i64 x1, .int .i64 x2, .int .i64 x3, .int .i64 x4, .int .i64 x5, .int .i64 x6]) := Hd.out.below bl_
  replace HF : Hid (RowI w5 tf mf F) := HF.out.below bl_
  replace HE : Hid (RowI w5 te me Dr) := HE.out.below bl_
  replace HB : Hid (Below w1.heap.size w1 w5) := HB.out.trans (bl_.mono HB.out.size)
  obtain ⟨gs, hg_⟩ : ∃ g, g = w4.heap.size := ⟨_, rfl⟩
  rw [← hg_] at Hs ⊢
  clear hg_ bl_
  obtain ⟨z_d, f_d, c_d⟩ := Hd.out
  have dc0 : w5.cell? ⟨gd, 0, none⟩ = some (.int .i64 x0) := c_d 0 _ rfl
  have dc1 : w5.cell? ⟨gd, 1, none⟩ = some (.int .i64 x1) := c_d 1 _ rfl
  have dc2 : w5.cell? ⟨gd, 2, none⟩ = some (.int .i64 x2) := c_d 2 _ rfl
  have dc3 : w5.cell? ⟨gd, 3, none⟩ = some (.int .i64 x3) := c_d 3 _ rfl
  have dc4 : w5.cell? ⟨gd, 4, none⟩ = some (.int .i64 x4) := c_d 4 _ rfl
  have dc5 : w5.cell? ⟨gd, 5, none⟩ = some (.int .i64 x5) := c_d 5 _ rfl
  have dc6 : w5.cell? ⟨gd, 6, none⟩ = some (.int .i64 x6) := c_d 6 _ rfl
  clear f_d c_d
  go_wp2_with fail
  refine (IV.out _ HF.out HE.out).mono ?_
  rintro e w6 ⟨sG, cG, rfl, OG, h6⟩
  have HG : Hid (RowI w6 sG m (feedK (x0, x1, x2, x3, x4, x5, x6) L F Dr)) := OG.row
  clear OG
  clear dc0 dc1 dc2 dc3 dc4 dc5 dc6 z_d
  replace Hd : Hid (Blk w6 gd [.int .i64 x0, .int .i64 x1, .int .i64 x2, .int .i64 x3, .int .i64 x4, .int .i64 x5, .int .i64 x6]) := Hd.out.below h6
  replace Hs : Hid (Blk w6 gs [.int .i64 y0, .int .i64 y1, .int .i64 y2, .int .i64 y3, .int .i64 y4, .int .i64 y5, .int .i64 y6]) := Hs.out.below h6
  replace HF : Hid (RowI w6 tf mf F) := HF.out.below h6
  replace HE : Hid (RowI w6 te me Dr) := HE.out.below h6
  replace HB : Hid (Below w1.heap.size w1 w6) := HB.out.trans (h6.mono HB.out.size)
  clear h6 IV Hs
  go_upto_region 6 with fail
  obtain ⟨w7, hw_⟩ : ∃ x_, x_ = w6.alloc (.cells #[.int .i64 y0, .int .i64 y1, .int .i64 y2, .int .i64 y3, .int .i64 y4, .int .i64 y5, .int .i64 y6] 25) := ⟨_, rfl⟩
  rw [← hw_]
  have Ha : Hid (Blk w7 w6.heap.size [.int .i64 y0, .int .i64 y1, .int .i64 y2, .int .i64 y3, .int .i64 y4, .int .i64 y5, .int .i64 y6]) := by show Blk _ _ _; rw [hw_]; exact Blk.new w6 #[.int .i64 y0, .int .i64 y1, .int .i64 y2, .int .i64 y3, .int .i64 y4, .int .i64 y5, .int .i64 y6] _
  have bl_ : Below w6.heap.size w6 w7 := by rw [hw_]; exact below0 _ _
  clear hw_
  replace Hd : Hid (Blk w7 gd [.int .i64 x0, .int .i64 x1, .int .i64 x2, .int .i64 x3, .int .i64 x4, .int .i64 x5, .int .i64 x6]) := Hd.out.below bl_
  replace HF : Hid (RowI w7 tf mf F) := HF.out.below bl_
  replace HE : Hid (RowI w7 te me Dr) := HE.out.below bl_
  replace HG : Hid (RowI w7 sG m (feedK (x0, x1, x2, x3, x4, x5, x6) L F Dr)) := HG.out.below bl_
  replace HB : Hid (Below w1.heap.size w1 w7) := HB.out.trans (bl_.mono HB.out.size)
  obtain ⟨ga, hg_⟩ : ∃ g, g = w6.heap.size := ⟨_, rfl⟩
  rw [← hg_] at Ha ⊢
  clear hg_ bl_
  have nok : (ok != ok) = false := bne_self_eq_false ok
  cases ok
  · have BF := HB.out
    have sBF := BF.size
    go_wp2
    go_ret
    exact ⟨rfl, BF⟩
  obtain ⟨e1, e2, h500, hFull, hRun⟩ := ctl_full HCV.out
  have HFull : Hid (FullT (x0, x1, x2, x3, x4, x5, x6) (actsV (x0, x1, x2, x3, x4, x5, x6) L F Dr) mf) := hFull
  have HRun : Hid (runT (x0, x1, x2, x3, x4, x5, x6) (actsV (x0, x1, x2, x3, x4, x5, x6) L F Dr) mf = (y0, y1, y2, y3, y4, y5, y6)) := hRun
  subst e1
  subst e2
  clear hFull hRun HCV nok hm
  go_upto_region 12 with fail
  go_wp2_with fail
  go_loopw [13, 14] (fun v i wr => ∃ k : Nat, k ≤ m ∧ i = .int .i64 (k : Int) ∧ Hid (Lst w7.heap.size 37 3 wr v k (actsV (x0, x1, x2, x3, x4, x5, x6) L F Dr)) ∧ Hid (Below w7.heap.size w7 wr)) (fun _ i _ => m - (intOf i).toNat)
  case atStart => exact ⟨0, Nat.zero_le _, rfl, Lst.lit w7 _ 37 37 3 _ (Nat.le_refl _), below0 _ _⟩
  case round =>
    obtain ⟨k, hk, rfl, HL, HM⟩ := hrel
    have sz : w7.heap.size ≤ wr.heap.size := HM.out.size
    by_cases hlt : k < m
    case pos =>
      have k1 : (k : Int) < (m : Int) := by omega
      obtain ⟨g1, o1, rfl, z1, c1⟩ := HG.out k hlt
      obtain ⟨g2, o2, rfl, z2, c2⟩ := HF.out k hlt
      obtain ⟨g3, o3, rfl, z3, c3⟩ := HE.out k hlt
      obtain ⟨fe, hfe⟩ : ∃ fe, feedK (x0, x1, x2, x3, x4, x5, x6) L F Dr k = fe := ⟨_, rfl⟩
      obtain ⟨fi, hfi⟩ : ∃ fi, F k = fi := ⟨_, rfl⟩
      obtain ⟨dr, hdr⟩ : ∃ dr, Dr k = dr := ⟨_, rfl⟩
      rw [hfe] at c1
      rw [hfi] at c2
      rw [hdr] at c3
      have HX : Hid (actsV (x0, x1, x2, x3, x4, x5, x6) L F Dr (k * 3) = fe ∧ actsV (x0, x1, x2, x3, x4, x5, x6) L F Dr (k * 3 + 1) = fi ∧ actsV (x0, x1, x2, x3, x4, x5, x6) L F Dr (k * 3 + 2) = dr) := ⟨(acts_0 _ _ _ _ _).trans hfe, (acts_1 _ _ _ _ _).trans hfi, (acts_2 _ _ _ _ _).trans hdr⟩
      clear hfe hfi hdr
      have d1 : wr.cell? ⟨g1, o1 + k, none⟩ = some (.int .i64 fe) := (HM.out.cell (p := ⟨g1, o1 + k, none⟩) z1).trans c1
      have d2 : wr.cell? ⟨g2, o2 + k, none⟩ = some (.int .i64 fi) := (HM.out.cell (p := ⟨g2, o2 + k, none⟩) z2).trans c2
      have d3 : wr.cell? ⟨g3, o3 + k, none⟩ = some (.int .i64 dr) := (HM.out.cell (p := ⟨g3, o3 + k, none⟩) z3).trans c3
      have y1_ : g1 < wr.heap.size := Nat.lt_of_lt_of_le z1 sz
      have y2_ : g2 < wr.heap.size := Nat.lt_of_lt_of_le z2 sz
      have y3_ : g3 < wr.heap.size := Nat.lt_of_lt_of_le z3 sz
      clear c1 c2 c3 z1 z2 z3
      have HW : Hid (wr.ownsRow w7.heap.size 37 3 u13 k (vals (actsV (x0, x1, x2, x3, x4, x5, x6) L F Dr) (k * 3))) := HL.out
      have d1d : wr.drew.cell? ⟨g1, o1 + k, none⟩ = some (.int .i64 fe) := d1
      have d2d : wr.drew.cell? ⟨g2, o2 + k, none⟩ = some (.int .i64 fi) := d2
      have d3d : wr.drew.cell? ⟨g3, o3 + k, none⟩ = some (.int .i64 dr) := d3
      go_upto_region 16 with fail
      go_region_law (refine step_Act w7.heap.size u13 k (vals (actsV (x0, x1, x2, x3, x4, x5, x6) L F Dr) (k * 3)) (.tmp 61) (.tmp 75) (by rfl) (by rfl) (by simp [Act.eval]) (by simp [Act.eval]) HW.out.drew (by omega) (by simp; omega) ?_; intro g' cap' w9 hown9 hgrow9 hlt9; have HG9 : Hid (Below w7.heap.size wr w9) := grown_drewA HW.out hgrow9 sz; have HO9 : Hid (w9.ownsRow w7.heap.size 37 3 (.slice (some ⟨g', 0, none⟩) (k + 1) cap') (k + 1) (vals (actsV (x0, x1, x2, x3, x4, x5, x6) L F Dr) (k * 3) ++ [.int .i64 fe, .int .i64 fi, .int .i64 dr])) := hown9; clear hgrow9 hown9)
      all_goals
        go_wp2
        go_roundw
        case rel => exact ⟨k + 1, by omega, by go_num, Lst.onU HX.out.1 HX.out.2.1 HX.out.2.2 HO9.out, HM.out.trans HG9.out⟩
        case measure => simp [intOf]; omega
    case neg =>
      obtain rfl : k = m := by omega
      obtain ⟨ta, ca, ev, OA⟩ := HL.out.own
      cases ev
      have HA : Hid (RowI wr ta (k * 3) (actsV (x0, x1, x2, x3, x4, x5, x6) L F Dr)) := OA.row
      replace Hd : Hid (Blk wr gd [.int .i64 x0, .int .i64 x1, .int .i64 x2, .int .i64 x3, .int .i64 x4, .int .i64 x5, .int .i64 x6]) := Hd.out.below HM.out
      replace Ha : Hid (Blk wr ga [.int .i64 y0, .int .i64 y1, .int .i64 y2, .int .i64 y3, .int .i64 y4, .int .i64 y5, .int .i64 y6]) := Ha.out.below HM.out
      replace HB : Hid (Below w1.heap.size w1 wr) := HB.out.trans (HM.out.mono HB.out.size)
      have IR : Hid (∀ w c, RowI w ta (k * 3) (actsV (x0, x1, x2, x3, x4, x5, x6) L F Dr) → Calls Try.prog 11 #[.agg #[.int .i64 x0, .int .i64 x1, .int .i64 x2, .int .i64 x3, .int .i64 x4, .int .i64 x5, .int .i64 x6], .slice ta k c] w fun e w' => e = .returned (.tuple #[.agg #[.int .i64 y0, .int .i64 y1, .int .i64 y2, .int .i64 y3, .int .i64 y4, .int .i64 y5, .int .i64 y6], .int .i64 (k : Int)]) ∧ Below w.heap.size w w') := fun w c q => (implDrumRun_any x0 x1 x2 x3 x4 x5 x6 ta k c _ w q).mono fun e w' ⟨⟨v, hv, e1⟩, hb⟩ => ⟨by rw [e1, HFull.out.value hv, HRun.out]; rfl, hb⟩
      clear OA HL HM HFull HRun HF HE HG
      rename World => wz
      obtain ⟨z_d, f_d, c_d⟩ := Hd.out
      have dc0 : wz.cell? ⟨gd, 0, none⟩ = some (.int .i64 x0) := c_d 0 _ rfl
      have dc1 : wz.cell? ⟨gd, 1, none⟩ = some (.int .i64 x1) := c_d 1 _ rfl
      have dc2 : wz.cell? ⟨gd, 2, none⟩ = some (.int .i64 x2) := c_d 2 _ rfl
      have dc3 : wz.cell? ⟨gd, 3, none⟩ = some (.int .i64 x3) := c_d 3 _ rfl
      have dc4 : wz.cell? ⟨gd, 4, none⟩ = some (.int .i64 x4) := c_d 4 _ rfl
      have dc5 : wz.cell? ⟨gd, 5, none⟩ = some (.int .i64 x5) := c_d 5 _ rfl
      have dc6 : wz.cell? ⟨gd, 6, none⟩ = some (.int .i64 x6) := c_d 6 _ rfl
      clear f_d c_d
      go_wp2_with fail
      refine (IR.out _ _ HA.out).mono ?_
      rintro e w8 ⟨rfl, h8⟩
      clear dc0 dc1 dc2 dc3 dc4 dc5 dc6 z_d
      replace Ha : Hid (Blk w8 ga [.int .i64 y0, .int .i64 y1, .int .i64 y2, .int .i64 y3, .int .i64 y4, .int .i64 y5, .int .i64 y6]) := Ha.out.below h8
      replace HB : Hid (Below w1.heap.size w1 w8) := HB.out.trans (h8.mono HB.out.size)
      clear h8 IR HA
      obtain ⟨z_a, f_a, c_a⟩ := Ha.out
      have ac0 : w8.cell? ⟨ga, 0, none⟩ = some (.int .i64 y0) := c_a 0 _ rfl
      have ac1 : w8.cell? ⟨ga, 1, none⟩ = some (.int .i64 y1) := c_a 1 _ rfl
      have ac2 : w8.cell? ⟨ga, 2, none⟩ = some (.int .i64 y2) := c_a 2 _ rfl
      have ac3 : w8.cell? ⟨ga, 3, none⟩ = some (.int .i64 y3) := c_a 3 _ rfl
      have ac4 : w8.cell? ⟨ga, 4, none⟩ = some (.int .i64 y4) := c_a 4 _ rfl
      have ac5 : w8.cell? ⟨ga, 5, none⟩ = some (.int .i64 y5) := c_a 5 _ rfl
      have ac6 : w8.cell? ⟨ga, 6, none⟩ = some (.int .i64 y6) := c_a 6 _ rfl
      clear f_a c_a
      have BF := HB.out
      have sBF := BF.size
      go_wp2
      go_ret
      exact ⟨rfl, (by repeat (first | with_reducible exact Below.refl _ _ | with_reducible exact BF | with_reducible refine Below.setCell ?_ (by first | omega | (simp; done) | (simp; omega)) _ | with_reducible refine bDrewN ?_ _ | with_reducible refine Below.drew ?_ | with_reducible refine Below.alloc ?_ (by first | omega | (simp; done) | (simp; omega)) _))⟩
theorem fnControlled_walk (w : World) (s : Option Addr) (n c : Nat) (hn : n ≤ 9223372036854775807) (R : Bytes w s n) :
    Calls Try.prog 4 #[.slice s n c] w fun e w' => e = .returned (.bool true) ∧ Below w.heap.size w w' := by
  by_cases h : n ≤ 1048576
  · exact ctw_near w s n c (by omega) (R.code h)
  · exact ctw_far w s n c (by omega)

set_option maxRecDepth 100000 in
theorem fnControlled_lifted (os : Os) (started : os.Started) (H : Type) (enc : TypeId × Value → H) :
    ReturnsInHanded {} Try.checked os 4 .any (Rows.fnControlledSpec.pre6 enc Try.prog Try.f4 Rows.fnControlledRow.domain false) (Rows.fnControlledSpec.post enc Try.prog Try.f4 false true false false) := by
  refine returnsInHanded_of_change (C := Try.checked) own started (by kernel_rfl) Try.func4
    (ChangeSpec.witness6 (enc := enc) (C := Try.checked) false ⟨#[], #[.slice none 0 0], []⟩ 8 (by kernel_rfl) (by kernel_rfl) (by kernel_rfl) (by kernel_rfl)) ?_
  intro W base args ds gs before hval0 hW hcnd _
  have hval : ∀ (j : Nat) t v, Try.f4.params[j]? = some t → args[j]? = some v → Value.okWide Try.prog W .any base t v := hval0
  have hW' := hW
  obtain ⟨p, q, hA0, hV, rfl, hfz, hnd⟩ := hW
  have hA : DataW.TrodAll enc Try.prog W 0 (fun _ => true) true Try.f4.params.toList args.toList ds p := hA0
  rw [Try.params4] at hA hval
  obtain ⟨v0, vs0, d0, ds0, p0, q0, hargs, rfl, rfl, h0, r0⟩ := trodAll_cons hA
  obtain ⟨rfl, rfl, rfl⟩ := trodAll_nil r0
  obtain rfl : args = #[v0] := by cases args; simp_all
  obtain ⟨rfl, rfl⟩ := trodVars_none hV
  have k0 := h0
  have lt0 : ∀ x ∈ p0, x.block < W.heap.size := by obtain ⟨m, hm⟩ := k0; exact DataW.trod_lt m _ _ _ hm
  obtain ⟨s0, n0, c0, rfl, m0, R0⟩ := open_code Try.underlying22 Try.underlying5 (by kernel_rfl) (hval 0 22 v0 rfl rfl) h0
  clear hA0 hval0
  refine (fnControlled_walk W s0 n0 c0 m0 R0).mono fun e W' ⟨he, bel⟩ => ?_
  subst he
  exact ⟨_, rfl, _, _, _, [], _, [], hW', trodAll_mk1 (shut_bool Try.underlying4 _), (trodAll_cons_mk (Below.trod laidOut (by kernel_rfl) (of_decide_eq_true (by kernel_rfl)) k0 bel lt0) trodAll_mk0), rfl, bel.frame _, fun h => by cases h⟩

theorem fnControlled_holds : Rows.FnControlledSaid :=
  OpenClaim.holds_of_wide 4 Try.f4 rfl rfl rfl rfl rfl rfl rfl ⟨rfl, rfl, rfl, rfl, rfl⟩ rfl rfl rfl rfl rfl (by kernel_rfl) Try.func4 (by kernel_rfl)
    (of_decide_eq_true (by kernel_rfl)) (by unfold Func.isWrapper; first | (rw [if_pos (by decide +kernel)]; kernel_rfl) | (rw [if_neg (by decide +kernel)]; exact ⟨rfl, rfl⟩))
    (fun os started H enc _ => fnControlled_lifted os started H enc)
#print axioms fnControlled_holds
end Go.Proofs.Ytigcbgiakijloaa
