/-
What is proved: behind days that are drawn from every code a basin's store is what came in less what went out and was spilt, not above full where a day was done, and what came in is what was told to come; no condition.
-/
import Derived.Test.YtiamhpopgnblcaaBsR
import Derived.Test.YtiamhpopgnblcaaBsV
import Derived.Test.YtiamhpopgnblcaaBRunS
import Derived.Test.YtiamhpopgnblcaaBRunI
import Derived.Test.YtiamhpopgnblcaaOpen8
import Derived.Deep.DeepCutAuto
import Derived.Deep.QuietTactic
namespace Go.Proofs.Ytiamhpopgnblcaa
set_option maxRecDepth 40000
open Go.ChangeShapes Go.WideShapes Go.ChangeAt Go.RowKit
set_option linter.unusedVariables false
set_option linter.unusedSimpArgs false

set_option maxHeartbeats 400000 in
theorem bsb_far (w : World) (s : Option Addr) (n c : Nat) (h : (1048576 : Int) < n) :
    Calls Try.prog 3 #[.slice s n c] w fun e w' => e = .returned (.bool true) ∧ Below w.heap.size w w' := by
  go_enter Try.func3, Try.ntmps3
  go_wp2_with fail
  refine (big_yes _ _ _ _ h).mono ?_
  rintro e w1 ⟨rfl, rfl⟩
  go_wp2
  go_ret
  exact ⟨rfl, Below.refl _ _⟩
set_option maxRecDepth 20000 in
set_option maxHeartbeats 16000000 in
theorem bsb_near (w : World) (s : Option Addr) (n c : Nat) (h : (n : Int) ≤ 1048576) (HC : Hid (Code8 w s n)) :
    Calls Try.prog 3 #[.slice s n c] w fun e w' => e = .returned (.bool true) ∧ Below w.heap.size w w' := by
  go_enter Try.func3, Try.ntmps3
  go_wp2_with fail
  refine (big_no _ _ _ _ h).mono ?_
  rintro e w1 ⟨rfl, rfl⟩
  go_wp2_with fail
  refine (drawBasinRun_any HC).mono ?_
  rintro e w2 ⟨x0, x1, x2, x3, full, tr, mr, capr, Ur, t, m, cap, U, rfl, hmr, RW, hm, RV, B2⟩
  have HV : Hid (RowI w2 t (m * 3) U) := RV
  have HW : Hid (RowI w2 tr (mr * 2) Ur) := RW
  have HB : Hid (Below w1.heap.size w1 w2) := B2
  clear RV RW B2 HC
  obtain ⟨Yf, hY1⟩ := Classical.axiomOfChoice (fun d => av_exists mr Ur d)
  obtain ⟨Kf, hYK⟩ := Classical.axiomOfChoice hY1
  clear hY1
  obtain ⟨v, hv⟩ := runBV_exists full Yf Kf (x0, x1, x2, x3) U m
  have SV : Hid (∀ w, RowI w tr (mr * 2) Ur → RowI w t (m * 3) U → Calls Try.prog 8 #[.agg #[.int .i64 x0, .int .i64 x1, .int .i64 x2, .int .i64 x3], .int .i64 full, .slice tr mr capr, .slice t m cap] w fun e w' => e = .returned v ∧ Below w.heap.size w w') := fun w q q2 => (specBasinRun_any x0 x1 x2 x3 full tr mr capr Ur t m cap U Yf Kf w hYK q q2).mono fun e w' ⟨⟨v2, h2, e2⟩, hb⟩ => ⟨by rw [e2, hv.one h2], hb⟩
  have IV : Hid (∀ w, RowI w tr (mr * 2) Ur → RowI w t (m * 3) U → Calls Try.prog 9 #[.agg #[.int .i64 x0, .int .i64 x1, .int .i64 x2, .int .i64 x3], .int .i64 full, .slice tr mr capr, .slice t m cap] w fun e w' => e = .returned v ∧ Below w.heap.size w w') := fun w q q2 => (implBasinRun_any x0 x1 x2 x3 full tr mr capr Ur t m cap U Yf Kf w hYK q q2).mono fun e w' ⟨⟨v2, h2, e2⟩, hb⟩ => ⟨by rw [e2, hv.one h2], hb⟩
  have HP := run_book hv
  clear hv hYK
  go_upto_region 4 with fail
  obtain ⟨w3, hw_⟩ : ∃ x_, x_ = w2.alloc (.cells #[.int .i64 x0, .int .i64 x1, .int .i64 x2, .int .i64 x3] 25) := ⟨_, rfl⟩
  rw [← hw_]
  have Hd : Hid (Blk w3 w2.heap.size [.int .i64 x0, .int .i64 x1, .int .i64 x2, .int .i64 x3]) := by show Blk _ _ _; rw [hw_]; exact Blk.new w2 #[.int .i64 x0, .int .i64 x1, .int .i64 x2, .int .i64 x3] _
  have bl_ : Below w2.heap.size w2 w3 := by rw [hw_]; exact below0 _ _
  clear hw_
  replace HV : Hid (RowI w3 t (m * 3) U) := HV.out.below bl_
  replace HW : Hid (RowI w3 tr (mr * 2) Ur) := HW.out.below bl_
  replace HB : Hid (Below w1.heap.size w1 w3) := HB.out.trans (bl_.mono HB.out.size)
  obtain ⟨gd, hg_⟩ : ∃ g, g = w2.heap.size := ⟨_, rfl⟩
  rw [← hg_] at Hd ⊢
  clear hg_ bl_
  obtain ⟨z_d, f_d, c_d⟩ := Hd.out
  have dc0 : w3.cell? ⟨gd, 0, none⟩ = some (.int .i64 x0) := c_d 0 _ rfl
  have dc1 : w3.cell? ⟨gd, 1, none⟩ = some (.int .i64 x1) := c_d 1 _ rfl
  have dc2 : w3.cell? ⟨gd, 2, none⟩ = some (.int .i64 x2) := c_d 2 _ rfl
  have dc3 : w3.cell? ⟨gd, 3, none⟩ = some (.int .i64 x3) := c_d 3 _ rfl
  clear f_d c_d
  go_wp2_with fail
  refine (SV.out _ HW.out HV.out).mono ?_
  rintro e w4 ⟨rfl, h4⟩
  clear dc0 dc1 dc2 dc3 z_d
  replace Hd : Hid (Blk w4 gd [.int .i64 x0, .int .i64 x1, .int .i64 x2, .int .i64 x3]) := Hd.out.below h4
  replace HV : Hid (RowI w4 t (m * 3) U) := HV.out.below h4
  replace HW : Hid (RowI w4 tr (mr * 2) Ur) := HW.out.below h4
  replace HB : Hid (Below w1.heap.size w1 w4) := HB.out.trans (h4.mono HB.out.size)
  clear h4 SV
  rcases HP with ⟨y0, y1, y2, y3, rfl⟩ | ⟨k, y0, y1, y2, y3, rfl, km, hy0, hy1, hy2, hy3, hq, hin, hfu, ho, hp, hbd⟩
  · go_upto_region 5 with fail
    obtain ⟨w5, hw_⟩ : ∃ x_, x_ = w4.alloc (.cells #[.int .i64 y0, .int .i64 y1, .int .i64 y2, .int .i64 y3] 25) := ⟨_, rfl⟩
    rw [← hw_]
    have Hs : Hid (Blk w5 w4.heap.size [.int .i64 y0, .int .i64 y1, .int .i64 y2, .int .i64 y3]) := by show Blk _ _ _; rw [hw_]; exact Blk.new w4 #[.int .i64 y0, .int .i64 y1, .int .i64 y2, .int .i64 y3] _
    have bl_ : Below w4.heap.size w4 w5 := by rw [hw_]; exact below0 _ _
    clear hw_
    replace Hd : Hid (Blk w5 gd [.int .i64 x0, .int .i64 x1, .int .i64 x2, .int .i64 x3]) := Hd.out.below bl_
    replace HV : Hid (RowI w5 t (m * 3) U) := HV.out.below bl_
    replace HW : Hid (RowI w5 tr (mr * 2) Ur) := HW.out.below bl_
    replace HB : Hid (Below w1.heap.size w1 w5) := HB.out.trans (bl_.mono HB.out.size)
    obtain ⟨gs, hg_⟩ : ∃ g, g = w4.heap.size := ⟨_, rfl⟩
    rw [← hg_] at Hs ⊢
    clear hg_ bl_
    obtain ⟨z_d, f_d, c_d⟩ := Hd.out
    have dc0 : w5.cell? ⟨gd, 0, none⟩ = some (.int .i64 x0) := c_d 0 _ rfl
    have dc1 : w5.cell? ⟨gd, 1, none⟩ = some (.int .i64 x1) := c_d 1 _ rfl
    have dc2 : w5.cell? ⟨gd, 2, none⟩ = some (.int .i64 x2) := c_d 2 _ rfl
    have dc3 : w5.cell? ⟨gd, 3, none⟩ = some (.int .i64 x3) := c_d 3 _ rfl
    clear f_d c_d
    go_wp2_with fail
    refine (IV.out _ HW.out HV.out).mono ?_
    rintro e w6 ⟨rfl, h6⟩
    replace HB : Hid (Below w1.heap.size w1 w6) := HB.out.trans (h6.mono HB.out.size)
    clear h6
    have BF := HB.out
    have sBF := BF.size
    go_wp2
    go_ret
    exact ⟨rfl, (by repeat (first | with_reducible exact Below.refl _ _ | with_reducible exact BF | with_reducible refine Below.setCell ?_ (by first | omega | (simp; done) | (simp; omega)) _ | with_reducible refine bDrewN ?_ _ | with_reducible refine Below.drew ?_ | with_reducible refine Below.alloc ?_ (by first | omega | (simp; done) | (simp; omega)) _))⟩
  · have HQ : Hid (y0 = y1 - y2 - y3) := hq
    have HI : Hid (y1 = inflow x1 U k) := hin
    have HFU : Hid (k = 0 ∨ y0 ≤ full) := hfu
    clear hq hin hfu
    go_upto_region 5 with fail
    obtain ⟨w5, hw_⟩ : ∃ x_, x_ = w4.alloc (.cells #[.int .i64 y0, .int .i64 y1, .int .i64 y2, .int .i64 y3] 25) := ⟨_, rfl⟩
    rw [← hw_]
    have Hs : Hid (Blk w5 w4.heap.size [.int .i64 y0, .int .i64 y1, .int .i64 y2, .int .i64 y3]) := by show Blk _ _ _; rw [hw_]; exact Blk.new w4 #[.int .i64 y0, .int .i64 y1, .int .i64 y2, .int .i64 y3] _
    have bl_ : Below w4.heap.size w4 w5 := by rw [hw_]; exact below0 _ _
    clear hw_
    replace Hd : Hid (Blk w5 gd [.int .i64 x0, .int .i64 x1, .int .i64 x2, .int .i64 x3]) := Hd.out.below bl_
    replace HV : Hid (RowI w5 t (m * 3) U) := HV.out.below bl_
    replace HW : Hid (RowI w5 tr (mr * 2) Ur) := HW.out.below bl_
    replace HB : Hid (Below w1.heap.size w1 w5) := HB.out.trans (bl_.mono HB.out.size)
    obtain ⟨gs, hg_⟩ : ∃ g, g = w4.heap.size := ⟨_, rfl⟩
    rw [← hg_] at Hs ⊢
    clear hg_ bl_
    obtain ⟨z_d, f_d, c_d⟩ := Hd.out
    have dc0 : w5.cell? ⟨gd, 0, none⟩ = some (.int .i64 x0) := c_d 0 _ rfl
    have dc1 : w5.cell? ⟨gd, 1, none⟩ = some (.int .i64 x1) := c_d 1 _ rfl
    have dc2 : w5.cell? ⟨gd, 2, none⟩ = some (.int .i64 x2) := c_d 2 _ rfl
    have dc3 : w5.cell? ⟨gd, 3, none⟩ = some (.int .i64 x3) := c_d 3 _ rfl
    clear f_d c_d
    go_wp2_with fail
    refine (IV.out _ HW.out HV.out).mono ?_
    rintro e w6 ⟨rfl, h6⟩
    clear dc0 dc1 dc2 dc3 z_d
    replace Hd : Hid (Blk w6 gd [.int .i64 x0, .int .i64 x1, .int .i64 x2, .int .i64 x3]) := Hd.out.below h6
    replace Hs : Hid (Blk w6 gs [.int .i64 y0, .int .i64 y1, .int .i64 y2, .int .i64 y3]) := Hs.out.below h6
    replace HV : Hid (RowI w6 t (m * 3) U) := HV.out.below h6
    replace HW : Hid (RowI w6 tr (mr * 2) Ur) := HW.out.below h6
    replace HB : Hid (Below w1.heap.size w1 w6) := HB.out.trans (h6.mono HB.out.size)
    clear h6 IV Hs HW
    go_upto_region 6 with fail
    obtain ⟨w7, hw_⟩ : ∃ x_, x_ = w6.alloc (.cells #[.int .i64 y0, .int .i64 y1, .int .i64 y2, .int .i64 y3] 25) := ⟨_, rfl⟩
    rw [← hw_]
    have Ha : Hid (Blk w7 w6.heap.size [.int .i64 y0, .int .i64 y1, .int .i64 y2, .int .i64 y3]) := by show Blk _ _ _; rw [hw_]; exact Blk.new w6 #[.int .i64 y0, .int .i64 y1, .int .i64 y2, .int .i64 y3] _
    have bl_ : Below w6.heap.size w6 w7 := by rw [hw_]; exact below0 _ _
    clear hw_
    replace Hd : Hid (Blk w7 gd [.int .i64 x0, .int .i64 x1, .int .i64 x2, .int .i64 x3]) := Hd.out.below bl_
    replace HV : Hid (RowI w7 t (m * 3) U) := HV.out.below bl_
    replace HB : Hid (Below w1.heap.size w1 w7) := HB.out.trans (bl_.mono HB.out.size)
    obtain ⟨ga, hg_⟩ : ∃ g, g = w6.heap.size := ⟨_, rfl⟩
    rw [← hg_] at Ha ⊢
    clear hg_ bl_
    have HN : Hid (∀ j, j ≤ k → 0 ≤ inflow x1 U j ∧ inflow x1 U j ≤ 1000000000000) := hbd
    have kneg : ¬ ((k : Int) < 0) := by omega
    clear hbd
    obtain ⟨z_d, f_d, c_d⟩ := Hd.out
    have dc0 : w7.cell? ⟨gd, 0, none⟩ = some (.int .i64 x0) := c_d 0 _ rfl
    have dc1 : w7.cell? ⟨gd, 1, none⟩ = some (.int .i64 x1) := c_d 1 _ rfl
    have dc2 : w7.cell? ⟨gd, 2, none⟩ = some (.int .i64 x2) := c_d 2 _ rfl
    have dc3 : w7.cell? ⟨gd, 3, none⟩ = some (.int .i64 x3) := c_d 3 _ rfl
    clear f_d c_d
    obtain ⟨z_a, f_a, c_a⟩ := Ha.out
    have ac0 : w7.cell? ⟨ga, 0, none⟩ = some (.int .i64 y0) := c_a 0 _ rfl
    have ac1 : w7.cell? ⟨ga, 1, none⟩ = some (.int .i64 y1) := c_a 1 _ rfl
    have ac2 : w7.cell? ⟨ga, 2, none⟩ = some (.int .i64 y2) := c_a 2 _ rfl
    have ac3 : w7.cell? ⟨ga, 3, none⟩ = some (.int .i64 y3) := c_a 3 _ rfl
    clear f_a c_a
    have k501 : (k : Int) ≤ 501 := by omega
    go_wp2_with fail
    go_loopw [11, 12] (fun v i wr => ∃ j : Nat, j ≤ k ∧ v = .int .i64 (inflow x1 U j) ∧ i = .int .i64 (j : Int) ∧ wr = w7) (fun _ i _ => k - (intOf i).toNat)
    case atStart => exact ⟨0, by omega, rfl, rfl, rfl⟩
    case round =>
      obtain ⟨j, hj, rfl, rfl, rfl⟩ := hrel
      by_cases hlt : j < k
      case pos =>
        obtain ⟨tb, tq, rfl, zt, ct⟩ := HV.out (j * 3) (by omega)
        have k1 : (j : Int) < (k : Int) := by omega
        have k2 : (j : Int) < (m : Int) := by omega
        have b1 := HN.out (j + 1) (by omega)
        have e1 : inflow x1 U (j + 1) = inflow x1 U j + U (j * 3) := rfl
        rw [e1] at b1
        obtain ⟨b1a, b1b⟩ := b1
        have HE : Hid (inflow x1 U (j + 1) = inflow x1 U j + U (j * 3)) := e1
        clear e1
        go_wp2
        go_roundw
        case rel => first | exact ⟨j + 1, by omega, by rw [HE.out], by go_num, rfl⟩ | exact ⟨j + 1, by omega, by rw [HE.out], by go_num, trivial⟩
        case measure => simp [intOf]; omega
      case neg =>
        obtain rfl : j = k := by omega
        have BF := HB.out
        rw [← HI.out]
        obtain ⟨hy00, hy01⟩ := hy0
        obtain ⟨hy10, hy11⟩ := hy1
        obtain ⟨hy20, hy21⟩ := hy2
        obtain ⟨hy30, hy31⟩ := hy3
        have q1 : (y0 == y1 - y2 - y3) = true := by simpa using HQ.out
        have q2 : decide (x2 ≤ y2) = true := decide_eq_true ho
        by_cases hz : j = 0
        · subst hz
          go_wp2
          go_ret
          exact ⟨rfl, BF⟩
        · have hz2 : ((j : Int) == 0) = false := by simp; omega
          have hle : y0 ≤ full := HFU.out.resolve_left hz
          go_wp2
          go_ret
          exact ⟨rfl, BF⟩
theorem fnBasinBook_walk (w : World) (s : Option Addr) (n c : Nat) (hn : n ≤ 9223372036854775807) (R : Bytes w s n) :
    Calls Try.prog 3 #[.slice s n c] w fun e w' => e = .returned (.bool true) ∧ Below w.heap.size w w' := by
  by_cases h : n ≤ 1048576
  · exact bsb_near w s n c (by omega) (R.code h)
  · exact bsb_far w s n c (by omega)

set_option maxRecDepth 100000 in
theorem fnBasinBook_lifted (os : Os) (started : os.Started) (H : Type) (enc : TypeId × Value → H) :
    ReturnsInHanded {} Try.checked os 3 .any (Rows.fnBasinBookSpec.pre6 enc Try.prog Try.f3 Rows.fnBasinBookRow.domain false) (Rows.fnBasinBookSpec.post enc Try.prog Try.f3 false true false false) := by
  refine returnsInHanded_of_change (C := Try.checked) own started (by kernel_rfl) Try.func3
    (ChangeSpec.witness6 (enc := enc) (C := Try.checked) false ⟨#[], #[.slice none 0 0], []⟩ 8 (by kernel_rfl) (by kernel_rfl) (by kernel_rfl) (by kernel_rfl)) ?_
  intro W base args ds gs before hval0 hW hcnd _
  have hval : ∀ (j : Nat) t v, Try.f3.params[j]? = some t → args[j]? = some v → Value.okWide Try.prog W .any base t v := hval0
  have hW' := hW
  obtain ⟨p, q, hA0, hV, rfl, hfz, hnd⟩ := hW
  have hA : DataW.TrodAll enc Try.prog W 0 (fun _ => true) true Try.f3.params.toList args.toList ds p := hA0
  rw [Try.params3] at hA hval
  obtain ⟨v0, vs0, d0, ds0, p0, q0, hargs, rfl, rfl, h0, r0⟩ := trodAll_cons hA
  obtain ⟨rfl, rfl, rfl⟩ := trodAll_nil r0
  obtain rfl : args = #[v0] := by cases args; simp_all
  obtain ⟨rfl, rfl⟩ := trodVars_none hV
  have k0 := h0
  have lt0 : ∀ x ∈ p0, x.block < W.heap.size := by obtain ⟨m, hm⟩ := k0; exact DataW.trod_lt m _ _ _ hm
  obtain ⟨s0, n0, c0, rfl, m0, R0⟩ := open_code Try.underlying22 Try.underlying5 (by kernel_rfl) (hval 0 22 v0 rfl rfl) h0
  clear hA0 hval0
  refine (fnBasinBook_walk W s0 n0 c0 m0 R0).mono fun e W' ⟨he, bel⟩ => ?_
  subst he
  exact ⟨_, rfl, _, _, _, [], _, [], hW', trodAll_mk1 (shut_bool Try.underlying4 _), (trodAll_cons_mk (Below.trod laidOut (by kernel_rfl) (of_decide_eq_true (by kernel_rfl)) k0 bel lt0) trodAll_mk0), rfl, bel.frame _, fun h => by cases h⟩

theorem fnBasinBook_holds : Rows.FnBasinBookSaid :=
  OpenClaim.holds_of_wide 3 Try.f3 rfl rfl rfl rfl rfl rfl rfl ⟨rfl, rfl, rfl, rfl, rfl⟩ rfl rfl rfl rfl rfl (by kernel_rfl) Try.func3 (by kernel_rfl)
    (of_decide_eq_true (by kernel_rfl)) (by unfold Func.isWrapper; first | (rw [if_pos (by decide +kernel)]; kernel_rfl) | (rw [if_neg (by decide +kernel)]; exact ⟨rfl, rfl⟩))
    (fun os started H enc _ => fnBasinBook_lifted os started H enc)
#print axioms fnBasinBook_holds
end Go.Proofs.Ytiamhpopgnblcaa
