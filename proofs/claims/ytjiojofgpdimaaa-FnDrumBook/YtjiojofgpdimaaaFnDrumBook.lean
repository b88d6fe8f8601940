/-
What is proved: behind a run of acts on a drum, both drawn from every code, the drum is right, and what came to it by the acts is what is in its books; no condition.
-/
import Derived.Test.YtjiojofgpdimaaaDmR
import Derived.Test.YtjiojofgpdimaaaDmB
import Derived.Test.YtjiojofgpdimaaaRunS
import Derived.Test.YtjiojofgpdimaaaRunI
import Derived.Test.YtjiojofgpdimaaaDrumI
import Derived.Test.YtjiojofgpdimaaaOpen8
import Derived.Deep.DeepCutAuto
import Derived.Deep.QuietTactic
namespace Go.Proofs.Ytjiojofgpdimaaa
set_option maxRecDepth 40000
open Go.ChangeShapes Go.WideShapes Go.ChangeAt Go.RowKit
set_option linter.unusedVariables false
set_option linter.unusedSimpArgs false

theorem first_noD (P : Nat → Bool) : ∀ n, ∃ k, k ≤ n ∧ (∀ j, j < k → P j = true) ∧ (k = n ∨ P k = false)
  | 0 => ⟨0, Nat.le_refl _, fun j hj => by omega, Or.inl rfl⟩
  | n + 1 => by
    obtain ⟨k, k1, k2, k3⟩ := first_noD P n
    rcases k3 with rfl | k3
    · cases h : P k
      · exact ⟨k, by omega, k2, Or.inr h⟩
      · refine ⟨k + 1, Nat.le_refl _, fun j hj => ?_, Or.inl rfl⟩
        by_cases e : j = k
        · subst e; exact h
        · exact k2 j (by omega)
    · exact ⟨k, by omega, k2, Or.inr k3⟩
theorem runV_exists (x : T7) (A : Nat → Int) (n : Nat) : ∃ v, RunV x A n v := by
  cases h : goB x n
  · exact ⟨_, Or.inl ⟨h, rfl⟩⟩
  · obtain ⟨k, k1, k2, k3⟩ := first_noD (okK x A) n
    exact ⟨_, Or.inr ⟨h, k, k1, k2, k3, rfl⟩⟩
set_option maxHeartbeats 400000 in
theorem dbk_far (w : World) (s : Option Addr) (n c : Nat) (h : (1048576 : Int) < n) :
    Calls Try.prog 3 #[.slice s n c] w fun e w' => e = .returned (.bool true) ∧ Below w.heap.size w w' := by
  go_enter Try.func3, Try.ntmps3
  go_wp2_with fail
  refine (big_yes _ _ _ _ h).mono ?_
  rintro e w1 ⟨rfl, rfl⟩
  go_wp2
  go_ret
  exact ⟨rfl, Below.refl _ _⟩
set_option maxRecDepth 20000 in
set_option maxHeartbeats 16000000 in
theorem dbk_near (w : World) (s : Option Addr) (n c : Nat) (h : (n : Int) ≤ 1048576) (HC : Hid (Code8 w s n)) :
    Calls Try.prog 3 #[.slice s n c] w fun e w' => e = .returned (.bool true) ∧ Below w.heap.size w w' := by
  go_enter Try.func3, Try.ntmps3
  go_wp2_with fail
  refine (big_no _ _ _ _ h).mono ?_
  rintro e w1 ⟨rfl, rfl⟩
  go_wp2_with fail
  refine (drawDrumRun_any HC).mono ?_
  rintro e w2 ⟨x0, x1, x2, x3, x4, x5, x6, t, m, cap, U, rfl, hm1, hm, hc, RV, B2⟩
  have HV : Hid (RowI w2 t (m * 3) U) := RV
  have HB : Hid (Below w1.heap.size w1 w2) := B2
  clear RV B2 HC
  obtain ⟨v, hv⟩ := runV_exists (x0, x1, x2, x3, x4, x5, x6) U m
  have SV : Hid (∀ w, RowI w t (m * 3) U → Calls Try.prog 9 #[.agg #[.int .i64 x0, .int .i64 x1, .int .i64 x2, .int .i64 x3, .int .i64 x4, .int .i64 x5, .int .i64 x6], .slice t m cap] w fun e w' => e = .returned v ∧ Below w.heap.size w w') := fun w q => (specDrumRun_any x0 x1 x2 x3 x4 x5 x6 t m cap U w q).mono fun e w' ⟨⟨v2, h2, e2⟩, hb⟩ => ⟨by rw [e2, hv.one h2], hb⟩
  have IV : Hid (∀ w, RowI w t (m * 3) U → Calls Try.prog 10 #[.agg #[.int .i64 x0, .int .i64 x1, .int .i64 x2, .int .i64 x3, .int .i64 x4, .int .i64 x5, .int .i64 x6], .slice t m cap] w fun e w' => e = .returned v ∧ Below w.heap.size w w') := fun w q => (implDrumRun_any x0 x1 x2 x3 x4 x5 x6 t m cap U w q).mono fun e w' ⟨⟨v2, h2, e2⟩, hb⟩ => ⟨by rw [e2, hv.one h2], hb⟩
  have HP := run_books hv
  clear hv
  go_upto_region 4 with fail
  obtain ⟨w3, hw_⟩ : ∃ x_, x_ = w2.alloc (.cells #[.int .i64 x0, .int .i64 x1, .int .i64 x2, .int .i64 x3, .int .i64 x4, .int .i64 x5, .int .i64 x6] 25) := ⟨_, rfl⟩
  rw [← hw_]
  have Hd : Hid (Blk w3 w2.heap.size [.int .i64 x0, .int .i64 x1, .int .i64 x2, .int .i64 x3, .int .i64 x4, .int .i64 x5, .int .i64 x6]) := by show Blk _ _ _; rw [hw_]; exact Blk.new w2 #[.int .i64 x0, .int .i64 x1, .int .i64 x2, .int .i64 x3, .int .i64 x4, .int .i64 x5, .int .i64 x6] _
  have bl_ : Below w2.heap.size w2 w3 := by rw [hw_]; exact below0 _ _
  clear hw_
  replace HV : Hid (RowI w3 t (m * 3) U) := HV.out.below bl_
  replace HB : Hid (Below w1.heap.size w1 w3) := HB.out.trans (bl_.mono HB.out.size)
  obtain ⟨gd, hg_⟩ : ∃ g, g = w2.heap.size := ⟨_, rfl⟩
  rw [← hg_] at Hd ⊢
  clear hg_ bl_
  obtain ⟨z_d, f_d, c_d⟩ := Hd.out
  have dc0 : w3.cell? ⟨gd, 0, none⟩ = some (.int .i64 x0) := c_d 0 _ rfl
  have dc1 : w3.cell? ⟨gd, 1, none⟩ = some (.int .i64 x1) := c_d 1 _ rfl
  have dc2 : w3.cell? ⟨gd, 2, none⟩ = some (.int .i64 x2) := c_d 2 _ rfl
  have dc3 : w3.cell? ⟨gd, 3, none⟩ = some (.int .i64 x3) := c_d 3 _ rfl
  have dc4 : w3.cell? ⟨gd, 4, none⟩ = some (.int .i64 x4) := c_d 4 _ rfl
  have dc5 : w3.cell? ⟨gd, 5, none⟩ = some (.int .i64 x5) := c_d 5 _ rfl
  have dc6 : w3.cell? ⟨gd, 6, none⟩ = some (.int .i64 x6) := c_d 6 _ rfl
  clear f_d c_d
  go_wp2_with fail
  refine (SV.out _ HV.out).mono ?_
  rintro e w4 ⟨rfl, h4⟩
  clear dc0 dc1 dc2 dc3 dc4 dc5 dc6 z_d
  replace Hd : Hid (Blk w4 gd [.int .i64 x0, .int .i64 x1, .int .i64 x2, .int .i64 x3, .int .i64 x4, .int .i64 x5, .int .i64 x6]) := Hd.out.below h4
  replace HV : Hid (RowI w4 t (m * 3) U) := HV.out.below h4
  replace HB : Hid (Below w1.heap.size w1 w4) := HB.out.trans (h4.mono HB.out.size)
  clear h4 SV
  rcases HP with ⟨y0, y1, y2, y3, y4, y5, y6, rfl⟩ | ⟨k, y0, y1, y2, y3, y4, y5, y6, rfl, km, hb1, hb2, hb3, hb4, hb5, hb6⟩
  · go_upto_region 5 with fail
    obtain ⟨w5, hw_⟩ : ∃ x_, x_ = w4.alloc (.cells #[.int .i64 y0, .int .i64 y1, .int .i64 y2, .int .i64 y3, .int .i64 y4, .int .i64 y5, .int .i64 y6] 25) := ⟨_, rfl⟩
    rw [← hw_]
    have Hs : Hid (Blk w5 w4.heap.size [.int .i64 y0, .int .i64 y1, .int .i64 y2, .int .i64 y3, .int .i64 y4, .int .i64 y5, .int .i64 y6]) := by show Blk _ _ _; rw [hw_]; exact Blk.new w4 #[.int .i64 y0, .int .i64 y1, .int .i64 y2, .int .i64 y3, .int .i64 y4, .int .i64 y5, .int .i64 y6] _
    have bl_ : Below w4.heap.size w4 w5 := by rw [hw_]; exact below0 _ _
    clear hw_
    replace Hd : Hid (Blk w5 gd [.int .i64 x0, .int .i64 x1, .int .i64 x2, .int .i64 x3, .int .i64 x4, .int .i64 x5, .int .i64 x6]) := Hd.out.below bl_
    replace HV : Hid (RowI w5 t (m * 3) U) := HV.out.below bl_
    replace HB : Hid (Below w1.heap.size w1 w5) := HB.out.trans (bl_.mono HB.out.size)
    obtain ⟨gs, hg_⟩ : ∃ g, g = w4.heap.size := ⟨_, rfl⟩
    rw [← hg_] at Hs ⊢
    clear hg_ bl_
    obtain ⟨z_d, f_d, c_d⟩ := Hd.out
    have dc0 : w5.cell? ⟨gd, 0, none⟩ = some (.int .i64 x0) := c_d 0 _ rfl
    have dc1 : w5.cell? ⟨gd, 1, none⟩ = some (.int .i64 x1) := c_d 1 _ rfl
    have dc2 : w5.cell? ⟨gd, 2, none⟩ = some (.int .i64 x2) := c_d 2 _ rfl
    have dc3 : w5.cell? ⟨gd, 3, none⟩ = some (.int .i64 x3) := c_d 3 _ rfl
    have dc4 : w5.cell? ⟨gd, 4, none⟩ = some (.int .i64 x4) := c_d 4 _ rfl
    have dc5 : w5.cell? ⟨gd, 5, none⟩ = some (.int .i64 x5) := c_d 5 _ rfl
    have dc6 : w5.cell? ⟨gd, 6, none⟩ = some (.int .i64 x6) := c_d 6 _ rfl
    clear f_d c_d
    go_wp2_with fail
    refine (IV.out _ HV.out).mono ?_
    rintro e w6 ⟨rfl, h6⟩
    replace HB : Hid (Below w1.heap.size w1 w6) := HB.out.trans (h6.mono HB.out.size)
    clear h6
    have BF := HB.out
    have sBF := BF.size
    go_wp2
    go_ret
    exact ⟨rfl, (by repeat (first | with_reducible exact Below.refl _ _ | with_reducible exact BF | with_reducible refine Below.setCell ?_ (by first | omega | (simp; done) | (simp; omega)) _ | with_reducible refine bDrewN ?_ _ | with_reducible refine Below.drew ?_ | with_reducible refine Below.alloc ?_ (by first | omega | (simp; done) | (simp; omega)) _))⟩
  · have H1 : Hid (drumB y0 y1 y2 y3 y4 y5 y6 = true) := hb1
    have H2 : Hid (y3 = x3 + fedS U k) := hb2
    have H3 : Hid (y5 = x5 + givS U k) := hb3
    have H4 : Hid (y6 - x6 = 30 * (y4 - x4)) := hb4
    have H5 : Hid (drumB x0 x1 x2 x3 x4 x5 x6 = true) := hb5
    have H6 : Hid (∀ j, j < k → (0 ≤ U (j * 3) ∧ U (j * 3) ≤ 1000000) ∧ (0 ≤ U (j * 3 + 1) ∧ U (j * 3 + 1) ≤ 1000000) ∧ (0 ≤ fedS U j ∧ fedS U j ≤ 1000000 * (j : Int)) ∧ (0 ≤ givS U j ∧ givS U j ≤ 5000000 * (j : Int))) := hb6
    clear hb1 hb2 hb3 hb4 hb5 hb6
    go_upto_region 5 with fail
    obtain ⟨w5, hw_⟩ : ∃ x_, x_ = w4.alloc (.cells #[.int .i64 y0, .int .i64 y1, .int .i64 y2, .int .i64 y3, .int .i64 y4, .int .i64 y5, .int .i64 y6] 25) := ⟨_, rfl⟩
    rw [← hw_]
    have Hs : Hid (Blk w5 w4.heap.size [.int .i64 y0, .int .i64 y1, .int .i64 y2, .int .i64 y3, .int .i64 y4, .int .i64 y5, .int .i64 y6]) := by show Blk _ _ _; rw [hw_]; exact Blk.new w4 #[.int .i64 y0, .int .i64 y1, .int .i64 y2, .int .i64 y3, .int .i64 y4, .int .i64 y5, .int .i64 y6] _
    have bl_ : Below w4.heap.size w4 w5 := by rw [hw_]; exact below0 _ _
    clear hw_
    replace Hd : Hid (Blk w5 gd [.int .i64 x0, .int .i64 x1, .int .i64 x2, .int .i64 x3, .int .i64 x4, .int .i64 x5, .int .i64 x6]) := Hd.out.below bl_
    replace HV : Hid (RowI w5 t (m * 3) U) := HV.out.below bl_
    replace HB : Hid (Below w1.heap.size w1 w5) := HB.out.trans (bl_.mono HB.out.size)
    obtain ⟨gs, hg_⟩ : ∃ g, g = w4.heap.size := ⟨_, rfl⟩
    rw [← hg_] at Hs ⊢
    clear hg_ bl_
    obtain ⟨z_d, f_d, c_d⟩ := Hd.out
    have dc0 : w5.cell? ⟨gd, 0, none⟩ = some (.int .i64 x0) := c_d 0 _ rfl
    have dc1 : w5.cell? ⟨gd, 1, none⟩ = some (.int .i64 x1) := c_d 1 _ rfl
    have dc2 : w5.cell? ⟨gd, 2, none⟩ = some (.int .i64 x2) := c_d 2 _ rfl
    have dc3 : w5.cell? ⟨gd, 3, none⟩ = some (.int .i64 x3) := c_d 3 _ rfl
    have dc4 : w5.cell? ⟨gd, 4, none⟩ = some (.int .i64 x4) := c_d 4 _ rfl
    have dc5 : w5.cell? ⟨gd, 5, none⟩ = some (.int .i64 x5) := c_d 5 _ rfl
    have dc6 : w5.cell? ⟨gd, 6, none⟩ = some (.int .i64 x6) := c_d 6 _ rfl
    clear f_d c_d
    go_wp2_with fail
    refine (IV.out _ HV.out).mono ?_
    rintro e w6 ⟨rfl, h6⟩
    clear dc0 dc1 dc2 dc3 dc4 dc5 dc6 z_d
    replace Hd : Hid (Blk w6 gd [.int .i64 x0, .int .i64 x1, .int .i64 x2, .int .i64 x3, .int .i64 x4, .int .i64 x5, .int .i64 x6]) := Hd.out.below h6
    replace Hs : Hid (Blk w6 gs [.int .i64 y0, .int .i64 y1, .int .i64 y2, .int .i64 y3, .int .i64 y4, .int .i64 y5, .int .i64 y6]) := Hs.out.below h6
    replace HV : Hid (RowI w6 t (m * 3) U) := HV.out.below h6
    replace HB : Hid (Below w1.heap.size w1 w6) := HB.out.trans (h6.mono HB.out.size)
    clear h6 IV Hs
    go_upto_region 6 with fail
    obtain ⟨w7, hw_⟩ : ∃ x_, x_ = w6.alloc (.cells #[.int .i64 y0, .int .i64 y1, .int .i64 y2, .int .i64 y3, .int .i64 y4, .int .i64 y5, .int .i64 y6] 25) := ⟨_, rfl⟩
    rw [← hw_]
    have Ha : Hid (Blk w7 w6.heap.size [.int .i64 y0, .int .i64 y1, .int .i64 y2, .int .i64 y3, .int .i64 y4, .int .i64 y5, .int .i64 y6]) := by show Blk _ _ _; rw [hw_]; exact Blk.new w6 #[.int .i64 y0, .int .i64 y1, .int .i64 y2, .int .i64 y3, .int .i64 y4, .int .i64 y5, .int .i64 y6] _
    have bl_ : Below w6.heap.size w6 w7 := by rw [hw_]; exact below0 _ _
    clear hw_
    replace Hd : Hid (Blk w7 gd [.int .i64 x0, .int .i64 x1, .int .i64 x2, .int .i64 x3, .int .i64 x4, .int .i64 x5, .int .i64 x6]) := Hd.out.below bl_
    replace HV : Hid (RowI w7 t (m * 3) U) := HV.out.below bl_
    replace HB : Hid (Below w1.heap.size w1 w7) := HB.out.trans (bl_.mono HB.out.size)
    obtain ⟨ga, hg_⟩ : ∃ g, g = w6.heap.size := ⟨_, rfl⟩
    rw [← hg_] at Ha ⊢
    clear hg_ bl_
    have kneg : ¬ ((k : Int) < 0) := by omega
    have k501 : (k : Int) ≤ 501 := by omega
    go_wp2_with fail
    go_loopw [9, 10, 11] (fun fv gv i wr => ∃ j : Nat, j ≤ k ∧ fv = .int .i64 (fedS U j) ∧ gv = .int .i64 (givS U j) ∧ i = .int .i64 (j : Int) ∧ Hid (Below w7.heap.size w7 wr)) (fun _ _ i _ => k - (intOf i).toNat)
    case atStart => exact ⟨0, by omega, rfl, rfl, rfl, Below.refl _ _⟩
    case round =>
      obtain ⟨j, hj, rfl, rfl, rfl, HM⟩ := hrel
      by_cases hlt : j < k
      case pos =>
        obtain ⟨tb, tq, rfl, zt, ct⟩ := HV.out (j * 3) (by omega)
        obtain ⟨tb', tq', e', zt', ct2⟩ := HV.out (j * 3 + 1) (by omega)
        cases e'
        have d1 : wr.cell? ⟨tb, tq + j * 3, none⟩ = some (.int .i64 (U (j * 3))) := (HM.out.cell (p := ⟨tb, tq + j * 3, none⟩) zt).trans ct
        have d2 : wr.cell? ⟨tb, tq + j * 3 + 1, none⟩ = some (.int .i64 (U (j * 3 + 1))) := (HM.out.cell (p := ⟨tb, tq + (j * 3 + 1), none⟩) zt).trans ct2
        have k1 : (j : Int) < (k : Int) := by omega
        have k2 : (j : Int) < (m : Int) := by omega
        obtain ⟨⟨b1, b2⟩, ⟨b3, b4⟩, ⟨b5, b6⟩, ⟨b7, b8⟩⟩ := H6.out j hlt
        have HE : Hid (fedS U (j + 1) = fedS U j + U (j * 3)) := rfl
        have HE2 : Hid (givS U (j + 1) = givS U j + U (j * 3 + 1) + 4 * U (j * 3)) := rfl
        have b6' : fedS U j ≤ 600000000 := by omega
        have b8' : givS U j ≤ 6000000000 := by omega
        clear b6 b8 ct ct2 zt'
        have zw : tb < wr.heap.size := Nat.lt_of_lt_of_le zt HM.out.size
        obtain ⟨p1, hp1⟩ : ∃ p1, U (j * 3) = p1 := ⟨_, rfl⟩
        obtain ⟨p2, hp2⟩ : ∃ p2, U (j * 3 + 1) = p2 := ⟨_, rfl⟩
        obtain ⟨p3, hp3⟩ : ∃ p3, givS U j = p3 := ⟨_, rfl⟩
        obtain ⟨p4, hp4⟩ : ∃ p4, fedS U j = p4 := ⟨_, rfl⟩
        rw [hp1] at d1 b1 b2 HE HE2
        rw [hp2] at d2 b3 b4 HE2
        rw [hp3] at b7 b8' HE2 ⊢
        rw [hp4] at b5 b6' HE ⊢
        clear hp1 hp2 hp3 hp4
        have wa : IntKind.i64.wrap (p3 + p2) = p3 + p2 := by rw [IntKind.wrap_i64]; omega
        have wb : IntKind.i64.wrap (4 * p1) = 4 * p1 := by rw [IntKind.wrap_i64]; omega
        have wc_ : IntKind.i64.wrap (p3 + p2 + 4 * p1) = p3 + p2 + 4 * p1 := by rw [IntKind.wrap_i64]; omega
        go_upto_region 16 with fail
        go_quiet (fail)
        go_wp2
        go_roundw
        case rel => exact ⟨j + 1, by omega, by rw [HE.out], by rw [HE2.out], by go_num, (by show Below _ _ _; have BM := HM.out; exact (by repeat (first | with_reducible exact Below.refl _ _ | with_reducible exact BM | with_reducible refine Below.setCell ?_ (by first | omega | (simp; done) | (simp; omega)) _ | with_reducible refine bDrewN ?_ _ | with_reducible refine Below.drew ?_ | with_reducible refine Below.alloc ?_ (by first | omega | (simp; done) | (simp; omega)) _)))⟩
        case measure => simp [intOf]; omega
      case neg =>
        obtain rfl : j = k := by omega
        replace Hd : Hid (Blk wr gd [.int .i64 x0, .int .i64 x1, .int .i64 x2, .int .i64 x3, .int .i64 x4, .int .i64 x5, .int .i64 x6]) := Hd.out.below HM.out
        replace Ha : Hid (Blk wr ga [.int .i64 y0, .int .i64 y1, .int .i64 y2, .int .i64 y3, .int .i64 y4, .int .i64 y5, .int .i64 y6]) := Ha.out.below HM.out
        replace HB : Hid (Below w1.heap.size w1 wr) := HB.out.trans (HM.out.mono HB.out.size)
        clear HM
        rename World => wz
        have DK : Hid (∀ w, Calls Try.prog 11 #[.agg #[.int .i64 y0, .int .i64 y1, .int .i64 y2, .int .i64 y3, .int .i64 y4, .int .i64 y5, .int .i64 y6]] w fun e w' => e = .returned (.bool true) ∧ Below w.heap.size w w') := fun w => by
          have := implDrumOk_any y0 y1 y2 y3 y4 y5 y6 w
          rw [H1.out] at this
          exact this
        obtain ⟨z_a, f_a, c_a⟩ := Ha.out
        have ac0 : wz.cell? ⟨ga, 0, none⟩ = some (.int .i64 y0) := c_a 0 _ rfl
        have ac1 : wz.cell? ⟨ga, 1, none⟩ = some (.int .i64 y1) := c_a 1 _ rfl
        have ac2 : wz.cell? ⟨ga, 2, none⟩ = some (.int .i64 y2) := c_a 2 _ rfl
        have ac3 : wz.cell? ⟨ga, 3, none⟩ = some (.int .i64 y3) := c_a 3 _ rfl
        have ac4 : wz.cell? ⟨ga, 4, none⟩ = some (.int .i64 y4) := c_a 4 _ rfl
        have ac5 : wz.cell? ⟨ga, 5, none⟩ = some (.int .i64 y5) := c_a 5 _ rfl
        have ac6 : wz.cell? ⟨ga, 6, none⟩ = some (.int .i64 y6) := c_a 6 _ rfl
        clear f_a c_a
        go_wp2_with fail
        refine (DK.out _).mono ?_
        rintro e w8 ⟨rfl, h8⟩
        clear ac0 ac1 ac2 ac3 ac4 ac5 ac6 z_a
        replace Hd : Hid (Blk w8 gd [.int .i64 x0, .int .i64 x1, .int .i64 x2, .int .i64 x3, .int .i64 x4, .int .i64 x5, .int .i64 x6]) := Hd.out.below h8
        replace Ha : Hid (Blk w8 ga [.int .i64 y0, .int .i64 y1, .int .i64 y2, .int .i64 y3, .int .i64 y4, .int .i64 y5, .int .i64 y6]) := Ha.out.below h8
        replace HB : Hid (Below w1.heap.size w1 w8) := HB.out.trans (h8.mono HB.out.size)
        clear h8 DK
        obtain ⟨z_a, f_a, c_a⟩ := Ha.out
        have ac0 : w8.cell? ⟨ga, 0, none⟩ = some (.int .i64 y0) := c_a 0 _ rfl
        have ac1 : w8.cell? ⟨ga, 1, none⟩ = some (.int .i64 y1) := c_a 1 _ rfl
        have ac2 : w8.cell? ⟨ga, 2, none⟩ = some (.int .i64 y2) := c_a 2 _ rfl
        have ac3 : w8.cell? ⟨ga, 3, none⟩ = some (.int .i64 y3) := c_a 3 _ rfl
        have ac4 : w8.cell? ⟨ga, 4, none⟩ = some (.int .i64 y4) := c_a 4 _ rfl
        have ac5 : w8.cell? ⟨ga, 5, none⟩ = some (.int .i64 y5) := c_a 5 _ rfl
        have ac6 : w8.cell? ⟨ga, 6, none⟩ = some (.int .i64 y6) := c_a 6 _ rfl
        clear f_a c_a
        obtain ⟨z_d, f_d, c_d⟩ := Hd.out
        have dc0 : w8.cell? ⟨gd, 0, none⟩ = some (.int .i64 x0) := c_d 0 _ rfl
        have dc1 : w8.cell? ⟨gd, 1, none⟩ = some (.int .i64 x1) := c_d 1 _ rfl
        have dc2 : w8.cell? ⟨gd, 2, none⟩ = some (.int .i64 x2) := c_d 2 _ rfl
        have dc3 : w8.cell? ⟨gd, 3, none⟩ = some (.int .i64 x3) := c_d 3 _ rfl
        have dc4 : w8.cell? ⟨gd, 4, none⟩ = some (.int .i64 x4) := c_d 4 _ rfl
        have dc5 : w8.cell? ⟨gd, 5, none⟩ = some (.int .i64 x5) := c_d 5 _ rfl
        have dc6 : w8.cell? ⟨gd, 6, none⟩ = some (.int .i64 x6) := c_d 6 _ rfl
        clear f_d c_d
        have BF := HB.out
        obtain ⟨q0, q1, q2, q3, q4, q5, q6, e1, e2, -⟩ := drum_yes H1.out
        obtain ⟨r0, r1, r2, r3, r4, r5, r6, -, -, -⟩ := drum_yes H5.out
        obtain ⟨⟨u1, u2⟩, ⟨u3, u4⟩⟩ := fed_end H6.out
        obtain ⟨f1, hf1⟩ : ∃ f1, fedS U j = f1 := ⟨_, rfl⟩
        obtain ⟨f2, hf2⟩ : ∃ f2, givS U j = f2 := ⟨_, rfl⟩
        rw [hf1] at u1 u2 H2 ⊢
        rw [hf2] at u3 u4 H3 ⊢
        unfold inD at q0 q1 q2 q3 q4 q5 q6 r0 r1 r2 r3 r4 r5 r6
        have t1 : (y3 == x3 + f1) = true := by simpa using H2.out
        have t2 : (y5 == x5 + f2) = true := by simpa using H3.out
        have t3 : (y0 + y1 == y3 - y4) = true := by simpa using e1
        have t4 : (y2 == y5 - y6) = true := by simpa using e2
        have t5 : (y6 - x6 == 30 * (y4 - x4)) = true := by simpa using H4.out
        have g1 : x3 + f1 ≤ 1000000000000 := by have := H2.out; omega
        have g2 : x5 + f2 ≤ 1000000000000 := by have := H3.out; omega
        have w1_ : IntKind.i64.wrap (x3 + f1) = x3 + f1 := by rw [IntKind.wrap_i64]; omega
        have w2_ : IntKind.i64.wrap (x5 + f2) = x5 + f2 := by rw [IntKind.wrap_i64]; omega
        have w3_ : IntKind.i64.wrap (y0 + y1) = y0 + y1 := by rw [IntKind.wrap_i64]; omega
        have w4_ : IntKind.i64.wrap (y3 - y4) = y3 - y4 := by rw [IntKind.wrap_i64]; omega
        have w5_ : IntKind.i64.wrap (y5 - y6) = y5 - y6 := by rw [IntKind.wrap_i64]; omega
        have w6_ : IntKind.i64.wrap (y6 - x6) = y6 - x6 := by rw [IntKind.wrap_i64]; omega
        have w7_ : IntKind.i64.wrap (y4 - x4) = y4 - x4 := by rw [IntKind.wrap_i64]; omega
        have w8_ : IntKind.i64.wrap (30 * (y4 - x4)) = 30 * (y4 - x4) := by rw [IntKind.wrap_i64]; omega
        clear e1 e2 hf1 hf2 g1 g2 H1 H2 H3 H4 H5 H6 q0 q1 q2 q3 q4 q5 q6 r0 r1 r2 r3 r4 r5 r6 u1 u2 u3 u4
        go_wp2
        go_ret
        exact ⟨rfl, BF⟩
theorem fnDrumBook_walk (w : World) (s : Option Addr) (n c : Nat) (hn : n ≤ 9223372036854775807) (R : Bytes w s n) :
    Calls Try.prog 3 #[.slice s n c] w fun e w' => e = .returned (.bool true) ∧ Below w.heap.size w w' := by
  by_cases h : n ≤ 1048576
  · exact dbk_near w s n c (by omega) (R.code h)
  · exact dbk_far w s n c (by omega)

set_option maxRecDepth 100000 in
theorem fnDrumBook_lifted (os : Os) (started : os.Started) (H : Type) (enc : TypeId × Value → H) :
    ReturnsInHanded {} Try.checked os 3 .any (Rows.fnDrumBookSpec.pre6 enc Try.prog Try.f3 Rows.fnDrumBookRow.domain false) (Rows.fnDrumBookSpec.post enc Try.prog Try.f3 false true false false) := by
  refine returnsInHanded_of_change (C := Try.checked) own started (by kernel_rfl) Try.func3
    (ChangeSpec.witness6 (enc := enc) (C := Try.checked) false ⟨#[], #[.slice none 0 0], []⟩ 8 (by kernel_rfl) (by kernel_rfl) (by kernel_rfl) (by kernel_rfl)) ?_
  intro W base args ds gs before hval0 hW hcnd _
  have hval : ∀ (j : Nat) t v, Try.f3.params[j]? = some t → args[j]? = some v → Value.okWide Try.prog W .any base t v := hval0
  have hW' := hW
  obtain ⟨p, q, hA0, hV, rfl, hfz, hnd⟩ := hW
  have hA : DataW.TrodAll enc Try.prog W 0 (fun _ => true) true Try.f3.params.toList args.toList ds p := hA0
  rw [Try.params3] at hA hval
  obtain ⟨v0, vs0, d0, ds0, p0, q0, hargs, rfl, rfl, h0, r0⟩ := trodAll_cons hA
  obtain ⟨rfl, rfl, rfl⟩ := trodAll_nil r0
  obtain rfl : args = #[v0] := by cases args; simp_all
  obtain ⟨rfl, rfl⟩ := trodVars_none hV
  have k0 := h0
  have lt0 : ∀ x ∈ p0, x.block < W.heap.size := by obtain ⟨m, hm⟩ := k0; exact DataW.trod_lt m _ _ _ hm
  obtain ⟨s0, n0, c0, rfl, m0, R0⟩ := open_code Try.underlying22 Try.underlying5 (by kernel_rfl) (hval 0 22 v0 rfl rfl) h0
  clear hA0 hval0
  refine (fnDrumBook_walk W s0 n0 c0 m0 R0).mono fun e W' ⟨he, bel⟩ => ?_
  subst he
  exact ⟨_, rfl, _, _, _, [], _, [], hW', trodAll_mk1 (shut_bool Try.underlying4 _), (trodAll_cons_mk (Below.trod laidOut (by kernel_rfl) (of_decide_eq_true (by kernel_rfl)) k0 bel lt0) trodAll_mk0), rfl, bel.frame _, fun h => by cases h⟩

theorem fnDrumBook_holds : Rows.FnDrumBookSaid :=
  OpenClaim.holds_of_wide 3 Try.f3 rfl rfl rfl rfl rfl rfl rfl ⟨rfl, rfl, rfl, rfl, rfl⟩ rfl rfl rfl rfl rfl (by kernel_rfl) Try.func3 (by kernel_rfl)
    (of_decide_eq_true (by kernel_rfl)) (by unfold Func.isWrapper; first | (rw [if_pos (by decide +kernel)]; kernel_rfl) | (rw [if_neg (by decide +kernel)]; exact ⟨rfl, rfl⟩))
    (fun os started H enc _ => fnDrumBook_lifted os started H enc)
#print axioms fnDrumBook_holds
end Go.Proofs.Ytjiojofgpdimaaa
