/-
What is proved: the floor of costs, as the specification says it.
-/
import Derived.Test.YtdlbniihgppodaaFlrN
import Derived.Test.YtdlbniihgppodaaPlA
import Derived.Test.YtdlbniihgppodaaMtS
import Derived.Test.YtdlbniihgppodaaCqL
import Derived.Deep.RegionHeld3
import Derived.BigQuiet
namespace Go.Proofs.Ytdlbniihgppodaa
set_option maxRecDepth 40000
open Go.ChangeShapes Go.WideShapes Go.ChangeAt Go.RowKit
set_option linter.unusedVariables false
set_option linter.unusedSimpArgs false

set_option maxRecDepth 20000 in
set_option maxHeartbeats 4000000 in
theorem l24Spent_any (s : Option Addr) (n c : Nat) (V : Nat → Int × Int × Int × Int × Int) (t : Option Addr) (no m : Nat) (O : Nat → Bool) (ld : Int) (w : World) (hn : (n : Int) ≤ 1048576) (hno : (no : Int) ≤ 1048576) (l0 : -9223372036854775808 ≤ ld) (l1 : ld ≤ 9223372036854775807) (HR : Hid (RowPlant w s n V)) (HO : Hid (RowB w t no O)) :
    Calls Try.prog 48 #[.slice s n c, .int .i64 ld, .slice t no m] w fun e w' => e = .returned (.int .i64 (spentV n V O no ld)) ∧ Below w.heap.size w w' := by
  go_enter Try.func48, Try.ntmps48
  go_wp2_with fail
  refine (specMerit_any s n c V t no m O ld _ hn hno l0 l1 HR HO).mono ?_
  rintro e w1 h
  unfold MePost at h
  obtain ⟨s1, cap, rfl, OW, B1⟩ := h
  have HB1 : Hid (Below w.heap.size w w1) := B1
  cases h0 : meB n V O no ld
  · have HF : Hid (spentV n V O no ld = -1) := spent_no h0
    clear OW B1
    go_wp2
    go_ret
    exact ⟨ret_int HF.out.symm, HB1.out⟩
  have HF : Hid (spentV n V O no ld = sumF (speF n V O ld) n) := spent_yes h0
  have hN : meN n V O no ld = n := by unfold meN; rw [if_pos h0]
  rw [hN] at OW ⊢
  obtain ⟨n1, n3, hp⟩ := pls_yes (me_pls h0)
  have HU : Hid (RowI w1 s1 n (outV n V O ld)) := OW.row
  have HP : Hid (∀ i, i < n → plB (V i) = true) := hp
  clear hN OW h0 hp B1
  go_wp2_with fail
  go_loopw [9, 10] (fun v i wx => ∃ k : Nat, k ≤ n ∧ i = .int .i64 k ∧ v = .int .i64 (sumF (speF n V O ld) k) ∧ Below w1.heap.size w1 wx) (fun _ i _ => n - (intOf i).toNat)
  case atStart => exact ⟨0, Nat.zero_le _, rfl, rfl, Below.refl _ _⟩
  case round =>
    obtain ⟨k, hk, rfl, rfl, hX⟩ := hrel
    have HBX : Hid (Below w.heap.size w wr) := HB1.out.trans (hX.mono HB1.out.size)
    by_cases h2 : k < n
    case neg =>
      obtain rfl : n = k := by omega
      clear hX
      go_wp2
      go_ret
      exact ⟨ret_int HF.out.symm, HBX.out⟩
    have k1 : (k : Int) < (n : Int) := by omega
    obtain ⟨g, o, rfl, hg, -, -, c2, -, -⟩ := HR.out k h2
    obtain ⟨G, og, rfl, hG, cG⟩ := HU.out k h2
    have ub := out_in (P := O) (ld := ld) HP.out k h2
    have pb := pl_yes (HP.out k h2)
    have HPC : Hid (sumF (speF n V O ld) (k + 1) = sumF (speF n V O ld) k + outV n V O ld k * (V k).2.2.1) := rfl
    have sk := spent_in (O := O) (ld := ld) n3 hk HP.out
    obtain ⟨⟨a, b, dd, x, y⟩, hV⟩ : ∃ z, V k = z := ⟨_, rfl⟩
    rw [hV] at c2 pb HPC
    simp only at c2 pb HPC
    obtain ⟨uu, huu⟩ : ∃ z, outV n V O ld k = z := ⟨_, rfl⟩
    rw [huu] at cG ub HPC
    have mb := mul_cost ub.1 ub.2 pb.2.2.1.1 pb.2.2.1.2
    obtain ⟨S, hS⟩ : ∃ z, sumF (speF n V O ld) k = z := ⟨_, rfl⟩
    rw [hS] at HPC sk ⊢
    replace c2 := (HBX.out.cell (p := ⟨g, o + k * 5 + 2, none⟩) hg).trans c2
    replace cG := (hX.cell (p := ⟨G, og + k, none⟩) hG).trans cG
    have mm := mb.1
    have mM := mb.2
    have s0 := sk.1
    have s1 := sk.2
    have HXX : Hid (Below w1.heap.size w1 wr) := hX
    clear hV huu hS pb ub mb sk hX
    go_upto_region 8 with fail
    go_quiet (fail)
    go_wp2
    go_roundw
    case rel => exact ⟨k + 1, by omega, by go_num, by rw [HPC.out], HXX.out.trans ((below_drewN (Below.refl _ _) _).mono HXX.out.size)⟩
    case measure => first | (simp [intOf]; done) | (simp [intOf]; omega)
set_option maxRecDepth 20000 in
set_option maxHeartbeats 4000000 in
theorem specFloor_any (s : Option Addr) (n c : Nat) (V : Nat → Int × Int × Int × Int × Int) (u : Option Addr) (m d : Nat) (W : Nat → Int) (w : World) (hn : (n : Int) ≤ 1048576) (hm : (m : Int) ≤ 1048576) (HR : Hid (RowPlant w s n V)) (HW : Hid (RowI w u m W)) :
    Calls Try.prog 26 #[.slice s n c, .slice u m d] w fun e w' => e = .returned (.int .i64 (floorV n V m W)) ∧ Below w.heap.size w w' := by
  go_enter Try.func26, Try.ntmps26
  go_wp2_with fail
  refine (l24Plants_any s n c V _ hn HR.out).mono ?_
  rintro e w1 ⟨rfl, B1⟩
  cases h0 : plsB n V
  · have HF : Hid (floorV n V m W = -1) := floor_off (by rw [h0]; rfl)
    go_wp2
    go_ret
    exact ⟨ret_int HF.out.symm, (by repeat (first | with_reducible exact Below.refl _ _ | with_reducible exact B1 | with_reducible refine Below.setCell ?_ (by first | omega | (simp; done) | (simp; omega)) _ | with_reducible refine bDrewN ?_ _ | with_reducible refine Below.drew ?_ | with_reducible refine Below.alloc ?_ (by first | omega | (simp; done) | (simp; omega)) _))⟩
  have HW1 : Hid (RowI w1 u m W) := HW.out.below B1
  go_wp2_with fail
  refine (l24Loads_any u m d W _ hm HW1).mono ?_
  rintro e w1 ⟨rfl, rfl⟩
  cases h1 : ldB m W
  · have HF : Hid (floorV n V m W = -1) := floor_off (by rw [h0, h1]; rfl)
    go_wp2
    go_ret
    exact ⟨ret_int HF.out.symm, (by repeat (first | with_reducible exact Below.refl _ _ | with_reducible exact B1 | with_reducible refine Below.setCell ?_ (by first | omega | (simp; done) | (simp; omega)) _ | with_reducible refine bDrewN ?_ _ | with_reducible refine Below.drew ?_ | with_reducible refine Below.alloc ?_ (by first | omega | (simp; done) | (simp; omega)) _))⟩
  obtain ⟨n1, n3, hpl⟩ := pls_yes h0
  obtain ⟨m1, m5, hw⟩ := ld_yes h1
  have HPS : Hid (plsB n V = true) := h0
  have HLS : Hid (ldB m W = true) := h1
  have HLD : Hid (∀ j, j < m → 0 ≤ W j ∧ W j ≤ 300000) := hw
  have HPL : Hid (∀ i, i < n → plB (V i) = true) := hpl
  have HR1 : Hid (RowPlant w1 s n V) := HR.out.below B1
  have HB1 : Hid (Below w.heap.size w w1) := B1
  have z1 := B1.size
  clear h0 h1 hpl hw B1
  go_upto_region 5 with fail
  obtain ⟨wa, hwa⟩ : ∃ z, z = (w1.alloc (.cells #[] 55)).alloc (.cells #[] 4) := ⟨_, rfl⟩
  rw [← hwa]
  have HBa : Hid (Below w1.heap.size w1 wa) := by show Below _ _ _; rw [hwa]; exact (by repeat (first | with_reducible exact Below.refl _ _ | with_reducible refine Below.setCell ?_ (by first | omega | (simp; done) | (simp; omega)) _ | with_reducible refine bDrewN ?_ _ | with_reducible refine Below.drew ?_ | with_reducible refine Below.alloc ?_ (by first | omega | (simp; done) | (simp; omega)) _))
  have HLA : Hid (wa.ownsRow w1.heap.size 55 5 (.slice (some ⟨w1.heap.size, 0, none⟩) 0 0) 0 (vals (fltF (frV V)) (0 * 5))) := by
    show World.ownsRow _ _ _ _ _ _ _
    rw [hwa]
    exact own_keep (by simpa [vals] using World.ownsRow_lit (base := w1.heap.size) (size := 5) (e := 55) w1 #[] 0 (Nat.le_refl _) (by simp [maxLen]) (by simp)) (by repeat (first | with_reducible exact Below.refl _ _ | with_reducible refine Below.setCell ?_ (by first | omega | (simp; done) | (simp; omega)) _ | with_reducible refine bDrewN ?_ _ | with_reducible refine Below.drew ?_ | with_reducible refine Below.alloc ?_ (by first | omega | (simp; done) | (simp; omega)) _))
  have HLB : Hid (wa.ownsRow w1.heap.size 4 1 (.slice (some ⟨w1.heap.size + 1, 0, none⟩) 0 0) 0 (valB onA 0)) := by
    show World.ownsRow _ _ _ _ _ _ _
    rw [hwa]
    simpa [valB] using World.ownsRow_lit (base := w1.heap.size) (size := 1) (e := 4) (w1.alloc (.cells #[] 55)) #[] 0 (by simp) (by simp [maxLen]) (by simp)
  clear hwa
  go_wp2_with fail
  go_loopw [5, 6, 7] (fun a b i wx => ∃ k : Nat, k ≤ n ∧ i = .int .i64 k ∧ Hid (wx.ownsRow w1.heap.size 55 5 a k (vals (fltF (frV V)) (k * 5))) ∧ Hid (wx.ownsRow w1.heap.size 4 1 b k (valB onA k)) ∧ Hid (Below w1.heap.size w1 wx)) (fun _ _ i _ => n - (intOf i).toNat)
  case atStart => exact ⟨0, Nat.zero_le _, rfl, HLA, HLB, HBa⟩
  case round =>
    obtain ⟨k, hk, rfl, HA, HB, HX⟩ := hrel
    clear HLA HLB HBa
    by_cases h2 : k < n
    case pos =>
      have k1 : (k : Int) < (n : Int) := by omega
      obtain ⟨g, o, rfl, hg, c0, c1, c2, c3, c4⟩ := HR1.out k h2
      have cv : ∀ q v, w1.cell? ⟨g, q, none⟩ = some v → wr.cell? ⟨g, q, none⟩ = some v := fun q v h => (HX.out.cell (p := ⟨g, q, none⟩) hg).trans h
      replace c0 := cv _ _ c0
      replace c1 := cv _ _ c1
      replace c2 := cv _ _ c2
      replace c3 := cv _ _ c3
      replace c4 := cv _ _ c4
      obtain ⟨⟨x0, x1, x2, x3, x4⟩, hV⟩ : ∃ z, V k = z := ⟨_, rfl⟩
      rw [hV] at c0 c1 c2 c3 c4
      simp only at c0 c1 c2 c3 c4
      have zg : g < wr.heap.size := Nat.lt_of_lt_of_le hg HX.out.size
      have HXs : Hid (w1.heap.size ≤ wr.heap.size) := HX.out.size
      clear cv
      go_upto_region 10 with fail
      obtain ⟨wp, hwp⟩ : ∃ z, z = wr.alloc (.cells #[.int .i64 0, .int .i64 x1, .int .i64 x2, .int .i64 x3, .int .i64 x4] 55) := ⟨_, rfl⟩
      rw [← hwp]
      have BP : Below wr.heap.size wr wp := by rw [hwp]; exact (by repeat (first | with_reducible exact Below.refl _ _ | with_reducible refine Below.setCell ?_ (by first | omega | (simp; done) | (simp; omega)) _ | with_reducible refine bDrewN ?_ _ | with_reducible refine Below.drew ?_ | with_reducible refine Below.alloc ?_ (by first | omega | (simp; done) | (simp; omega)) _))
      have HAp : Hid (wp.ownsRow w1.heap.size 55 5 u5 k (vals (fltF (frV V)) (k * 5))) := own_keep HA.out BP
      have HBp : Hid (wp.ownsRow w1.heap.size 4 1 u6 k (valB onA k)) := own_keep HB.out BP
      have HXp : Hid (Below w1.heap.size w1 wp) := HX.out.trans (BP.mono HX.out.size)
      have p0 : wp.cell? ⟨wr.heap.size, 0, none⟩ = some (.int .i64 0) := by rw [hwp]; simp [go_sem]
      have p1 : wp.cell? ⟨wr.heap.size, 1, none⟩ = some (.int .i64 x1) := by rw [hwp]; simp [go_sem]
      have p2 : wp.cell? ⟨wr.heap.size, 2, none⟩ = some (.int .i64 x2) := by rw [hwp]; simp [go_sem]
      have p3 : wp.cell? ⟨wr.heap.size, 3, none⟩ = some (.int .i64 x3) := by rw [hwp]; simp [go_sem]
      have p4 : wp.cell? ⟨wr.heap.size, 4, none⟩ = some (.int .i64 x4) := by rw [hwp]; simp [go_sem]
      have zb : w1.heap.size ≤ wp.heap.size := HXp.out.size
      have HFV : Hid (frV V k = (0, x1, x2, x3, x4)) := by show _ = _; unfold frV; rw [hV]
      clear hwp BP HA HB HX HXs hV c0 c1 c2 c3 c4
      go_upto_region 11 with (at_builtin; refine list_Plant w1.heap.size u5 k _ (.tmp 33) (.tmp 35) (by rfl) (by rfl) (by rfl) (by rfl) HAp.out (by omega) zb ?_; intro g1 cap1 w2 O2 G2 z2)
      have HA2 : Hid (w2.ownsRow w1.heap.size 55 5 (.slice (some ⟨g1, 0, none⟩) (k + 1) cap1) (k + 1) (vals (fltF (frV V)) ((k + 1) * 5))) := by
        show World.ownsRow _ _ _ _ _ _ _
        rw [vals_flt, HFV.out]
        exact O2
      have HB2 : Hid (w2.ownsRow w1.heap.size 4 1 u6 k (valB onA k)) := own_other HAp.out HBp.out (by decide) G2
      have HX2 : Hid (Below w1.heap.size w1 w2) := HXp.out.trans (grown_below G2 zb (own_block HAp.out))
      have zc : w1.heap.size ≤ w2.heap.size := HX2.out.size
      clear O2 G2 HAp HBp HXp HFV p0 p1 p2 p3 p4 zb
      go_wp2_with (at_builtin; refine list_bool w1.heap.size u6 k _ (.tmp 37) (.tmp 38) (by rfl) (by rfl) (by rfl) (by rfl) HB2.out (by omega) zc ?_; intro g2 cap2 w3 O3 G3 z3)
      have HB3 : Hid (w3.ownsRow w1.heap.size 4 1 (.slice (some ⟨g2, 0, none⟩) (k + 1) cap2) (k + 1) (valB onA (k + 1))) := by
        show World.ownsRow _ _ _ _ _ _ _
        rw [valB_succ]
        exact O3
      have HA3 : Hid (w3.ownsRow w1.heap.size 55 5 (.slice (some ⟨g1, 0, none⟩) (k + 1) cap1) (k + 1) (vals (fltF (frV V)) ((k + 1) * 5))) := own_other HB2.out HA2.out (by decide) G3
      have HX3 : Hid (Below w1.heap.size w1 w3) := HX2.out.trans (grown_below G3 zc (own_block HB2.out))
      clear O3 G3 HA2 HB2 HX2 zc
      go_roundw
      case rel => exact ⟨k + 1, by omega, by go_num, HA3, HB3, HX3⟩
      case measure => first | (simp [intOf]; done) | (simp [intOf]; omega)
    case neg =>
      obtain rfl : k = n := by omega
      obtain ⟨ta, ca, ea, OA⟩ := own_OwnI (size := 5) (U := fltF (frV V)) HA.out
      obtain ⟨tb, cb, eb, OB⟩ := madeB_own (w := w1) ⟨HB.out, HX.out⟩
      subst ea eb
      have HP1 : Hid (RowPlant wr ta k (frV V)) := flt_row OA.row
      have HO1 : Hid (RowB wr tb k onA) := OB.row
      have HBX : Hid (Below w.heap.size w wr) := HB1.out.trans (HX.out.mono HB1.out.size)
      have HW2 : Hid (RowI wr u m W) := HW1.out.below HX.out
      clear OA OB HA HB HX
      rename World => wz
      go_wp2_with fail
      go_loopw [9, 10] (fun v i wx => ∃ t : Nat, t ≤ m ∧ i = .int .i64 t ∧ v = .int .i64 (sumF (fun t => sumF (speF k (frV V) onA (W t)) k) t) ∧ Hid (∀ j, j < t → meB k (frV V) onA k (W j) = true) ∧ Below wz.heap.size wz wx) (fun _ i _ => m - (intOf i).toNat)
      case atStart => exact ⟨0, Nat.zero_le _, rfl, rfl, fun j hj => by omega, Below.refl _ _⟩
      case round =>
        obtain ⟨t, ht, rfl, rfl, HT, hX⟩ := hrel
        have HBY : Hid (Below w.heap.size w wr) := HBX.out.trans (hX.mono HBX.out.size)
        by_cases h2 : t < m
        case neg =>
          obtain rfl : t = m := by omega
          have HF : Hid (floorV k V t W = sumF (fun t => sumF (speF k (frV V) onA (W t)) k) t) := floor_yes HPS.out HLS.out HT.out
          clear hX
          go_wp2
          go_ret
          exact ⟨ret_int HF.out.symm, HBY.out⟩
        have t1 : (t : Int) < (m : Int) := by omega
        obtain ⟨g, o, rfl, hg, c0⟩ := HW2.out t h2
        replace c0 := (hX.cell (p := ⟨g, o + t, none⟩) hg).trans c0
        have wb := HLD.out t h2
        have HSU : Hid (sumF (fun t => sumF (speF k (frV V) onA (W t)) k) (t + 1) = sumF (fun t => sumF (speF k (frV V) onA (W t)) k) t + sumF (speF k (frV V) onA (W t)) k) := rfl
        have sk := floor_in (W := W) HPS.out ht m5
        have sj := spent_in (O := onA) (ld := W t) n3 (Nat.le_refl k) (pls_yes (fr_pls HPS.out).1).2.2
        have HNO : Hid (meB k (frV V) onA k (W t) = false → floorV k V m W = -1) := floor_no h2
        obtain ⟨ld, hld⟩ : ∃ z, W t = z := ⟨_, rfl⟩
        have HLE : Hid (meB k (frV V) onA k (W t) = meB k (frV V) onA k ld) := by show _ = _; rw [hld]
        rw [hld] at c0 wb HSU sj HNO
        obtain ⟨S, hS⟩ : ∃ z, sumF (fun t => sumF (speF k (frV V) onA (W t)) k) t = z := ⟨_, rfl⟩
        rw [hS] at HSU sk ⊢
        have HP2 : Hid (RowPlant wr ta k (frV V)) := HP1.out.below hX
        have HO2 : Hid (RowB wr tb k onA) := HO1.out.below hX
        have HXX : Hid (Below wz.heap.size wz wr) := hX
        clear hld hS hX
        go_wp2_with fail
        refine (l24Spent_any ta k ca (frV V) tb k cb onA ld _ hn hn (by omega) (by omega) HP2 HO2).mono ?_
        rintro e w4 ⟨rfl, B4⟩
        have HX4 : Hid (Below wz.heap.size wz w4) := HXX.out.trans (B4.mono HXX.out.size)
        have HB4 : Hid (Below w.heap.size w w4) := HBY.out.trans (B4.mono HBY.out.size)
        clear B4
        cases h3 : meB k (frV V) onA k ld
        · rw [spent_no h3]
          have HF : Hid (floorV k V m W = -1) := HNO.out h3
          go_wp2
          go_ret
          exact ⟨ret_int HF.out.symm, HB4.out⟩
        rw [spent_yes h3]
        obtain ⟨Z, hZ⟩ : ∃ z, sumF (speF k (frV V) onA ld) k = z := ⟨_, rfl⟩
        rw [hZ] at HSU sj ⊢
        have HT2 : Hid (∀ j, j < t + 1 → meB k (frV V) onA k (W j) = true) := ball_succP HT.out (HLE.out.trans h3)
        have q0 : decide (Z < 0) = false := decide_eq_false (by omega)
        have q1 : ¬ Z < 0 := by omega
        have s0 := sk.1
        have s1 := sk.2
        have s2 := sj.1
        have s3 := sj.2
        clear hZ h3 sk sj HT
        go_wp2
        go_roundw
        case rel => exact ⟨t + 1, by omega, by go_num, by rw [HSU.out], HT2, HX4.out⟩
        case measure => first | (simp [intOf]; done) | (simp [intOf]; omega)
end Go.Proofs.Ytdlbniihgppodaa
