/-
What is proved: what is drawn for a burner's run.
-/
import Derived.Test.YtpnihekpokfooaaPgF
import Derived.Deep.RegionHeld3
import Derived.Deep.DeepCutAuto
namespace Go.Proofs.Ytpnihekpokfooaa
set_option maxRecDepth 40000
open Go.RowKit
set_option linter.unusedVariables false
set_option linter.unusedSimpArgs false

set_option maxRecDepth 20000 in
set_option maxHeartbeats 16000000 in
theorem drawRun_any {s : Option Addr} {n c : Nat} {w : World} (h : Hid (Code8 w s n)) : Calls Try.prog 32 #[.slice s n c] w fun e w' => DbPost w e w' := by
  go_enter Try.func32, Try.ntmps32
  go_upto_region 1 with fail
  obtain ⟨wd, hwd⟩ : ∃ wd, wd = w.alloc (.cells #[.int .i64 0, .int .i64 0, .int .i64 0] 25) := ⟨_, rfl⟩
  rw [← hwd]
  have B0 : Below w.heap.size w wd := by rw [hwd]; exact below0 _ _
  have ed : wd.heap.size = w.heap.size + 1 := by rw [hwd]; simp
  have RA : Hid (BurAt wd w.heap.size (0, 0, 0)) := by rw [hwd]; exact burAt_new w 0 0 0 _
  clear hwd
  have HC0 : Hid (Code8 wd s n) := h.out.below B0
  go_wp2_with fail
  refine (open_any HC0).mono ?_
  rintro e w1 ⟨rfl, R1, b1⟩
  have HR1 : Hid (Rd w1 wd.heap.size s n c 0) := R1
  have HA1 : Hid (BurAt w1 w.heap.size (0, 0, 0)) := RA.out.below b1
  have HB1 : Hid (Below w.heap.size w w1) := B0.trans (b1.mono B0.size)
  have zr : wd.heap.size < w1.heap.size := R1.1
  clear R1 b1 RA B0 HC0
  obtain ⟨r, hr⟩ : ∃ r, r = wd.heap.size := ⟨_, rfl⟩
  rw [← hr] at HR1 zr ed ⊢
  have HRR : w.heap.size < r := by omega
  clear hr ed
  go_wp2_with fail
  refine (burner_any HR1.out).mono ?_
  rintro e w2 ⟨a, b, d, p2, rfl, R2, b2⟩
  have HR2 : Hid (Rd w2 r s n c p2) := R2
  have HA2 : Hid (BurAt w2 w.heap.size (0, 0, 0)) := HA1.out.beside b2 (by omega)
  have HB2 : Hid (Below w.heap.size w w2) := HB1.out.trans (b2.below (by omega) HB1.out.size)
  have zr2 : r < w2.heap.size := R2.1
  clear R2 b2 HA1 HB1 HR1 zr
  go_wp2_with fail
  refine (once_any 2 (by omega) (by omega) (Rd.below HR2.out (below0 _ _))).mono ?_
  rintro e w3 ⟨fl, p3, rfl, R3, b3⟩
  have HR3 : Hid (Rd w3 r s n c p3) := R3
  have HA3 : Hid (BurAt w3 w.heap.size (0, 0, 0)) := (HA2.out.below (below0 _ _)).beside b3 (by omega)
  have HP3 : Hid (BurAt w3 w2.heap.size (a, b, d)) := (burAt_new w2 a b d _).beside b3 (by omega)
  have HB3 : Hid (Below w.heap.size w w3) := (HB2.out.trans ((below0 _ _).mono HB2.out.size)).trans (b3.below (by omega) (by have := HB2.out.size; simp; omega))
  clear R3 b3 HA2 HB2 HR2
  obtain ⟨p5, hp5⟩ : ∃ p5, w2.heap.size = p5 := ⟨_, rfl⟩
  rw [hp5] at HP3 zr2
  (try rw [hp5])
  clear hp5
  have z5 : p5 < w3.heap.size := HP3.out.1
  cases fl
  case false =>
    have HP4 := HP3
    have HA4 := HA3
    have HR4 := HR3
    have HB4 := HB3
    clear HP3 HA3 HR3 HB3
    obtain ⟨zP, ⟨p0, p1, p2'⟩, -⟩ := HP4.out
    go_wp2_with fail
    have S0 : Hid (StP w r s n c p5 w3.heap.size (w3.heap.size + 1) ((w3.alloc (.cells #[.int .i64 a, .int .i64 b, .int .i64 d] 25)).alloc (.cells #[] 34)) (a, b, d) (a, b, d) (.slice (some ⟨w3.heap.size + 1, 0, none⟩) 0 0) 0 (fun _ => false)) := ⟨⟨_, Rd.below (Rd.below HR4.out (below0 _ _)) (below0 _ _)⟩, (HA4.out.below (below0 _ _)).below (below0 _ _), (HP4.out.below (below0 _ _)).below (below0 _ _), (burAt_new w3 a b d _).below (below0 _ _), by
      have := World.ownsRow_lit (base := w3.heap.size + 1) (size := 6) (e := 34) (w3.alloc (.cells #[.int .i64 a, .int .i64 b, .int .i64 d] 25)) #[] 0 (by simp) (by simp [maxLen]) (by simp)
      simpa [valB] using this, (HB4.out.trans ((below0 _ _).mono HB4.out.size)).trans ((below0 _ _).mono (by have := HB4.out.size; simp; omega)), by simp⟩
    have HO : Hid (Ord w r p5 w3.heap.size (w3.heap.size + 1)) := ⟨HRR, zr2, z5, by omega⟩
    obtain ⟨⟨i0, RR⟩, -⟩ := S0.out
    refine (size_any 2 60 (by omega) (by omega) (by omega) (by omega) RR).mono ?_
    rintro e w5 ⟨N, i1, rfl, N0, N1, R5, b5⟩
    have S1 : Hid (StP w r s n c p5 w3.heap.size (w3.heap.size + 1) w5 (a, b, d) (a, b, d) (.slice (some ⟨w3.heap.size + 1, 0, none⟩) 0 0) 0 (fun _ => false)) := StP.read HO.out S0.out b5 R5
    clear S0 RR R5 b5 zP p0 p1 p2' HP4 HA4 HR4 HB4
    obtain ⟨p6, hp6⟩ : ∃ p6, w3.heap.size = p6 := ⟨_, rfl⟩
    obtain ⟨base, hba⟩ : ∃ base, p6 + 1 = base := ⟨_, rfl⟩
    rw [hp6] at S1 HO
    (try rw [hp6])
    rw [hba] at S1 HO
    (try rw [hba])
    have o1 : w.heap.size < p6 := by have := HO.out.1; have := HO.out.2.1; have := HO.out.2.2.1; omega
    have o2 : p6 < base := by omega
    clear hp6 hba z5 zr2
    go_wp2_with fail
    go_loopw [7, 8] (fun va i wr => ∃ (k : Nat) (U : Nat → Bool) (x y z : Int), (k : Int) ≤ N ∧ i = .int .i64 (N - k) ∧ Hid (StP w r s n c p5 p6 base wr (a, b, d) (x, y, z) va k U)) (fun _ i _ => (intOf i).toNat)
    case atStart => exact ⟨0, fun _ => false, a, b, d, by omega, by simp, S1.out⟩
    case round =>
      obtain ⟨k, U, x, y, z, hk, rfl, HS⟩ := hrel
      clear S1
      by_cases hlt : (k : Int) < N
      case pos =>
        have q0 : 0 < N - (k : Int) := by omega
        obtain ⟨⟨i2, R2⟩, -, -, ⟨zb, ⟨a0, a1, a2⟩, -⟩, -⟩ := HS.out
        have HR : Hid (Rd wr r s n c i2) := R2
        clear R2
        go_wp2_with fail
        refine (seen_any HR.out x y z).mono ?_
        rintro e w6 ⟨u0, u1, u2, u3, u4, u5, i3, rfl, R6, b6⟩
        have S6 : Hid (StP w r s n c p5 p6 base w6 (a, b, d) (x, y, z) u7 k U) := StP.read HO.out HS.out b6 R6
        clear R6 b6 HS HR zb a0 a1 a2
        go_upto_region 11 with fail
        obtain ⟨wi, hwi⟩ : ∃ wi, wi = w6.alloc (.cells #[.bool u0, .bool u1, .bool u2, .bool u3, .bool u4, .bool u5] 34) := ⟨_, rfl⟩
        rw [← hwi]
        have S6' : Hid (StP w r s n c p5 p6 base wi (a, b, d) (x, y, z) u7 k U) := StP.far HO.out S6.out (hwi ▸ below0 _ _)
        have I6 : Hid (InAt wi w6.heap.size u0 u1 u2 u3 u4 u5) := hwi ▸ inAt_new w6 u0 u1 u2 u3 u4 u5 _
        have HOw : Hid (wi.ownsRow base 34 6 u7 k (valB U (k * 6))) := S6'.out.2.2.2.2.1
        have zz : base ≤ wi.heap.size := S6'.out.2.2.2.2.2.2
        have lt6 : Hid (∀ g, u7.ownBlock = some g → g < w6.heap.size) := fun g e => (S6.out.2.2.2.2.1.lt g e).2
        clear hwi S6
        obtain ⟨pI, hpI⟩ : ∃ pI, w6.heap.size = pI := ⟨_, rfl⟩
        rw [hpI] at I6 lt6
        (try rw [hpI])
        clear hpI
        obtain ⟨zI0, ⟨c0, c1, c2, c3, c4, c5⟩, -⟩ := I6.out
        go_upto_region 12 with (at_builtin; refine list_in base u7 k (valB U (k * 6)) (.tmp 31) (.tmp 33) (by rfl) (by rfl) (by rfl) (by rfl) HOw.out (by omega) zz ?_; intro g' cap' w7 hown7 hgrow7 hlt7)
        have S7 : Hid (StP w r s n c p5 p6 base w7 (a, b, d) (x, y, z) (.slice (some ⟨g', 0, none⟩) (k + 1) cap') (k + 1) (putB U k u0 u1 u2 u3 u4 u5)) := StP.on HO.out S6'.out hown7 hgrow7
        have I7 : Hid (InAt w7 pI u0 u1 u2 u3 u4 u5) := I6.out.grown hgrow7 (fun g e => by have := lt6.out g e; omega)
        clear hown7 hgrow7 S6' I6 HOw lt6 zI0 c0 c1 c2 c3 c4 c5
        obtain ⟨-, -, -, ⟨zb, ⟨a0, a1, a2⟩, f0, f1, f2⟩, -⟩ := S7.out
        obtain ⟨zI, ⟨c0, c1, c2, c3, c4, c5⟩, -⟩ := I7.out
        go_wp2_with fail
        refine (specStep_any x y z u0 u1 u2 u3 u4 u5 _).mono ?_
        rintro e w8 ⟨rfl, h8⟩
        have S8 : Hid (StP w r s n c p5 p6 base w8 (a, b, d) (x, y, z) (.slice (some ⟨g', 0, none⟩) (k + 1) cap') (k + 1) (putB U k u0 u1 u2 u3 u4 u5)) := StP.far HO.out S7.out h8
        clear h8 S7 I7 zb a0 a1 a2 f0 f1 f2 zI c0 c1 c2 c3 c4 c5
        obtain ⟨-, -, -, ⟨zb, ⟨a0, a1, a2⟩, f0, f1, f2⟩, -⟩ := S8.out
        obtain ⟨⟨y0, y1, y2⟩, hy⟩ : ∃ y', stN x y z u0 u1 u2 u3 u4 u5 = y' := ⟨_, rfl⟩
        obtain ⟨o0, ho0⟩ : ∃ o, stF x y z u0 u1 u2 u3 u4 u5 = o := ⟨_, rfl⟩
        obtain ⟨o1', ho1⟩ : ∃ o, stS x y z u0 u1 u2 u3 u4 u5 = o := ⟨_, rfl⟩
        obtain ⟨o2', ho2⟩ : ∃ o, stV x y z u0 u1 u2 u3 u4 u5 = o := ⟨_, rfl⟩
        rw [hy, ho0, ho1, ho2]
        clear hy ho0 ho1 ho2
        obtain ⟨ok, hok⟩ : ∃ ok, okB x y z = ok := ⟨_, rfl⟩
        rw [hok]
        clear hok
        cases ok
        · go_wp2
          go_roundw
          case rel => exact ⟨k + 1, putB U k u0 u1 u2 u3 u4 u5, x, y, z, by omega, (by congr 1; omega), StP.far HO.out S8.out (show Below w8.heap.size w8 _ from (by repeat (first | with_reducible exact Below.refl _ _ | with_reducible refine Below.setCell ?_ (by first | omega | (simp; done) | (simp; omega)) _ | with_reducible refine bDrewN ?_ _ | with_reducible refine Below.drew ?_ | with_reducible refine Below.alloc ?_ (by first | omega | (simp; done) | (simp; omega)) _)))⟩
          case measure => simp [intOf]; omega
        · go_wp2
          go_roundw
          case rel => exact ⟨k + 1, putB U k u0 u1 u2 u3 u4 u5, y0, y1, y2, by omega, (by congr 1; omega), StP.far HO.out (StP.far HO.out (StP.put HO.out S8.out) (below0 _ _)) (below0 _ _)⟩
          case measure => simp [intOf]; omega
      case neg =>
        have k61 : k ≤ 61 := by omega
        obtain ⟨⟨i2, R2⟩, -⟩ := HS.out
        go_wp2_with fail
        refine (once_any 60 (by omega) (by omega) R2).mono ?_
        rintro e w6 ⟨fl2, i3, rfl, R6, b6⟩
        have S6 : Hid (StP w r s n c p5 p6 base w6 (a, b, d) (x, y, z) u7 k U) := StP.read HO.out HS.out b6 R6
        have HR6 : Hid (Rd w6 r s n c i3) := R6
        clear R2 R6 b6 HS
        cases fl2
        · obtain ⟨-, ⟨zA, ⟨c0, c1, c2⟩, g0, g1, g2⟩, ⟨zP, ⟨p0, p1, p2⟩, -⟩, -, OW, BB, -⟩ := S6.out
          obtain ⟨t, cap, hv, ho⟩ := own_OwnB6 OW
          subst hv
          have HOB : Hid (OwnB base w6 t (k * 6) U) := ho
          have HBB : Hid (Below w.heap.size w w6) := BB
          clear ho OW BB S6
          go_wp2
          exact bodyPost_ret (v := .tuple #[.agg #[.int .i64 a, .int .i64 b, .int .i64 d], .slice t k cap]) (by simp [results, Try.results32, go_sem, c0, c1, c2]) rfl (dbp_of a b d k t cap U rfl (by omega) (OwnB.beside HOB.out (beside3 w.heap.size w6 0 1 2 _ _ _) (by omega)).row (HBB.out.trans ((beside3 w.heap.size w6 0 1 2 _ _ _).below (Nat.le_refl _) HBB.out.size)))
        · go_wp2_with fail
          refine (below_any 2 HR6.out).mono ?_
          rintro e w7 ⟨kk, i4, rfl, kk0, kk1, kk2, R7, b7⟩
          have S7 : Hid (StP w r s n c p5 p6 base w7 (a, b, d) (x, y, z) u7 k U) := StP.read HO.out S6.out b7 R7
          clear R7 b7 S6 HR6
          obtain ⟨m, hm⟩ : ∃ m : Nat, 1000 + kk = (m : Int) := ⟨(1000 + kk).toNat, by omega⟩
          have m1 : m ≤ 1100 := by omega
          have hmk := make_In m (by omega)
          obtain ⟨-, ⟨zA, ⟨c0, c1, c2⟩, g0, g1, g2⟩, ⟨zP, ⟨p0, p1, p2⟩, -⟩, -, -, BB, -⟩ := S7.out
          have HBB : Hid (Below w.heap.size w w7) := BB
          clear BB S7
          go_wp2
          exact bodyPost_ret (v := .tuple #[.agg #[.int .i64 a, .int .i64 b, .int .i64 d], .slice (some ⟨w7.heap.size, 0, none⟩) m m]) (by simp [results, Try.results32, go_sem, zA, c0, c1, c2]) rfl (dbp_of a b d m _ m (fun _ => false) rfl m1 (rowB_at _ m _ _ (by simp)) (Below.trans (HBB.out.trans ((beside3 w.heap.size w7 0 1 2 _ _ _).below (Nat.le_refl _) HBB.out.size)) ((below0 _ _).mono (by have := HBB.out.size; simp; omega))))
  case true =>
    obtain ⟨zP3, ⟨p0, p1, p2⟩, f0, f1, f2⟩ := HP3.out
    go_upto_region 5 with fail
    obtain ⟨w4, hw4⟩ : ∃ w4, w4 = (((w3.setCell ⟨p5, 0, none⟩ (.int .i64 0)).setCell ⟨p5, 1, none⟩ (.int .i64 0)).setCell ⟨p5, 2, none⟩ (.int .i64 0)) := ⟨_, rfl⟩
    rw [← hw4]
    have bs : Beside p5 w3 w4 := hw4 ▸ beside3 p5 w3 0 1 2 _ _ _
    have HP4 : Hid (BurAt w4 p5 (0, 0, 0)) := hw4 ▸ HP3.out.put
    have HA4 : Hid (BurAt w4 w.heap.size (0, 0, 0)) := HA3.out.beside bs (by omega)
    have HR4 : Hid (Rd w4 r s n c p3) := Rd.below' HR3.out (bs.below (by omega) (by omega))
    have HB4 : Hid (Below w.heap.size w w4) := HB3.out.trans (bs.below (by omega) HB3.out.size)
    have z4 : p5 < w4.heap.size := Nat.lt_of_lt_of_le z5 bs.2.2.2.1
    clear hw4 bs p0 p1 p2 f0 f1 f2 HP3 HA3 HR3 HB3 z5 zP3
    have z5 := z4
    clear z4
    obtain ⟨zP, ⟨p0, p1, p2'⟩, -⟩ := HP4.out
    go_wp2_with fail
    have S0 : Hid (StP w r s n c p5 w4.heap.size (w4.heap.size + 1) ((w4.alloc (.cells #[.int .i64 0, .int .i64 0, .int .i64 0] 25)).alloc (.cells #[] 34)) (0, 0, 0) (0, 0, 0) (.slice (some ⟨w4.heap.size + 1, 0, none⟩) 0 0) 0 (fun _ => false)) := ⟨⟨_, Rd.below (Rd.below HR4.out (below0 _ _)) (below0 _ _)⟩, (HA4.out.below (below0 _ _)).below (below0 _ _), (HP4.out.below (below0 _ _)).below (below0 _ _), (burAt_new w4 0 0 0 _).below (below0 _ _), by
      have := World.ownsRow_lit (base := w4.heap.size + 1) (size := 6) (e := 34) (w4.alloc (.cells #[.int .i64 0, .int .i64 0, .int .i64 0] 25)) #[] 0 (by simp) (by simp [maxLen]) (by simp)
      simpa [valB] using this, (HB4.out.trans ((below0 _ _).mono HB4.out.size)).trans ((below0 _ _).mono (by have := HB4.out.size; simp; omega)), by simp⟩
    have HO : Hid (Ord w r p5 w4.heap.size (w4.heap.size + 1)) := ⟨HRR, zr2, z5, by omega⟩
    obtain ⟨⟨i0, RR⟩, -⟩ := S0.out
    refine (size_any 2 60 (by omega) (by omega) (by omega) (by omega) RR).mono ?_
    rintro e w5 ⟨N, i1, rfl, N0, N1, R5, b5⟩
    have S1 : Hid (StP w r s n c p5 w4.heap.size (w4.heap.size + 1) w5 (0, 0, 0) (0, 0, 0) (.slice (some ⟨w4.heap.size + 1, 0, none⟩) 0 0) 0 (fun _ => false)) := StP.read HO.out S0.out b5 R5
    clear S0 RR R5 b5 zP p0 p1 p2' HP4 HA4 HR4 HB4
    obtain ⟨p6, hp6⟩ : ∃ p6, w4.heap.size = p6 := ⟨_, rfl⟩
    obtain ⟨base, hba⟩ : ∃ base, p6 + 1 = base := ⟨_, rfl⟩
    rw [hp6] at S1 HO
    (try rw [hp6])
    rw [hba] at S1 HO
    (try rw [hba])
    have o1 : w.heap.size < p6 := by have := HO.out.1; have := HO.out.2.1; have := HO.out.2.2.1; omega
    have o2 : p6 < base := by omega
    clear hp6 hba z5 zr2
    go_wp2_with fail
    go_loopw [7, 8] (fun va i wr => ∃ (k : Nat) (U : Nat → Bool) (x y z : Int), (k : Int) ≤ N ∧ i = .int .i64 (N - k) ∧ Hid (StP w r s n c p5 p6 base wr (0, 0, 0) (x, y, z) va k U)) (fun _ i _ => (intOf i).toNat)
    case atStart => exact ⟨0, fun _ => false, 0, 0, 0, by omega, by simp, S1.out⟩
    case round =>
      obtain ⟨k, U, x, y, z, hk, rfl, HS⟩ := hrel
      clear S1
      by_cases hlt : (k : Int) < N
      case pos =>
        have q0 : 0 < N - (k : Int) := by omega
        obtain ⟨⟨i2, R2⟩, -, -, ⟨zb, ⟨a0, a1, a2⟩, -⟩, -⟩ := HS.out
        have HR : Hid (Rd wr r s n c i2) := R2
        clear R2
        go_wp2_with fail
        refine (seen_any HR.out x y z).mono ?_
        rintro e w6 ⟨u0, u1, u2, u3, u4, u5, i3, rfl, R6, b6⟩
        have S6 : Hid (StP w r s n c p5 p6 base w6 (0, 0, 0) (x, y, z) u7 k U) := StP.read HO.out HS.out b6 R6
        clear R6 b6 HS HR zb a0 a1 a2
        go_upto_region 11 with fail
        obtain ⟨wi, hwi⟩ : ∃ wi, wi = w6.alloc (.cells #[.bool u0, .bool u1, .bool u2, .bool u3, .bool u4, .bool u5] 34) := ⟨_, rfl⟩
        rw [← hwi]
        have S6' : Hid (StP w r s n c p5 p6 base wi (0, 0, 0) (x, y, z) u7 k U) := StP.far HO.out S6.out (hwi ▸ below0 _ _)
        have I6 : Hid (InAt wi w6.heap.size u0 u1 u2 u3 u4 u5) := hwi ▸ inAt_new w6 u0 u1 u2 u3 u4 u5 _
        have HOw : Hid (wi.ownsRow base 34 6 u7 k (valB U (k * 6))) := S6'.out.2.2.2.2.1
        have zz : base ≤ wi.heap.size := S6'.out.2.2.2.2.2.2
        have lt6 : Hid (∀ g, u7.ownBlock = some g → g < w6.heap.size) := fun g e => (S6.out.2.2.2.2.1.lt g e).2
        clear hwi S6
        obtain ⟨pI, hpI⟩ : ∃ pI, w6.heap.size = pI := ⟨_, rfl⟩
        rw [hpI] at I6 lt6
        (try rw [hpI])
        clear hpI
        obtain ⟨zI0, ⟨c0, c1, c2, c3, c4, c5⟩, -⟩ := I6.out
        go_upto_region 12 with (at_builtin; refine list_in base u7 k (valB U (k * 6)) (.tmp 31) (.tmp 33) (by rfl) (by rfl) (by rfl) (by rfl) HOw.out (by omega) zz ?_; intro g' cap' w7 hown7 hgrow7 hlt7)
        have S7 : Hid (StP w r s n c p5 p6 base w7 (0, 0, 0) (x, y, z) (.slice (some ⟨g', 0, none⟩) (k + 1) cap') (k + 1) (putB U k u0 u1 u2 u3 u4 u5)) := StP.on HO.out S6'.out hown7 hgrow7
        have I7 : Hid (InAt w7 pI u0 u1 u2 u3 u4 u5) := I6.out.grown hgrow7 (fun g e => by have := lt6.out g e; omega)
        clear hown7 hgrow7 S6' I6 HOw lt6 zI0 c0 c1 c2 c3 c4 c5
        obtain ⟨-, -, -, ⟨zb, ⟨a0, a1, a2⟩, f0, f1, f2⟩, -⟩ := S7.out
        obtain ⟨zI, ⟨c0, c1, c2, c3, c4, c5⟩, -⟩ := I7.out
        go_wp2_with fail
        refine (specStep_any x y z u0 u1 u2 u3 u4 u5 _).mono ?_
        rintro e w8 ⟨rfl, h8⟩
        have S8 : Hid (StP w r s n c p5 p6 base w8 (0, 0, 0) (x, y, z) (.slice (some ⟨g', 0, none⟩) (k + 1) cap') (k + 1) (putB U k u0 u1 u2 u3 u4 u5)) := StP.far HO.out S7.out h8
        clear h8 S7 I7 zb a0 a1 a2 f0 f1 f2 zI c0 c1 c2 c3 c4 c5
        obtain ⟨-, -, -, ⟨zb, ⟨a0, a1, a2⟩, f0, f1, f2⟩, -⟩ := S8.out
        obtain ⟨⟨y0, y1, y2⟩, hy⟩ : ∃ y', stN x y z u0 u1 u2 u3 u4 u5 = y' := ⟨_, rfl⟩
        obtain ⟨o0, ho0⟩ : ∃ o, stF x y z u0 u1 u2 u3 u4 u5 = o := ⟨_, rfl⟩
        obtain ⟨o1', ho1⟩ : ∃ o, stS x y z u0 u1 u2 u3 u4 u5 = o := ⟨_, rfl⟩
        obtain ⟨o2', ho2⟩ : ∃ o, stV x y z u0 u1 u2 u3 u4 u5 = o := ⟨_, rfl⟩
        rw [hy, ho0, ho1, ho2]
        clear hy ho0 ho1 ho2
        obtain ⟨ok, hok⟩ : ∃ ok, okB x y z = ok := ⟨_, rfl⟩
        rw [hok]
        clear hok
        cases ok
        · go_wp2
          go_roundw
          case rel => exact ⟨k + 1, putB U k u0 u1 u2 u3 u4 u5, x, y, z, by omega, (by congr 1; omega), StP.far HO.out S8.out (show Below w8.heap.size w8 _ from (by repeat (first | with_reducible exact Below.refl _ _ | with_reducible refine Below.setCell ?_ (by first | omega | (simp; done) | (simp; omega)) _ | with_reducible refine bDrewN ?_ _ | with_reducible refine Below.drew ?_ | with_reducible refine Below.alloc ?_ (by first | omega | (simp; done) | (simp; omega)) _)))⟩
          case measure => simp [intOf]; omega
        · go_wp2
          go_roundw
          case rel => exact ⟨k + 1, putB U k u0 u1 u2 u3 u4 u5, y0, y1, y2, by omega, (by congr 1; omega), StP.far HO.out (StP.far HO.out (StP.put HO.out S8.out) (below0 _ _)) (below0 _ _)⟩
          case measure => simp [intOf]; omega
      case neg =>
        have k61 : k ≤ 61 := by omega
        obtain ⟨⟨i2, R2⟩, -⟩ := HS.out
        go_wp2_with fail
        refine (once_any 60 (by omega) (by omega) R2).mono ?_
        rintro e w6 ⟨fl2, i3, rfl, R6, b6⟩
        have S6 : Hid (StP w r s n c p5 p6 base w6 (0, 0, 0) (x, y, z) u7 k U) := StP.read HO.out HS.out b6 R6
        have HR6 : Hid (Rd w6 r s n c i3) := R6
        clear R2 R6 b6 HS
        cases fl2
        · obtain ⟨-, ⟨zA, ⟨c0, c1, c2⟩, g0, g1, g2⟩, ⟨zP, ⟨p0, p1, p2⟩, -⟩, -, OW, BB, -⟩ := S6.out
          obtain ⟨t, cap, hv, ho⟩ := own_OwnB6 OW
          subst hv
          have HOB : Hid (OwnB base w6 t (k * 6) U) := ho
          have HBB : Hid (Below w.heap.size w w6) := BB
          clear ho OW BB S6
          go_wp2
          exact bodyPost_ret (v := .tuple #[.agg #[.int .i64 0, .int .i64 0, .int .i64 0], .slice t k cap]) (by simp [results, Try.results32, go_sem, c0, c1, c2]) rfl (dbp_of 0 0 0 k t cap U rfl (by omega) (OwnB.beside HOB.out (beside3 w.heap.size w6 0 1 2 _ _ _) (by omega)).row (HBB.out.trans ((beside3 w.heap.size w6 0 1 2 _ _ _).below (Nat.le_refl _) HBB.out.size)))
        · go_wp2_with fail
          refine (below_any 2 HR6.out).mono ?_
          rintro e w7 ⟨kk, i4, rfl, kk0, kk1, kk2, R7, b7⟩
          have S7 : Hid (StP w r s n c p5 p6 base w7 (0, 0, 0) (x, y, z) u7 k U) := StP.read HO.out S6.out b7 R7
          clear R7 b7 S6 HR6
          obtain ⟨m, hm⟩ : ∃ m : Nat, 1000 + kk = (m : Int) := ⟨(1000 + kk).toNat, by omega⟩
          have m1 : m ≤ 1100 := by omega
          have hmk := make_In m (by omega)
          obtain ⟨-, ⟨zA, ⟨c0, c1, c2⟩, g0, g1, g2⟩, ⟨zP, ⟨p0, p1, p2⟩, -⟩, -, -, BB, -⟩ := S7.out
          have HBB : Hid (Below w.heap.size w w7) := BB
          clear BB S7
          go_wp2
          exact bodyPost_ret (v := .tuple #[.agg #[.int .i64 0, .int .i64 0, .int .i64 0], .slice (some ⟨w7.heap.size, 0, none⟩) m m]) (by simp [results, Try.results32, go_sem, zA, c0, c1, c2]) rfl (dbp_of 0 0 0 m _ m (fun _ => false) rfl m1 (rowB_at _ m _ _ (by simp)) (Below.trans (HBB.out.trans ((beside3 w.heap.size w7 0 1 2 _ _ _).below (Nat.le_refl _) HBB.out.size)) ((below0 _ _).mono (by have := HBB.out.size; simp; omega))))
end Go.Proofs.Ytpnihekpokfooaa
