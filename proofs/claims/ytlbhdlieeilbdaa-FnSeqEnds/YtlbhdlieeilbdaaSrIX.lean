/-
What is proved: the program's run of a sequence.
-/
import Derived.Test.YtlbhdlieeilbdaaSrX
namespace Go.Proofs.Ytlbhdlieeilbdaa
set_option maxRecDepth 40000
open Go.RowKit
set_option linter.unusedVariables false
set_option linter.unusedSimpArgs false

set_option maxHeartbeats 2000000 in
theorem does_any (s : Option Addr) (n c : Nat) (V : Nat → Int) (a t : Int) (w : World) (hp : planB n V = true) (hs : stnB n V a t = true) (HR : Hid (RowI w s (n * 5) V)) :
    Calls Try.prog 36 #[.agg #[.int .i64 a, .int .i64 t], .slice s n c] w fun e w' => e = .returned (.int .i64 (doV V a)) ∧ Below w.heap.size w w' := by
  rcases stn_place hp hs with am | ⟨q, rfl, hq⟩
  · have HO : Hid (doV V a = a) := by show _ = _; unfold doV; rw [if_pos am]
    go_enter Try.func36, Try.ntmps36
    go_wp2_with fail
    refine (isMode_any _ _).mono ?_
    rintro e w1 ⟨rfl, rfl⟩
    rw [am]
    go_wp2
    go_ret
    exact ⟨ret_int HO.out.symm, (by repeat (first | with_reducible exact Below.refl _ _ | with_reducible refine Below.setCell ?_ (by first | omega | (simp; done) | (simp; omega)) _ | with_reducible refine bDrewN ?_ _ | with_reducible refine Below.drew ?_ | with_reducible refine Below.alloc ?_ (by first | omega | (simp; done) | (simp; omega)) _))⟩
  · have HO : Hid (doV V q = V (q * 5)) := by show _ = _; unfold doV; rw [if_neg (by rw [mod_nat]; simp), Int.toNat_natCast]
    have n40 := (plan_yes hp).2.1
    have qn : (q : Int) < (n : Int) := by omega
    have n4 : (n : Int) ≤ 40 := by omega
    obtain ⟨g, o, rfl, hg, x0⟩ := HR.out (q * 5) (by omega)
    have mq := mod_nat q
    clear hp hs n40
    go_enter Try.func36, Try.ntmps36
    go_wp2_with fail
    refine (isMode_any _ _).mono ?_
    rintro e w1 ⟨rfl, rfl⟩
    rw [mq]
    go_wp2
    go_ret
    exact ⟨ret_int HO.out.symm, (by repeat (first | with_reducible exact Below.refl _ _ | with_reducible refine Below.setCell ?_ (by first | omega | (simp; done) | (simp; omega)) _ | with_reducible refine bDrewN ?_ _ | with_reducible refine Below.drew ?_ | with_reducible refine Below.alloc ?_ (by first | omega | (simp; done) | (simp; omega)) _))⟩
set_option maxRecDepth 20000 in
set_option maxHeartbeats 8000000 in
theorem implSeqRun_any (s : Option Addr) (n c : Nat) (V : Nat → Int) (s2 : Option Addr) (m c2 : Nat) (T : Nat → Int × Bool) (w : World) (hn : (n : Int) ≤ 1048576) (hm : (m : Int) ≤ 1048576) (HR : Hid (RowI w s (n * 5) V)) (HT : Hid (RowTick w s2 m T)) :
    Calls Try.prog 12 #[.slice s n c, .slice s2 m c2] w fun e w' => SrPost w n V m T e w' := by
  have hmk := make_i64 m (by omega)
  go_enter Try.func12, Try.ntmps12
  go_wp2_with fail
  refine (implPlanOk_any s n c V _ hn (HR.out.below (by repeat (first | with_reducible exact Below.refl _ _ | with_reducible refine Below.setCell ?_ (by first | omega | (simp; done) | (simp; omega)) _ | with_reducible refine bDrewN ?_ _ | with_reducible refine Below.drew ?_ | with_reducible refine Below.alloc ?_ (by first | omega | (simp; done) | (simp; omega)) _)))).mono ?_
  rintro e w1 ⟨rfl, h1⟩
  obtain ⟨hc, hf⟩ := bcell h1
  have r0 := hc w.heap.size 0 (by first | omega | (simp; done) | (simp; omega))
  have r1 := hc w.heap.size 1 (by first | omega | (simp; done) | (simp; omega))
  simp [go_sem] at r0 r1
  have rf : ∀ o, w1.frozen? ⟨w.heap.size, o, none⟩ = false := fun o => by rw [hf w.heap.size o (by first | omega | (simp; done) | (simp; omega))]; simp [go_sem]
  have z0 : w.heap.size < w1.heap.size := by have := h1.size; simp at this; omega
  have B1 : Below w.heap.size w w1 := Below.trans (by repeat (first | with_reducible exact Below.refl _ _ | with_reducible refine Below.setCell ?_ (by first | omega | (simp; done) | (simp; omega)) _ | with_reducible refine bDrewN ?_ _ | with_reducible refine Below.drew ?_ | with_reducible refine Below.alloc ?_ (by first | omega | (simp; done) | (simp; omega)) _)) (h1.mono (by first | omega | (simp; done) | (simp; omega)))
  clear hc hf h1
  cases k0 : planB n V
  · have HO : Hid (srB n V m T = false) := by show _ = _; unfold srB; rw [k0]; rfl
    go_wp2
    exact bodyPost_ret (v := .tuple #[.slice none 0 0, .agg #[.int .i64 0, .int .i64 0], .bool false]) (by simp [results, Try.results12, go_sem, r0, r1]) rfl (post_no HO.out (by repeat (first | with_reducible exact Below.refl _ _ | with_reducible exact B1 | with_reducible refine Below.setCell ?_ (by first | omega | (simp; done) | (simp; omega)) _ | with_reducible refine bDrewN ?_ _ | with_reducible refine Below.drew ?_ | with_reducible refine Below.alloc ?_ (by first | omega | (simp; done) | (simp; omega)) _)))
  by_cases hm1 : 1000 < m
  · have HO : Hid (srB n V m T = false) := by show _ = _; unfold srB; rw [k0, decide_eq_false (by omega)]; rfl
    have b1 : (1000 : Int) < (m : Int) := by omega
    go_wp2
    exact bodyPost_ret (v := .tuple #[.slice none 0 0, .agg #[.int .i64 0, .int .i64 0], .bool false]) (by simp [results, Try.results12, go_sem, r0, r1]) rfl (post_no HO.out (by repeat (first | with_reducible exact Below.refl _ _ | with_reducible exact B1 | with_reducible refine Below.setCell ?_ (by first | omega | (simp; done) | (simp; omega)) _ | with_reducible refine bDrewN ?_ _ | with_reducible refine Below.drew ?_ | with_reducible refine Below.alloc ?_ (by first | omega | (simp; done) | (simp; omega)) _)))
  have b1 : decide ((1000 : Int) < (m : Int)) = false := decide_eq_false (by omega)
  have m1000 : (m : Int) ≤ 1000 := by omega
  have HP : Hid (planB n V = true) := k0
  clear k0
  have R1 : Hid (RowI w1 s (n * 5) V) := HR.out.below B1
  have T1 : Hid (RowTick w1 s2 m T) := HT.out.below B1
  have Q0 : Hid (PrAt w.heap.size w1 0 0) := ⟨z0, rf, r0, r1⟩
  clear r0 r1 rf
  go_wp2_with fail
  go_loopw [26] (fun i wr => ∃ k : Nat, ∃ a t : Int, k ≤ m ∧ i = .int .i64 k ∧ Hid (stR V T k = (a, t)) ∧ Hid (∀ j, j < k → inB 0 65535 (T j).1 = true) ∧ Below w1.heap.size w1 wr ∧ Hid (DoAt w1.heap.size wr m k (srU V T)) ∧ PrAt (w1.heap.size + 1) wr a t) (fun i _ => m - (intOf i).toNat)
  case atStart =>
    refine ⟨0, 0, 0, Nat.zero_le _, rfl, (show stR V T 0 = (0, 0) from rfl), (fun j hj => by omega), (by repeat (first | with_reducible exact Below.refl _ _ | with_reducible refine Below.setCell ?_ (by first | omega | (simp; done) | (simp; omega)) _ | with_reducible refine bDrewN ?_ _ | with_reducible refine Below.drew ?_ | with_reducible refine Below.alloc ?_ (by first | omega | (simp; done) | (simp; omega)) _)), ⟨by simp; omega, fun o => by simp [go_sem], fun j hj => ?_⟩, ⟨by simp, fun o => by simp [go_sem], by simp [go_sem], by simp [go_sem]⟩⟩
    have hm0 : (madeCells #[.int .i64 0] m)[j]? = some (.int .i64 0) := by
      simp only [madeCells, Array.getElem?_map, Array.getElem?_range, hj, if_true, Option.map_some]
      show some ((#[Value.int .i64 0] : Array Value)[j % 1]!) = _
      rw [Nat.mod_one]; rfl
    rw [if_neg (by omega)]
    simpa [go_sem] using hm0
  case round =>
    obtain ⟨k, a, t, hk, rfl, HST, HA, kb, HD, PA⟩ := hrel
    have HPA : Hid (PrAt (w1.heap.size + 1) wr a t) := PA
    obtain ⟨zp, zf, p0, p1⟩ := PA
    have sz := kb.size
    have RW : Hid (RowI wr s (n * 5) V) := R1.out.below kb
    have TW : Hid (RowTick wr s2 m T) := T1.out.below kb
    have QW : Hid (PrAt w.heap.size wr 0 0) := Q0.out.low kb z0
    have BW : Hid (Below w.heap.size w wr) := B1.trans (kb.mono (by omega))
    have KB : Hid (Below w1.heap.size w1 wr) := kb
    have sn := stn_run (T := T) HP.out k
    rw [HST.out] at sn
    simp only at sn
    have HS : Hid (stnB n V a t = true) := sn
    clear kb sn
    by_cases h1 : k < m
    · have hm2 : k < m := h1
      have k1 : (k : Int) < (m : Int) := by omega
      obtain ⟨g, o, rfl, hg, d0, d1⟩ := TW.out k h1
      obtain ⟨S, hS⟩ : ∃ S, (T k).1 = S := ⟨_, rfl⟩
      obtain ⟨H, hH⟩ : ∃ H, (T k).2 = H := ⟨_, rfl⟩
      rw [hS] at d0
      rw [hH] at d1
      have HSS : Hid ((T k).1 = S ∧ (T k).2 = H) := ⟨hS, hH⟩
      clear hS hH zf
      go_wp2_with fail
      refine (tickRight_any S H _).mono ?_
      rintro e w2 ⟨rfl, h2⟩
      have b2 : Below wr.heap.size wr w2 := Below.trans (by repeat (first | with_reducible exact Below.refl _ _ | with_reducible refine Below.setCell ?_ (by first | omega | (simp; done) | (simp; omega)) _ | with_reducible refine bDrewN ?_ _ | with_reducible refine Below.drew ?_ | with_reducible refine Below.alloc ?_ (by first | omega | (simp; done) | (simp; omega)) _)) (h2.mono (by first | omega | (simp; done) | (simp; omega)))
      obtain ⟨hc2, hf2⟩ := bcell h2
      have t0 := hc2 wr.heap.size 0 (by first | omega | (simp; done) | (simp; omega))
      have t1 := hc2 wr.heap.size 1 (by first | omega | (simp; done) | (simp; omega))
      simp [go_sem] at t0 t1
      have zt : wr.heap.size < w2.heap.size := by have := h2.size; simp at this; omega
      clear hc2 hf2 h2
      have P2 : Hid (PrAt (w1.heap.size + 1) w2 a t) := HPA.out.low b2 zp
      have R2 : Hid (RowI w2 s (n * 5) V) := RW.out.below b2
      have D2 : Hid (DoAt w1.heap.size w2 m k (srU V T)) := HD.out.below b2
      have Q2 : Hid (PrAt w.heap.size w2 0 0) := QW.out.low b2 QW.out.1
      have B2 : Below w.heap.size w w2 := BW.out.trans (b2.mono BW.out.size)
      have K2 : Hid (Below w1.heap.size w1 w2) := KB.out.trans (b2.mono sz)
      have KZ : Hid (w1.heap.size + 1 < wr.heap.size) := zp
      clear HPA RW HD QW BW KB b2 p0 p1 d0 d1 hg zp
      cases hv : inB 0 65535 S
      · have HO : Hid (srB n V m T = false) := by
          show _ = _
          unfold srB
          rw [decide_eq_false (fun z => by have := z.2 k hm2; rw [HSS.out.1, hv] at this; cases this)]
          simp
        obtain ⟨zr, rf, r0, r1⟩ := Q2.out
        have B1 := B2
        go_wp2
        exact bodyPost_ret (v := .tuple #[.slice none 0 0, .agg #[.int .i64 0, .int .i64 0], .bool false]) (by simp [results, Try.results12, go_sem, r0, r1]) rfl (post_no HO.out (by repeat (first | with_reducible exact Below.refl _ _ | with_reducible exact B1 | with_reducible refine Below.setCell ?_ (by first | omega | (simp; done) | (simp; omega)) _ | with_reducible refine bDrewN ?_ _ | with_reducible refine Below.drew ?_ | with_reducible refine Below.alloc ?_ (by first | omega | (simp; done) | (simp; omega)) _)))
      have OX : Hid (∀ j, j < k + 1 → inB 0 65535 (T j).1 = true) := fun j hj => by
        by_cases e : j = k
        · subst e; rw [HSS.out.1]; exact hv
        · exact HA.out j (by omega)
      obtain ⟨s0, s1⟩ := inB_yes hv
      obtain ⟨zp, zf, p0, p1⟩ := P2.out
      clear hv
      go_wp2_with fail
      refine (does_any s n c V a t _ HP.out HS.out R2).mono ?_
      rintro e w3 ⟨rfl, h3⟩
      have P3 : Hid (PrAt (w1.heap.size + 1) w3 a t) := P2.out.low h3 zp
      have R3 : Hid (RowI w3 s (n * 5) V) := R2.out.below h3
      have D3 : Hid (DoAt w1.heap.size w3 m k (srU V T)) := D2.out.below h3
      have B3 : Below w.heap.size w w3 := B2.trans (h3.mono B2.size)
      have K3 : Hid (Below w1.heap.size w1 w3) := K2.out.trans (h3.mono K2.out.size)
      replace t0 := (h3.cell (p := ⟨wr.heap.size, 0, none⟩) zt).trans t0
      replace t1 := (h3.cell (p := ⟨wr.heap.size, 1, none⟩) zt).trans t1
      replace zt := Nat.lt_of_lt_of_le zt h3.size
      clear P2 R2 D2 Q2 B2 K2 h3 p0 p1 zp zf
      have DV : srU V T k = doV V a := by show doV V (stR V T k).1 = _; rw [HST.out]
      have D4 : Hid (DoAt w1.heap.size (w3.setCell ⟨w1.heap.size, k, none⟩ (.int .i64 (doV V a))) m (k + 1) (srU V T)) := DV ▸ D3.out.on hm2
      obtain ⟨dv, hdv⟩ : ∃ dv, doV V a = dv := ⟨_, rfl⟩
      rw [hdv] at D4 ⊢
      clear hdv DV
      obtain ⟨zg, gf, gc⟩ := D3.out
      have g0 := gc k hm2
      rw [if_neg (Nat.lt_irrefl k)] at g0
      clear gc
      go_upto_region 10 with fail
      obtain ⟨wd, hwd⟩ : ∃ wd, wd = w3.setCell ⟨w1.heap.size, k, none⟩ (.int .i64 dv) := ⟨_, rfl⟩
      rw [← hwd] at D4 ⊢
      have bs : Beside w1.heap.size w3 wd := by rw [hwd]; exact Beside.setCell _ _ _ _
      have bd : Below w1.heap.size w3 wd := bs.below (Nat.le_refl _) (by have := K3.out.size; omega)
      clear hwd g0 gf zg
      have zq := P3.out.1
      have P4 : Hid (PrAt (w1.heap.size + 1) wd a t) := P3.out.same bs.2.2.2.1 (bs.2.2.2.2 _ zq (by omega))
      have ne : wr.heap.size ≠ w1.heap.size := by have := KZ.out; omega
      replace t0 := (bs.cell (p := ⟨wr.heap.size, 0, none⟩) zt ne).trans t0
      replace t1 := (bs.cell (p := ⟨wr.heap.size, 1, none⟩) zt ne).trans t1
      replace zt := Nat.lt_of_lt_of_le zt bs.2.2.2.1
      have K4 : Hid (Below w1.heap.size w1 wd) := K3.out.trans bd
      have R4 : Hid (RowI wd s (n * 5) V) := R1.out.below K4.out
      have B4 : Below w.heap.size w wd := B1.trans (K4.out.mono (by omega))
      clear P3 R3 D3 K3 B3 bs bd zq
      obtain ⟨zp, zf, p0, p1⟩ := P4.out
      go_wp2_with fail
      refine (behind_any s n c V a t S H _ HP.out HS.out s0 s1 R4).mono ?_
      rintro e w5 ⟨rfl, h5⟩
      obtain ⟨y0, y1, hy⟩ : ∃ y0 y1, nxtV V a t S H = (y0, y1) := ⟨_, _, rfl⟩
      have NX : Hid (stR V T (k + 1) = (y0, y1)) := by
        show nxtV V (stR V T k).1 (stR V T k).2 (T k).1 (T k).2 = _
        rw [HST.out, HSS.out.1, HSS.out.2]
        exact hy
      rw [hy]
      simp only
      have P5 : Hid (PrAt (w1.heap.size + 1) w5 a t) := P4.out.low h5 zp
      have D5 : Hid (DoAt w1.heap.size w5 m (k + 1) (srU V T)) := D4.out.below h5
      have K5 : Hid (Below w1.heap.size w1 w5) := K4.out.trans (h5.mono K4.out.size)
      clear hy h5 P4 D4 K4 R4 p0 p1 zp zf t0 t1 zt
      obtain ⟨zp, zf, p0, p1⟩ := P5.out
      have PB := pair_beside w5 (w1.heap.size + 1) y0 y1
      have D6 : Hid (DoAt w1.heap.size ((w5.setCell ⟨w1.heap.size + 1, 0, none⟩ (.int .i64 y0)).setCell ⟨w1.heap.size + 1, 1, none⟩ (.int .i64 y1)) m (k + 1) (srU V T)) := D5.out.same PB.2.2.2.1 (PB.2.2.2.2 _ D5.out.1 (by omega))
      have P6 : Hid (PrAt (w1.heap.size + 1) ((w5.setCell ⟨w1.heap.size + 1, 0, none⟩ (.int .i64 y0)).setCell ⟨w1.heap.size + 1, 1, none⟩ (.int .i64 y1)) y0 y1) := P5.out.set y0 y1
      have K6 : Hid (Below w1.heap.size w1 ((w5.setCell ⟨w1.heap.size + 1, 0, none⟩ (.int .i64 y0)).setCell ⟨w1.heap.size + 1, 1, none⟩ (.int .i64 y1))) := K5.out.trans (PB.below (by omega) K5.out.size)
      clear PB P5 D5 K5
      go_wp2
      go_roundw
      case rel => exact ⟨k + 1, y0, y1, by omega, by go_num, NX.out, OX.out, K6.out, D6.out, P6.out⟩
      case measure => simp [intOf]; omega
    · obtain rfl : k = m := by omega
      have HO : Hid (srB n V k T = true) := by
        show _ = _
        unfold srB
        rw [HP.out, decide_eq_true ⟨(by omega : k ≤ 1000), HA.out⟩]
        rfl
      have HW : Hid (OwnI w1.heap.size wr (some ⟨w1.heap.size, 0, none⟩) k (srU V T)) := fun j hj => ⟨_, rfl, Nat.le_refl _, HD.out.1, by rw [HD.out.2.2 j hj, if_pos hj], HD.out.2.1 j⟩
      have BT := pair_beside wr w.heap.size a t
      have OT : Hid (OwnI w.heap.size ((wr.setCell ⟨w.heap.size, 0, none⟩ (.int .i64 a)).setCell ⟨w.heap.size, 1, none⟩ (.int .i64 t)) (some ⟨w1.heap.size, 0, none⟩) k (srU V T)) := OwnI.mono (OwnI.beside HW.out BT z0) (by omega)
      obtain ⟨zr, rf, r0, r1⟩ := QW.out
      have BX := BW.out
      clear BT
      go_wp2_with fail
      go_region
      all_goals
        go_wp2
        refine bodyPost_ret (v := .tuple #[.slice (some ⟨w1.heap.size, 0, none⟩) k k, .agg #[.int .i64 a, .int .i64 t], .bool true]) (by simp [results, Try.results12, go_sem, r0, r1]) rfl (post_yes HO.out HST.out ?_ ?_)
        · refine OwnI.below OT.out ?_
          exact (by repeat (first | with_reducible exact Below.refl _ _ | with_reducible refine Below.setCell ?_ (by first | omega | (simp; done) | (simp; omega)) _ | with_reducible refine bDrewN ?_ _ | with_reducible refine Below.drew ?_ | with_reducible refine Below.alloc ?_ (by first | omega | (simp; done) | (simp; omega)) _))
        · exact (by repeat (first | with_reducible exact Below.refl _ _ | with_reducible exact BX | with_reducible refine Below.setCell ?_ (by first | omega | (simp; done) | (simp; omega)) _ | with_reducible refine bDrewN ?_ _ | with_reducible refine Below.drew ?_ | with_reducible refine Below.alloc ?_ (by first | omega | (simp; done) | (simp; omega)) _))
end Go.Proofs.Ytlbhdlieeilbdaa
