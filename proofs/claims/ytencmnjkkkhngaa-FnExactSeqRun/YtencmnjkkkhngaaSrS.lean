/-
What is proved: the specification's run of a sequence.
-/
import Derived.Test.YtencmnjkkkhngaaSr
namespace Go.Proofs.Ytencmnjkkkhngaa
set_option maxRecDepth 40000
open Go.RowKit
set_option linter.unusedVariables false
set_option linter.unusedSimpArgs false

set_option maxRecDepth 20000 in
set_option maxHeartbeats 8000000 in
theorem specSeqRun_any (s : Option Addr) (n c : Nat) (V : Nat → Int) (s2 : Option Addr) (m c2 : Nat) (T : Nat → Int × Bool) (w : World) (hn : (n : Int) ≤ 1048576) (hm : (m : Int) ≤ 1048576) (HR : Hid (RowI w s (n * 5) V)) (HT : Hid (RowTick w s2 m T)) :
    Calls Try.prog 18 #[.slice s n c, .slice s2 m c2] w fun e w' => SrPost w n V m T e w' := by
  go_enter Try.func18, Try.ntmps18
  go_wp2_with fail
  refine (specPlanOk_any s n c V _ hn (HR.out.below (by repeat (first | with_reducible exact Below.refl _ _ | with_reducible refine Below.setCell ?_ (by first | omega | (simp; done) | (simp; omega)) _ | with_reducible refine bDrewN ?_ _ | with_reducible refine Below.drew ?_ | with_reducible refine Below.alloc ?_ (by first | omega | (simp; done) | (simp; omega)) _)))).mono ?_
  rintro e w1 ⟨rfl, h1⟩
  obtain ⟨hc, hf⟩ := bcell h1
  have r0 := hc w.heap.size 0 (by first | omega | (simp; done) | (simp; omega))
  have r1 := hc w.heap.size 1 (by first | omega | (simp; done) | (simp; omega))
  simp [go_sem] at r0 r1
  have rf : ∀ o, w1.frozen? ⟨w.heap.size, o, none⟩ = false := fun o => by rw [hf w.heap.size o (by first | omega | (simp; done) | (simp; omega))]; simp [go_sem]
  have z1 : w.heap.size + 1 < w1.heap.size := by have := h1.size; simp at this; omega
  have z0 : w.heap.size < w1.heap.size := by omega
  have B1 : Below w.heap.size w w1 := Below.trans (by repeat (first | with_reducible exact Below.refl _ _ | with_reducible refine Below.setCell ?_ (by first | omega | (simp; done) | (simp; omega)) _ | with_reducible refine bDrewN ?_ _ | with_reducible refine Below.drew ?_ | with_reducible refine Below.alloc ?_ (by first | omega | (simp; done) | (simp; omega)) _)) (h1.mono (by first | omega | (simp; done) | (simp; omega)))
  clear hc hf h1
  cases k0 : planB n V
  · have HO : Hid (srB n V m T = false) := by show _ = _; unfold srB; rw [k0]; rfl
    go_wp2
    exact bodyPost_ret (v := .tuple #[.slice (some ⟨w.heap.size + 1, 0, none⟩) 0 0, .agg #[.int .i64 0, .int .i64 0], .bool false]) (by simp [results, Try.results18, go_sem, r0, r1]) rfl (post_no HO.out (by repeat (first | with_reducible exact Below.refl _ _ | with_reducible exact B1 | with_reducible refine Below.setCell ?_ (by first | omega | (simp; done) | (simp; omega)) _ | with_reducible refine bDrewN ?_ _ | with_reducible refine Below.drew ?_ | with_reducible refine Below.alloc ?_ (by first | omega | (simp; done) | (simp; omega)) _)))
  by_cases hm1 : 1000 < m
  · have HO : Hid (srB n V m T = false) := by show _ = _; unfold srB; rw [k0, decide_eq_false (by omega)]; rfl
    have b1 : (1000 : Int) < (m : Int) := by omega
    go_wp2
    exact bodyPost_ret (v := .tuple #[.slice (some ⟨w.heap.size + 1, 0, none⟩) 0 0, .agg #[.int .i64 0, .int .i64 0], .bool false]) (by simp [results, Try.results18, go_sem, r0, r1]) rfl (post_no HO.out (by repeat (first | with_reducible exact Below.refl _ _ | with_reducible exact B1 | with_reducible refine Below.setCell ?_ (by first | omega | (simp; done) | (simp; omega)) _ | with_reducible refine bDrewN ?_ _ | with_reducible refine Below.drew ?_ | with_reducible refine Below.alloc ?_ (by first | omega | (simp; done) | (simp; omega)) _)))
  have b1 : decide ((1000 : Int) < (m : Int)) = false := decide_eq_false (by omega)
  have m1000 : (m : Int) ≤ 1000 := by omega
  have HP : Hid (planB n V = true) := k0
  clear k0
  have R1 : Hid (RowI w1 s (n * 5) V) := HR.out.below B1
  have T1 : Hid (RowTick w1 s2 m T) := HT.out.below B1
  have Q0 : Hid (PrAt w.heap.size w1 0 0) := ⟨z0, rf, r0, r1⟩
  clear r0 r1 rf
  go_wp2_with fail
  go_loopw [8, 10] (fun v i wr => ∃ k : Nat, ∃ a t : Int, k ≤ m ∧ i = .int .i64 k ∧ stR V T k = (a, t) ∧ Hid (∀ j, j < k → inB 0 65535 (T j).1 = true) ∧ Hid (SrAt w1.heap.size (w1.heap.size + 1) w1 wr v k (srU V T) a t)) (fun _ i _ => m - (intOf i).toNat)
  case atStart =>
    refine ⟨0, 0, 0, Nat.zero_le _, rfl, rfl, (fun j hj => by omega), ⟨(by repeat (first | with_reducible exact Below.refl _ _ | with_reducible refine Below.setCell ?_ (by first | omega | (simp; done) | (simp; omega)) _ | with_reducible refine bDrewN ?_ _ | with_reducible refine Below.drew ?_ | with_reducible refine Below.alloc ?_ (by first | omega | (simp; done) | (simp; omega)) _)), by simp; omega, by omega, ⟨by simp, fun o => by simp [go_sem], by simp [go_sem], by simp [go_sem]⟩, ?_, ?_⟩⟩
    · intro g hg
      have : g = w1.heap.size := by simpa [Value.ownBlock] using hg.symm
      omega
    · have hl : (w1.alloc (.cells #[] 2)).ownsRow w1.heap.size 2 1 (.slice (some ⟨w1.heap.size, 0, none⟩) 0 0) 0 (vals (srU V T) 0) := by simpa [vals] using World.ownsRow_lit (base := w1.heap.size) (size := 1) (e := 2) w1 #[] 0 (Nat.le_refl _) (by simp [maxLen]) (by simp)
      exact hl.alloc _
  case round =>
    obtain ⟨k, a, t, hk, rfl, hst, HA, HK⟩ := hrel
    have HST : Hid (stR V T k = (a, t)) := hst
    clear hst
    obtain ⟨kb, kB, -, ⟨zp, zf, p0, p1⟩, -, -⟩ := HK.out
    have RW : Hid (RowI wr s (n * 5) V) := R1.out.below kb
    have TW : Hid (RowTick wr s2 m T) := T1.out.below kb
    have QW : Hid (PrAt w.heap.size wr 0 0) := Q0.out.low kb z0
    have BW : Hid (Below w.heap.size w wr) := B1.trans (kb.mono (by omega))
    have sn := stn_run (T := T) HP.out k
    rw [HST.out] at sn
    simp only at sn
    have HS : Hid (stnB n V a t = true) := sn
    clear kb
    by_cases h1 : k < m
    · have hm2 : k < m := h1
      have k1 : (k : Int) < (m : Int) := by omega
      obtain ⟨y0, y1, hy⟩ : ∃ y0 y1, nxtV V a t (T k).1 (T k).2 = (y0, y1) := ⟨_, _, rfl⟩
      have HY : Hid (nxtV V a t (T k).1 (T k).2 = (y0, y1)) := hy
      clear hy
      obtain ⟨g, o, rfl, hg, d0, d1⟩ := TW.out k h1
      obtain ⟨S, hS⟩ : ∃ S, (T k).1 = S := ⟨_, rfl⟩
      obtain ⟨H, hH⟩ : ∃ H, (T k).2 = H := ⟨_, rfl⟩
      rw [hS] at d0
      rw [hH] at d1
      rw [hS, hH] at HY
      have ov : seqB n V a t S = inB 0 65535 S := by unfold seqB; rw [HP.out, HS.out]; simp
      have CT : Hid (∀ w', RowI w' s (n * 5) V → Calls Try.prog 12 #[.slice s n c, .agg #[.int .i64 a, .int .i64 t], .agg #[.int .i64 S, .bool H]] w' fun e w'' => (∃ x0 x1, e = .returned (.tuple #[.agg #[.int .i64 x0, .int .i64 x1], .bool (inB 0 65535 S)]) ∧ (inB 0 65535 S = true → x0 = y0 ∧ x1 = y1)) ∧ Below w'.heap.size w' w'') := by
        intro w' q
        refine (specSeqStep_any s n c V a t S H w' hn q).mono ?_
        rintro e w'' ⟨rfl, hb⟩
        rw [ov]
        refine ⟨⟨_, _, rfl, fun hi => ?_⟩, hb⟩
        have : seqV n V a t S H = nxtV V a t S H := by unfold seqV; rw [if_pos (ov.trans hi)]
        rw [this, HY.out]
        exact ⟨rfl, rfl⟩
      clear ov
      have HSS : Hid ((T k).1 = S ∧ (T k).2 = H) := ⟨hS, hH⟩
      clear hS hH
      obtain ⟨dv, hdv⟩ : ∃ dv, doV V a = dv := ⟨_, rfl⟩
      have HDV : Hid (doV V a = dv) := hdv
      obtain ⟨fl, hfl⟩ : ∃ fl, decide (0 ≤ a) = fl := ⟨_, rfl⟩
      go_upto_if 37 with fail
      go_cut [11] (fun x wx => x = .int .i64 dv ∧ wx = wr)
      case first =>
        cases fl
        · have am : modB a = true := by
            rcases stn_place HP.out HS.out with am | ⟨q, rfl, hq⟩
            · exact am
            · exact absurd hfl (by simp)
          have e1 : a = dv := by rw [← hdv]; unfold doV; rw [if_pos am]
          clear hdv am hfl
          go_wp2_with fail
          go_meet
          exact ⟨by rw [← e1], rfl⟩
        · obtain ⟨q, rfl, hq⟩ : ∃ q : Nat, a = q ∧ q < n := by
            rcases stn_place HP.out HS.out with am | h
            · have h1 := (mod_yes am).2
              have h2 := of_decide_eq_true hfl
              omega
            · exact h
          obtain ⟨g3, o3, rfl, hg3, x0⟩ := RW.out (q * 5) (by omega)
          have e1 : V (q * 5) = dv := by rw [← hdv]; unfold doV; rw [if_neg (by rw [mod_nat]; simp), Int.toNat_natCast]
          have qn : (q : Int) < (n : Int) := by omega
          clear hdv hfl
          rw [e1] at x0
          go_wp2_with fail
          go_meet
          exact ⟨rfl, rfl⟩
      obtain ⟨rfl, rfl⟩ := hcut
      rename World => wc
      clear hdv hfl
      go_upto_region 12 with fail
      go_cut [12, 13] (fun x y wx => ∃ q : Nat, ∃ x0 x1 : Int, x = .pointer (some ⟨q, 0, none⟩) ∧ y = .bool (inB 0 65535 S) ∧ wc.heap.size ≤ q ∧ q < wx.heap.size ∧ wx.cell? ⟨q, 0, none⟩ = some (.int .i64 x0) ∧ wx.cell? ⟨q, 1, none⟩ = some (.int .i64 x1) ∧ Hid (inB 0 65535 S = true → x0 = y0 ∧ x1 = y1) ∧ Hid (Below wc.heap.size wc wx))
      case first =>
        go_wp2_with fail
        go_region_held3 (fun w' => w'.cell? ⟨w1.heap.size + 1, 0, none⟩ = some (.int .i64 a) ∧ w'.cell? ⟨w1.heap.size + 1, 1, none⟩ = some (.int .i64 t) ∧ w'.cell? ⟨g, o + k * 2, none⟩ = some (.int .i64 S) ∧ w'.cell? ⟨g, o + k * 2 + 1, none⟩ = some (.bool H)) (first | (exact ⟨p0, p1, d0, d1⟩) | (refine keepT4 p0 p1 d0 d1 zp hg ?_; exact (by repeat (first | with_reducible exact Below.refl _ _ | with_reducible exact B3 | with_reducible refine Below.setCell ?_ (by first | omega | (simp; done) | (simp; omega)) _ | with_reducible refine bDrewN ?_ _ | with_reducible refine Below.drew ?_ | with_reducible refine Below.alloc ?_ (by first | omega | (simp; done) | (simp; omega)) _)))) (first
          | (go_at_call 12; refine (CT.out _ (RW.out.below (by repeat (first | with_reducible exact Below.refl _ _ | with_reducible refine Below.setCell ?_ (by first | omega | (simp; done) | (simp; omega)) _ | with_reducible refine bDrewN ?_ _ | with_reducible refine Below.drew ?_ | with_reducible refine Below.alloc ?_ (by first | omega | (simp; done) | (simp; omega)) _)))).mono ?_; rintro r w3 ⟨⟨x0, x1, rfl, hx⟩, h3⟩; obtain ⟨hc3, hf3⟩ := bcell h3; have B3 : Below wc.heap.size wc w3 := Below.trans (by repeat (first | with_reducible exact Below.refl _ _ | with_reducible refine Below.setCell ?_ (by first | omega | (simp; done) | (simp; omega)) _ | with_reducible refine bDrewN ?_ _ | with_reducible refine Below.drew ?_ | with_reducible refine Below.alloc ?_ (by first | omega | (simp; done) | (simp; omega)) _)) (h3.mono (by first | omega | (simp; done) | (simp; omega))); have z3 := h3.size; simp at z3; have z3a : wc.heap.size ≤ w3.heap.size := (by omega)))
        all_goals
          go_wp2_with fail
          go_meet
          case rel =>
            refine ⟨_, x0, x1, rfl, rfl, ?_, ?_, ?_, ?_, hx, (show Below wc.heap.size wc _ from (by repeat (first | with_reducible exact Below.refl _ _ | with_reducible exact B3 | with_reducible refine Below.setCell ?_ (by first | omega | (simp; done) | (simp; omega)) _ | with_reducible refine bDrewN ?_ _ | with_reducible refine Below.drew ?_ | with_reducible refine Below.alloc ?_ (by first | omega | (simp; done) | (simp; omega)) _)))⟩
            all_goals first | omega | (simp [go_sem, *]; done) | (simp; omega) | (simp [*]; omega)
      obtain ⟨q, x0, x1, rfl, rfl, hq1, hq2, v0, v1, HX, HB⟩ := hcut
      rename World => wf
      have HF : Hid (SrAt w1.heap.size (w1.heap.size + 1) w1 wf u8 k (srU V T) a t) := HK.out.below HB.out
      have QF : Hid (PrAt w.heap.size wf 0 0) := QW.out.low HB.out QW.out.1
      have BF : Below w.heap.size w wf := BW.out.trans (HB.out.mono BW.out.size)
      have zpc : Hid (w1.heap.size + 1 < wc.heap.size) := zp
      clear HK p0 p1 zp zf kB d0 d1 hg
      obtain ⟨-, kB, -, ⟨zp, zf, p0, p1⟩, -, -⟩ := HF.out
      cases hv : inB 0 65535 S
      · have HO : Hid (srB n V m T = false) := by
          show _ = _
          unfold srB
          rw [decide_eq_false (fun z => by have := z.2 k hm2; rw [HSS.out.1, hv] at this; cases this)]
          simp
        obtain ⟨zr, rf, r0, r1⟩ := QF.out
        have B1 := BF
        go_wp2
        exact bodyPost_ret (v := .tuple #[.slice (some ⟨w.heap.size + 1, 0, none⟩) 0 0, .agg #[.int .i64 0, .int .i64 0], .bool false]) (by simp [results, Try.results18, go_sem, r0, r1]) rfl (post_no HO.out (by repeat (first | with_reducible exact Below.refl _ _ | with_reducible exact B1 | with_reducible refine Below.setCell ?_ (by first | omega | (simp; done) | (simp; omega)) _ | with_reducible refine bDrewN ?_ _ | with_reducible refine Below.drew ?_ | with_reducible refine Below.alloc ?_ (by first | omega | (simp; done) | (simp; omega)) _)))
      obtain ⟨rfl, rfl⟩ := HX.out hv
      have NX : Hid (stR V T (k + 1) = (x0, x1)) := by
        show nxtV V (stR V T k).1 (stR V T k).2 (T k).1 (T k).2 = _
        rw [HST.out, HSS.out.1, HSS.out.2]
        exact HY.out
      have DX : Hid (dv = srU V T k) := by
        show dv = doV V (stR V T k).1
        rw [HST.out]
        exact HDV.out.symm
      have OX : Hid (∀ j, j < k + 1 → inB 0 65535 (T j).1 = true) := fun j hj => by
        by_cases e : j = k
        · subst e; rw [HSS.out.1]; exact hv
        · exact HA.out j (by omega)
      have HCS : Hid (SrAt w1.heap.size (w1.heap.size + 1) w1 ((wf.setCell ⟨w1.heap.size + 1, 0, none⟩ (.int .i64 x0)).setCell ⟨w1.heap.size + 1, 1, none⟩ (.int .i64 x1)) u8 k (srU V T) x0 x1) := HF.out.set x0 x1
      have ne : ¬ q = w1.heap.size + 1 := by have := zpc.out; have := hq1; omega
      go_upto_region 16 with fail
      obtain ⟨wd, hwd⟩ : ∃ wd, wd = ((wf.setCell ⟨w1.heap.size + 1, 0, none⟩ (.int .i64 x0)).setCell ⟨w1.heap.size + 1, 1, none⟩ (.int .i64 x1)) := ⟨_, rfl⟩
      rw [← hwd] at HCS ⊢
      clear hwd v0 v1 p0 p1 zf
      go_wp2_with (at_builtin; refine list_i64h w1.heap.size u8 k (vals (srU V T) k) (.tmp 59) (.tmp 61) (by rfl) (by rfl) (by rfl) (by rfl) (by exact HCS.out.2.2.2.2.2) (by omega) (by exact HCS.out.2.1) ?_; intro g' cap' w3 hown3 hgrow3 hlt3 hnew3)
      go_roundw
      case rel => exact ⟨k + 1, x0, x1, by omega, by go_num, NX.out, OX.out, HCS.out.on hgrow3 hown3 hnew3 DX.out⟩
      case measure => simp [intOf]; omega
    · obtain rfl : k = m := by omega
      have HO : Hid (srB n V k T = true) := by
        show _ = _
        unfold srB
        rw [HP.out, decide_eq_true ⟨(by omega : k ≤ 1000), HA.out⟩]
        rfl
      obtain ⟨s', cap, rfl, ho⟩ := HK.out.own
      have HW : Hid (OwnI w1.heap.size wr s' k (srU V T)) := ho
      have BT := pair_beside wr w.heap.size a t
      have OT : Hid (OwnI w.heap.size ((wr.setCell ⟨w.heap.size, 0, none⟩ (.int .i64 a)).setCell ⟨w.heap.size, 1, none⟩ (.int .i64 t)) s' k (srU V T)) := OwnI.mono (OwnI.beside HW.out BT z0) (by omega)
      obtain ⟨zr, rf, r0, r1⟩ := QW.out
      have BX := BW.out
      clear ho BT
      go_wp2_with fail
      go_region
      all_goals
        go_wp2
        refine bodyPost_ret (v := .tuple #[.slice s' k cap, .agg #[.int .i64 a, .int .i64 t], .bool true]) (by simp [results, Try.results18, go_sem, r0, r1]) rfl (post_yes HO.out HST.out ?_ ?_)
        · refine OwnI.below OT.out ?_
          exact (by repeat (first | with_reducible exact Below.refl _ _ | with_reducible refine Below.setCell ?_ (by first | omega | (simp; done) | (simp; omega)) _ | with_reducible refine bDrewN ?_ _ | with_reducible refine Below.drew ?_ | with_reducible refine Below.alloc ?_ (by first | omega | (simp; done) | (simp; omega)) _))
        · exact (by repeat (first | with_reducible exact Below.refl _ _ | with_reducible exact BX | with_reducible refine Below.setCell ?_ (by first | omega | (simp; done) | (simp; omega)) _ | with_reducible refine bDrewN ?_ _ | with_reducible refine Below.drew ?_ | with_reducible refine Below.alloc ?_ (by first | omega | (simp; done) | (simp; omega)) _))
end Go.Proofs.Ytencmnjkkkhngaa
