/-
What is proved: when machines begin, as the program's Loading tells it.
-/
import Derived.Test.YtcialcejmjggeaaLdW
import Derived.Test.YtcialcejmjggeaaLdA
import Derived.Test.YtcialcejmjggeaaLdT
import Derived.Deep.RegionHeldLaw
import Derived.Deep.DeepCutAuto

namespace Go.Proofs.Ytcialcejmjggeaa
set_option maxRecDepth 40000
open Go.ChangeShapes Go.WideShapes Go.ChangeAt Go.RowKit
set_option linter.unusedVariables false
set_option linter.unusedSimpArgs false

theorem make_i64Q (n : Nat) (hn : n ≤ 1048576) (w : World) : (Instr.makeSlice 24 (.int .i64 (n : Int)) (.int .i64 (n : Int))).run Try.prog w = .ok (.slice (some ⟨w.heap.size, 0, none⟩) n n) (w.alloc (.cells (madeCells #[.int .i64 0] n) 2)) := by
  have hinfo : (Try.prog.info? 2).map (fun i => (i.zero, i.size, i.bytes)) = some (some (.int .i64 0), 1, 8) := by kernel_rfl
  obtain ⟨i, hi, hzz⟩ := Option.map_eq_some_iff.1 hinfo
  simp only [Prod.mk.injEq] at hzz
  obtain ⟨hz, hs, hb⟩ := hzz
  have hr := run_make (P := Try.prog) w 24 2 i _ Try.underlying24 hi hz .i64 .i64 n n (by omega) (Int.le_refl _) (by rw [hb]; omega) (by omega)
  simp only [Int.toNat_natCast, hs, Nat.mul_one] at hr
  exact hr
theorem made_vals (n : Nat) : (madeCells #[.int .i64 0] n).toList = vals (fun _ => 0) n := by
  rw [toList_madeCells_one]
  refine List.ext_getElem? fun l => ?_
  by_cases hl : l < n
  · rw [vals_at _ hl]; simp [hl]
  · have h2 : (vals (fun _ => 0) n)[l]? = none := by simp [vals]; omega
    rw [h2]; simp; omega
def fillT (k : Nat) : Nat → Int := fun j => if j < k then -1 else 0
theorem fill_on (k n : Nat) : (vals (fillT k) n).set k (.int .i64 (-1)) = vals (fillT (k + 1)) n := by
  rw [vals_put]
  refine vals_congr fun j _ => ?_
  unfold fillT
  by_cases q : j = k
  · subst q; simp
  · by_cases r : j < k
    · rw [if_neg q, if_pos r, if_pos (by omega)]
    · rw [if_neg q, if_neg r, if_neg (by omega)]
theorem nx_found {V : Nat → Int} {n a t : Nat} {most : Int} (hn : n ≤ 60) (h1 : a < n) (h2 : TT V n most t a < 0) (hf : fitQ V (most - powV V (TT V n most t) t n) a) (hm : ∀ b, (b < n ∧ TT V n most t b < 0) → fitQ V (most - powV V (TT V n most t) t n) b → kStart V a ≤ kStart V b) : nxL V n most (TT V n most t) t = a := by
  unfold fitQ at hf hm
  refine bestN_one hn h1 (decide_eq_true ⟨h2, by omega⟩) fun b hb hfb => ?_
  have := of_decide_eq_true hfb
  exact hm b ⟨hb, this.1⟩ (by omega)
theorem nx_not {V : Nat → Int} {n t : Nat} {most : Int} (hm : ∀ b, (b < n ∧ TT V n most t b < 0) → ¬ fitQ V (most - powV V (TT V n most t) t n) b) : nxL V n most (TT V n most t) t = -1 := by
  unfold fitQ at hm
  refine bestN_none n fun b hb => decide_eq_false fun q => ?_
  exact hm b ⟨hb, q.1⟩ (by omega)
set_option maxRecDepth 20000 in
set_option maxHeartbeats 4000000 in
theorem implLoading_any (s : Option Addr) (n c : Nat) (V : Nat → Int) (most : Int) (w : World) (hn : (n : Int) ≤ 1048576) (HR0 : RowI w s (n * 4) V) :
    Calls Try.prog 18 #[.slice s n c, .int .i64 most] w fun e w' => ∃ s' c', e = .returned (.tuple #[.slice s' (ldM n V most) c', .bool (ldB V n most)]) ∧ OwnI w.heap.size w' s' (ldM n V most) (ldT V n most) ∧ Below w.heap.size w w' := by
  have HR : Hid (RowI w s (n * 4) V) := HR0
  clear HR0
  have hmk := make_i64Q n (by omega)
  go_enter Try.func18, Try.ntmps18
  go_wp2_with fail
  refine (machinesOk_any s n c V _ HR).mono ?_
  rintro e w1 ⟨rfl, B1⟩
  have HB1 : Hid (Below w.heap.size w w1) := B1
  clear B1
  cases hm : machsB n V
  · have NO : Hid (ldB V n most = false) := by show _ = _; unfold ldB; rw [hm]; rfl
    have NM : Hid (ldM n V most = 0) := by show _ = _; unfold ldM; rw [NO.out]; rfl
    have hB := HB1.out
    clear hm HR
    go_wp2
    first
      | exact bodyPost_ret (v := .tuple #[.slice none 0 0, .bool false]) (by simp [results, Try.results18, go_sem]) rfl ⟨none, 0, by rw [NM.out, NO.out], by rw [NM.out]; exact own_zero _ _ _ _, (by repeat (first | with_reducible exact Below.refl _ _ | with_reducible exact hB | with_reducible refine Below.setCell ?_ (by first | omega | (simp; done) | (simp; omega)) _ | with_reducible refine bDrewN ?_ _ | with_reducible refine Below.drew ?_ | with_reducible refine Below.alloc ?_ (by first | omega | (simp; done) | (simp; omega)) _))⟩
      | exact bodyPost_ret (v := .tuple #[.slice none 0 0, .bool false]) (by simp [results, Try.results18, go_sem]) rfl ⟨none, ⟨0, by rw [NM.out, NO.out]⟩, by rw [NM.out]; exact own_zero _ _ _ _, (by repeat (first | with_reducible exact Below.refl _ _ | with_reducible exact hB | with_reducible refine Below.setCell ?_ (by first | omega | (simp; done) | (simp; omega)) _ | with_reducible refine bDrewN ?_ _ | with_reducible refine Below.drew ?_ | with_reducible refine Below.alloc ?_ (by first | omega | (simp; done) | (simp; omega)) _))⟩
  go_wp2_with fail
  refine (within_is _ _ _ _).mono ?_
  rintro e w1 ⟨rfl, rfl⟩
  cases h0 : inB 0 100000000 most
  · have NO : Hid (ldB V n most = false) := by show _ = _; unfold ldB; rw [h0]; simp
    have NM : Hid (ldM n V most = 0) := by show _ = _; unfold ldM; rw [NO.out]; rfl
    have hB := HB1.out
    clear hm HR h0
    go_wp2
    first
      | exact bodyPost_ret (v := .tuple #[.slice none 0 0, .bool false]) (by simp [results, Try.results18, go_sem]) rfl ⟨none, 0, by rw [NM.out, NO.out], by rw [NM.out]; exact own_zero _ _ _ _, (by repeat (first | with_reducible exact Below.refl _ _ | with_reducible exact hB | with_reducible refine Below.setCell ?_ (by first | omega | (simp; done) | (simp; omega)) _ | with_reducible refine bDrewN ?_ _ | with_reducible refine Below.drew ?_ | with_reducible refine Below.alloc ?_ (by first | omega | (simp; done) | (simp; omega)) _))⟩
      | exact bodyPost_ret (v := .tuple #[.slice none 0 0, .bool false]) (by simp [results, Try.results18, go_sem]) rfl ⟨none, ⟨0, by rw [NM.out, NO.out]⟩, by rw [NM.out]; exact own_zero _ _ _ _, (by repeat (first | with_reducible exact Below.refl _ _ | with_reducible exact hB | with_reducible refine Below.setCell ?_ (by first | omega | (simp; done) | (simp; omega)) _ | with_reducible refine bDrewN ?_ _ | with_reducible refine Below.drew ?_ | with_reducible refine Below.alloc ?_ (by first | omega | (simp; done) | (simp; omega)) _))⟩
  have YB : Hid (ldB V n most = true) := by show _ = _; unfold ldB; rw [hm, h0]; rfl
  have YM : Hid (ldM n V most = n) := by show _ = _; unfold ldM; rw [YB.out]; rfl
  have n60 : n ≤ 60 := (machs_yes hm).1
  have HM : Hid (∀ j, j < n → machB V j = true) := (machs_yes hm).2
  obtain ⟨p0, p1⟩ := inB_yes h0
  clear hm hn h0
  go_upto_region 4 with fail
  obtain ⟨w2, hw2⟩ : ∃ z, z = w1.alloc (.cells (madeCells #[.int .i64 0] n) 2) := ⟨_, rfl⟩
  obtain ⟨gt, hgt⟩ : ∃ z, w1.heap.size = z := ⟨_, rfl⟩
  rw [← hw2, hgt]
  have HO2 : Hid (w2.ownsRow w.heap.size 2 1 (.slice (some ⟨gt, 0, none⟩) n n) n (vals (fillT 0) n)) := by
    show World.ownsRow _ _ _ _ _ _ _
    have e : vals (fillT 0) n = (madeCells #[.int .i64 0] n).toList := by rw [made_vals]; exact vals_congr fun j _ => by unfold fillT; simp
    rw [e, hw2, ← hgt]
    exact World.ownsRow_lit w1 _ n HB1.out.size (by unfold maxLen; omega) (by simp [madeCells])
  have HB2 : Hid (Below w.heap.size w w2) := by show Below _ _ _; rw [hw2]; exact HB1.out.trans ((Below.refl _ _).alloc HB1.out.size _)
  clear hw2 hgt HB1
  go_wp2_with fail
  go_loopw [25] (fun iv wr => ∃ k : Nat, k ≤ n ∧ iv = .int .i64 k ∧ Hid (wr.ownsRow w.heap.size 2 1 (.slice (some ⟨gt, 0, none⟩) n n) n (vals (fillT k) n)) ∧ Hid (Below w.heap.size w wr)) (fun iv _ => n - (intOf iv).toNat)
  case atStart => exact ⟨0, Nat.zero_le _, rfl, HO2, HB2⟩
  case round =>
    clear HO2 HB2
    obtain ⟨k, hk, rfl, HO, HB⟩ := hrel
    by_cases h1 : k < n
    case pos =>
      have k1 : (k : Int) < (n : Int) := by omega
      have ck := HO.out.cellAt k (by omega)
      rw [vals_at _ h1] at ck
      have fk := HO.out.frozenAt k
      have HO3 : Hid ((wr.setCell ⟨gt, k, none⟩ (.int .i64 (-1))).ownsRow w.heap.size 2 1 (.slice (some ⟨gt, 0, none⟩) n n) n (vals (fillT (k + 1)) n)) := by
        show World.ownsRow _ _ _ _ _ _ _
        rw [← fill_on]
        exact (HO.out.stored k _).1
      have HB3 : Hid (Below w.heap.size w (wr.setCell ⟨gt, k, none⟩ (.int .i64 (-1)))) := HB.out.trans ((Turn.of (S := fun b => b = gt) (Beside.setCell gt _ _ _) rfl).below (fun _ h => by rw [h]; exact (HO.out.lt gt rfl).1) HB.out.size)
      clear HO HB
      go_wp2
      go_roundw
      case rel => exact ⟨k + 1, by omega, by go_num, HO3, HB3⟩
      case measure => simp [intOf]; omega
    obtain rfl : k = n := by omega
    rename World => wt
    have HTM : Hid (TmAt w.heap.size wt (some ⟨gt, 0, none⟩) k k (TT V k most 0)) := by
      show World.ownsRow _ _ _ _ _ _ _
      have e : vals (TT V k most 0) k = vals (fillT k) k := vals_congr fun j hj => by unfold fillT; rw [if_pos hj]; rfl
      rw [e]; exact HO.out
    have HRt : Hid (RowI wt s (k * 4) V) := HR.out.below HB.out
    have gtl : gt < wt.heap.size := (HO.out.lt gt rfl).2
    clear HO h1 hk
    go_wp2_with fail
    refine (queueOfStart_any s k c V _ n60 HRt).mono ?_
    rintro e wq ⟨q, P, rfl, hq, hQ, hBq, hG, hH⟩
    have HQ : Hid (QAt (fun b => wt.heap.size ≤ b) q wq false k V P) := hQ
    have HG : Hid (HeapG (kO false V) 0 k P) := hG
    have HH : Hid (Hold k P (fun a => a < k ∧ TT V k most 0 a < 0)) := hold_congr hH (fun a => ⟨fun h => ⟨h, by show (-1 : Int) < 0; decide⟩, fun h => h.1⟩)
    have HBq : Hid (Below w.heap.size w wq) := HB.out.trans (hBq.mono HB.out.size)
    have HTq : Hid (TmAt w.heap.size wq (some ⟨gt, 0, none⟩) k k (TT V k most 0)) := HTM.out.below hBq
    have szq : wt.heap.size ≤ wq.heap.size := hBq.size
    have s0t : w.heap.size ≤ wt.heap.size := HB.out.size
    clear hQ hG hH hBq HB HTM HRt
    go_wp2_with fail
    go_loopw [9] (fun tv wx => ∃ (t n1 : Nat) (P1 : Nat → Nat), tv = .int .i64 t ∧ Hid (GoP V k most t) ∧ Hid (TmAt w.heap.size wx (some ⟨gt, 0, none⟩) k k (TT V k most t)) ∧ Hid (QAt (fun b => wt.heap.size ≤ b) q wx false n1 V P1) ∧ Hid (HeapG (kO false V) 0 n1 P1) ∧ Hid (Hold n1 P1 (fun a => a < k ∧ TT V k most t a < 0)) ∧ Hid (Below w.heap.size w wx) ∧ wt.heap.size ≤ wx.heap.size ∧ n1 ≤ k) (fun tv _ => 2000 - (intOf tv).toNat)
    case atStart => exact ⟨0, k, P, rfl, fun _ h => by omega, HTq, HQ, HG, HH, HBq, szq, Nat.le_refl _⟩
    case round =>
      clear HTq HQ HG HH HBq szq
      obtain ⟨t, n1, P1, rfl, HGO, HTM, HQ, HG, HH, HB, sz, hn1⟩ := hrel
      have ht := early_bd n60 HM.out t HGO.out
      have hBw := HB.out
      by_cases hz : 0 < n1
      case neg =>
        have hz4 : ¬ (0 : Int) < (n1 : Int) := by omega
        have HOW : Hid (OwnI w.heap.size wr (some ⟨gt, 0, none⟩) k (ldT V k most)) := by
          show OwnI _ _ _ _ _
          rw [← ld_full (t := t) (by omega) (fun i hi => by
            rcases Int.lt_or_le (TT V k most t i) 0 with x | x
            · obtain ⟨j, hj, _⟩ := HH.out.2.1 i ⟨hi, x⟩
              omega
            · exact x)]
          exact HTM.out.own
        clear HGO HTM HG HH
        go_wp2_with fail
        refine (qlen_any false _ q n1 V P1 _ HQ).mono ?_
        rintro e wr ⟨rfl, rfl⟩
        go_wp2
        first
          | exact bodyPost_ret (v := .tuple #[.slice (some ⟨gt, 0, none⟩) k k, .bool true]) (by simp [results, Try.results18, go_sem]) rfl ⟨some ⟨gt, 0, none⟩, k, by rw [YM.out, YB.out], by rw [YM.out]; exact HOW.out, (by repeat (first | with_reducible exact Below.refl _ _ | with_reducible exact hBw | with_reducible refine Below.setCell ?_ (by first | omega | (simp; done) | (simp; omega)) _ | with_reducible refine bDrewN ?_ _ | with_reducible refine Below.drew ?_ | with_reducible refine Below.alloc ?_ (by first | omega | (simp; done) | (simp; omega)) _))⟩
          | exact bodyPost_ret (v := .tuple #[.slice (some ⟨gt, 0, none⟩) k k, .bool true]) (by simp [results, Try.results18, go_sem]) rfl ⟨some ⟨gt, 0, none⟩, ⟨k, by rw [YM.out, YB.out]⟩, by rw [YM.out]; exact HOW.out, (by repeat (first | with_reducible exact Below.refl _ _ | with_reducible exact hBw | with_reducible refine Below.setCell ?_ (by first | omega | (simp; done) | (simp; omega)) _ | with_reducible refine bDrewN ?_ _ | with_reducible refine Below.drew ?_ | with_reducible refine Below.alloc ?_ (by first | omega | (simp; done) | (simp; omega)) _))⟩
      have hz2 : 0 < (n1 : Int) := by omega
      have HRr : Hid (RowI wr s (k * 4) V) := HR.out.below hBw
      have HUr : Hid (RowI wr (some ⟨gt, 0, none⟩) k (TT V k most t)) := HTM.out.own.row
      have HTB : Hid (∀ j, j < k → -1 ≤ TT V k most t j ∧ TT V k most t j ≤ 1000000) := fun j _ => by have := TT_bd V k most t j; omega
      have pb := pow_bd V (TT V k most t) t k HM.out
      clear hBw
      go_wp2_with fail
      refine (qlen_any false _ q n1 V P1 _ HQ).mono ?_
      rintro e wr ⟨rfl, rfl⟩
      go_wp2_with fail
      refine (takenAt_any s k c V (some ⟨gt, 0, none⟩) k k (TT V k most t) t _ rfl n60 HM HTB HRr HUr).mono ?_
      rintro e w4 ⟨rfl, B4⟩
      have HTM4 : Hid (TmAt w.heap.size w4 (some ⟨gt, 0, none⟩) k k (TT V k most t)) := HTM.out.below B4
      have HQ4 : Hid (QAt (fun b => wt.heap.size ≤ b) q w4 false n1 V P1) := HQ.out.below B4
      have HB4 : Hid (Below w.heap.size w w4) := HB.out.trans (B4.mono HB.out.size)
      have HRN : Hid (RowI w4 s (k * 4) V) := HRr.out.below B4
      have sz4 : wt.heap.size ≤ w4.heap.size := Nat.le_trans sz B4.size
      clear B4 HTM HQ HB HRr HUr sz
      have HX : Hid (∀ b, w4.heap.size ≤ b → wt.heap.size ≤ b) := fun b h => Nat.le_trans sz4 h
      have HSM : Hid (∀ a, (a < k ∧ TT V k most t a < 0) → a < 60 ∧ machB V a = true) := fun a h => ⟨by have := h.1; omega, HM.out a h.1⟩
      obtain ⟨pv, hpv⟩ : ∃ z, powV V (TT V k most t) t k = z := ⟨_, rfl⟩
      have HPV : Hid (powV V (TT V k most t) t k = pv) := hpv
      rw [hpv] at pb ⊢
      clear hpv
      have ew : IntKind.i64.wrap (most - pv) = most - pv := by rw [IntKind.wrap_i64]; omega
      go_wp2_with fail
      refine (firstWithin_any (fun b => wt.heap.size ≤ b) q n1 V P1 _ (most - pv) _ (by omega) HX HSM HH HG HQ4).mono ?_
      rintro e w5 ⟨pl, f, rfl, hT, hpost⟩
      have HTM5 : Hid (TmAt w.heap.size w5 (some ⟨gt, 0, none⟩) k k (TT V k most t)) := row_turn HTM4.out hT (fun g e => by
        have e2 : gt = g := by simpa [Value.ownBlock] using e
        omega)
      have HB5 : Hid (Below w.heap.size w w5) := HB4.out.trans (hT.below (fun _ h => Nat.le_trans s0t h) HB4.out.size)
      have sz5 : wt.heap.size ≤ w5.heap.size := Nat.le_trans sz4 hT.size
      have HR5 : Hid (RowI w5 s (k * 4) V) := HR.out.below HB5.out
      have HU5 : Hid (RowI w5 (some ⟨gt, 0, none⟩) k (TT V k most t)) := HTM5.out.own.row
      clear hT HTM4 HQ4 HB4 HRN HX HSM HG HH sz4
      rcases hpost with ⟨rfl, a, n2, P2, rfl, hn2, hSa, hfa, hma, hQ, hG, hH⟩ | ⟨rfl, P2, hno, hQ, hG, hH⟩
      · have HE1 : Hid (nxL V k most (TT V k most t) t = (a : Int)) := nx_found n60 hSa.1 hSa.2 (by rw [HPV.out]; exact hfa) (by rw [HPV.out]; exact hma)
        have HGO2 : Hid (GoP V k most (t + 1)) := HGO.out.on (.inl (by rw [HE1.out]; omega))
        have HQ2 : Hid (QAt (fun b => wt.heap.size ≤ b) q w5 false n2 V P2) := hQ
        have HG2 : Hid (HeapG (kO false V) 0 n2 P2) := hG
        have HH2 : Hid (Hold n2 P2 (fun b => b < k ∧ TT V k most (t + 1) b < 0)) := hold_congr hH (fun b => by
          rw [TT_set HE1.out b]
          by_cases e : b = a
          · subst e; first | (simp; done) | (simp; omega)
          · simp [e])
        have ka : (a : Int) < (k : Int) := by omega
        obtain ⟨g, eg, hg0, hg1, hgc, hgf⟩ := HTM5.out.at_ (by omega)
        cases eg
        have cb := hgc a hSa.1
        have fb := hgf a
        have HTN : Hid (TmAt w.heap.size (w5.setCell ⟨gt, a, none⟩ (.int .i64 (t : Int))) (some ⟨gt, 0, none⟩) k k (TT V k most (t + 1))) := HTM5.out.set HE1.out
        have TS : Turn (fun b => b = gt) w5 (w5.setCell ⟨gt, a, none⟩ (.int .i64 (t : Int))) := Turn.of (Beside.setCell gt _ _ _) rfl
        have HBN : Hid (Below w.heap.size w (w5.setCell ⟨gt, a, none⟩ (.int .i64 (t : Int)))) := HB5.out.trans (TS.below (fun _ h => by rw [h]; exact hg0) HB5.out.size)
        have HQN : Hid (QAt (fun b => wt.heap.size ≤ b) q (w5.setCell ⟨gt, a, none⟩ (.int .i64 (t : Int))) false n2 V P2) := HQ2.out.turn TS (fun b _ h e => by omega)
        have szn : wt.heap.size ≤ (w5.setCell ⟨gt, a, none⟩ (.int .i64 (t : Int))).heap.size := Nat.le_trans sz5 TS.size
        have n2k : n2 ≤ k := by omega
        clear hgc hgf hQ hG hH hma hfa HTM5 HB5 HR5 HU5 HQ2 HGO TS hn2
        go_wp2
        go_roundw
        case rel => exact ⟨t + 1, n2, P2, by go_num, HGO2, HTN, HQN, HG2, HH2, HBN, szn, n2k⟩
        case measure => simp [intOf]; omega
      · have HE1 : Hid (nxL V k most (TT V k most t) t = -1) := nx_not (by rw [HPV.out]; exact hno)
        have HQ2 : Hid (QAt (fun b => wt.heap.size ≤ b) q w5 false n1 V P2) := hQ
        have HG2 : Hid (HeapG (kO false V) 0 n1 P2) := hG
        have HH2 : Hid (Hold n1 P2 (fun a => a < k ∧ TT V k most t a < 0)) := hH
        clear hQ hG hH hno
        go_wp2_with fail
        refine (anyStarts_any s k c V (some ⟨gt, 0, none⟩) k k (TT V k most t) t _ rfl n60 HM HTB HR5 HU5).mono ?_
        rintro e w6 ⟨rfl, B6⟩
        have HTM6 : Hid (TmAt w.heap.size w6 (some ⟨gt, 0, none⟩) k k (TT V k most t)) := HTM5.out.below B6
        have HB6 : Hid (Below w.heap.size w w6) := HB5.out.trans (B6.mono HB5.out.size)
        have HQ6 : Hid (QAt (fun b => wt.heap.size ≤ b) q w6 false n1 V P2) := HQ2.out.below B6
        have sz6 : wt.heap.size ≤ w6.heap.size := Nat.le_trans sz5 B6.size
        clear B6 HTM5 HB5 HR5 HU5 HQ2 sz5
        have hiff := anS_iff (V := V) (T := TT V k most t) (t := (t : Int)) k (fun i _ => by have := TT_bd V k most t i; omega)
        cases ha : anS V (TT V k most t) t k
        · have hns : ¬ StartP V k (TT V k most t) t := fun q => by have := hiff.2 q; rw [ha] at this; cases this
          have HOW : Hid (OwnI w.heap.size w6 (some ⟨gt, 0, none⟩) k (ldT V k most)) := by
            show OwnI _ _ _ _ _
            rw [← ld_stop (by omega) HE1.out hns]
            exact HTM6.out.own
          have hBw := HB6.out
          clear hiff ha hns HTM6 HB6 HQ6 HGO
          go_wp2
          first
            | exact bodyPost_ret (v := .tuple #[.slice (some ⟨gt, 0, none⟩) k k, .bool true]) (by simp [results, Try.results18, go_sem]) rfl ⟨some ⟨gt, 0, none⟩, k, by rw [YM.out, YB.out], by rw [YM.out]; exact HOW.out, (by repeat (first | with_reducible exact Below.refl _ _ | with_reducible exact hBw | with_reducible refine Below.setCell ?_ (by first | omega | (simp; done) | (simp; omega)) _ | with_reducible refine bDrewN ?_ _ | with_reducible refine Below.drew ?_ | with_reducible refine Below.alloc ?_ (by first | omega | (simp; done) | (simp; omega)) _))⟩
            | exact bodyPost_ret (v := .tuple #[.slice (some ⟨gt, 0, none⟩) k k, .bool true]) (by simp [results, Try.results18, go_sem]) rfl ⟨some ⟨gt, 0, none⟩, ⟨k, by rw [YM.out, YB.out]⟩, by rw [YM.out]; exact HOW.out, (by repeat (first | with_reducible exact Below.refl _ _ | with_reducible exact hBw | with_reducible refine Below.setCell ?_ (by first | omega | (simp; done) | (simp; omega)) _ | with_reducible refine bDrewN ?_ _ | with_reducible refine Below.drew ?_ | with_reducible refine Below.alloc ?_ (by first | omega | (simp; done) | (simp; omega)) _))⟩
        · have HTN : Hid (TmAt w.heap.size w6 (some ⟨gt, 0, none⟩) k k (TT V k most (t + 1))) := by
            show TmAt _ _ _ _ _ _
            rw [TT_on HE1.out]
            exact HTM6.out
          have HGO2 : Hid (GoP V k most (t + 1)) := HGO.out.on (.inr (hiff.1 ha))
          have HH3 : Hid (Hold n1 P2 (fun a => a < k ∧ TT V k most (t + 1) a < 0)) := by
            show Hold _ _ _
            rw [TT_on HE1.out]
            exact HH2.out
          clear hiff ha HTM6 HGO HH2
          go_wp2
          go_roundw
          case rel => exact ⟨t + 1, n1, P2, by go_num, HGO2, HTN, HQ6, HG2, HH3, HB6, sz6, hn1⟩
          case measure => simp [intOf]; omega
end Go.Proofs.Ytcialcejmjggeaa
