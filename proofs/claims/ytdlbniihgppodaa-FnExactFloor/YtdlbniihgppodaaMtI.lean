/-
What is proved: what machines give by their merit, as the program says it.
-/
import Derived.Test.YtdlbniihgppodaaMtP
import Derived.Test.YtdlbniihgppodaaSbS
namespace Go.Proofs.Ytdlbniihgppodaa
set_option maxRecDepth 40000
open Go.ChangeShapes Go.WideShapes Go.ChangeAt Go.RowKit
set_option linter.unusedVariables false
set_option linter.unusedSimpArgs false

theorem me_off {n : Nat} {V : Nat → Int × Int × Int × Int × Int} {O : Nat → Bool} {no : Nat} {ld : Int} (h : meB n V O no ld = false) : meN n V O no ld = 0 ∧ meB n V O no ld = false := ⟨by unfold meN; rw [h]; rfl, h⟩
theorem me_on {n : Nat} {V : Nat → Int × Int × Int × Int × Int} {O : Nat → Bool} {no : Nat} {ld : Int} (h : meB n V O no ld = true) : meN n V O no ld = n := by unfold meN; rw [h]; rfl
theorem own_setM {base : Nat} {w : World} {g m : Nat} {E F : Nat → Int} {q : Nat} {v : Int} (h : OwnI base w (some ⟨g, 0, none⟩) m E) (hF : ∀ i, i < m → F i = if i = q then v else E i) : OwnI base (w.setCell ⟨g, q, none⟩ (.int .i64 v)) (some ⟨g, 0, none⟩) m F := fun j hj => by
  obtain ⟨b, e, hb, hl, hc, hf⟩ := h j hj
  cases e
  refine ⟨g, rfl, hb, by simpa using hl, ?_, by simpa [go_sem] using hf⟩
  rw [hF j hj]
  by_cases e : j = q
  · subst e
    rw [if_pos rfl]
    exact World.cell?_setCell_same' _ _ _ (by rw [hc]; rfl)
  · rw [if_neg e, World.cell?_setCell_other _ _ _ _ (by intro z; cases z; exact e rfl)]
    exact hc
theorem own_congrM {base : Nat} {w : World} {s : Option Addr} {m : Nat} {E F : Nat → Int} (h : OwnI base w s m E) (e : ∀ i, i < m → E i = F i) : OwnI base w s m F := fun j hj => by
  obtain ⟨b, e', r⟩ := h j hj
  rw [← e j hj]
  exact ⟨b, e', r⟩
theorem set_belowM {w w' : World} {B g o : Nat} {v : Value} (h : Below B w w') (hg : B ≤ g) (hB : B ≤ w'.heap.size) : Below B w (w'.setCell ⟨g, o, none⟩ v) := h.trans ((Beside.setCell g w' o v).below hg hB)
theorem DatT.set {w : World} {b n g o : Nat} {T : Nat → Nat} {v : Value} (h : DatT w b n T) (hg : b ≠ g) : DatT (w.setCell ⟨g, o, none⟩ v) b n T := ⟨by simpa using h.1, fun q hq => by simpa [go_sem] using h.2.1 q hq, fun k hk => by rw [World.cell?_setCell_other _ _ _ _ (by intro z; cases z; exact hg rfl)]; exact h.2.2 k hk⟩
def gvF (n : Nat) (V : Nat → Int × Int × Int × Int × Int) (O : Nat → Bool) (ld : Int) (T : Nat → Nat) (k i : Nat) : Int := if dnB T k i = true then outV n V O ld i else 0
theorem gv_off {n : Nat} {V : Nat → Int × Int × Int × Int × Int} {O : Nat → Bool} {ld : Int} {T : Nat → Nat} {k i : Nat} (ho : O (T k) = false) : gvF n V O ld T (k + 1) i = gvF n V O ld T k i := by
  unfold gvF
  show (if (dnB T k i || decide (T k = i)) = true then outV n V O ld i else 0) = _
  by_cases e : T k = i
  · subst e
    have : outV n V O ld (T k) = 0 := by
      unfold outV lsF givV cpF lfV
      rw [ho]; simp; omega
    rw [this]; simp
  · rw [decide_eq_false e, Bool.or_false]
theorem gv_on {n : Nat} {V : Nat → Int × Int × Int × Int × Int} {O : Nat → Bool} {ld : Int} {T : Nat → Nat} {k i : Nat} : gvF n V O ld T (k + 1) i = if i = T k then outV n V O ld (T k) else gvF n V O ld T k i := by
  unfold gvF
  show (if (dnB T k i || decide (T k = i)) = true then outV n V O ld i else 0) = _
  by_cases e : i = T k
  · subst e
    rw [if_pos rfl]; simp
  · rw [if_neg e, decide_eq_false (Ne.symm e), Bool.or_false]
set_option maxRecDepth 20000 in
set_option maxHeartbeats 8000000 in
theorem implMerit_any (s : Option Addr) (n c : Nat) (V : Nat → Int × Int × Int × Int × Int) (t : Option Addr) (no m : Nat) (O : Nat → Bool) (ld : Int) (w : World) (hn : (n : Int) ≤ 1048576) (hno : (no : Int) ≤ 1048576) (l0 : -9223372036854775808 ≤ ld) (l1 : ld ≤ 9223372036854775807) (HR : Hid (RowPlant w s n V)) (HO : Hid (RowB w t no O)) :
    Calls Try.prog 12 #[.slice s n c, .slice t no m, .int .i64 ld] w fun e w' => MePost w (meN n V O no ld) (outV n V O ld) (meB n V O no ld) e w' := by
  go_enter Try.func12, Try.ntmps12
  go_wp2_with fail
  refine (plantsOk_any s n c V _ hn HR).mono ?_
  rintro e w1 ⟨rfl, h1⟩
  have B1 : Below w.heap.size w w1 := h1
  clear h1
  cases h0 : plsB n V
  · have HN0 : Hid (meN n V O no ld = 0 ∧ meB n V O no ld = false) := me_off (by unfold meB; rw [h0]; rfl)
    go_wp2
    exact bodyPost_ret (v := .tuple #[.slice none 0 0, .bool false]) (by simp [results, Try.results12, go_sem]) rfl (me_none HN0.out.1 HN0.out.2 (by repeat (first | with_reducible exact Below.refl _ _ | with_reducible exact B1 | with_reducible refine Below.setCell ?_ (by first | omega | (simp; done) | (simp; omega)) _ | with_reducible refine bDrewN ?_ _ | with_reducible refine Below.drew ?_ | with_reducible refine Below.alloc ?_ (by first | omega | (simp; done) | (simp; omega)) _)))
  obtain ⟨n1, n3, hpl⟩ := pls_yes h0
  have HPL : Hid (∀ i, i < n → plB (V i) = true) := hpl
  have HPS : Hid (plsB n V = true) := h0
  have n3i : (n : Int) ≤ 3 := by omega
  clear h0 hpl
  by_cases hno2 : no = n
  case neg =>
    have b0 : ((no : Int) != (n : Int)) = true := by simp; omega
    have HN0 : Hid (meN n V O no ld = 0 ∧ meB n V O no ld = false) := me_off (by unfold meB; rw [decide_eq_false hno2]; simp)
    go_wp2
    exact bodyPost_ret (v := .tuple #[.slice none 0 0, .bool false]) (by simp [results, Try.results12, go_sem]) rfl (me_none HN0.out.1 HN0.out.2 (by repeat (first | with_reducible exact Below.refl _ _ | with_reducible exact B1 | with_reducible refine Below.setCell ?_ (by first | omega | (simp; done) | (simp; omega)) _ | with_reducible refine bDrewN ?_ _ | with_reducible refine Below.drew ?_ | with_reducible refine Below.alloc ?_ (by first | omega | (simp; done) | (simp; omega)) _)))
  subst hno2
  go_wp2_with fail
  refine (rangeOf_any s no c V t m O _ n3i HPL (HR.out.below B1) (HO.out.below B1)).mono ?_
  rintro e w2 ⟨rfl, h1⟩
  have B2 : Below w.heap.size w w2 := B1.trans (h1.mono B1.size)
  clear h1 B1
  have sb := sum_in (f := lsF V O) (n := no) (M := 100000) (fun j hj => (ls_in HPL.out j hj).1)
  have tb := sum_in (f := msF V O) (n := no) (M := 100000) (fun j hj => (ls_in HPL.out j hj).2.1)
  have HM : Hid (meB no V O no ld = (decide (sumF (lsF V O) no ≤ ld) && decide (ld ≤ sumF (msF V O) no))) := by show _ = _; unfold meB; rw [HPS.out]; simp
  have HLD : Hid (∀ i, outV no V O ld i = lsF V O i + givV (ld - sumF (lsF V O) no) (csF V) (cpF V O) no i) := fun i => rfl
  obtain ⟨p, hp⟩ : ∃ p, sumF (lsF V O) no = p := ⟨_, rfl⟩
  obtain ⟨q, hq⟩ : ∃ q, sumF (msF V O) no = q := ⟨_, rfl⟩
  rw [hp] at sb HM HLD ⊢
  rw [hq] at tb HM ⊢
  clear hp hq
  go_wp2_with fail
  refine (within_is _ _ _ _).mono ?_
  rintro e w2 ⟨rfl, rfl⟩
  cases e0 : inB p q ld
  · have HN0 : Hid (meN no V O no ld = 0 ∧ meB no V O no ld = false) := me_off (by rw [HM.out]; unfold inB at e0; simpa using e0)
    go_wp2
    exact bodyPost_ret (v := .tuple #[.slice none 0 0, .bool false]) (by simp [results, Try.results12, go_sem]) rfl (me_none HN0.out.1 HN0.out.2 (by repeat (first | with_reducible exact Below.refl _ _ | with_reducible exact B2 | with_reducible refine Below.setCell ?_ (by first | omega | (simp; done) | (simp; omega)) _ | with_reducible refine bDrewN ?_ _ | with_reducible refine Below.drew ?_ | with_reducible refine Below.alloc ?_ (by first | omega | (simp; done) | (simp; omega)) _)))
  obtain ⟨q0, q1⟩ := inB_yes e0
  have HME : Hid (meB no V O no ld = true) := by show _ = _; rw [HM.out, decide_eq_true q0, decide_eq_true q1]; rfl
  obtain ⟨L, hL⟩ : ∃ L, ld - p = L := ⟨_, rfl⟩
  rw [hL] at HLD
  have L0 : 0 ≤ L := by omega
  have L1 : L ≤ 300000 := by omega
  have hmk := make_i64 no (by omega)
  obtain ⟨g, o, rfl, hg, -⟩ := HR.out 0 (by omega)
  have HC : Hid (∀ i, i < no → w.cell? ⟨g, o + i * 5 + 2, none⟩ = some (.int .i64 (csF V i))) := fun i hi => by
    obtain ⟨g', o', e', _, _, _, c2, _⟩ := HR.out i hi
    cases e'
    exact c2
  clear e0 HM
  go_upto_region 7 with fail
  obtain ⟨wd, hwd⟩ : ∃ wd, wd = w2.alloc (.cells (madeCells #[.int .i64 0] no) 2) := ⟨_, rfl⟩
  rw [← hwd]
  have hb2 : Below w2.heap.size w2 wd := by rw [hwd]; exact below0 _ _
  have HG0 : Hid (OwnI w2.heap.size wd (some ⟨w2.heap.size, 0, none⟩) no (fun _ => 0)) := by
    rw [hwd]
    obtain ⟨h1, h2, h3, h4⟩ := rowTo_start w2 no (fun _ => 0) 2
    exact fun j hj => ⟨w2.heap.size, rfl, Nat.le_refl _, h2, by rw [h4 j hj]; simp, h3 j⟩
  have zG : w2.heap.size < wd.heap.size := by rw [hwd]; simp
  have HB2 : Hid (Below w.heap.size w wd) := B2.trans (hb2.mono B2.size)
  have zw2 := B2.size
  clear hwd hb2 B2 hmk
  go_wp2_with fail
  refine (byCost_any g o no c (csF V) _ n3i n1 (Nat.lt_of_lt_of_le hg HB2.out.size) (fun i hi => (HB2.out.cell (p := ⟨g, o + i * 5 + 2, none⟩) hg).trans (HC.out i hi))).mono ?_
  rintro e w3 ⟨b, kk, T, rfl, hI, hD, zb, h3⟩
  have HI : Hid (InsB (csF V) no no T) := hI
  have HD : Hid (DatT w3 b no T) := hD
  have HG3 : Hid (OwnI w2.heap.size w3 (some ⟨w2.heap.size, 0, none⟩) no (gvF no V O ld T 0)) := own_congrM (HG0.out.below h3) (fun i _ => rfl)
  have HB3 : Hid (Below w.heap.size w w3) := HB2.out.trans (h3.mono HB2.out.size)
  have z3 : w2.heap.size < w3.heap.size := Nat.lt_of_lt_of_le zG h3.size
  have nbG : b ≠ w2.heap.size := by omega
  clear hI hD h3 HG0 HB2 HC
  have HL0 : Hid (lfV L (dsF T (cpF V O) no 0) = L) := by show _ = _; rw [ds_none]; unfold lfV; omega
  go_wp2_with fail
  go_loopw [11, 46] (fun v i wr => ∃ k : Nat, k ≤ no ∧ i = .int .i64 k ∧ v = .int .i64 (lfV L (dsF T (cpF V O) no k)) ∧ Hid (OwnI w2.heap.size wr (some ⟨w2.heap.size, 0, none⟩) no (gvF no V O ld T k)) ∧ Hid (DatT wr b no T) ∧ w2.heap.size < wr.heap.size ∧ Hid (Below w.heap.size w wr)) (fun _ i _ => no - (intOf i).toNat)
  case atStart => exact ⟨0, Nat.zero_le _, rfl, by rw [HL0.out], HG3.out, HD.out, z3, HB3.out⟩
  case round =>
    clear HG3 HD z3 HB3 HL0 hL
    obtain ⟨k, hk, rfl, rfl, HG, HD, zr, HBw⟩ := hrel
    have zW := HBw.out.size
    by_cases h1 : k < no
    · have k1 : (k : Int) < (no : Int) := by omega
      have dk := HD.out.2.2 k h1
      have zbw := HD.out.1
      have hT := HI.out.2.1 k h1
      have HST : Hid (dsF T (cpF V O) no (k + 1) = dsF T (cpF V O) no k + cpF V O (T k)) := ds_step HI.out h1
      have HBE : Hid (dsF T (cpF V O) no k = befF (csF V) (cpF V O) no (csF V (T k)) (T k)) := ds_bef HI.out h1
      have HGO : Hid (∀ i, gvF no V O ld T (k + 1) i = if i = T k then outV no V O ld (T k) else gvF no V O ld T k i) := fun i => gv_on
      have HGF : Hid (O (T k) = false → ∀ i, gvF no V O ld T (k + 1) i = gvF no V O ld T k i) := fun h i => gv_off h
      have HOU : Hid (outV no V O ld (T k) = lsF V O (T k) + min (lfV L (dsF T (cpF V O) no k)) (cpF V O (T k))) := by show _ = _; rw [HLD.out, HBE.out]; rfl
      have lfb : 0 ≤ lfV L (dsF T (cpF V O) no k) ∧ lfV L (dsF T (cpF V O) no k) ≤ 300000 := by
        have hd : 0 ≤ dsF T (cpF V O) no k := (sum_in (M := 100000) (fun j hj => by have := (ls_in (O := O) HPL.out j hj).2.2.1; split <;> omega)).1
        unfold lfV; omega
      have HTK : Hid (lfV L (dsF T (cpF V O) no k) - min (lfV L (dsF T (cpF V O) no k)) (cpF V O (T k)) = lfV L (dsF T (cpF V O) no (k + 1))) := by
        show _ = _
        rw [HST.out]
        exact lf_take (ls_in HPL.out (T k) hT).2.2.1.1
      have hTi : (T k : Int) < (no : Int) := by omega
      obtain ⟨g2, o2, e2, hg2, d0⟩ := HO.out (T k) hT
      have d1 := (HBw.out.cell (p := ⟨g2, o2 + T k, none⟩) hg2).trans d0
      have zg2 : g2 < _ := Nat.lt_of_lt_of_le hg2 HBw.out.size
      obtain ⟨lv, hlv⟩ : ∃ z, lfV L (dsF T (cpF V O) no k) = z := ⟨_, rfl⟩
      rw [hlv] at HOU lfb HTK ⊢
      subst e2
      clear hlv d0
      cases ho : O (T k)
      · have HGZ : Hid (OwnI w2.heap.size _ (some ⟨w2.heap.size, 0, none⟩) no (gvF no V O ld T (k + 1))) := own_congrM HG.out (fun i _ => (HGF.out ho i).symm)
        have HLZ : Hid (lv = lfV L (dsF T (cpF V O) no (k + 1))) := by
          show _ = _
          rw [← HTK.out]
          have : cpF V O (T k) = 0 := by unfold cpF; rw [ho]; rfl
          rw [this]; omega
        rw [ho] at d1
        go_wp2
        go_roundw
        case rel => exact ⟨k + 1, by omega, by go_num, by rw [HLZ.out], HGZ.out, HD.out, zr, HBw.out⟩
        case measure => first | (simp [intOf]; done) | (simp [intOf]; omega)
      · rw [ho] at d1
        obtain ⟨g', o', e', hg', c0, c1, c2, c3, c4⟩ := HR.out (T k) hT
        cases e'
        replace c0 := (HBw.out.cell (p := ⟨g, o + T k * 5, none⟩) hg).trans c0
        replace c1 := (HBw.out.cell (p := ⟨g, o + T k * 5 + 1, none⟩) hg).trans c1
        replace c2 := (HBw.out.cell (p := ⟨g, o + T k * 5 + 2, none⟩) hg).trans c2
        replace c3 := (HBw.out.cell (p := ⟨g, o + T k * 5 + 3, none⟩) hg).trans c3
        replace c4 := (HBw.out.cell (p := ⟨g, o + T k * 5 + 4, none⟩) hg).trans c4
        obtain ⟨pb1, pb2, -⟩ := pl_yes (HPL.out (T k) hT)
        have HLS : Hid (lsF V O (T k) = (V (T k)).1) := by show _ = _; unfold lsF; rw [ho]; rfl
        have HCP : Hid (cpF V O (T k) = (V (T k)).2.1 - (V (T k)).1) := by show _ = _; unfold cpF; rw [ho]; rfl
        rw [HCP.out] at HOU HTK
        rw [HLS.out] at HOU
        obtain ⟨⟨a, b', d, x, y⟩, hV⟩ : ∃ z, V (T k) = z := ⟨_, rfl⟩
        rw [hV] at c0 c1 c2 c3 c4 HOU HTK pb1 pb2
        simp only at c0 c1 c2 c3 c4 HOU HTK pb1 pb2
        have zg : g < _ := Nat.lt_of_lt_of_le hg HBw.out.size
        obtain ⟨mv, hmv⟩ : ∃ z, min lv (b' - a) = z := ⟨_, rfl⟩
        have hmin : (if b' - a < lv then b' - a else lv) = mv := by rw [← hmv]; split <;> omega
        have m0 : 0 ≤ mv ∧ mv ≤ 100000 ∧ mv ≤ lv := by omega
        rw [hmv] at HOU HTK
        obtain ⟨b9, e9, -, -, cG, fG⟩ := HG.out (T k) hT
        cases e9
        obtain ⟨ti, hti⟩ : ∃ z, T k = z := ⟨_, rfl⟩
        rw [hti] at dk hT hTi d1 c0 c1 c2 c3 c4 HGO HOU cG fG
        clear hV hmv hti HLS HCP HGF HST HBE
        go_upto_region 12 with fail
        rename World => wq
        obtain ⟨wa, hwa⟩ : ∃ z, z = wq.alloc (.cells #[.int .i64 a, .int .i64 b', .int .i64 d, .int .i64 x, .int .i64 y] 55) := ⟨_, rfl⟩
        rw [← hwa]
        have hb : Below wq.heap.size wq wa := by rw [hwa]; exact below0 _ _
        have v0 : wa.cell? ⟨wq.heap.size, 0, none⟩ = some (.int .i64 a) := by rw [hwa]; simp [go_sem]
        have v1 : wa.cell? ⟨wq.heap.size, 1, none⟩ = some (.int .i64 b') := by rw [hwa]; simp [go_sem]
        have za : wq.heap.size < wa.heap.size := by rw [hwa]; simp
        replace cG := (hb.cell (p := ⟨w2.heap.size, ti, none⟩) zr).trans cG
        replace fG := (hb.frozen (p := ⟨w2.heap.size, ti, none⟩) zr).trans fG
        have zra : w2.heap.size < wa.heap.size := by omega
        have HGA := own_setM (F := gvF no V O ld T (k + 1)) (q := ti) (v := a + mv) (HG.out.below hb) (fun i _ => by rw [HGO.out, HOU.out])
        have HGN : Hid (OwnI w2.heap.size (wa.setCell ⟨w2.heap.size, ti, none⟩ (.int .i64 (a + mv))) (some ⟨w2.heap.size, 0, none⟩) no (gvF no V O ld T (k + 1))) := HGA
        have HDN : Hid (DatT (wa.setCell ⟨w2.heap.size, ti, none⟩ (.int .i64 (a + mv))) b no T) := (HD.out.drew hb).set nbG
        have HBN : Hid (Below w.heap.size w (wa.setCell ⟨w2.heap.size, ti, none⟩ (.int .i64 (a + mv)))) := set_belowM (HBw.out.trans (hb.mono zW)) zw2 (by omega)
        clear hwa hb c0 c1 c2 c3 c4 HGA HG HD HBw dk
        go_wp2
        go_roundw
        case rel => exact ⟨k + 1, by omega, by go_num, by rw [← HTK.out], HGN.out, HDN.out, by simpa using zra, HBN.out⟩
        case measure => first | (simp [intOf]; done) | (simp [intOf]; omega)
    · obtain rfl : k = no := by omega
      have HGE : Hid (OwnI w.heap.size _ (some ⟨w2.heap.size, 0, none⟩) k (outV k V O ld)) := (own_congrM HG.out (fun i hi => by unfold gvF; rw [dn_all HI.out hi]; rfl)).mono zw2
      go_wp2
      refine bodyPost_ret (v := .tuple #[.slice (some ⟨w2.heap.size, 0, none⟩) k k, .bool true]) (by simp [results, Try.results12, go_sem]) rfl ?_
      rw [me_on HME.out, HME.out]
      exact ⟨_, _, rfl, HGE.out, HBw.out⟩
end Go.Proofs.Ytdlbniihgppodaa
