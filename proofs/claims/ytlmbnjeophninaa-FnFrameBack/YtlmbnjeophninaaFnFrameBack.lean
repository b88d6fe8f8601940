/-
What is proved: FnFrameBack: a frame that is drawn from any code is written as the specification writes it and read back; with one bit of its bytes turned it is not read; no condition.
-/
import Derived.Test.YtlmbnjeophninaaFb
import Derived.Test.YtlmbnjeophninaaFrX
import Derived.Test.YtlmbnjeophninaaRfJ
import Derived.Test.YtlmbnjeophninaaBlk
import Derived.Test.YtlmbnjeophninaaOpen8
import Derived.Deep.RegionHeldLaw
import Derived.BigQuiet
import Derived.Laws.BitsAllLaws
namespace Go.Proofs.Ytlmbnjeophninaa
set_option maxRecDepth 40000
open Go.ChangeShapes Go.WideShapes Go.ChangeAt Go.RowKit
set_option linter.unusedVariables false
set_option linter.unusedSimpArgs false

theorem pow8 {k : Nat} (hk : k < 8) : (2 : Int) ^ k % 256 = ((2 ^ k : Nat) : Int) := by
  rcases (by omega : k = 0 ∨ k = 1 ∨ k = 2 ∨ k = 3 ∨ k = 4 ∨ k = 5 ∨ k = 6 ∨ k = 7) with rfl | rfl | rfl | rfl | rfl | rfl | rfl | rfl <;> rfl
theorem xor_flip {l : List Int} {N i k : Nat} {x : Int} (hb : ∀ j, j < N → 0 ≤ nthI l j ∧ nthI l j < 256) (hi : i < N) (hk : k < 8) (hx : nthI l i = x) : bits BinOp.xor IntKind.u8 x (2 ^ k % 256) = flipV (nthI l) i k i := by
  have h := hb i hi
  have p := pow_lt8 hk
  rw [hx] at h
  rw [flipV_at, hx, pow8 hk]
  generalize 2 ^ k = P at p ⊢
  rw [u8_xor x _ h.1 h.2 (by omega) (by omega), Int.toNat_natCast]
theorem row_flip {base g i k N : Nat} {w : World} {V : Nat → Int} (h : OwnY base w (some ⟨g, 0, none⟩) N V) : RowY (w.setCell ⟨g, i, none⟩ (.int .u8 (flipV V i k i))) (some ⟨g, 0, none⟩) N (flipV V i k) := fun j hj => by
  obtain ⟨b, e, _, hz, hc, _⟩ := h j hj
  cases e
  refine ⟨g, 0, rfl, by simpa using hz, ?_⟩
  rw [Nat.zero_add]
  by_cases q : j = i
  · subst q
    simp [go_sem, hc]
  · rw [flipV_ne q]
    have q2 : ¬ i = j := fun h => q h.symm
    simp [go_sem, hc, q, q2]
set_option maxHeartbeats 400000 in
theorem fback_far (w : World) (s : Option Addr) (n c : Nat) (h : (1048576 : Int) < n) :
    Calls Try.prog 3 #[.slice s n c] w fun e w' => e = .returned (.bool true) ∧ Below w.heap.size w w' := by
  go_enter Try.func3, Try.ntmps3
  go_wp2_with fail
  refine (big_yes _ _ _ _ h).mono ?_
  rintro e w1 ⟨rfl, rfl⟩
  go_wp2
  go_ret
  exact ⟨rfl, Below.refl _ _⟩
set_option maxRecDepth 20000 in
set_option maxHeartbeats 8000000 in
theorem fback_near (w : World) (s : Option Addr) (n c : Nat) (hn : (n : Int) ≤ 1048576) (HC : Hid (Code8 w s n)) :
    Calls Try.prog 3 #[.slice s n c] w fun e w' => e = .returned (.bool true) ∧ Below w.heap.size w w' := by
  go_enter Try.func3, Try.ntmps3
  go_wp2_with fail
  refine (big_no _ _ _ _ hn).mono ?_
  rintro e w1 ⟨rfl, rfl⟩
  rename World => w
  go_wp2_with fail
  refine (drawWriteFrame_any HC).mono ?_
  rintro e w2 h2
  unfold DwPost at h2
  obtain ⟨t, q, tt, m, cc, V, rfl, hm, R2, B2⟩ := h2
  have HB : Hid (Below w.heap.size w w2) := B2
  have HV : Hid (RowI w2 tt m V) := R2
  clear R2 B2 HC
  go_upto_region 4 with fail
  obtain ⟨wv1, hw_⟩ : ∃ x_, x_ = w2.alloc (.cells #[.int .i64 t, .int .i64 q, .slice tt m cc] 26) := ⟨_, rfl⟩
  rw [← hw_]
  have HF : Hid (Blk wv1 w2.heap.size [.int .i64 t, .int .i64 q, .slice tt m cc]) := by show Blk _ _ _; rw [hw_]; exact Blk.new w2 #[.int .i64 t, .int .i64 q, .slice tt m cc] _
  have bl_ : Below w2.heap.size w2 wv1 := by rw [hw_]; exact below0 _ _
  clear hw_
  replace HV : Hid (RowI wv1 tt m V) := HV.out.below bl_
  replace HB : Hid (Below w.heap.size w wv1) := HB.out.trans (bl_.mono HB.out.size)
  obtain ⟨gF, hg_⟩ : ∃ g, g = w2.heap.size := ⟨_, rfl⟩
  rw [← hg_] at HF ⊢
  clear hg_ bl_
  obtain ⟨z_F, f_F, c_F⟩ := HF.out
  have Fc0 : wv1.cell? ⟨gF, 0, none⟩ = some (.int .i64 t) := c_F 0 _ rfl
  have Fc1 : wv1.cell? ⟨gF, 1, none⟩ = some (.int .i64 q) := c_F 1 _ rfl
  have Fc2 : wv1.cell? ⟨gF, 2, none⟩ = some (.slice tt m cc) := c_F 2 _ rfl
  clear f_F c_F
  go_wp2_with fail
  refine (specWriteC_any t q tt m cc V _ HV).mono ?_
  rintro e wv2 ⟨sa, ca, rfl, OA, -, SA, h_⟩
  replace HV : Hid (RowI wv2 tt m V) := HV.out.below h_
  replace HF : Hid (Blk wv2 gF [.int .i64 t, .int .i64 q, .slice tt m cc]) := HF.out.below h_
  replace HB : Hid (Below w.heap.size w wv2) := HB.out.trans (h_.mono HB.out.size)
  clear h_
  clear Fc0 Fc1 Fc2 z_F
  have HA : Hid (OwnY 0 wv2 sa (wrL t q m V).length (nthI (wrL t q m V))) := OA.mono (Nat.zero_le _)
  clear OA
  obtain ⟨z_F, f_F, c_F⟩ := HF.out
  have Fc0 : wv2.cell? ⟨gF, 0, none⟩ = some (.int .i64 t) := c_F 0 _ rfl
  have Fc1 : wv2.cell? ⟨gF, 1, none⟩ = some (.int .i64 q) := c_F 1 _ rfl
  have Fc2 : wv2.cell? ⟨gF, 2, none⟩ = some (.slice tt m cc) := c_F 2 _ rfl
  clear f_F c_F
  go_wp2_with fail
  refine (implWriteC_any t q tt m cc V _ (by omega) HV).mono ?_
  rintro e wv3 ⟨sb, cb, rfl, OB, hcb, SB, h_⟩
  replace HV : Hid (RowI wv3 tt m V) := HV.out.below h_
  replace HA : Hid (OwnY 0 wv3 sa (wrL t q m V).length (nthI (wrL t q m V))) := HA.out.below h_
  replace HF : Hid (Blk wv3 gF [.int .i64 t, .int .i64 q, .slice tt m cc]) := HF.out.below h_
  replace HB : Hid (Below w.heap.size w wv3) := HB.out.trans (h_.mono HB.out.size)
  clear h_
  clear Fc0 Fc1 Fc2 z_F
  have HO : Hid (OwnY 0 wv3 sb (wrL t q m V).length (nthI (wrL t q m V))) := OB.mono (Nat.zero_le _)
  clear OB
  have hS1 : (convert 22 9 (.slice sb (wrL t q m V).length cb)).run Try.prog wv3 = .ok (.string (strOfNums ((List.range (wrL t q m V).length).map (nthI (wrL t q m V))))) wv3 := str_bytes SB HO.out
  have hS2 : (convert 22 9 (.slice sa (wrL t q m V).length ca)).run Try.prog wv3 = .ok (.string (strOfNums ((List.range (wrL t q m V).length).map (nthI (wrL t q m V))))) wv3 := str_bytes SA HA.out
  generalize strOfNums ((List.range (wrL t q m V).length).map (nthI (wrL t q m V))) = SS at hS1 hS2
  cases k0 : frameB t q m V
  case false =>
    have HW : wrL t q m V = [] := by unfold wrL; simp [k0]
    rw [HW] at hS1 hS2 ⊢
    simp only [List.length_nil] at hS1 hS2 ⊢
    clear HW k0
    have BF := HB.out
    go_wp2
    go_ret
    exact ⟨rfl, (by repeat (first | with_reducible exact Below.refl _ _ | with_reducible exact BF | with_reducible refine Below.setCell ?_ (by first | omega | (simp; done) | (simp; omega)) _ | with_reducible refine bDrewN ?_ _ | with_reducible refine Below.drew ?_ | with_reducible refine Below.alloc ?_ (by first | omega | (simp; done) | (simp; omega)) _))⟩
  have HW : wrL t q m V = wholeL t q m V := by unfold wrL; simp [k0]
  have HK : Hid (frameB t q m V = true) := k0
  obtain ⟨l, hl⟩ : ∃ l, wrL t q m V = l := ⟨_, rfl⟩
  obtain ⟨N, hN⟩ : ∃ N, l.length = N := ⟨_, rfl⟩
  have HN : N = 7 + 2 * m := by rw [← hN, ← hl, HW]; unfold wholeL; rw [List.length_append, bodyL_len]; simp; omega
  have N1 : (N : Int) ≤ 49 := by omega
  have N2 : 7 ≤ (N : Int) := by omega
  have N3 : ((N : Int) == 0) = false := by simp; omega
  have HBy : Hid (∀ j, j < N → 0 ≤ nthI l j ∧ nthI l j < 256) := by show ∀ j, _; rw [HN, ← hl, HW]; exact whole_byt k0
  have HRd := whole_reads k0
  rw [← HW, hl, ← HN] at HRd
  obtain ⟨e0, e1, e2, e3, e4⟩ := HRd
  have HE4 : Hid (∀ j, j < m → rdU (nthI l) j = V j) := e4
  have HFl : Hid (∀ i k, i < N → k < 8 → faultV N (flipV (nthI l) i k) ≠ 0) := by
    show ∀ i k, _
    intro i k hi hk
    rw [HN] at hi ⊢
    rw [← hl, HW]
    exact whole_flips k0 hi hk
  rw [hl, hN] at hS1 hS2 HO HA hcb ⊢
  obtain ⟨gb, rfl⟩ : ∃ b, sb = some ⟨b, 0, none⟩ := by
    obtain ⟨b, e, _⟩ := HO.out 0 (by omega)
    exact ⟨b, e⟩
  clear k0 HW e4 SA SB HN hl
  go_wp2_with fail
  refine (implRead_cap gb 0 N cb (nthI l) _ (by omega) hcb HBy HO.out.row).mono ?_
  rintro e wv9 hR
  unfold RdPost at hR
  rw [e0, e1, e2, e3] at hR
  obtain ⟨sr, cr, rfl, OR, h_⟩ := hR
  clear hS1 hS2
  replace HV : Hid (RowI wv9 tt m V) := HV.out.below h_
  replace HA : Hid (OwnY 0 wv9 sa N (nthI l)) := HA.out.below h_
  replace HO : Hid (OwnY 0 wv9 (some ⟨gb, 0, none⟩) N (nthI l)) := HO.out.below h_
  replace HF : Hid (Blk wv9 gF [.int .i64 t, .int .i64 q, .slice tt m cc]) := HF.out.below h_
  replace HB : Hid (Below w.heap.size w wv9) := HB.out.trans (h_.mono HB.out.size)
  clear h_
  have HR : Hid (RowI wv9 sr m V) := show RowI _ _ _ _ from fun j hj => by rw [← HE4.out j hj]; exact OR.row j hj
  clear OR HE4 e0 e1 e2 e3
  go_upto_region 11 with fail
  obtain ⟨wv10, hw_⟩ : ∃ x_, x_ = wv9.alloc (.cells #[.int .i64 t, .int .i64 q, .slice sr m cr] 26) := ⟨_, rfl⟩
  rw [← hw_]
  have HG : Hid (Blk wv10 wv9.heap.size [.int .i64 t, .int .i64 q, .slice sr m cr]) := by show Blk _ _ _; rw [hw_]; exact Blk.new wv9 #[.int .i64 t, .int .i64 q, .slice sr m cr] _
  have bl_ : Below wv9.heap.size wv9 wv10 := by rw [hw_]; exact below0 _ _
  clear hw_
  replace HV : Hid (RowI wv10 tt m V) := HV.out.below bl_
  replace HA : Hid (OwnY 0 wv10 sa N (nthI l)) := HA.out.below bl_
  replace HO : Hid (OwnY 0 wv10 (some ⟨gb, 0, none⟩) N (nthI l)) := HO.out.below bl_
  replace HR : Hid (RowI wv10 sr m V) := HR.out.below bl_
  replace HF : Hid (Blk wv10 gF [.int .i64 t, .int .i64 q, .slice tt m cc]) := HF.out.below bl_
  replace HB : Hid (Below w.heap.size w wv10) := HB.out.trans (bl_.mono HB.out.size)
  obtain ⟨gG, hg_⟩ : ∃ g, g = wv9.heap.size := ⟨_, rfl⟩
  rw [← hg_] at HG ⊢
  clear hg_ bl_
  obtain ⟨z_F, f_F, c_F⟩ := HF.out
  have Fc0 : wv10.cell? ⟨gF, 0, none⟩ = some (.int .i64 t) := c_F 0 _ rfl
  have Fc1 : wv10.cell? ⟨gF, 1, none⟩ = some (.int .i64 q) := c_F 1 _ rfl
  have Fc2 : wv10.cell? ⟨gF, 2, none⟩ = some (.slice tt m cc) := c_F 2 _ rfl
  clear f_F c_F
  obtain ⟨z_G, f_G, c_G⟩ := HG.out
  have Gc0 : wv10.cell? ⟨gG, 0, none⟩ = some (.int .i64 t) := c_G 0 _ rfl
  have Gc1 : wv10.cell? ⟨gG, 1, none⟩ = some (.int .i64 q) := c_G 1 _ rfl
  have Gc2 : wv10.cell? ⟨gG, 2, none⟩ = some (.slice sr m cr) := c_G 2 _ rfl
  clear f_G c_G
  go_wp2_with fail
  refine (sameFrame_any t q sr tt m cr cc V _ (by omega) HR HV).mono ?_
  rintro e wv11 ⟨rfl, h_⟩
  replace HV : Hid (RowI wv11 tt m V) := HV.out.below h_
  replace HA : Hid (OwnY 0 wv11 sa N (nthI l)) := HA.out.below h_
  replace HO : Hid (OwnY 0 wv11 (some ⟨gb, 0, none⟩) N (nthI l)) := HO.out.below h_
  replace HR : Hid (RowI wv11 sr m V) := HR.out.below h_
  replace HF : Hid (Blk wv11 gF [.int .i64 t, .int .i64 q, .slice tt m cc]) := HF.out.below h_
  replace HG : Hid (Blk wv11 gG [.int .i64 t, .int .i64 q, .slice sr m cr]) := HG.out.below h_
  replace HB : Hid (Below w.heap.size w wv11) := HB.out.trans (h_.mono HB.out.size)
  clear h_
  clear Fc0 Fc1 Fc2 z_F Gc0 Gc1 Gc2 z_G
  clear HF HG HA HR HV
  go_wp2_with fail
  go_loopw [8] (fun i wx => ∃ (k : Nat), k ≤ N ∧ i = .int .i64 k ∧ Hid (Below wv11.heap.size wv11 wx)) (fun i _ => N - (intOf i).toNat)
  case atStart => exact ⟨0, Nat.zero_le _, rfl, Below.refl _ _⟩
  case round =>
    obtain ⟨i, hi, rfl, HX⟩ := hrel
    by_cases hlt : i < N
    case neg =>
      obtain rfl : i = N := by omega
      have hB9 : Below w.heap.size w wr := HB.out.trans (HX.out.mono HB.out.size)
      go_wp2
      go_ret
      exact ⟨rfl, hB9⟩
    have i1 : (i : Int) < (N : Int) := by omega
    rename World => wa
    go_wp2_with fail
    go_loopw [9] (fun v wx => ∃ (k : Nat), k ≤ 8 ∧ v = .int .i64 k ∧ Hid (Below wv11.heap.size wv11 wx)) (fun v _ => 8 - (intOf v).toNat)
    case atStart => exact ⟨0, by omega, rfl, HX⟩
    case round =>
      clear HX
      obtain ⟨k, hk, rfl, HX⟩ := hrel
      by_cases hkl : k < 8
      case neg =>
        obtain rfl : k = 8 := by omega
        go_wp2
        go_roundw
        case rel => exact ⟨i + 1, by omega, by go_num, HX⟩
        case measure => simp [intOf]; omega
      have k1 : (k : Int) < 8 := by omega
      rename World => wb
      have HO4 : Hid (OwnY 0 wb (some ⟨gb, 0, none⟩) N (nthI l)) := HO.out.below HX.out
      have hgb : gb < wb.heap.size := by obtain ⟨b, e, _, hz, _⟩ := HO4.out 0 (by omega); cases e; exact hz
      have hys : Hid (∀ (W : World), Below wb.heap.size wb W → ∀ j x, l[j]? = some x → W.cell? ⟨gb, j, none⟩ = some (.int .u8 x)) := by
        show ∀ W : World, _
        intro W hW j x hx
        have hj : j < N := by rw [← hN]; exact (List.getElem?_eq_some_iff.1 hx).1
        obtain ⟨b, e, _, hz, hc, _⟩ := (HO4.out.below hW) j hj
        cases e
        have : nthI l j = x := by unfold nthI; rw [List.getD_eq_getElem?_getD, hx]; rfl
        rw [hc, this]
      go_upto_region 20 with (refine list_bytes wb.heap.size _ [] l gb N cb _ _ (by rfl) (by rfl) (by rfl) (by rfl) hN (by omega) (madeY_none wb rfl (Nat.le_refl _)) (by simp) (by simp) (by omega) (hys.out _ (below0 _ _)) ?_; intro g5 k5 cap5 w5 M5 h5; have B5 : Below wb.heap.size wb w5 := Below.trans (below0 _ _) h5; clear h5)
      obtain ⟨rfl, O5⟩ := madeY_fin M5
      have c5 := madeY_cap M5
      rw [List.nil_append, hN] at O5 c5 ⊢
      have H5 : Hid (OwnY wb.heap.size w5 (some ⟨g5, 0, none⟩) N (nthI l)) := O5
      have HX5 : Hid (Below wv11.heap.size wv11 w5) := HX.out.trans (B5.mono HX.out.size)
      clear M5 O5 hys
      obtain ⟨g5', e5, hg5, hz5, d0, f0⟩ := H5.out i hlt
      cases e5
      obtain ⟨x, hx⟩ : ∃ x, nthI l i = x := ⟨_, rfl⟩
      have hxb := HBy.out i hlt
      rw [hx] at d0 hxb
      go_upto_region 21 with fail
      rw [xor_flip HBy.out hlt hkl hx]
      obtain ⟨w6, hw6⟩ : ∃ z, z = w5.setCell ⟨g5, i, none⟩ (.int .u8 (flipV (nthI l) i k i)) := ⟨_, rfl⟩
      rw [← hw6]
      have H6 : Hid (RowY w6 (some ⟨g5, 0, none⟩) N (flipV (nthI l) i k)) := by show RowY _ _ _ _; rw [hw6]; exact row_flip H5.out
      have b6 : Below wv11.heap.size w5 w6 := by rw [hw6]; exact (Beside.setCell g5 _ _ _).below (by have := HX.out.size; omega) (by have := HX5.out.size; omega)
      have HX6 : Hid (Below wv11.heap.size wv11 w6) := HX5.out.trans b6
      have hfl := HFl.out i k hlt hkl
      have HBf : Hid (∀ j, j < N → 0 ≤ flipV (nthI l) i k j ∧ flipV (nthI l) i k j < 256) := flip_byt hkl HBy.out hlt
      have y1 : rdN N (flipV (nthI l) i k) = 0 := by unfold rdN; rw [if_neg hfl]
      have y2 : rdT N (flipV (nthI l) i k) = 0 := by unfold rdT; rw [if_neg hfl]
      clear hw6 b6 HX5 H5 d0 f0 hxb hx hg5 hz5 B5 HO4 hgb
      go_wp2_with fail
      refine (implRead_cap g5 0 N cap5 (flipV (nthI l) i k) _ (by omega) c5 HBf H6.out).mono ?_
      rintro e w7 hR
      unfold RdPost at hR
      rw [y1, y2] at hR
      obtain ⟨sh, ch, rfl, -, b7⟩ := hR
      have HX7 : Hid (Below wv11.heap.size wv11 w7) := HX6.out.trans (b7.mono HX6.out.size)
      obtain ⟨ft, hft⟩ : ∃ z, faultV N (flipV (nthI l) i k) = z := ⟨_, rfl⟩
      obtain ⟨qq, hqq⟩ : ∃ z, rdQ N (flipV (nthI l) i k) = z := ⟨_, rfl⟩
      rw [hft] at hfl
      have hf0 : (ft == 0) = false := by simpa using hfl
      rw [hft, hqq]
      clear y1 y2 hft hqq b7 HX6 H6 HBf
      go_upto_region 22 with fail
      obtain ⟨w8, hw8⟩ : ∃ z, z = w7.alloc (.cells #[.int .i64 0, .int .i64 qq, .slice sh 0 ch] 26) := ⟨_, rfl⟩
      rw [← hw8]
      obtain ⟨gh, hgh⟩ : ∃ z, z = w7.heap.size := ⟨_, rfl⟩
      have HH : Hid (Blk w8 gh [.int .i64 0, .int .i64 qq, .slice sh 0 ch]) := by show Blk _ _ _; rw [hw8, hgh]; exact Blk.new w7 #[.int .i64 0, .int .i64 qq, .slice sh 0 ch] _
      have b8 : Below w7.heap.size w7 w8 := by rw [hw8]; exact below0 _ _
      have HX8 : Hid (Below wv11.heap.size wv11 w8) := HX7.out.trans (b8.mono HX7.out.size)
      rw [← hgh]
      clear hw8 hgh b8 HX7
      obtain ⟨zh, -, ch9⟩ := HH.out
      have h0 := ch9 0 _ rfl
      have h2 := ch9 2 _ rfl
      clear ch9
      go_wp2
      go_roundw
      case rel => exact ⟨k + 1, by omega, by go_num, HX8⟩
      case measure => simp [intOf]; omega
theorem fnFrameBack_walk (w : World) (s : Option Addr) (n c : Nat) (hn : n ≤ 9223372036854775807) (R : Bytes w s n) :
    Calls Try.prog 3 #[.slice s n c] w fun e w' => e = .returned (.bool true) ∧ Below w.heap.size w w' := by
  by_cases h : n ≤ 1048576
  · exact fback_near w s n c (by omega) (R.code h)
  · exact fback_far w s n c (by omega)

set_option maxRecDepth 100000 in
theorem fnFrameBack_lifted (os : Os) (started : os.Started) (H : Type) (enc : TypeId × Value → H) :
    ReturnsInHanded {} Try.checked os 3 .any (Rows.fnFrameBackSpec.pre6 enc Try.prog Try.f3 Rows.fnFrameBackRow.domain false) (Rows.fnFrameBackSpec.post enc Try.prog Try.f3 false true false false) := by
  refine returnsInHanded_of_change (C := Try.checked) own started (by kernel_rfl) Try.func3
    (ChangeSpec.witness6 (enc := enc) (C := Try.checked) false ⟨#[], #[.slice none 0 0], []⟩ 8 (by kernel_rfl) (by kernel_rfl) (by kernel_rfl) (by kernel_rfl)) ?_
  intro W base args ds gs before hval0 hW hcnd _
  have hval : ∀ (j : Nat) t v, Try.f3.params[j]? = some t → args[j]? = some v → Value.okWide Try.prog W .any base t v := hval0
  have hW' := hW
  obtain ⟨p, q, hA0, hV, rfl, hfz, hnd⟩ := hW
  have hA : DataW.TrodAll enc Try.prog W 0 (fun _ => true) true Try.f3.params.toList args.toList ds p := hA0
  rw [Try.params3] at hA hval
  obtain ⟨v0, vs0, d0, ds0, p0, q0, hargs, rfl, rfl, h0, r0⟩ := trodAll_cons hA
  obtain ⟨rfl, rfl, rfl⟩ := trodAll_nil r0
  obtain rfl : args = #[v0] := by cases args; simp_all
  obtain ⟨rfl, rfl⟩ := trodVars_none hV
  have k0 := h0
  have lt0 : ∀ x ∈ p0, x.block < W.heap.size := by obtain ⟨m, hm⟩ := k0; exact DataW.trod_lt m _ _ _ hm
  obtain ⟨s0, n0, c0, rfl, m0, R0⟩ := open_code Try.underlying22 Try.underlying5 (by kernel_rfl) (hval 0 22 v0 rfl rfl) h0
  clear hA0 hval0
  refine (fnFrameBack_walk W s0 n0 c0 m0 R0).mono fun e W' ⟨he, bel⟩ => ?_
  subst he
  exact ⟨_, rfl, _, _, _, [], _, [], hW', trodAll_mk1 (shut_bool Try.underlying4 _), (trodAll_cons_mk (Below.trod laidOut (by kernel_rfl) (of_decide_eq_true (by kernel_rfl)) k0 bel lt0) trodAll_mk0), rfl, bel.frame _, fun h => by cases h⟩

theorem fnFrameBack_holds : Rows.FnFrameBackSaid :=
  OpenClaim.holds_of_wide 3 Try.f3 rfl rfl rfl rfl rfl rfl rfl ⟨rfl, rfl, rfl, rfl, rfl⟩ rfl rfl rfl rfl rfl (by kernel_rfl) Try.func3 (by kernel_rfl)
    (of_decide_eq_true (by kernel_rfl)) (by unfold Func.isWrapper; first | (rw [if_pos (by decide +kernel)]; kernel_rfl) | (rw [if_neg (by decide +kernel)]; exact ⟨rfl, rfl⟩))
    (fun os started H enc _ => fnFrameBack_lifted os started H enc)
#print axioms fnFrameBack_holds
end Go.Proofs.Ytlmbnjeophninaa
