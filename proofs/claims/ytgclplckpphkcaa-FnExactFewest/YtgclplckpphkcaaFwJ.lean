/-
What is proved: the fewest valves, as the program works them out.
-/
import Derived.Test.YtgclplckpphkcaaFwI
import Derived.Test.YtgclplckpphkcaaCuI
namespace Go.Proofs.Ytgclplckpphkcaa
set_option maxRecDepth 40000
open Go.ChangeShapes Go.WideShapes Go.ChangeAt Go.RowKit
set_option linter.unusedVariables false
set_option linter.unusedSimpArgs false

theorem cut_up (p : Int) (n : Nat) (D : Nat → Int × Int) (m : Nat) (S : Nat → Int) (x : Int) (w : World) (t : Option Addr) (h : RowI w t n (fun i => (i : Int))) : RowI w t n (nthI (upL 0 n)) := h.congr fun j hj => (upL_nth n hj).symm
set_option maxRecDepth 20000 in
set_option maxHeartbeats 8000000 in
theorem implFewest_any (p : Int) (s : Option Addr) (n c : Nat) (D : Nat → Int × Int) (t : Option Addr) (m d : Nat) (S : Nat → Int) (x : Int) (w : World) (hn : (n : Int) ≤ 1048576) (hm : (m : Int) ≤ 1048576) (HD : Hid (RowDuct w s n D)) (HS : Hid (RowI w t m S)) :
    Calls Try.prog 9 #[.agg #[.int .i64 p, .slice s n c, .slice t m d], .int .i64 x] w fun e w' => FwPost p n D m S x w e w' := by
  go_enter Try.func9, Try.ntmps9
  go_upto_region 1 with fail
  obtain ⟨wd, hwd⟩ : ∃ wd, wd = w.alloc (.cells #[.int .i64 p, .slice s n c, .slice t m d] 31) := ⟨_, rfl⟩
  rw [← hwd]
  have B0 : Below w.heap.size w wd := by rw [hwd]; exact below0 _ _
  have HBd : Hid (Below w.heap.size w wd) := B0
  obtain ⟨q, hq⟩ : ∃ q, q = w.heap.size := ⟨_, rfl⟩
  have HNt : Hid (wd.cell? ⟨q, 0, none⟩ = some (.int .i64 p) ∧ wd.cell? ⟨q, 1, none⟩ = some (.slice s n c) ∧ wd.cell? ⟨q, 2, none⟩ = some (.slice t m d) ∧ q < wd.heap.size) := by
    rw [hwd, hq]
    exact ⟨by simp [go_sem], by simp [go_sem], by simp [go_sem], by simp⟩
  have HDd : Hid (RowDuct wd s n D) := HD.out.below B0
  have HSd : Hid (RowI wd t m S) := HS.out.below B0
  try rw [← hq]
  clear hwd B0 hq
  have B1 : Hid (Below wd.heap.size wd wd) := Below.refl _ _
  have z3 : q < wd.heap.size := Nat.lt_of_lt_of_le HNt.out.2.2.2 B1.out.size
  have z0 := (B1.out.cell (p := ⟨q, 0, none⟩) HNt.out.2.2.2).trans HNt.out.1
  have z1 := (B1.out.cell (p := ⟨q, 1, none⟩) HNt.out.2.2.2).trans HNt.out.2.1
  have z2 := (B1.out.cell (p := ⟨q, 2, none⟩) HNt.out.2.2.2).trans HNt.out.2.2.1
  go_wp2_with fail
  refine (valves_any p s n c D t m d S _ hn).mono ?_
  rintro e w1 ⟨ga, rfl, O1, h1⟩
  have HW1 : Hid (Below wd.heap.size wd w1) := h1
  have HB1 : Hid (Below w.heap.size w w1) := HBd.out.trans (h1.mono HBd.out.size)
  have HA1 : Hid (OwnI w.heap.size w1 (some ⟨ga, 0, none⟩) n (fun i => (i : Int))) := O1.mono HBd.out.size
  clear h1 O1 z0 z1 z2 z3 B1
  have z3 : q < w1.heap.size := Nat.lt_of_lt_of_le HNt.out.2.2.2 HW1.out.size
  have z0 := (HW1.out.cell (p := ⟨q, 0, none⟩) HNt.out.2.2.2).trans HNt.out.1
  have z1 := (HW1.out.cell (p := ⟨q, 1, none⟩) HNt.out.2.2.2).trans HNt.out.2.1
  have z2 := (HW1.out.cell (p := ⟨q, 2, none⟩) HNt.out.2.2.2).trans HNt.out.2.2.1
  by_cases h14 : 14 < n
  case pos =>
    have HFB : Hid (fewB p n D m S x = false) := few_many h14
    have h14i : (14 : Int) < (n : Int) := by omega
    go_wp2
    refine bodyPost_ret (v := .tuple #[.slice none 0 0, .bool false]) (by simp [results, Try.results9, go_sem]) rfl ?_
    exact ⟨_, 0, [], (by rw [HFB.out]; rfl), fun j hj => absurd hj (Nat.not_lt_zero _), fw_no HFB.out, HB1.out⟩
  have h14i : ¬ (14 : Int) < (n : Int) := by omega
  have n14 : n ≤ 14 := by omega
  have HDx : Hid (RowDuct w1 s n D) := HDd.out.below HW1.out
  have HSx : Hid (RowI w1 t m S) := HSd.out.below HW1.out
  have HAx : Hid (RowI w1 (some ⟨ga, 0, none⟩) n (nthI (upL 0 n))) := cut_up p n D m S x w1 _ HA1.out.row
  obtain ⟨cb, hcb⟩ : ∃ cb, cutB p n D m S n (nthI (upL 0 n)) x = cb := ⟨_, rfl⟩
  have HCB : Hid (fewB p n D m S x = cb) := by show _ = _; rw [few_is n14]; unfold cutL; rw [upL_len]; exact hcb
  have HCC : Hid (cutL p n D m S x (upL 0 n) = cb) := by show _ = _; unfold cutL; rw [upL_len]; exact hcb
  go_wp2_with fail
  refine (implCutOff_any p s n c D t m d S (some ⟨ga, 0, none⟩) n n (nthI (upL 0 n)) x _ (by omega) hm (by omega) HDx HSx HAx).mono ?_
  rintro e w2 ⟨rfl, h2⟩
  rw [hcb]
  have HW2 : Hid (Below wd.heap.size wd w2) := HW1.out.trans (h2.mono HW1.out.size)
  have HB2 : Hid (Below w.heap.size w w2) := HBd.out.trans (HW2.out.mono HBd.out.size)
  have HA2 : Hid (OwnI w.heap.size w2 (some ⟨ga, 0, none⟩) n (fun i => (i : Int))) := HA1.out.below h2
  clear h2 hcb z0 z1 z2 z3 HDx HSx HAx HW1 HB1 HA1
  cases cb
  case false =>
    have HFB : Hid (fewB p n D m S x = false) := HCB.out
    go_wp2
    refine bodyPost_ret (v := .tuple #[.slice none 0 0, .bool false]) (by simp [results, Try.results9, go_sem]) rfl ?_
    exact ⟨_, 0, [], (by rw [HFB.out]; rfl), fun j hj => absurd hj (Nat.not_lt_zero _), fw_no HFB.out, HB2.out⟩
  case true =>
  obtain ⟨M, hM⟩ : ∃ M : Nat, 2 ^ n = M := ⟨_, rfl⟩
  have hw := wpowX n n14
  rw [hM] at hw
  have hM1 : M ≤ 16384 := by rw [← hM]; exact Nat.pow_le_pow_right (by decide) n14
  have HM : Hid (2 ^ n = M) := hM
  clear hM
  go_upto_region 6 with fail
  try rw [hw]
  clear hw
  go_loopw [7, 26] (fun v i wx => ∃ (k ml : Nat) (L : List Int) (tb : Option Addr) (cv : Nat), k ≤ M ∧ i = .int .i64 k ∧ v = .slice tb ml cv ∧ Hid (L.length = ml) ∧ Hid (BesI (cutL p n D m S x) n k L) ∧ Hid (OwnI w.heap.size wx tb ml (nthI L)) ∧ Hid (Below w2.heap.size w2 wx)) (fun _ i _ => M - (intOf i).toNat)
  case atStart => exact ⟨0, n, upL 0 n, _, _, by omega, rfl, rfl, upL_len 0 n, bes_start HCC.out, HA2.out.congr (fun j hj => (upL_nth n hj).symm), Below.refl _ _⟩
  case round =>
    obtain ⟨k, ml, L, tb, cv, hk, rfl, rfl, HML, HBE, HO, HY⟩ := hrel
    rename World => wx
    have HWx : Hid (Below wd.heap.size wd wx) := HW2.out.trans (HY.out.mono HW2.out.size)
    by_cases h3 : k < M
    case neg =>
      obtain rfl : k = M := by omega
      have HBx : Hid (Below w.heap.size w wx) := HB2.out.trans (HY.out.mono HB2.out.size)
      have HFW : Hid (FwR p n D m S x L) := fw_yes HCB.out (bes_end (by rw [HM.out]; exact HBE.out))
      go_wp2
      refine bodyPost_ret (v := .tuple #[.slice tb ml cv, .bool true]) (by simp [results, Try.results9, go_sem]) rfl ?_
      exact ⟨tb, cv, L, (by rw [HCB.out, HML.out]), (by rw [HML.out]; exact HO.out), HFW.out, HBx.out⟩
    case pos =>
      have k1 : (k : Int) < (M : Int) := by omega
      have HAx : Hid (RowI wx (some ⟨ga, 0, none⟩) n (fun i => (i : Int))) := HA2.out.row.below HY.out
      have hml : ml ≤ 14 := by
        rw [← HML.out]
        by_cases q_ : L = []
        · rw [q_]; simp
        · have := rsl_len L 0 HBE.out.1 q_; omega
      go_wp2_with fail
      refine (chosen_any ga n n k _ n14 (by omega) HAx).mono ?_
      rintro e w3 ⟨v3, rfl, O3, h3b⟩
      obtain ⟨Lk, hLk⟩ : ∃ Lk, bsL k n = Lk := ⟨_, rfl⟩
      rw [hLk] at O3
      obtain ⟨s3, c3, rfl, o3⟩ := O3.own
      obtain ⟨m3, hm3⟩ : ∃ m3, Lk.length = m3 := ⟨_, rfl⟩
      have h314 : m3 ≤ 14 := by rw [← hm3, ← hLk]; have := bs_len k n; omega
      have HM3 : Hid (Lk.length = m3) := hm3
      have HLK : Hid (bsL k n = Lk) := hLk
      rw [hm3] at o3
      rw [hm3]
      have HO3 : Hid (OwnI wx.heap.size w3 s3 m3 (nthI Lk)) := o3
      have HY3 : Hid (Below w2.heap.size w2 w3) := HY.out.trans (h3b.mono HY.out.size)
      have HOL : Hid (OwnI w.heap.size w3 tb ml (nthI L)) := HO.out.below h3b
      have HXW : Hid (w.heap.size ≤ wx.heap.size) := Nat.le_trans HB2.out.size HY.out.size
      clear O3 o3 h3b hm3 hLk HO HAx
      have HCA : Hid (Calls Try.prog 26 #[.slice s3 m3 c3, .slice tb ml cv] w3 fun e w' => e = .returned (.bool (caM Lk L)) ∧ w' = w3) := by
        have q_ := comesAheadX s3 tb c3 cv Lk L w3 (by rw [HM3.out]; omega) (by rw [HML.out]; omega) (by rw [HM3.out]; exact HO3.out.row) (by rw [HML.out]; exact HOL.out.row)
        rw [HM3.out, HML.out] at q_
        exact q_
      go_wp2_with fail
      refine HCA.out.mono ?_
      rintro e w3 ⟨rfl, rfl⟩
      rename World => w3
      cases qc : caM Lk L
      case false =>
        have HB2' : Hid (BesI (cutL p n D m S x) n (k + 1) L) := bes_no HBE.out (fun q_ => by rw [HLK.out, qc] at q_; cases q_)
        go_wp2
        go_roundw
        case rel => exact ⟨k + 1, ml, L, tb, cv, by omega, by go_num, rfl, HML, HB2', HOL, HY3⟩
        case measure => first | (simp [intOf]; done) | (simp [intOf]; omega)
      case true =>
        have HW3 : Hid (Below wd.heap.size wd w3) := HW2.out.trans (HY3.out.mono HW2.out.size)
        have z3 : q < w3.heap.size := Nat.lt_of_lt_of_le HNt.out.2.2.2 HW3.out.size
        have z0 := (HW3.out.cell (p := ⟨q, 0, none⟩) HNt.out.2.2.2).trans HNt.out.1
        have z1 := (HW3.out.cell (p := ⟨q, 1, none⟩) HNt.out.2.2.2).trans HNt.out.2.1
        have z2 := (HW3.out.cell (p := ⟨q, 2, none⟩) HNt.out.2.2.2).trans HNt.out.2.2.1
        have HD3 : Hid (RowDuct w3 s n D) := HDd.out.below HW3.out
        have HS3 : Hid (RowI w3 t m S) := HSd.out.below HW3.out
        obtain ⟨cu, hcu⟩ : ∃ cu, cutB p n D m S m3 (nthI Lk) x = cu := ⟨_, rfl⟩
        have HCU : Hid (cutL p n D m S x (bsL k n) = cu) := by show _ = _; rw [HLK.out]; unfold cutL; rw [HM3.out]; exact hcu
        go_wp2_with fail
        refine (implCutOff_any p s n c D t m d S s3 m3 c3 (nthI Lk) x _ (by omega) hm (by omega) HD3 HS3 HO3.out.row).mono ?_
        rintro e w4 ⟨rfl, h4⟩
        rw [hcu]
        have HY4 : Hid (Below w2.heap.size w2 w4) := HY3.out.trans (h4.mono HY3.out.size)
        cases cu
        case false =>
          have HB2' : Hid (BesI (cutL p n D m S x) n (k + 1) L) := bes_no HBE.out (fun _ => HCU.out)
          have HO4 : Hid (OwnI w.heap.size w4 tb ml (nthI L)) := HOL.out.below h4
          clear h4 hcu z0 z1 z2 z3 qc
          go_wp2
          go_roundw
          case rel => exact ⟨k + 1, ml, L, tb, cv, by omega, by go_num, rfl, HML, HB2', HO4, HY4⟩
          case measure => first | (simp [intOf]; done) | (simp [intOf]; omega)
        case true =>
          have HB2' : Hid (BesI (cutL p n D m S x) n (k + 1) Lk) := by
            have q_ := bes_yes HBE.out (by rw [HLK.out]; exact qc) HCU.out
            rw [HLK.out] at q_
            exact q_
          have HO4 : Hid (OwnI w.heap.size w4 s3 m3 (nthI Lk)) := (HO3.out.below h4).mono HXW.out
          clear h4 hcu z0 z1 z2 z3 qc
          go_wp2
          go_roundw
          case rel => exact ⟨k + 1, m3, Lk, s3, c3, by omega, by go_num, rfl, HM3, HB2', HO4, HY4⟩
          case measure => first | (simp [intOf]; done) | (simp [intOf]; omega)
end Go.Proofs.Ytgclplckpphkcaa
