/-
What is proved: the fewest valves, as the specification says them.
-/
import Derived.Test.YtikcfpjfcpbfcaaFwSoz
namespace Go.Proofs.Ytikcfpjfcpbfcaa
set_option maxRecDepth 40000
open Go.ChangeShapes Go.WideShapes Go.ChangeAt Go.RowKit
set_option linter.unusedVariables false
set_option linter.unusedSimpArgs false

def FwPostL (p : Int) (n : Nat) (D : Nat → Int × Int) (m : Nat) (S : Nat → Int) (x : Int) (w : World) (e : Ending) (w' : World) : Prop := ∃ s c L, e = .returned (.tuple #[.slice s L.length c, .bool (fewB p n D m S x)]) ∧ OwL w.heap.size w' (.slice s L.length c) L ∧ FwR p n D m S x L ∧ Below w.heap.size w w'
set_option maxRecDepth 20000 in
set_option maxHeartbeats 8000000 in
theorem specFewestL_any (p : Int) (s : Option Addr) (n c : Nat) (D : Nat → Int × Int) (t : Option Addr) (m d : Nat) (S : Nat → Int) (x : Int) (w : World) (hn : (n : Int) ≤ 1048576) (hm : (m : Int) ≤ 1048576) (HD : Hid (RowDuct w s n D)) (HS : Hid (RowI w t m S)) :
    Calls Try.prog 31 #[.agg #[.int .i64 p, .slice s n c, .slice t m d], .int .i64 x] w fun e w' => FwPostL p n D m S x w e w' := by
  go_enter Try.func31, Try.ntmps31
  go_upto_region 1 with fail
  obtain ⟨wd, hwd⟩ : ∃ wd, wd = w.alloc (.cells #[.int .i64 p, .slice s n c, .slice t m d] 41) := ⟨_, rfl⟩
  rw [← hwd]
  have B0 : Below w.heap.size w wd := by rw [hwd]; exact below0 _ _
  have HBd : Hid (Below w.heap.size w wd) := B0
  obtain ⟨q, hq⟩ : ∃ q, q = w.heap.size := ⟨_, rfl⟩
  have HNt : Hid (wd.cell? ⟨q, 0, none⟩ = some (.int .i64 p) ∧ wd.cell? ⟨q, 1, none⟩ = some (.slice s n c) ∧ wd.cell? ⟨q, 2, none⟩ = some (.slice t m d) ∧ q < wd.heap.size) := by
    rw [hwd, hq]
    exact ⟨by simp [go_sem], by simp [go_sem], by simp [go_sem], by simp⟩
  have HDd : Hid (RowDuct wd s n D) := HD.out.below B0
  have HSd : Hid (RowI wd t m S) := HS.out.below B0
  try rw [← hq]
  clear hwd B0 hq
  have B1 : Hid (Below wd.heap.size wd wd) := Below.refl _ _
  have z3 : q < wd.heap.size := Nat.lt_of_lt_of_le HNt.out.2.2.2 B1.out.size
  have z0 := (B1.out.cell (p := ⟨q, 0, none⟩) HNt.out.2.2.2).trans HNt.out.1
  have z1 := (B1.out.cell (p := ⟨q, 1, none⟩) HNt.out.2.2.2).trans HNt.out.2.1
  have z2 := (B1.out.cell (p := ⟨q, 2, none⟩) HNt.out.2.2.2).trans HNt.out.2.2.1
  go_wp2_with fail
  refine (specNetOk_any p s n c D t m d S _ hn hm HDd HSd).mono ?_
  rintro e w1 ⟨rfl, h1⟩
  have HW1 : Hid (Below wd.heap.size wd w1) := h1
  have HB1 : Hid (Below w.heap.size w w1) := HBd.out.trans (h1.mono HBd.out.size)
  clear h1 z0 z1 z2 z3 B1
  have z3 : q < w1.heap.size := Nat.lt_of_lt_of_le HNt.out.2.2.2 HW1.out.size
  have z0 := (HW1.out.cell (p := ⟨q, 0, none⟩) HNt.out.2.2.2).trans HNt.out.1
  have z1 := (HW1.out.cell (p := ⟨q, 1, none⟩) HNt.out.2.2.2).trans HNt.out.2.1
  have z2 := (HW1.out.cell (p := ⟨q, 2, none⟩) HNt.out.2.2.2).trans HNt.out.2.2.1
  cases hnet : netB p n D m S
  case false =>
    have HFB : Hid (fewB p n D m S x = false) := few_net hnet
    clear hnet
    go_wp2
    refine bodyPost_ret (v := .tuple #[.slice (some ⟨w1.heap.size, 0, none⟩) 0 0, .bool false]) (by simp [results, Try.results31, go_sem]) rfl ?_
    exact ⟨_, 0, [], (by rw [HFB.out]; rfl), OwL.lit _ (by first | exact HB1.out.size | exact HB2.out.size), fw_no HFB.out, HB1.out.trans (show Below w.heap.size w1 _ from (below0 _ _).mono HB1.out.size)⟩
  case true =>
  clear hnet
  by_cases h14 : 14 < n
  case pos =>
    have HFB : Hid (fewB p n D m S x = false) := few_many h14
    have h14i : (14 : Int) < (n : Int) := by omega
    go_wp2
    refine bodyPost_ret (v := .tuple #[.slice (some ⟨w1.heap.size, 0, none⟩) 0 0, .bool false]) (by simp [results, Try.results31, go_sem]) rfl ?_
    exact ⟨_, 0, [], (by rw [HFB.out]; rfl), OwL.lit _ (by first | exact HB1.out.size | exact HB2.out.size), fw_no HFB.out, HB1.out.trans (show Below w.heap.size w1 _ from (below0 _ _).mono HB1.out.size)⟩
  have h14i : ¬ (14 : Int) < (n : Int) := by omega
  have n14 : n ≤ 14 := by omega
  go_upto_region 4 with fail
  obtain ⟨wl, hwl⟩ : ∃ z, z = w1.alloc (.cells #[] 2) := ⟨_, rfl⟩
  rw [← hwl]
  have bl : Below w1.heap.size w1 wl := by rw [hwl]; exact below0 _ _
  obtain ⟨lb, hlb⟩ : ∃ z, z = w1.heap.size := ⟨_, rfl⟩
  have HL0 : Hid (OwL wd.heap.size wl (.slice (some ⟨lb, 0, none⟩) 0 0) []) := by show OwL _ _ _ _; rw [hwl, hlb]; exact OwL.lit w1 HW1.out.size
  have HWl : Hid (Below wd.heap.size wd wl) := HW1.out.trans (bl.mono HW1.out.size)
  try rw [← hlb]
  clear hwl bl hlb z0 z1 z2 z3
  go_wp2_with fail
  go_loopw [6, 7] (fun v i wx => ∃ (k : Nat) (tv : Option Addr) (cv : Nat), k ≤ n ∧ i = .int .i64 k ∧ v = .slice tv k cv ∧ Hid (OwL wd.heap.size wx (.slice tv k cv) (upL 0 k)) ∧ Hid (Below wd.heap.size wd wx)) (fun _ i _ => n - (intOf i).toNat)
  case atStart => exact ⟨0, _, 0, by omega, rfl, rfl, HL0, HWl⟩
  case round =>
    clear HL0 HWl
    obtain ⟨k, tv, cv, hk, rfl, rfl, HL, HW⟩ := hrel
    rename World => wx
    have HUL : Hid ((upL 0 k).length = k) := upL_len 0 k
    have z3 : q < wx.heap.size := Nat.lt_of_lt_of_le HNt.out.2.2.2 HW.out.size
    have z0 := (HW.out.cell (p := ⟨q, 0, none⟩) HNt.out.2.2.2).trans HNt.out.1
    have z1 := (HW.out.cell (p := ⟨q, 1, none⟩) HNt.out.2.2.2).trans HNt.out.2.1
    have z2 := (HW.out.cell (p := ⟨q, 2, none⟩) HNt.out.2.2.2).trans HNt.out.2.2.1
    by_cases h1 : k < n
    case pos =>
      have k1 : (k : Int) < (n : Int) := by omega
      have zz := HW.out.size
      go_wp2_with (at_builtin; refine list_oneL wd.heap.size (.slice tv k cv) k (upL 0 k) (.tmp 29) (.tmp 31) (by rfl) (by rfl) (by rfl) (by rfl) HUL.out HL.out (by omega) (by omega) ?_; intro g9 cap9 w9 l9 b9)
      have HL9 : Hid (OwL wd.heap.size w9 (.slice (some ⟨g9, 0, none⟩) (k + 1) cap9) (upL 0 (k + 1))) := by show OwL _ _ _ _; show OwL _ _ _ (upL 0 k ++ [0 + (k : Int)]); rw [Int.zero_add]; exact l9
      have HW9 : Hid (Below wd.heap.size wd w9) := HW.out.trans b9
      clear l9 b9
      go_roundw
      case rel => exact ⟨k + 1, _, cap9, by omega, by go_num, rfl, HL9, HW9⟩
      case measure => first | (simp [intOf]; done) | (simp [intOf]; omega)
    case neg =>
      obtain rfl : k = n := by omega
      have HO : Hid (OwnI wd.heap.size wx tv k (nthI (upL 0 k))) := by
        obtain ⟨s_, c_, e_, o_⟩ := HL.out.own
        rw [upL_len] at e_ o_
        cases e_
        exact o_
      have HDx : Hid (RowDuct wx s k D) := HDd.out.below HW.out
      have HSx : Hid (RowI wx t m S) := HSd.out.below HW.out
      obtain ⟨cb, hcb⟩ : ∃ cb, cutB p k D m S k (nthI (upL 0 k)) x = cb := ⟨_, rfl⟩
      have HCB : Hid (fewB p k D m S x = cb) := by show _ = _; rw [few_is n14]; unfold cutL; rw [upL_len]; exact hcb
      have HCC : Hid (cutL p k D m S x (upL 0 k) = cb) := by show _ = _; unfold cutL; rw [upL_len]; exact hcb
      go_wp2_with fail
      refine (specCutOff_any p s k c D t m d S tv k cv (nthI (upL 0 k)) x _ (by omega) hm (by omega) HDx HSx HO.out.row).mono ?_
      rintro e w2 ⟨rfl, h2⟩
      rw [hcb]
      have HW2 : Hid (Below wd.heap.size wd w2) := HW.out.trans (h2.mono HW.out.size)
      have HB2 : Hid (Below w.heap.size w w2) := HBd.out.trans (HW2.out.mono HBd.out.size)
      have HO2 : Hid (OwL wd.heap.size w2 (.slice tv k cv) (upL 0 k)) := HL.out.keep h2
      clear h2 hcb z0 z1 z2 z3 HDx HSx HO HW HL
      cases cb
      case false =>
        have HFB : Hid (fewB p k D m S x = false) := HCB.out
        go_wp2
        refine bodyPost_ret (v := .tuple #[.slice (some ⟨w2.heap.size, 0, none⟩) 0 0, .bool false]) (by simp [results, Try.results31, go_sem]) rfl ?_
        exact ⟨_, 0, [], (by rw [HFB.out]; rfl), OwL.lit _ (by first | exact HB1.out.size | exact HB2.out.size), fw_no HFB.out, HB2.out.trans (show Below w.heap.size w2 _ from (below0 _ _).mono HB2.out.size)⟩
      case true =>
        go_wp2_with fail
        go_loopw [8] (fun v wy => ∃ sz : Nat, sz ≤ k ∧ v = .int .i64 sz ∧ Hid (SzN (cutL p k D m S x) k sz) ∧ Hid (Below w2.heap.size w2 wy)) (fun v _ => k - (intOf v).toNat)
        case atStart => exact ⟨0, by omega, rfl, sz_start, Below.refl _ _⟩
        case round =>
          obtain ⟨sz, hsz, rfl, HZ, HY⟩ := hrel
          rename World => wy
          have HWy : Hid (Below wd.heap.size wd wy) := HW2.out.trans (HY.out.mono HW2.out.size)
          have z3 : q < wy.heap.size := Nat.lt_of_lt_of_le HNt.out.2.2.2 HWy.out.size
          have z0 := (HWy.out.cell (p := ⟨q, 0, none⟩) HNt.out.2.2.2).trans HNt.out.1
          have z1 := (HWy.out.cell (p := ⟨q, 1, none⟩) HNt.out.2.2.2).trans HNt.out.2.1
          have z2 := (HWy.out.cell (p := ⟨q, 2, none⟩) HNt.out.2.2.2).trans HNt.out.2.2.1
          by_cases h3 : sz < k
          case neg =>
            obtain rfl : sz = k := by omega
            have HBy : Hid (Below w.heap.size w wy) := HB2.out.trans (HY.out.mono HB2.out.size)
            have HOy : Hid (OwL w.heap.size wy (.slice tv sz cv) (upL 0 sz)) := (HO2.out.keep HY.out).low HBd.out.size
            have HFW : Hid (FwR p sz D m S x (upL 0 sz)) := fw_yes HCB.out (sz_all HZ.out HCC.out)
            go_wp2
            refine bodyPost_ret (v := .tuple #[.slice tv sz cv, .bool true]) (by simp [results, Try.results31, go_sem]) rfl ?_
            exact ⟨tv, cv, upL 0 sz, (by rw [HCB.out, upL_len]), (by rw [upL_len]; exact HOy.out), HFW.out, HBy.out⟩
          case pos =>
            have s1 : (sz : Int) < (k : Int) := by omega
            go_wp2_with fail
            obtain ⟨wz, hwz⟩ : ∃ z, z = wy.alloc (.cells #[] 2) := ⟨_, rfl⟩
            rw [← hwz]
            have bA : Below wy.heap.size wy wz := by rw [hwz]; exact below0 _ _
            have HDz : Hid (RowDuct wz s k D) := HDd.out.below (HWy.out.trans (bA.mono HWy.out.size))
            have HSz : Hid (RowI wz t m S) := HSd.out.below (HWy.out.trans (bA.mono HWy.out.size))
            have HCz : Hid (RowI wz (some ⟨wy.heap.size, 0, none⟩) 0 (nthI [])) := fun j hj => absurd hj (Nat.not_lt_zero _)
            have HbA : Hid (Below wy.heap.size wy wz) := bA
            have HLz : Hid (OwL wy.heap.size wz (.slice (some ⟨wy.heap.size, 0, none⟩) 0 0) []) := by show OwL _ _ _ _; rw [hwz]; exact OwL.lit wy (Nat.le_refl _)
            clear hwz bA
            refine (l22ChooseL_any p s k c D t m d S x n14 hm k 0 0 rfl (Nat.zero_le _) (Nat.sub_le _ _) (some ⟨wy.heap.size, 0, none⟩) 0 0 [] rfl sz (Nat.zero_le _) (by omega) wz HDz HSz HCz).mono ?_
            rintro e w3 ⟨s', c', k3, res, ok, rfl, hk3, hc3, hb3, ho3⟩
            have bA := HbA.out
            have HW3 : Hid (Below w2.heap.size w2 w3) := HY.out.trans ((bA.trans (hb3.mono bA.size)).mono HY.out.size)
            have HC3 : Hid (ChP (cutL p k D m S x) k [] 0 sz res ok) := hc3
            have HK3 : Hid (res.length = k3) := hk3
            have HO3 : Hid (OwL wy.heap.size w3 (.slice s' k3 c') res) := ho3 _ bA.size HLz.out
            clear hk3 hc3 hb3 ho3 bA z0 z1 z2 z3
            cases ok
            case true =>
              have HBy : Hid (Below w.heap.size w w3) := HB2.out.trans (HW3.out.mono HB2.out.size)
              have HOy : Hid (OwL w.heap.size w3 (.slice s' k3 c') res) := HO3.out.low (Nat.le_trans HB2.out.size HY.out.size)
              have HFW : Hid (FwR p k D m S x res) := fw_yes HCB.out (sz_hit HZ.out HC3.out)
              go_wp2
              refine bodyPost_ret (v := .tuple #[.slice s' k3 c', .bool true]) (by simp [results, Try.results31, go_sem]) rfl ?_
              exact ⟨s', c', res, (by rw [HCB.out, HK3.out]), (by rw [HK3.out]; exact HOy.out), HFW.out, HBy.out⟩
            case false =>
              have HZ2 : Hid (SzN (cutL p k D m S x) k (sz + 1)) := sz_next HZ.out HC3.out
              go_wp2
              go_roundw
              case rel => exact ⟨sz + 1, by omega, by go_num, HZ2, HW3⟩
              case measure => first | (simp [intOf]; done) | (simp [intOf]; omega)
end Go.Proofs.Ytikcfpjfcpbfcaa
