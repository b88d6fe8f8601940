/-
What is proved: the fewest valves, as the specification says them.
-/
import Derived.Test.YtikcfpjfcpbfcaaFwLz
import Derived.Deep.DeepCutAuto
namespace Go.Proofs.Ytikcfpjfcpbfcaa
set_option maxRecDepth 40000
open Go.ChangeShapes Go.WideShapes Go.ChangeAt Go.RowKit
set_option linter.unusedVariables false
set_option linter.unusedSimpArgs false

theorem OwL.low {base base' : Nat} {w : World} {v : Value} {l : List Int} (h : OwL base w v l) (hb : base' ≤ base) : OwL base' w v l := by
  unfold OwL at h ⊢
  refine ⟨h.1, ?_⟩
  rcases h.2 with q | ⟨g, cap, cur, h', hb', q⟩
  · exact .inl q
  · exact .inr ⟨g, cap, cur, h', by omega, q⟩
def ChoPostL (p : Int) (s : Option Addr) (n c : Nat) (D : Nat → Int × Int) (t : Option Addr) (m d : Nat) (S : Nat → Int) (x : Int) (tc : Option Addr) (mc cc : Nat) (ch : List Int) (f : Nat) (sz : Nat) (w : World) (e : Ending) (w' : World) : Prop := ∃ s' c' k res ok, e = .returned (.tuple #[.slice s' k c', .bool ok]) ∧ res.length = k ∧ ChP (cutL p n D m S x) n ch (f : Int) sz res ok ∧ Below w.heap.size w w' ∧ ∀ B, B ≤ w.heap.size → OwL B w (.slice tc mc cc) ch → OwL B w' (.slice s' k c') res
set_option maxRecDepth 20000 in
set_option maxHeartbeats 8000000 in
theorem l22ChooseL_any (p : Int) (s : Option Addr) (n c : Nat) (D : Nat → Int × Int) (t : Option Addr) (m d : Nat) (S : Nat → Int) (x : Int) (hn : n ≤ 14) (hm : (m : Int) ≤ 1048576) : ∀ (fu : Nat) (f : Nat) (F : Int) (hF : F = (f : Int)) (hf : f ≤ n) (hfu : n - f ≤ fu) (tc : Option Addr) (cc mc : Nat) (ch : List Int) (hch : ch.length = mc) (sz : Nat) (hms : mc ≤ sz) (hsz : sz ≤ 14) (w : World) (HD : Hid (RowDuct w s n D)) (HS : Hid (RowI w t m S)) (HC : Hid (RowI w tc mc (nthI ch))),
    Calls Try.prog 67 #[.agg #[.int .i64 p, .slice s n c, .slice t m d], .slice tc mc cc, .int .i64 F, .int .i64 sz, .int .i64 x] w fun e w' => ChoPostL p s n c D t m d S x tc mc cc ch f sz w e w' := by
  intro fu
  induction fu using Nat.strongRecOn with
  | _ fu ih =>
  intro f F hF hf hfu tc cc mc ch hch sz hms hsz w HD HS HC
  subst hF
  have HCH : Hid (ch.length = mc) := hch
  clear hch
  go_enter Try.func67, Try.ntmps67
  go_upto_region 1 with fail
  obtain ⟨wd, hwd⟩ : ∃ wd, wd = w.alloc (.cells #[.int .i64 p, .slice s n c, .slice t m d] 41) := ⟨_, rfl⟩
  rw [← hwd]
  have B0 : Below w.heap.size w wd := by rw [hwd]; exact below0 _ _
  have HBd : Hid (Below w.heap.size w wd) := B0
  obtain ⟨q, hq⟩ : ∃ q, q = w.heap.size := ⟨_, rfl⟩
  have HNt : Hid (wd.cell? ⟨q, 0, none⟩ = some (.int .i64 p) ∧ wd.cell? ⟨q, 1, none⟩ = some (.slice s n c) ∧ wd.cell? ⟨q, 2, none⟩ = some (.slice t m d) ∧ q < wd.heap.size) := by
    rw [hwd, hq]
    exact ⟨by simp [go_sem], by simp [go_sem], by simp [go_sem], by simp⟩
  have HDd : Hid (RowDuct wd s n D) := HD.out.below B0
  have HSd : Hid (RowI wd t m S) := HS.out.below B0
  try rw [← hq]
  clear hwd B0 hq
  have HCd : Hid (RowI wd tc mc (nthI ch)) := HC.out.below HBd.out
  by_cases hms2 : mc = sz
  case pos =>
    subst hms2
    have B1 : Hid (Below wd.heap.size wd wd) := Below.refl _ _
    have z3 : q < wd.heap.size := Nat.lt_of_lt_of_le HNt.out.2.2.2 B1.out.size
    have z0 := (B1.out.cell (p := ⟨q, 0, none⟩) HNt.out.2.2.2).trans HNt.out.1
    have z1 := (B1.out.cell (p := ⟨q, 1, none⟩) HNt.out.2.2.2).trans HNt.out.2.1
    have z2 := (B1.out.cell (p := ⟨q, 2, none⟩) HNt.out.2.2.2).trans HNt.out.2.2.1
    obtain ⟨cb, hcb⟩ : ∃ cb, cutB p n D m S mc (nthI ch) x = cb := ⟨_, rfl⟩
    have HCB : Hid (cutL p n D m S x ch = cb) := by show _ = _; unfold cutL; rw [HCH.out]; exact hcb
    go_wp2_with fail
    refine (specCutOff_any p s n c D t m d S tc mc cc (nthI ch) x _ (by omega) hm (by omega) HDd HSd HCd).mono ?_
    rintro e w1 ⟨rfl, h1⟩
    rw [hcb]
    have HB1 : Hid (Below w.heap.size w w1) := HBd.out.trans (h1.mono HBd.out.size)
    clear h1 hcb
    go_wp2
    refine bodyPost_ret (v := .tuple #[.slice tc mc cc, .bool cb]) (by simp [results, Try.results67, go_sem]) rfl ?_
    exact ⟨tc, cc, mc, ch, cb, rfl, HCH.out, by have q_ := ch_base (P := cutL p n D m S x) (d := n) (f := (f : Int)) HCH.out; rw [HCB.out] at q_; exact q_, HB1.out, fun B hB ho => ho.keep HB1.out⟩
  case neg =>
    have hne : ((mc : Int) == (sz : Int)) = false := by simp; omega
    have B1 : Hid (Below wd.heap.size wd wd) := Below.refl _ _
    go_wp2_with fail
    go_loopw [12] (fun v wx => ∃ i : Nat, f ≤ i ∧ i ≤ n ∧ v = .int .i64 i ∧ Hid (NoC (cutL p n D m S x) n ch (f : Int) (i : Int) sz) ∧ Hid (Below wd.heap.size wd wx)) (fun v _ => n - (intOf v).toNat)
    case atStart => exact ⟨f, Nat.le_refl _, hf, rfl, noc_start, B1⟩
    case round =>
      clear B1
      obtain ⟨i, fi, hi, rfl, HN, HW⟩ := hrel
      rename World => wx
      have z3 : q < wx.heap.size := Nat.lt_of_lt_of_le HNt.out.2.2.2 HW.out.size
      have z0 := (HW.out.cell (p := ⟨q, 0, none⟩) HNt.out.2.2.2).trans HNt.out.1
      have z1 := (HW.out.cell (p := ⟨q, 1, none⟩) HNt.out.2.2.2).trans HNt.out.2.1
      have z2 := (HW.out.cell (p := ⟨q, 2, none⟩) HNt.out.2.2.2).trans HNt.out.2.2.1
      by_cases h1 : i < n
      case neg =>
        obtain rfl : i = n := by omega
        have HBx : Hid (Below w.heap.size w wx) := HBd.out.trans (HW.out.mono HBd.out.size)
        go_wp2
        refine bodyPost_ret (v := .tuple #[.slice (some ⟨wx.heap.size, 0, none⟩) 0 0, .bool false]) (by simp [results, Try.results67, go_sem]) rfl ?_
        exact ⟨_, 0, 0, [], false, rfl, rfl, noc_end HN.out (Int.le_refl _) (by rw [HCH.out]; exact hms2), HBx.out.trans (show Below w.heap.size wx _ from (below0 _ _).mono HBx.out.size), fun B hB ho => OwL.lit _ (Nat.le_trans hB HBx.out.size)⟩
      case pos =>
        have i1 : (i : Int) < (n : Int) := by omega
        have HCx : Hid (RowI wx tc mc (nthI ch)) := HCd.out.below HW.out
        go_upto_region 7 with (first | (refine list_copyL _ tc mc cc ch (.tmp 33) (.tmp 34) (by rfl) (by rfl) (by rfl) (by rfl) (by first | rfl | simp) HCH.out (by omega) HCx.out ?_; intro s1 c1 w1 O1 b1; have HO1 : Hid (OwL wx.heap.size w1 (.slice s1 mc c1) ch) := O1; have Hb1 : Hid (Below wx.heap.size wx w1) := b1; clear O1 b1) | (refine list_oneL wx.heap.size (.slice s1 mc c1) mc ch (.tmp 35) (.tmp 37) (by rfl) (by rfl) (by rfl) (by rfl) HCH.out HO1.out (by omega) Hb1.out.size ?_; intro g2 c2 w2 O2 b2))
        have HO2 : Hid (OwL wx.heap.size w2 (.slice (some ⟨g2, 0, none⟩) (mc + 1) c2) (ch ++ [(i : Int)])) := O2
        have HW2 : Hid (Below wd.heap.size wd w2) := HW.out.trans ((Hb1.out.trans b2).mono HW.out.size)
        have HXL : Hid (wx.heap.size ≤ w2.heap.size) := Nat.le_trans Hb1.out.size b2.size
        clear O2 b2 HO1 Hb1 z0 z1 z2 z3 HCx
        have z3 : q < w2.heap.size := Nat.lt_of_lt_of_le HNt.out.2.2.2 HW2.out.size
        have z0 := (HW2.out.cell (p := ⟨q, 0, none⟩) HNt.out.2.2.2).trans HNt.out.1
        have z1 := (HW2.out.cell (p := ⟨q, 1, none⟩) HNt.out.2.2.2).trans HNt.out.2.1
        have z2 := (HW2.out.cell (p := ⟨q, 2, none⟩) HNt.out.2.2.2).trans HNt.out.2.2.1
        have hl2 : (ch ++ [(i : Int)]).length = mc + 1 := by rw [List.length_append, HCH.out]; rfl
        have HR2 : Hid (OwnI wx.heap.size w2 (some ⟨g2, 0, none⟩) (mc + 1) (nthI (ch ++ [(i : Int)]))) := by
          obtain ⟨s_, c_, e_, o_⟩ := HO2.out.own
          rw [hl2] at e_ o_
          cases e_
          exact o_
        have HD2 : Hid (RowDuct w2 s n D) := HDd.out.below HW2.out
        have HS2 : Hid (RowI w2 t m S) := HSd.out.below HW2.out
        have HL2 : Hid ((ch ++ [(i : Int)]).length = mc + 1) := hl2
        clear hl2
        go_wp2_with fail
        refine (ih (n - (i + 1)) (by omega) (i + 1) _ (by first | rfl | omega | simp) (by omega) (Nat.le_refl _) (some ⟨g2, 0, none⟩) c2 (mc + 1) (ch ++ [(i : Int)]) HL2.out sz (by omega) hsz _ HD2 HS2 HR2.out.row).mono ?_
        rintro e w3 ⟨s', c', k3, res, ok, rfl, hk3, hc3, hb3, ho3⟩
        have HW3 : Hid (Below wd.heap.size wd w3) := HW2.out.trans (hb3.mono HW2.out.size)
        have HC3 : Hid (ChP (cutL p n D m S x) n (ch ++ [(i : Int)]) ((i : Int) + 1) sz res ok) := by
          have q_ := hc3
          rw [show ((i + 1 : Nat) : Int) = (i : Int) + 1 by omega] at q_
          exact q_
        have HK3 : Hid (res.length = k3) := hk3
        have HO3 : Hid (OwL wx.heap.size w3 (.slice s' k3 c') res) := ho3 _ HXL.out HO2.out
        clear hc3 hk3 ho3 hb3 z0 z1 z2 z3
        cases ok
        case true =>
          have HBx : Hid (Below w.heap.size w w3) := HBd.out.trans (HW3.out.mono HBd.out.size)
          have HXW : Hid (w.heap.size ≤ wx.heap.size) := Nat.le_trans HBd.out.size HW.out.size
          go_wp2
          refine bodyPost_ret (v := .tuple #[.slice s' k3 c', .bool true]) (by simp [results, Try.results67, go_sem]) rfl ?_
          exact ⟨s', c', k3, res, true, rfl, HK3.out, noc_hit HN.out (by omega) (by omega) (by rw [HCH.out]; exact hms2) HC3.out, HBx.out, fun B hB ho => HO3.out.low (Nat.le_trans hB HXW.out)⟩
        case false =>
          have HN2 : Hid (NoC (cutL p n D m S x) n ch (f : Int) ((i + 1 : Nat) : Int) sz) := by show NoC _ _ _ _ _ _; rw [show ((i + 1 : Nat) : Int) = (i : Int) + 1 by omega]; exact noc_next HN.out HC3.out
          go_wp2
          go_roundw
          case rel => exact ⟨i + 1, by omega, by omega, by go_num, HN2, HW3⟩
          case measure => first | (simp [intOf]; done) | (simp [intOf]; omega)
end Go.Proofs.Ytikcfpjfcpbfcaa
