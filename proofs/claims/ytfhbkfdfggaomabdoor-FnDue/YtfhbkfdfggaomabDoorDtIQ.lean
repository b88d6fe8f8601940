/-
What is proved: what impl.DueTests answers.
-/
import Derived.Test.YtfhbkfdfggaomabDoorDtCQ
import Derived.Test.YtfhbkfdfggaomabDoorOwnV
import Derived.Deep.RegionHeldLaw
import Derived.Deep.DeepCutAuto
import Derived.BigQuiet
namespace Go.Proofs.YtfhbkfdfggaomabDoor
set_option maxRecDepth 40000
open Go.ChangeShapes Go.WideShapes Go.ChangeAt Go.RowKit
set_option linter.unusedVariables false
set_option linter.unusedSimpArgs false

theorem made_kept {base : Nat} {w wr w1 : World} {v : Value} {k : Nat} {U : Nat → Int} (h : MadeI base w wr v k U) (hb : Below wr.heap.size wr w1) (hz : base ≤ wr.heap.size) : MadeI base w w1 v k U :=
  ⟨⟨h.1.1, h.1.2.imp id fun ⟨g, cap, cur, e, b, hg, r⟩ => ⟨g, cap, cur, e, b, (hb.block g (Array.getElem?_eq_some_iff.1 hg).1).trans hg, r⟩⟩, h.2.trans (hb.mono hz)⟩
theorem made_as {base : Nat} {w wr : World} {v : Value} {k : Nat} {U U' : Nat → Int} (h : MadeI base w wr v k U) (e : ∀ j, j < k → U j = U' j) : MadeI base w wr v k U' := ⟨by rw [← vals_congr e]; exact h.1, h.2⟩
set_option maxRecDepth 20000 in
set_option maxHeartbeats 8000000 in
theorem implDue_any (s : Option Addr) (n c : Nat) (V : Nat → Int × Int) (now : Int) (w : World) (hn : (n : Int) ≤ 1048576) (HR : Hid (RowTest w s n V)) (HE : Hid (ErrT w)) :
    Calls Tryd.prog 12 #[.slice s n c, .int .i64 now] w fun e w' => DuePost n V now w e w' := by
  go_enter Tryd.func12, Tryd.ntmps12
  go_upto_region 1 with fail
  obtain ⟨wa, hwa⟩ : ∃ wa, wa = (w.alloc (.cells #[.slice s n c] 40)).alloc (.cells #[.int .i64 now] 2) := ⟨_, rfl⟩
  rw [← hwa]
  have hb : Below w.heap.size w wa := by rw [hwa]; exact (by repeat (first | with_reducible exact Below.refl _ _ | with_reducible refine Below.setCell ?_ (by first | omega | (simp; done) | (simp; omega)) _ | with_reducible refine bDrewN ?_ _ | with_reducible refine Below.drew ?_ | with_reducible refine Below.alloc ?_ (by first | omega | (simp; done) | (simp; omega)) _))
  have a0 : wa.cell? ⟨w.heap.size, 0, none⟩ = some (.slice s n c) := by rw [hwa]; simp [go_sem]
  have a1 : wa.cell? ⟨w.heap.size + 1, 0, none⟩ = some (.int .i64 now) := by rw [hwa]; simp [go_sem]
  have za : w.heap.size < wa.heap.size := by rw [hwa]; simp; try omega
  have zb : w.heap.size + 1 < wa.heap.size := by rw [hwa]; simp
  have HB : Hid (Below w.heap.size w wa) := hb
  clear hwa hb
  go_wp2_with fail
  refine (within_is _ _ _ _).mono ?_
  rintro e wa ⟨rfl, rfl⟩
  cases e0 : inB 0 1000000000 now
  · have HO : Hid (duB n V now = false) := by show _ = _; unfold duB; rw [e0]; rfl
    have B1 := HB.out
    go_wp2
    go_ret
    exact ⟨none, 0, 0, fun _ => 0, rfl, fun j hj => by omega, due_no HO.out, (by repeat (first | with_reducible exact Below.refl _ _ | with_reducible exact B1 | with_reducible refine Below.setCell ?_ (by first | omega | (simp; done) | (simp; omega)) _ | with_reducible refine bDrewN ?_ _ | with_reducible refine Below.drew ?_ | with_reducible refine Below.alloc ?_ (by first | omega | (simp; done) | (simp; omega)) _))⟩
  go_wp2_with fail
  refine (testsMisfit_any s n c V now _ hn (HR.out.below HB.out) (HE.out.below HB.out)).mono ?_
  rintro e w1 ⟨v, rfl, hv, h1⟩
  have HV : Hid (MisV v (tssB n V now)) := hv
  replace a0 := (h1.cell (p := ⟨w.heap.size, 0, none⟩) za).trans a0
  replace a1 := (h1.cell (p := ⟨w.heap.size + 1, 0, none⟩) zb).trans a1
  replace za := Nat.lt_of_lt_of_le za h1.size
  replace zb := Nat.lt_of_lt_of_le zb h1.size
  have B1 : Below w.heap.size w w1 := HB.out.trans (h1.mono HB.out.size)
  have HX : Hid (ErrT w1) := HE.out.below B1
  clear hv h1 HB
  go_wp2_with fail
  refine (refused_any v (tssB n V now) _ HV HX.out.1).mono ?_
  rintro e w2 ⟨rfl, h2⟩
  replace a0 := (h2.cell (p := ⟨w.heap.size, 0, none⟩) za).trans a0
  replace a1 := (h2.cell (p := ⟨w.heap.size + 1, 0, none⟩) zb).trans a1
  replace za := Nat.lt_of_lt_of_le za h2.size
  replace zb := Nat.lt_of_lt_of_le zb h2.size
  replace B1 : Below w.heap.size w w2 := B1.trans (h2.mono B1.size)
  clear h2 HV HX HE
  cases hc : tssB n V now
  · have HO : Hid (duB n V now = false) := by show _ = _; unfold duB; rw [e0, hc]; rfl
    clear hc
    go_wp2
    go_ret
    exact ⟨none, 0, 0, fun _ => 0, rfl, fun j hj => by omega, due_no HO.out, B1⟩
  have HDU : Hid (duB n V now = true) := by show _ = _; unfold duB; rw [e0, hc]; rfl
  clear hc e0
  obtain ⟨hN, n6, hT⟩ := du_yes HDU.out
  obtain ⟨hN1, hN2⟩ := hN
  have HT : Hid (∀ j, j < n → tstB now (V j) = true) := hT
  have HB1 : Hid (Below w.heap.size w w2) := B1
  have zw : w.heap.size ≤ w2.heap.size := B1.size
  have Ha : Hid (w2.cell? ⟨w.heap.size, 0, none⟩ = some (.slice s n c) ∧ w2.cell? ⟨w.heap.size + 1, 0, none⟩ = some (.int .i64 now) ∧ w.heap.size < w2.heap.size ∧ w.heap.size + 1 < w2.heap.size) := ⟨a0, a1, za, zb⟩
  clear hT B1
  go_wp2_with fail
  clear a0 a1 za zb
  go_loopw [5, 19] (fun v i wr => ∃ (k m : Nat) (U : Nat → Int), k ≤ n ∧ i = .int .i64 k ∧ Hid (DueA V now k m U) ∧ Hid (MadeI w2.heap.size w2 wr v m U)) (fun _ i _ => n - (intOf i).toNat)
  case atStart => exact ⟨0, 0, fun _ => 0, Nat.zero_le _, rfl, dueA_zero V now _, made_nil _ _⟩
  case round =>
    obtain ⟨k, m, U, hk, rfl, HA, HM⟩ := hrel
    rename World => wr
    have B2 : Below w2.heap.size w2 wr := HM.out.2
    obtain ⟨a0, a1, za, zb⟩ := Ha.out
    replace a0 := (B2.cell (p := ⟨w.heap.size, 0, none⟩) za).trans a0
    replace a1 := (B2.cell (p := ⟨w.heap.size + 1, 0, none⟩) zb).trans a1
    replace za := Nat.lt_of_lt_of_le za B2.size
    replace zb := Nat.lt_of_lt_of_le zb B2.size
    have zr : w2.heap.size ≤ wr.heap.size := B2.size
    have B3 : Below w.heap.size w wr := HB1.out.trans (B2.mono zw)
    have HRR : Hid (RowTest wr s n V) := HR.out.below B3
    have mk : m ≤ k := HA.out.1
    by_cases h1 : k < n
    case neg =>
      obtain rfl : k = n := by omega
      have HM2 : Hid (CmpK (fun x => 0 ≤ x ∧ x < (k : Int)) (fun w' => Below wr.heap.size wr w') (ltD V now) (.pointer (some ⟨w.heap.size, 0, none⟩)) (.pointer (some ⟨w.heap.size + 1, 0, none⟩))) := cmpD_any w.heap.size (w.heap.size + 1) s k c V now wr HDU.out za zb a0 a1 HRR.out
      obtain ⟨s', cap, hs, HOw⟩ := made_own HM.out
      subst hs
      have HRow : Hid (RowI wr s' m U) := HOw.row
      have HSo : Hid (SortS (· < ·) U 0 m) := HA.out.2.1
      have HOk : Hid (∀ i, i < m → 0 ≤ U i ∧ U i < (k : Int)) := fun i hi => by
        obtain ⟨j, j1, j2, _⟩ := HA.out.2.2.1 i hi
        omega
      have HB3 : Hid (Below w.heap.size w wr) := B3
      clear HOw a0 a1 za zb B2 B3
      go_wp2_with fail
      refine (sortedBy_any s' m cap (.pointer (some ⟨w.heap.size, 0, none⟩)) (.pointer (some ⟨w.heap.size + 1, 0, none⟩)) (fun x => 0 ≤ x ∧ x < (k : Int)) (ltD V now) (ltD_tr V now) (ltD_tot V now) (by omega) U _ HM2 HRow HSo HOk).mono ?_
      rintro e w5 ⟨s5, c5, W, rfl, O5, S5, M5, B5⟩
      have HP : Hid (OwnI w.heap.size w5 s5 m W ∧ DueR k V now m W ∧ Below w.heap.size w w5) := ⟨O5.mono HB3.out.size, due_yes HDU.out (dueA_sorted HA.out S5 M5), HB3.out.trans (B5.mono HB3.out.size)⟩
      clear O5 S5 M5 B5
      go_wp2
      go_ret
      exact ⟨s5, c5, m, W, rfl, HP.out.1, HP.out.2.1, HP.out.2.2⟩
    obtain ⟨g, o, hs, zg, c0, c1⟩ := HRR.out k h1
    subst hs
    obtain ⟨t1, t2⟩ := tst_yes (HT.out k h1)
    have HBY : Hid (byd V now k = now - (V k).2 - (V k).1) := rfl
    obtain ⟨⟨a, b⟩, hV⟩ : ∃ z, V k = z := ⟨_, rfl⟩
    rw [hV] at c0 c1 t1 t2 HBY
    simp only at c0 c1 t1 t2
    replace HBY : Hid (byd V now k = now - b - a) := HBY.out
    obtain ⟨t3, t4⟩ := t1
    obtain ⟨t5, t6⟩ := t2
    have k1 : (k : Int) < (n : Int) := by omega
    clear hV
    go_upto_region 7 with fail
    obtain ⟨wb, hwb⟩ : ∃ wb, wb = wr.alloc (.cells #[.int .i64 a, .int .i64 b] 46) := ⟨_, rfl⟩
    rw [← hwb]
    have hb : Below wr.heap.size wr wb := by rw [hwb]; exact below0 _ _
    have b0 : wb.cell? ⟨wr.heap.size, 0, none⟩ = some (.int .i64 a) := by rw [hwb]; simp [go_sem]
    have b1 : wb.cell? ⟨wr.heap.size, 1, none⟩ = some (.int .i64 b) := by rw [hwb]; simp [go_sem]
    have y0 : wr.heap.size < wb.heap.size := by rw [hwb]; simp
    replace a1 := (hb.cell (p := ⟨w.heap.size + 1, 0, none⟩) zb).trans a1
    replace zb := Nat.lt_of_lt_of_le zb hb.size
    have HM3 : Hid (MadeI w2.heap.size w2 wb _ m U) := made_kept HM.out hb zr
    replace zr : w2.heap.size ≤ wb.heap.size := Nat.le_trans zr hb.size
    clear hwb hb c0 c1 zg a0 za B2 B3 HRR
    go_wp2_with fail
    refine (beyond_any a b now _ hN1 hN2 t3 t4 t5 t6).mono ?_
    rintro e w3 ⟨rfl, h3⟩
    replace HM3 : Hid (MadeI w2.heap.size w2 w3 _ m U) := made_kept HM3.out h3 zr
    replace zr : w2.heap.size ≤ w3.heap.size := Nat.le_trans zr h3.size
    clear h3 b0 b1 a1 zb y0
    by_cases hz : 0 ≤ now - b - a
    case neg =>
      have HA2 : Hid (DueA V now (k + 1) m U) := dueA_keep HA.out (by rw [HBY.out]; omega)
      have z2 : decide (0 ≤ now - b - a) = false := decide_eq_false hz
      have z3 : now - b - a < 0 := by omega
      clear hz
      go_wp2
      go_roundw
      case rel => exact ⟨k + 1, m, U, by omega, by go_num, HA2, HM3⟩
      case measure => first | (simp [intOf]; done) | (simp [intOf]; omega)
    case pos =>
      have HA2 : Hid (DueA V now (k + 1) (m + 1) (fun i => if i < m then U i else (k : Int))) := dueA_more HA.out (by rw [HBY.out]; exact hz)
      have HM4 : Hid (MadeI w2.heap.size w2 w3 _ m (fun i => if i < m then U i else (k : Int))) := made_as HM3.out (fun j hj => (if_pos hj).symm)
      have HU : Hid ((if m < m then U m else (k : Int)) = (k : Int)) := if_neg (by omega)
      obtain ⟨U', hU⟩ : ∃ U', (fun i => if i < m then U i else (k : Int)) = U' := ⟨_, rfl⟩
      have HU2 : Hid (U' m = (k : Int)) := by rw [← hU]; exact HU.out
      rw [hU] at HA2 HM4
      have HOWN : Hid (w3.ownsRow w2.heap.size 2 1 u5 m (vals U' m)) := HM4.out.1
      clear hU HU HM3
      go_wp2_with (at_builtin; refine list_i64 w2.heap.size u5 m (vals U' m) (.tmp 28) (.tmp 30) (by rfl) (by rfl) (by rfl) (by rfl) HOWN.out (by omega) (by omega) ?_; intro g' cap' w4 hown4 hgrow4 hlt4; have HM5 : Hid (MadeI w2.heap.size w2 w4 (.slice (some ⟨g', 0, none⟩) (m + 1) cap') (m + 1) U') := made_on HM4.out (Below.refl _ _) zr (by rw [HU2.out]; exact hown4) hgrow4; clear hown4 hgrow4)
      go_roundw
      case rel => exact ⟨k + 1, m + 1, U', by omega, by go_num, HA2, HM5⟩
      case measure => first | (simp [intOf]; done) | (simp [intOf]; omega)
end Go.Proofs.YtfhbkfdfggaomabDoor
