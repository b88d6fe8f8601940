/-
What is proved: FnZones: what a drawn zone sees one of the same centre with the double radius sees, too, and the time that is told of several is that of one of them that sees; no condition.
-/
import Derived.Test.YtedkhhocbnldjaaZnL
import Derived.Test.YtedkhhocbnldjaaZnN
import Derived.Test.YtedkhhocbnldjaaDsS
import Derived.Test.YtedkhhocbnldjaaDsI
import Derived.Test.YtedkhhocbnldjaaOpen8
import Derived.Deep.RegionHeldLaw
namespace Go.Proofs.Ytedkhhocbnldjaa
set_option maxRecDepth 40000
open Go.ChangeShapes Go.WideShapes Go.ChangeAt Go.RowKit
set_option linter.unusedVariables false
set_option linter.unusedSimpArgs false

set_option maxHeartbeats 400000 in
theorem zones_far (w : World) (s : Option Addr) (n c : Nat) (h : (1048576 : Int) < n) :
    Calls Try.prog 6 #[.slice s n c] w fun e w' => e = .returned (.bool true) ∧ Below w.heap.size w w' := by
  go_enter Try.func6, Try.ntmps6
  go_wp2_with fail
  refine (big_yes _ _ _ _ h).mono ?_
  rintro e w1 ⟨rfl, rfl⟩
  go_wp2
  go_ret
  exact ⟨rfl, Below.refl _ _⟩
theorem snB_is (C E R : Nat → Nat) (T : Nat → Int) (a b g d : Option Nat) (k : Nat) : snB C E R T a b g d k = (zoneB (C k) (E k) (R k) (T k) && leO (normO (opO .sub (divRe a b g d) (ofW (C k))) (opO .sub (divIm a b g d) (ofW (E k)))) (opO .mul (ofW (R k)) (ofW (R k)))) := rfl
theorem fl_two : Fl 4611686018427387904 (some 4611686018427387904) := ⟨by decide, .inl ⟨by decide, rfl⟩⟩
theorem RowX.bes {W W' : World} {g o m q : Nat} {V : Nat → Value} (h : RowX W (some ⟨g, o, none⟩) m V) (hb : Beside q W W') (hn : g ≠ q) : RowX W' (some ⟨g, o, none⟩) m V := fun j hj => by
  obtain ⟨b, o', e, hl, hc⟩ := h j hj
  cases e
  exact ⟨g, o, rfl, Nat.lt_of_lt_of_le hl hb.2.2.2.1, (hb.cell (p := ⟨g, o + j, none⟩) hl hn).trans hc⟩
/-- Whether one of the first j sees and has the time t. -/
def anyZ (C E R : Nat → Nat) (T : Nat → Int) (a b g d : Option Nat) (t : Int) : Nat → Bool
  | 0 => false
  | j + 1 => anyZ C E R T a b g d t j || (snB C E R T a b g d j && (T j == t))
theorem anyZ_yes {C E R : Nat → Nat} {T : Nat → Int} {a b g d : Option Nat} {t : Int} {k : Nat} (h1 : snB C E R T a b g d k = true) (h2 : T k = t) : ∀ n, k < n → anyZ C E R T a b g d t n = true
  | 0, h => by omega
  | n + 1, h => by
    unfold anyZ
    by_cases e : k = n
    · subst e; rw [h1, h2]; simp
    · rw [anyZ_yes h1 h2 n (by omega)]; rfl
set_option maxRecDepth 20000 in
set_option maxHeartbeats 16000000 in
theorem zones_near (w : World) (s : Option Addr) (n c : Nat) (hn : (n : Int) ≤ 1048576) (HC8 : Hid (Code8 w s n)) :
    Calls Try.prog 6 #[.slice s n c] w fun e w' => e = .returned (.bool true) ∧ Below w.heap.size w w' := by
  have hst := store_fp
  go_enter Try.func6, Try.ntmps6
  go_wp2_with fail
  refine (big_no _ _ _ _ hn).mono ?_
  rintro e w1 ⟨rfl, rfl⟩
  rename World => w
  go_wp2_with fail
  refine (drawDistance_any HC8).mono ?_
  rintro e w2 h2
  unfold DdPost at h2
  obtain ⟨t, k, cap, C, E, R, T, x, y, z, u, rfl, k1, hrow, hbd, ⟨lx, ly, lz, lu⟩, b2⟩ := h2
  have HR : Hid (RowX w2 t (k * 4) (zV C E R T)) := hrow
  have HBD : Hid (∀ j, j < k → C j < 18446744073709551616 ∧ E j < 18446744073709551616 ∧ R j < 18446744073709551616) := hbd
  have HB : Hid (Below w.heap.size w w2) := b2
  obtain ⟨oa, fx⟩ := anyFl lx
  obtain ⟨ob, fy⟩ := anyFl ly
  obtain ⟨og, fz⟩ := anyFl lz
  obtain ⟨od, fu⟩ := anyFl lu
  have FX : Hid (Fl x oa) := fx
  have FY : Hid (Fl y ob) := fy
  have FZ : Hid (Fl z og) := fz
  have FU : Hid (Fl u od) := fu
  clear hrow hbd b2 HC8 hn fx fy fz fu lx ly lz lu
  go_upto_region 4 with fail
  obtain ⟨w3, hw3⟩ : ∃ q, q = (w2.alloc (.cells #[.float .f64 x, .float .f64 y] 28)).alloc (.cells #[.float .f64 z, .float .f64 u] 28) := ⟨_, rfl⟩
  rw [← hw3]
  obtain ⟨gv, hgv⟩ : ∃ q, q = w2.heap.size := ⟨_, rfl⟩
  obtain ⟨ga, hga⟩ : ∃ q, q = w2.heap.size + 1 := ⟨_, rfl⟩
  have HV : Hid (Blk w3 gv [.float .f64 x, .float .f64 y]) := by show Blk _ _ _; rw [hw3, hgv]; exact (Blk.new w2 #[.float .f64 x, .float .f64 y] _).below (below0 _ _)
  have HA : Hid (Blk w3 ga [.float .f64 z, .float .f64 u]) := by
    show Blk _ _ _
    have q := Blk.new (w2.alloc (.cells #[.float .f64 x, .float .f64 y] 28)) #[.float .f64 z, .float .f64 u] 28
    rw [hw3, hga]; simpa using q
  have bl3 : Below w2.heap.size w2 w3 := by rw [hw3]; exact (by repeat (first | with_reducible exact Below.refl _ _ | with_reducible refine Below.setCell ?_ (by first | omega | (simp; done) | (simp; omega)) _ | with_reducible refine bDrewN ?_ _ | with_reducible refine Below.drew ?_ | with_reducible refine Below.alloc ?_ (by first | omega | (simp; done) | (simp; omega)) _))
  replace HR : Hid (RowX w3 t (k * 4) (zV C E R T)) := HR.out.below bl3
  replace HB : Hid (Below w.heap.size w w3) := HB.out.trans (bl3.mono HB.out.size)
  try rw [← hga]
  try rw [← hgv]
  clear hw3 hgv hga bl3
  have vc0 := HV.out.2.2 0 _ rfl
  have vc1 := HV.out.2.2 1 _ rfl
  have ac0 := HA.out.2.2 0 _ rfl
  have ac1 := HA.out.2.2 1 _ rfl
  go_wp2_with fail
  refine (implDistance_any t k cap C E R T FX.out FY.out FZ.out FU.out w3 (by omega) HBD.out HR).mono ?_
  rintro e w4 ⟨rfl, b4⟩
  replace HR : Hid (RowX w4 t (k * 4) (zV C E R T)) := HR.out.below b4
  replace HV : Hid (Blk w4 gv [.float .f64 x, .float .f64 y]) := HV.out.below b4
  replace HA : Hid (Blk w4 ga [.float .f64 z, .float .f64 u]) := HA.out.below b4
  replace HB : Hid (Below w.heap.size w w4) := HB.out.trans (b4.mono HB.out.size)
  clear vc0 vc1 ac0 ac1
  have vc0 := HV.out.2.2 0 _ rfl
  have vc1 := HV.out.2.2 1 _ rfl
  have ac0 := HA.out.2.2 0 _ rfl
  have ac1 := HA.out.2.2 1 _ rfl
  obtain ⟨tt, htt⟩ : ∃ q, dsV C E R T oa ob og od k = q := ⟨_, rfl⟩
  have HT : Hid (dsV C E R T oa ob og od k = tt) := htt
  rw [htt]
  clear htt b4
  go_wp2_with fail
  refine (specDistance_any t k cap C E R T FX.out FY.out FZ.out FU.out w4 (by omega) HBD.out HR).mono ?_
  rintro e w5 ⟨rfl, b5⟩
  replace HR : Hid (RowX w5 t (k * 4) (zV C E R T)) := HR.out.below b5
  replace HV : Hid (Blk w5 gv [.float .f64 x, .float .f64 y]) := HV.out.below b5
  replace HA : Hid (Blk w5 ga [.float .f64 z, .float .f64 u]) := HA.out.below b5
  replace HB : Hid (Below w.heap.size w w5) := HB.out.trans (b5.mono HB.out.size)
  rw [HT.out]
  clear vc0 vc1 ac0 ac1
  clear b5
  have tne : (tt != tt) = false := bne_self_eq_false _
  obtain ⟨neg, hneg⟩ : ∃ q, decide (tt < 0) = q := ⟨_, rfl⟩
  have HNG : Hid (decide (tt < 0) = neg) := hneg
  go_upto_region 8 with fail
  try rw [hneg]
  clear hneg tne
  have HF0 : Hid (neg = (neg || anyZ C E R T oa ob og od tt 0)) := by show _ = _; unfold anyZ; simp
  go_wp2_with fail
  go_loopw [7, 8] (fun f i wx => ∃ (j : Nat) (fo : Bool), j ≤ k ∧ i = .int .i64 (j : Int) ∧ f = .bool fo ∧ Hid (fo = (neg || anyZ C E R T oa ob og od tt j)) ∧ Hid (RowX wx t (k * 4) (zV C E R T)) ∧ Hid (Blk wx gv [.float .f64 x, .float .f64 y]) ∧ Hid (Blk wx ga [.float .f64 z, .float .f64 u]) ∧ Hid (Below w.heap.size w wx)) (fun _ i _ => k - (intOf i).toNat)
  case atStart => exact ⟨0, neg, by omega, rfl, rfl, HF0, HR, HV, HA, HB⟩
  case round =>
  clear HR HV HA HB HF0
  obtain ⟨j, fo, hj, rfl, rfl, HF, HR, HV, HA, HB⟩ := hrel
  rename World => wa
  by_cases hlt : j < k
  case neg =>
    obtain rfl : j = k := by omega
    have hfo : fo = true := by
      rw [HF.out]
      rcases ds_at C E R T oa ob og od j with h | ⟨q, h1, h2, h3⟩
      · rw [HT.out] at h
        rw [← HNG.out, decide_eq_true h]; rfl
      · rw [HT.out] at h3
        rw [anyZ_yes h2 h3 j h1]; simp
    subst hfo
    have BF := HB.out
    have jl : ¬ (j : Int) < (j : Int) := by omega
    clear HF HR HV HA hlt hj
    go_wp2
    go_ret
    first | exact ⟨rfl, BF⟩ | exact ⟨by simp, BF⟩
  case pos =>
  have jl : (j : Int) < (k : Int) := by omega
  obtain ⟨g, o, rfl, gl, d0, d1, d2, d3⟩ := HR.out.four hlt
  obtain ⟨l0, l1, l2⟩ := HBD.out j hlt
  have HSN : Hid (snB C E R T oa ob og od j = (zoneB (C j) (E j) (R j) (T j) && leO (normO (opO .sub (divRe oa ob og od) (ofW (C j))) (opO .sub (divIm oa ob og od) (ofW (E j)))) (opO .mul (ofW (R j)) (ofW (R j))))) := snB_is C E R T oa ob og od j
  obtain ⟨sees, hse⟩ : ∃ q, snB C E R T oa ob og od j = q := ⟨_, rfl⟩
  have HNX : Hid (anyZ C E R T oa ob og od tt (j + 1) = (anyZ C E R T oa ob og od tt j || (sees && (T j == tt)))) := by show _ = _; rw [← hse]; rfl
  rw [hse] at HSN
  obtain ⟨zc, hzc⟩ : ∃ q, C j = q := ⟨_, rfl⟩
  obtain ⟨ze, hze⟩ : ∃ q, E j = q := ⟨_, rfl⟩
  obtain ⟨zq, hzq⟩ : ∃ q, R j = q := ⟨_, rfl⟩
  obtain ⟨zt, hzt⟩ : ∃ q, T j = q := ⟨_, rfl⟩
  rw [hzc, hze, hzq, hzt] at HSN
  rw [hzt] at HNX d3
  rw [hzc] at d0 l0
  rw [hze] at d1 l1
  rw [hzq] at d2 l2
  have FC : Hid (Fl zc (ofW zc)) := fl_of zc l0
  have FE : Hid (Fl ze (ofW ze)) := fl_of ze l1
  have FR : Hid (Fl zq (ofW zq)) := fl_of zq l2
  clear hse hzc hze hzq hzt
  go_upto_region 12 with fail
  obtain ⟨wb, hwb⟩ : ∃ q, q = wa.alloc (.cells #[.float .f64 zc, .float .f64 ze, .float .f64 zq, .int .i64 zt] 30) := ⟨_, rfl⟩
  rw [← hwb]
  obtain ⟨gz, hgz⟩ : ∃ q, q = wa.heap.size := ⟨_, rfl⟩
  have HZ : Hid (Blk wb gz [.float .f64 zc, .float .f64 ze, .float .f64 zq, .int .i64 zt]) := by show Blk _ _ _; rw [hwb, hgz]; exact Blk.new wa #[.float .f64 zc, .float .f64 ze, .float .f64 zq, .int .i64 zt] _
  have bb : Below wa.heap.size wa wb := by rw [hwb]; exact below0 _ _
  have ngv : gz ≠ gv := by have := HV.out.1; omega
  have nga : gz ≠ ga := by have := HA.out.1; omega
  have lgz : w.heap.size ≤ gz := by rw [hgz]; exact HB.out.size
  have ngr : g ≠ gz := by omega
  replace HR : Hid (RowX wb (some ⟨g, o, none⟩) (k * 4) (zV C E R T)) := HR.out.below bb
  replace HV : Hid (Blk wb gv [.float .f64 x, .float .f64 y]) := HV.out.below bb
  replace HA : Hid (Blk wb ga [.float .f64 z, .float .f64 u]) := HA.out.below bb
  replace HB : Hid (Below w.heap.size w wb) := HB.out.trans (bb.mono HB.out.size)
  try rw [← hgz]
  clear hwb hgz bb d0 d1 d2 d3
  have vc0 := HV.out.2.2 0 _ rfl
  have vc1 := HV.out.2.2 1 _ rfl
  have ac0 := HA.out.2.2 0 _ rfl
  have ac1 := HA.out.2.2 1 _ rfl
  have zc0 := HZ.out.2.2 0 _ rfl
  have zc1 := HZ.out.2.2 1 _ rfl
  have zc2 := HZ.out.2.2 2 _ rfl
  have zc3 := HZ.out.2.2 3 _ rfl
  go_wp2_with fail
  refine (implSees_any FC.out FE.out FR.out zt FX.out FY.out FZ.out FU.out wb).mono ?_
  rintro e wc ⟨rfl, bc⟩
  rw [← HSN.out]
  replace HR : Hid (RowX wc (some ⟨g, o, none⟩) (k * 4) (zV C E R T)) := HR.out.below bc
  replace HV : Hid (Blk wc gv [.float .f64 x, .float .f64 y]) := HV.out.below bc
  replace HA : Hid (Blk wc ga [.float .f64 z, .float .f64 u]) := HA.out.below bc
  replace HB : Hid (Below w.heap.size w wc) := HB.out.trans (bc.mono HB.out.size)
  replace HZ : Hid (Blk wc gz [.float .f64 zc, .float .f64 ze, .float .f64 zq, .int .i64 zt]) := HZ.out.below bc
  clear vc0 vc1 ac0 ac1
  clear zc0 zc1 zc2 zc3
  have vc0 := HV.out.2.2 0 _ rfl
  have vc1 := HV.out.2.2 1 _ rfl
  have ac0 := HA.out.2.2 0 _ rfl
  have ac1 := HA.out.2.2 1 _ rfl
  have zc0 := HZ.out.2.2 0 _ rfl
  have zc1 := HZ.out.2.2 1 _ rfl
  have zc2 := HZ.out.2.2 2 _ rfl
  have zc3 := HZ.out.2.2 3 _ rfl
  clear bc
  go_wp2_with fail
  refine (specSees_any FC.out FE.out FR.out zt FX.out FY.out FZ.out FU.out wc).mono ?_
  rintro e wd ⟨rfl, bd⟩
  rw [← HSN.out]
  replace HR : Hid (RowX wd (some ⟨g, o, none⟩) (k * 4) (zV C E R T)) := HR.out.below bd
  replace HV : Hid (Blk wd gv [.float .f64 x, .float .f64 y]) := HV.out.below bd
  replace HA : Hid (Blk wd ga [.float .f64 z, .float .f64 u]) := HA.out.below bd
  replace HB : Hid (Below w.heap.size w wd) := HB.out.trans (bd.mono HB.out.size)
  replace HZ : Hid (Blk wd gz [.float .f64 zc, .float .f64 ze, .float .f64 zq, .int .i64 zt]) := HZ.out.below bd
  clear vc0 vc1 ac0 ac1
  clear zc0 zc1 zc2 zc3
  have vc0 := HV.out.2.2 0 _ rfl
  have vc1 := HV.out.2.2 1 _ rfl
  have ac0 := HA.out.2.2 0 _ rfl
  have ac1 := HA.out.2.2 1 _ rfl
  have zc0 := HZ.out.2.2 0 _ rfl
  have zc1 := HZ.out.2.2 1 _ rfl
  have zc2 := HZ.out.2.2 2 _ rfl
  have zc3 := HZ.out.2.2 3 _ rfl
  clear bd
  have fz2 := HZ.out.2.1 2
  have HGO : Hid (∀ fo', fo' = (fo || (sees && (zt == tt))) → Hid (fo' = (neg || anyZ C E R T oa ob og od tt (j + 1)))) := fun fo' h => by
    show _ = _
    rw [h, HNX.out, HF.out, Bool.or_assoc]
  cases sees
  case false =>
    have HF1 := HGO.out fo (by simp)
    cases fo
    all_goals
      obtain ⟨r2, m_, hmul, h2⟩ := fl_run (P := Try.prog) (f := .mul) rfl 22 fl_two FR.out wd
      go_upto_region 17 with fail
      clear hmul
      have H2 : Hid (Fl r2 (opO .mul (some TWW) (ofW zq))) := h2
      obtain ⟨we, hwe⟩ : ∃ q, q = (wd.drewN m_).setCell ⟨gz, 2, none⟩ (.float .f64 r2) := ⟨_, rfl⟩
      rw [← hwe]
      have bm : Below wd.heap.size wd (wd.drewN m_) := bDrewN (Below.refl _ _) _
      have bs : Beside gz (wd.drewN m_) we := by rw [hwe]; exact Beside.setCell gz _ 2 _
      replace HR : Hid (RowX we (some ⟨g, o, none⟩) (k * 4) (zV C E R T)) := (HR.out.below bm).bes bs ngr
      replace HV : Hid (Blk we gv [.float .f64 x, .float .f64 y]) := (HV.out.below bm).beside bs (fun e => ngv e.symm)
      replace HA : Hid (Blk we ga [.float .f64 z, .float .f64 u]) := (HA.out.below bm).beside bs (fun e => nga e.symm)
      replace HB : Hid (Below w.heap.size w we) := (HB.out.trans (bm.mono HB.out.size)).trans (bs.below lgz (HB.out.trans (bm.mono HB.out.size)).size)
      replace HZ : Hid (Blk we gz [.float .f64 zc, .float .f64 ze, .float .f64 r2, .int .i64 zt]) := by show Blk _ _ _; rw [hwe]; exact (HZ.out.below bm).set 2 _
      clear bm bs h2 hwe vc0 vc1 ac0 ac1 zc0 zc1 zc2 zc3 fz2
      go_wp2
      go_roundw
      case rel => exact ⟨j + 1, _, by omega, by go_num, rfl, HF1, HR, HV, HA, HB⟩
      case measure => simp [intOf]; omega
  case true =>
    cases fo
    case true =>
      have HF1 := HGO.out true (by simp)
      obtain ⟨r2, m_, hmul, h2⟩ := fl_run (P := Try.prog) (f := .mul) rfl 22 fl_two FR.out wd
      go_upto_region 17 with fail
      clear hmul
      have H2 : Hid (Fl r2 (opO .mul (some TWW) (ofW zq))) := h2
      obtain ⟨we, hwe⟩ : ∃ q, q = (wd.drewN m_).setCell ⟨gz, 2, none⟩ (.float .f64 r2) := ⟨_, rfl⟩
      rw [← hwe]
      have bm : Below wd.heap.size wd (wd.drewN m_) := bDrewN (Below.refl _ _) _
      have bs : Beside gz (wd.drewN m_) we := by rw [hwe]; exact Beside.setCell gz _ 2 _
      replace HR : Hid (RowX we (some ⟨g, o, none⟩) (k * 4) (zV C E R T)) := (HR.out.below bm).bes bs ngr
      replace HV : Hid (Blk we gv [.float .f64 x, .float .f64 y]) := (HV.out.below bm).beside bs (fun e => ngv e.symm)
      replace HA : Hid (Blk we ga [.float .f64 z, .float .f64 u]) := (HA.out.below bm).beside bs (fun e => nga e.symm)
      replace HB : Hid (Below w.heap.size w we) := (HB.out.trans (bm.mono HB.out.size)).trans (bs.below lgz (HB.out.trans (bm.mono HB.out.size)).size)
      replace HZ : Hid (Blk we gz [.float .f64 zc, .float .f64 ze, .float .f64 r2, .int .i64 zt]) := by show Blk _ _ _; rw [hwe]; exact (HZ.out.below bm).set 2 _
      clear bm bs h2 hwe vc0 vc1 ac0 ac1 zc0 zc1 zc2 zc3 fz2
      have zc0 := HZ.out.2.2 0 _ rfl
      have zc1 := HZ.out.2.2 1 _ rfl
      have zc2 := HZ.out.2.2 2 _ rfl
      have zc3 := HZ.out.2.2 3 _ rfl
      go_wp2_with fail
      refine (specKnown_any r2 we).mono ?_
      rintro e wf ⟨rfl, nn, hwf⟩
      have bf : Below we.heap.size we wf := by rw [hwf]; exact bDrewN (Below.refl _ _) _
      replace HR : Hid (RowX wf (some ⟨g, o, none⟩) (k * 4) (zV C E R T)) := HR.out.below bf
      replace HV : Hid (Blk wf gv [.float .f64 x, .float .f64 y]) := HV.out.below bf
      replace HA : Hid (Blk wf ga [.float .f64 z, .float .f64 u]) := HA.out.below bf
      replace HB : Hid (Below w.heap.size w wf) := HB.out.trans (bf.mono HB.out.size)
      replace HZ : Hid (Blk wf gz [.float .f64 zc, .float .f64 ze, .float .f64 r2, .int .i64 zt]) := HZ.out.below bf
      clear bf hwf
      clear zc0 zc1 zc2 zc3
      cases hkn : knownB r2
      case false =>
        go_wp2
        go_roundw
        case rel => exact ⟨j + 1, _, by omega, by go_num, rfl, HF1, HR, HV, HA, HB⟩
        case measure => simp [intOf]; omega
      case true =>
        have HKN : Hid (knownB r2 = true) := hkn
        have vc0 := HV.out.2.2 0 _ rfl
        have vc1 := HV.out.2.2 1 _ rfl
        have ac0 := HA.out.2.2 0 _ rfl
        have ac1 := HA.out.2.2 1 _ rfl
        have zc0 := HZ.out.2.2 0 _ rfl
        have zc1 := HZ.out.2.2 1 _ rfl
        have zc2 := HZ.out.2.2 2 _ rfl
        have zc3 := HZ.out.2.2 3 _ rfl
        clear hkn
        have F2R : Hid (Fl r2 (ofW r2)) := fl_of r2 H2.out.1
        go_wp2_with fail
        refine (implSees_any FC.out FE.out F2R.out zt FX.out FY.out FZ.out FU.out wf).mono ?_
        rintro e wg ⟨rfl, bg⟩
        rw [show (zoneB zc ze r2 zt && leO (normO (opO .sub (divRe oa ob og od) (ofW zc)) (opO .sub (divIm oa ob og od) (ofW ze))) (opO .mul (ofW r2) (ofW r2))) = true from sees_dbl rfl l2 HSN.out.symm H2.out HKN.out]
        replace HR : Hid (RowX wg (some ⟨g, o, none⟩) (k * 4) (zV C E R T)) := HR.out.below bg
        replace HV : Hid (Blk wg gv [.float .f64 x, .float .f64 y]) := HV.out.below bg
        replace HA : Hid (Blk wg ga [.float .f64 z, .float .f64 u]) := HA.out.below bg
        replace HB : Hid (Below w.heap.size w wg) := HB.out.trans (bg.mono HB.out.size)
        replace HZ : Hid (Blk wg gz [.float .f64 zc, .float .f64 ze, .float .f64 r2, .int .i64 zt]) := HZ.out.below bg
        clear bg vc0 vc1 ac0 ac1 zc0 zc1 zc2 zc3
        go_wp2
        go_roundw
        case rel => exact ⟨j + 1, _, by omega, by go_num, rfl, HF1, HR, HV, HA, HB⟩
        case measure => simp [intOf]; omega
    case false =>
      by_cases hq : zt = tt
      case pos =>
        have dq : (zt == tt) = true := by simpa using hq
        have HF1 := HGO.out true (by rw [dq]; rfl)
        clear hq
        obtain ⟨r2, m_, hmul, h2⟩ := fl_run (P := Try.prog) (f := .mul) rfl 22 fl_two FR.out wd
        go_upto_region 17 with fail
        clear hmul
        have H2 : Hid (Fl r2 (opO .mul (some TWW) (ofW zq))) := h2
        obtain ⟨we, hwe⟩ : ∃ q, q = (wd.drewN m_).setCell ⟨gz, 2, none⟩ (.float .f64 r2) := ⟨_, rfl⟩
        rw [← hwe]
        have bm : Below wd.heap.size wd (wd.drewN m_) := bDrewN (Below.refl _ _) _
        have bs : Beside gz (wd.drewN m_) we := by rw [hwe]; exact Beside.setCell gz _ 2 _
        replace HR : Hid (RowX we (some ⟨g, o, none⟩) (k * 4) (zV C E R T)) := (HR.out.below bm).bes bs ngr
        replace HV : Hid (Blk we gv [.float .f64 x, .float .f64 y]) := (HV.out.below bm).beside bs (fun e => ngv e.symm)
        replace HA : Hid (Blk we ga [.float .f64 z, .float .f64 u]) := (HA.out.below bm).beside bs (fun e => nga e.symm)
        replace HB : Hid (Below w.heap.size w we) := (HB.out.trans (bm.mono HB.out.size)).trans (bs.below lgz (HB.out.trans (bm.mono HB.out.size)).size)
        replace HZ : Hid (Blk we gz [.float .f64 zc, .float .f64 ze, .float .f64 r2, .int .i64 zt]) := by show Blk _ _ _; rw [hwe]; exact (HZ.out.below bm).set 2 _
        clear bm bs h2 hwe vc0 vc1 ac0 ac1 zc0 zc1 zc2 zc3 fz2
        have zc0 := HZ.out.2.2 0 _ rfl
        have zc1 := HZ.out.2.2 1 _ rfl
        have zc2 := HZ.out.2.2 2 _ rfl
        have zc3 := HZ.out.2.2 3 _ rfl
        go_wp2_with fail
        refine (specKnown_any r2 we).mono ?_
        rintro e wf ⟨rfl, nn, hwf⟩
        have bf : Below we.heap.size we wf := by rw [hwf]; exact bDrewN (Below.refl _ _) _
        replace HR : Hid (RowX wf (some ⟨g, o, none⟩) (k * 4) (zV C E R T)) := HR.out.below bf
        replace HV : Hid (Blk wf gv [.float .f64 x, .float .f64 y]) := HV.out.below bf
        replace HA : Hid (Blk wf ga [.float .f64 z, .float .f64 u]) := HA.out.below bf
        replace HB : Hid (Below w.heap.size w wf) := HB.out.trans (bf.mono HB.out.size)
        replace HZ : Hid (Blk wf gz [.float .f64 zc, .float .f64 ze, .float .f64 r2, .int .i64 zt]) := HZ.out.below bf
        clear bf hwf
        clear zc0 zc1 zc2 zc3
        cases hkn : knownB r2
        case false =>
          go_wp2
          go_roundw
          case rel => exact ⟨j + 1, _, by omega, by go_num, rfl, HF1, HR, HV, HA, HB⟩
          case measure => simp [intOf]; omega
        case true =>
          have HKN : Hid (knownB r2 = true) := hkn
          have vc0 := HV.out.2.2 0 _ rfl
          have vc1 := HV.out.2.2 1 _ rfl
          have ac0 := HA.out.2.2 0 _ rfl
          have ac1 := HA.out.2.2 1 _ rfl
          have zc0 := HZ.out.2.2 0 _ rfl
          have zc1 := HZ.out.2.2 1 _ rfl
          have zc2 := HZ.out.2.2 2 _ rfl
          have zc3 := HZ.out.2.2 3 _ rfl
          clear hkn
          have F2R : Hid (Fl r2 (ofW r2)) := fl_of r2 H2.out.1
          go_wp2_with fail
          refine (implSees_any FC.out FE.out F2R.out zt FX.out FY.out FZ.out FU.out wf).mono ?_
          rintro e wg ⟨rfl, bg⟩
          rw [show (zoneB zc ze r2 zt && leO (normO (opO .sub (divRe oa ob og od) (ofW zc)) (opO .sub (divIm oa ob og od) (ofW ze))) (opO .mul (ofW r2) (ofW r2))) = true from sees_dbl rfl l2 HSN.out.symm H2.out HKN.out]
          replace HR : Hid (RowX wg (some ⟨g, o, none⟩) (k * 4) (zV C E R T)) := HR.out.below bg
          replace HV : Hid (Blk wg gv [.float .f64 x, .float .f64 y]) := HV.out.below bg
          replace HA : Hid (Blk wg ga [.float .f64 z, .float .f64 u]) := HA.out.below bg
          replace HB : Hid (Below w.heap.size w wg) := HB.out.trans (bg.mono HB.out.size)
          replace HZ : Hid (Blk wg gz [.float .f64 zc, .float .f64 ze, .float .f64 r2, .int .i64 zt]) := HZ.out.below bg
          clear bg vc0 vc1 ac0 ac1 zc0 zc1 zc2 zc3
          go_wp2
          go_roundw
          case rel => exact ⟨j + 1, _, by omega, by go_num, rfl, HF1, HR, HV, HA, HB⟩
          case measure => simp [intOf]; omega
      case neg =>
        have dq : (zt == tt) = false := by simpa using hq
        have HF1 := HGO.out false (by rw [dq]; rfl)
        clear hq
        obtain ⟨r2, m_, hmul, h2⟩ := fl_run (P := Try.prog) (f := .mul) rfl 22 fl_two FR.out wd
        go_upto_region 17 with fail
        clear hmul
        have H2 : Hid (Fl r2 (opO .mul (some TWW) (ofW zq))) := h2
        obtain ⟨we, hwe⟩ : ∃ q, q = (wd.drewN m_).setCell ⟨gz, 2, none⟩ (.float .f64 r2) := ⟨_, rfl⟩
        rw [← hwe]
        have bm : Below wd.heap.size wd (wd.drewN m_) := bDrewN (Below.refl _ _) _
        have bs : Beside gz (wd.drewN m_) we := by rw [hwe]; exact Beside.setCell gz _ 2 _
        replace HR : Hid (RowX we (some ⟨g, o, none⟩) (k * 4) (zV C E R T)) := (HR.out.below bm).bes bs ngr
        replace HV : Hid (Blk we gv [.float .f64 x, .float .f64 y]) := (HV.out.below bm).beside bs (fun e => ngv e.symm)
        replace HA : Hid (Blk we ga [.float .f64 z, .float .f64 u]) := (HA.out.below bm).beside bs (fun e => nga e.symm)
        replace HB : Hid (Below w.heap.size w we) := (HB.out.trans (bm.mono HB.out.size)).trans (bs.below lgz (HB.out.trans (bm.mono HB.out.size)).size)
        replace HZ : Hid (Blk we gz [.float .f64 zc, .float .f64 ze, .float .f64 r2, .int .i64 zt]) := by show Blk _ _ _; rw [hwe]; exact (HZ.out.below bm).set 2 _
        clear bm bs h2 hwe vc0 vc1 ac0 ac1 zc0 zc1 zc2 zc3 fz2
        have zc0 := HZ.out.2.2 0 _ rfl
        have zc1 := HZ.out.2.2 1 _ rfl
        have zc2 := HZ.out.2.2 2 _ rfl
        have zc3 := HZ.out.2.2 3 _ rfl
        go_wp2_with fail
        refine (specKnown_any r2 we).mono ?_
        rintro e wf ⟨rfl, nn, hwf⟩
        have bf : Below we.heap.size we wf := by rw [hwf]; exact bDrewN (Below.refl _ _) _
        replace HR : Hid (RowX wf (some ⟨g, o, none⟩) (k * 4) (zV C E R T)) := HR.out.below bf
        replace HV : Hid (Blk wf gv [.float .f64 x, .float .f64 y]) := HV.out.below bf
        replace HA : Hid (Blk wf ga [.float .f64 z, .float .f64 u]) := HA.out.below bf
        replace HB : Hid (Below w.heap.size w wf) := HB.out.trans (bf.mono HB.out.size)
        replace HZ : Hid (Blk wf gz [.float .f64 zc, .float .f64 ze, .float .f64 r2, .int .i64 zt]) := HZ.out.below bf
        clear bf hwf
        clear zc0 zc1 zc2 zc3
        cases hkn : knownB r2
        case false =>
          go_wp2
          go_roundw
          case rel => exact ⟨j + 1, _, by omega, by go_num, rfl, HF1, HR, HV, HA, HB⟩
          case measure => simp [intOf]; omega
        case true =>
          have HKN : Hid (knownB r2 = true) := hkn
          have vc0 := HV.out.2.2 0 _ rfl
          have vc1 := HV.out.2.2 1 _ rfl
          have ac0 := HA.out.2.2 0 _ rfl
          have ac1 := HA.out.2.2 1 _ rfl
          have zc0 := HZ.out.2.2 0 _ rfl
          have zc1 := HZ.out.2.2 1 _ rfl
          have zc2 := HZ.out.2.2 2 _ rfl
          have zc3 := HZ.out.2.2 3 _ rfl
          clear hkn
          have F2R : Hid (Fl r2 (ofW r2)) := fl_of r2 H2.out.1
          go_wp2_with fail
          refine (implSees_any FC.out FE.out F2R.out zt FX.out FY.out FZ.out FU.out wf).mono ?_
          rintro e wg ⟨rfl, bg⟩
          rw [show (zoneB zc ze r2 zt && leO (normO (opO .sub (divRe oa ob og od) (ofW zc)) (opO .sub (divIm oa ob og od) (ofW ze))) (opO .mul (ofW r2) (ofW r2))) = true from sees_dbl rfl l2 HSN.out.symm H2.out HKN.out]
          replace HR : Hid (RowX wg (some ⟨g, o, none⟩) (k * 4) (zV C E R T)) := HR.out.below bg
          replace HV : Hid (Blk wg gv [.float .f64 x, .float .f64 y]) := HV.out.below bg
          replace HA : Hid (Blk wg ga [.float .f64 z, .float .f64 u]) := HA.out.below bg
          replace HB : Hid (Below w.heap.size w wg) := HB.out.trans (bg.mono HB.out.size)
          replace HZ : Hid (Blk wg gz [.float .f64 zc, .float .f64 ze, .float .f64 r2, .int .i64 zt]) := HZ.out.below bg
          clear bg vc0 vc1 ac0 ac1 zc0 zc1 zc2 zc3
          go_wp2
          go_roundw
          case rel => exact ⟨j + 1, _, by omega, by go_num, rfl, HF1, HR, HV, HA, HB⟩
          case measure => simp [intOf]; omega
theorem fnZones_walk (w : World) (s : Option Addr) (n c : Nat) (hn : n ≤ 9223372036854775807) (R : Bytes w s n) :
    Calls Try.prog 6 #[.slice s n c] w fun e w' => e = .returned (.bool true) ∧ Below w.heap.size w w' := by
  by_cases h : n ≤ 1048576
  · exact zones_near w s n c (by omega) (R.code h)
  · exact zones_far w s n c (by omega)

set_option maxRecDepth 100000 in
theorem fnZones_lifted (os : Os) (started : os.Started) (H : Type) (enc : TypeId × Value → H) :
    ReturnsInHanded {} Try.checked os 6 .any (Rows.fnZonesSpec.pre6 enc Try.prog Try.f6 Rows.fnZonesRow.domain false) (Rows.fnZonesSpec.post enc Try.prog Try.f6 false true false false) := by
  refine returnsInHanded_of_change (C := Try.checked) own started (by kernel_rfl) Try.func6
    (ChangeSpec.witness6 (enc := enc) (C := Try.checked) false ⟨#[], #[.slice none 0 0], []⟩ 8 (by kernel_rfl) (by kernel_rfl) (by kernel_rfl) (by kernel_rfl)) ?_
  intro W base args ds gs before hval0 hW hcnd _
  have hval : ∀ (j : Nat) t v, Try.f6.params[j]? = some t → args[j]? = some v → Value.okWide Try.prog W .any base t v := hval0
  have hW' := hW
  obtain ⟨p, q, hA0, hV, rfl, hfz, hnd⟩ := hW
  have hA : DataW.TrodAll enc Try.prog W 0 (fun _ => true) true Try.f6.params.toList args.toList ds p := hA0
  rw [Try.params6] at hA hval
  obtain ⟨v0, vs0, d0, ds0, p0, q0, hargs, rfl, rfl, h0, r0⟩ := trodAll_cons hA
  obtain ⟨rfl, rfl, rfl⟩ := trodAll_nil r0
  obtain rfl : args = #[v0] := by cases args; simp_all
  obtain ⟨rfl, rfl⟩ := trodVars_none hV
  have k0 := h0
  have lt0 : ∀ x ∈ p0, x.block < W.heap.size := by obtain ⟨m, hm⟩ := k0; exact DataW.trod_lt m _ _ _ hm
  obtain ⟨s0, n0, c0, rfl, m0, R0⟩ := open_code Try.underlying43 Try.underlying5 (by kernel_rfl) (hval 0 43 v0 rfl rfl) h0
  clear hA0 hval0
  refine (fnZones_walk W s0 n0 c0 m0 R0).mono fun e W' ⟨he, bel⟩ => ?_
  subst he
  exact ⟨_, rfl, _, _, _, [], _, [], hW', trodAll_mk1 (shut_bool Try.underlying4 _), (trodAll_cons_mk (Below.trod laidOut (by kernel_rfl) (of_decide_eq_true (by kernel_rfl)) k0 bel lt0) trodAll_mk0), rfl, bel.frame _, fun h => by cases h⟩

theorem fnZones_holds : Rows.FnZonesSaid :=
  OpenClaim.holds_of_wide 6 Try.f6 rfl rfl rfl rfl rfl rfl rfl ⟨rfl, rfl, rfl, rfl, rfl⟩ rfl rfl rfl rfl rfl (by kernel_rfl) Try.func6 (by kernel_rfl)
    (of_decide_eq_true (by kernel_rfl)) (by unfold Func.isWrapper; first | (rw [if_pos (by decide +kernel)]; kernel_rfl) | (rw [if_neg (by decide +kernel)]; exact ⟨rfl, rfl⟩))
    (fun os started H enc _ => fnZones_lifted os started H enc)
#print axioms fnZones_holds
end Go.Proofs.Ytedkhhocbnldjaa
