/-
What is proved: a voltage and a current that are drawn for a zone: any floats.
-/
import Derived.Test.YtedkhhocbnldjaaZnD
import Derived.Deep.DeepCutAuto
import Derived.RegionTactic
import Derived.Deep.RegionHeld3
namespace Go.Proofs.Ytedkhhocbnldjaa
set_option maxRecDepth 40000
open Go.ChangeShapes Go.WideShapes Go.ChangeAt Go.RowKit
set_option linter.unusedVariables false
set_option linter.unusedSimpArgs false

/-- What lies there on the way: the zone, the two answers, the current. -/
def MeS (w : World) (r : Nat) (s : Option Addr) (n c p : Nat) (gz gu gv ga zc ze zq : Nat) (zt : Int) (x y : Nat) (W : World) : Prop := Rd W r s n c p ∧ Beside r w W ∧ Blk W gz [.float .f64 zc, .float .f64 ze, .float .f64 zq, .int .i64 zt] ∧ Blk W gu [.float .f64 0, .float .f64 0] ∧ Blk W gv [.float .f64 0, .float .f64 0] ∧ Blk W ga [.float .f64 x, .float .f64 y] ∧ (w.heap.size ≤ gz ∧ gz < gu ∧ gu < gv ∧ gv < ga ∧ r < w.heap.size)
theorem MeS.read {w : World} {r : Nat} {s : Option Addr} {n c p p' gz gu gv ga zc ze zq : Nat} {zt : Int} {x y : Nat} {W W' : World} (h : MeS w r s n c p gz gu gv ga zc ze zq zt x y W) (hR : Rd W' r s n c p') (hb : Beside r W W') : MeS w r s n c p' gz gu gv ga zc ze zq zt x y W' := by
  obtain ⟨h1, h2, h3, h4, h5, h6, h7⟩ := h
  exact ⟨hR, h2.trans hb, h3.beside hb (by omega), h4.beside hb (by omega), h5.beside hb (by omega), h6.beside hb (by omega), h7⟩
theorem MeS.below {w : World} {r : Nat} {s : Option Addr} {n c p gz gu gv ga zc ze zq : Nat} {zt : Int} {x y : Nat} {W W' : World} (h : MeS w r s n c p gz gu gv ga zc ze zq zt x y W) (hb : Below W.heap.size W W') : MeS w r s n c p gz gu gv ga zc ze zq zt x y W' := h.read (h.1.below hb) (Beside.of hb)
theorem MeS.put {w : World} {r : Nat} {s : Option Addr} {n c p gz gu gv ga zc ze zq : Nat} {zt : Int} {x y : Nat} {W W1 W2 : World} {g7 : Nat} (h : MeS w r s n c p gz gu gv ga zc ze zq zt x y W) (b1 : Beside g7 W W1) (b2 : Beside g7 W1 W2) (hg : ga < g7) : MeS w r s n c p gz gu gv ga zc ze zq zt x y W2 := by
  obtain ⟨h1, h2, h3, h4, h5, h6, h7⟩ := h
  exact ⟨(Rd.below' h1 (b1.below (by omega) h1.1)).below' (b2.below (by omega) (Nat.lt_of_lt_of_le h1.1 b1.2.2.2.1)), (h2.onB (b1.below (by omega) h2.2.2.2.1)).onB (b2.below (by omega) (Nat.le_trans h2.2.2.2.1 b1.2.2.2.1)), (h3.beside b1 (by omega)).beside b2 (by omega), (h4.beside b1 (by omega)).beside b2 (by omega), (h5.beside b1 (by omega)).beside b2 (by omega), (h6.beside b1 (by omega)).beside b2 (by omega), h7⟩
theorem cutG (pre G : Nat → Nat → Nat → Nat → Nat → Nat → Nat → Nat → World → Prop) {Goal : Prop} (main : (∀ a b c d e f g h W, pre a b c d e f g h W → G a b c d e f g h W) → Goal) (fin : ∀ a b c d e f g h W, pre a b c d e f g h W → G a b c d e f g h W) : Goal := main fin
theorem cut2 (pre G : Nat → Nat → World → Prop) {Goal : Prop} (main : (∀ a0 a1 W, pre a0 a1 W → G a0 a1 W) → Goal) (fin : ∀ a0 a1 W, pre a0 a1 W → G a0 a1 W) : Goal := main fin
theorem cut3 (pre G : Nat → Nat → Nat → World → Prop) {Goal : Prop} (main : (∀ a0 a1 a2 W, pre a0 a1 a2 W → G a0 a1 a2 W) → Goal) (fin : ∀ a0 a1 a2 W, pre a0 a1 a2 W → G a0 a1 a2 W) : Goal := main fin
theorem cut4 (pre G : Nat → Nat → Nat → Nat → World → Prop) {Goal : Prop} (main : (∀ a0 a1 a2 a3 W, pre a0 a1 a2 a3 W → G a0 a1 a2 a3 W) → Goal) (fin : ∀ a0 a1 a2 a3 W, pre a0 a1 a2 a3 W → G a0 a1 a2 a3 W) : Goal := main fin
theorem cut5 (pre G : Nat → Nat → Nat → Nat → Nat → World → Prop) {Goal : Prop} (main : (∀ a0 a1 a2 a3 a4 W, pre a0 a1 a2 a3 a4 W → G a0 a1 a2 a3 a4 W) → Goal) (fin : ∀ a0 a1 a2 a3 a4 W, pre a0 a1 a2 a3 a4 W → G a0 a1 a2 a3 a4 W) : Goal := main fin
theorem cut6 (pre G : Nat → Nat → Nat → Nat → Nat → Nat → World → Prop) {Goal : Prop} (main : (∀ a0 a1 a2 a3 a4 a5 W, pre a0 a1 a2 a3 a4 a5 W → G a0 a1 a2 a3 a4 a5 W) → Goal) (fin : ∀ a0 a1 a2 a3 a4 a5 W, pre a0 a1 a2 a3 a4 a5 W → G a0 a1 a2 a3 a4 a5 W) : Goal := main fin
theorem cut7 (pre G : Nat → Nat → Nat → Nat → Nat → Nat → Nat → World → Prop) {Goal : Prop} (main : (∀ a0 a1 a2 a3 a4 a5 a6 W, pre a0 a1 a2 a3 a4 a5 a6 W → G a0 a1 a2 a3 a4 a5 a6 W) → Goal) (fin : ∀ a0 a1 a2 a3 a4 a5 a6 W, pre a0 a1 a2 a3 a4 a5 a6 W → G a0 a1 a2 a3 a4 a5 a6 W) : Goal := main fin
theorem cut8 (pre G : Nat → Nat → Nat → Nat → Nat → Nat → Nat → Nat → World → Prop) {Goal : Prop} (main : (∀ a0 a1 a2 a3 a4 a5 a6 a7 W, pre a0 a1 a2 a3 a4 a5 a6 a7 W → G a0 a1 a2 a3 a4 a5 a6 a7 W) → Goal) (fin : ∀ a0 a1 a2 a3 a4 a5 a6 a7 W, pre a0 a1 a2 a3 a4 a5 a6 a7 W → G a0 a1 a2 a3 a4 a5 a6 a7 W) : Goal := main fin
theorem wpAnyH_lst {P : Program} {md : Region.Mode} {ops : Array Oper} {Q : Exit → Act → World → Prop} {S : World → Prop} {fuel : Nat} {l l' : Array Bool} {a : Act} {w : World} (h : l = l') (H : wpAnyH P md ops Q S fuel l' a w) : wpAnyH P md ops Q S fuel l a w := h ▸ H
theorem anyFl {x : Nat} (h : x < 18446744073709551616) : ∃ o, Fl x o := ⟨_, fl_of x h⟩
set_option maxRecDepth 40000 in
set_option maxHeartbeats 64000000 in
theorem meet_any {r : Nat} {s : Option Addr} {n c p : Nat} {w : World} (zc ze zq : Nat) (zt : Int) (lc : zc < 18446744073709551616) (le : ze < 18446744073709551616) (lr : zq < 18446744073709551616) (h : Hid (Rd w r s n c p)) :
    Calls Try.prog 36 #[.pointer (some ⟨r, 0, none⟩), .agg #[.float .f64 zc, .float .f64 ze, .float .f64 zq, .int .i64 zt]] w fun e w' => ∃ (x y z u : Nat) (p' : Nat), e = .returned (.tuple #[.agg #[.float .f64 x, .float .f64 y], .agg #[.float .f64 z, .float .f64 u]]) ∧ (x < 18446744073709551616 ∧ y < 18446744073709551616 ∧ z < 18446744073709551616 ∧ u < 18446744073709551616) ∧ Rd w' r s n c p' ∧ Beside r w w' := by
  have zr : r < w.heap.size := h.out.1
  have HR : Hid (Rd w r s n c p) := h
  have HS : Hid (Beside r w w) := Beside.of (Below.refl _ _)
  clear h
  go_enter Try.func36, Try.ntmps36
  have hst := store_fp
  go_wp2_with fail
  refine (below_any 8 (HR.out.below (by repeat (first | with_reducible exact Below.refl _ _ | with_reducible refine Below.setCell ?_ (by first | omega | (simp; done) | (simp; omega)) _ | with_reducible refine bDrewN ?_ _ | with_reducible refine Below.drew ?_ | with_reducible refine Below.alloc ?_ (by first | omega | (simp; done) | (simp; omega)) _)))).mono ?_
  rintro e w1 ⟨kk, pk, rfl, kk0, kk1, kk2, R_, b_⟩
  have sz_ : w.heap.size ≤ w.heap.size := HS.out.2.2.2.1
  have zr_ : r < w.heap.size := HR.out.1
  have bb : Beside r w w1 := (Beside.of (show Below w.heap.size w _ from (by repeat (first | with_reducible exact Below.refl _ _ | with_reducible refine Below.setCell ?_ (by first | omega | (simp; done) | (simp; omega)) _ | with_reducible refine bDrewN ?_ _ | with_reducible refine Below.drew ?_ | with_reducible refine Below.alloc ?_ (by first | omega | (simp; done) | (simp; omega)) _)))).trans b_
  obtain ⟨gz, hgz⟩ : ∃ g, g = w.heap.size := ⟨_, rfl⟩
  have Hz : Hid (Blk w1 gz [.float .f64 zc, .float .f64 ze, .float .f64 zq, .int .i64 zt]) := by
    show Blk _ _ _
    have q := ((((Blk.new w #[.float .f64 zc, .float .f64 ze, .float .f64 zq, .int .i64 zt] 30).below (below0 _ _)).below (below0 _ _))).beside b_ (by first | omega | (simp; omega))
    rw [hgz]; exact q
  obtain ⟨gu, hgu⟩ : ∃ g, g = w.heap.size + 1 := ⟨_, rfl⟩
  have Hu : Hid (Blk w1 gu [.float .f64 0, .float .f64 0]) := by
    show Blk _ _ _
    have q := (((Blk.new (w.alloc (.cells #[.float .f64 zc, .float .f64 ze, .float .f64 zq, .int .i64 zt] 30)) #[.float .f64 0, .float .f64 0] 28).below (below0 _ _))).beside b_ (by first | omega | (simp; omega))
    rw [hgu]; exact (by simpa using q)
  obtain ⟨gv, hgv⟩ : ∃ g, g = w.heap.size + 1 + 1 := ⟨_, rfl⟩
  have Hv : Hid (Blk w1 gv [.float .f64 0, .float .f64 0]) := by
    show Blk _ _ _
    have q := ((Blk.new ((w.alloc (.cells #[.float .f64 zc, .float .f64 ze, .float .f64 zq, .int .i64 zt] 30)).alloc (.cells #[.float .f64 0, .float .f64 0] 28)) #[.float .f64 0, .float .f64 0] 28)).beside b_ (by first | omega | (simp; omega))
    rw [hgv]; exact (by simpa using q)
  replace HS : Hid (Beside r w w1) := HS.out.trans bb
  replace HR : Hid (Rd w1 r s n c pk) := R_
  clear R_
  have lgz : w.heap.size ≤ gz := by omega
  have rgz : r < gz := by omega
  have lgu : w.heap.size ≤ gu := by omega
  have rgu : r < gu := by omega
  have dgzgu : gz < gu := by omega
  have lgv : w.heap.size ≤ gv := by omega
  have rgv : r < gv := by omega
  have dgzgv : gz < gv := by omega
  have dgugv : gu < gv := by omega
  try rw [← hgv]
  try rw [← hgu]
  try rw [← hgz]
  clear hgz
  clear hgu
  clear hgv
  clear bb b_ sz_ zr_ 
  have kk8 : kk ≤ 8 := by omega
  clear kk1 kk2
  have hcv := conv_fl (1 + kk)
  go_wp2_with fail
  refine (once_any 3 (by omega) (by omega) (HR.out.below (by repeat (first | with_reducible exact Below.refl _ _ | with_reducible refine Below.setCell ?_ (by first | omega | (simp; done) | (simp; omega)) _ | with_reducible refine bDrewN ?_ _ | with_reducible refine Below.drew ?_ | with_reducible refine Below.alloc ?_ (by first | omega | (simp; done) | (simp; omega)) _)))).mono ?_
  rintro e w2 ⟨fl, pf, rfl, R_, b_⟩
  have Hz_z : gz < w1.heap.size := Hz.out.1
  have Hu_z : gu < w1.heap.size := Hu.out.1
  have Hv_z : gv < w1.heap.size := Hv.out.1
  have sz_ : w.heap.size ≤ w1.heap.size := HS.out.2.2.2.1
  have zr_ : r < w1.heap.size := HR.out.1
  have bb : Beside r w1 w2 := (Beside.of (show Below w1.heap.size w1 _ from (by repeat (first | with_reducible exact Below.refl _ _ | with_reducible refine Below.setCell ?_ (by first | omega | (simp; done) | (simp; omega)) _ | with_reducible refine bDrewN ?_ _ | with_reducible refine Below.drew ?_ | with_reducible refine Below.alloc ?_ (by first | omega | (simp; done) | (simp; omega)) _)))).trans b_
  obtain ⟨ga, hga⟩ : ∃ g, g = w1.heap.size := ⟨_, rfl⟩
  have Ha : Hid (Blk w2 ga [.float .f64 (itF (1 + kk)), .float .f64 0]) := by
    show Blk _ _ _
    have q := ((Blk.new w1 #[.float .f64 (itF (1 + kk)), .float .f64 0] 28)).beside b_ (by first | omega | (simp; omega))
    rw [hga]; exact q
  replace Hz : Hid (Blk w2 gz [.float .f64 zc, .float .f64 ze, .float .f64 zq, .int .i64 zt]) := Hz.out.beside bb (by omega)
  replace Hu : Hid (Blk w2 gu [.float .f64 0, .float .f64 0]) := Hu.out.beside bb (by omega)
  replace Hv : Hid (Blk w2 gv [.float .f64 0, .float .f64 0]) := Hv.out.beside bb (by omega)
  replace HS : Hid (Beside r w w2) := HS.out.trans bb
  replace HR : Hid (Rd w2 r s n c pf) := R_
  clear R_
  have lga : w.heap.size ≤ ga := by omega
  have rga : r < ga := by omega
  have dgzga : gz < ga := by omega
  have dguga : gu < ga := by omega
  have dgvga : gv < ga := by omega
  try rw [← hga]
  clear hga
  clear bb b_ sz_ zr_ Hz_z Hu_z Hv_z
  obtain ⟨xa, hxa⟩ : ∃ z, itF (1 + kk) = z := ⟨_, rfl⟩
  have lxa : xa < 18446744073709551616 := by rw [← hxa]; exact (itF_fl (1 + kk)).1
  rw [hxa] at Ha
  try rw [hxa]
  clear hcv hxa
  have HM : Hid (MeS w r s n c pf gz gu gv ga zc ze zq zt xa 0 w2) := ⟨HR.out, HS.out, Hz.out, Hu.out, Hv.out, Ha.out, by omega⟩
  clear HR HS Hz Hu Hv Ha
  go_upto_if 14 with fail
  go_cut [] (fun wx => ∃ (p9 x y : Nat), Hid (x < 18446744073709551616 ∧ y < 18446744073709551616) ∧ Hid (MeS w r s n c p9 gz gu gv ga zc ze zq zt x y wx))
  case first =>
    cases fl
    case false =>
      go_wp2_with fail
      go_meet
      exact ⟨pf, xa, 0, ⟨lxa, by decide⟩, HM⟩
    case true =>
      go_wp2_with fail
      refine (pair_any HM.out.1).mono ?_
      rintro e w3 ⟨x, y, p9, rfl, lx, ly, R_, b_⟩
      replace HM : Hid (MeS w r s n c p9 gz gu gv ga zc ze zq zt xa 0 w3) := HM.out.read R_ b_
      clear R_ b_
      obtain ⟨h1, h2, h3, h4, h5, h6, h7⟩ := HM.out
      have ac0 : w3.cell? ⟨ga, 0, none⟩ = some (.float .f64 xa) := h6.2.2 0 _ rfl
      have ac1 : w3.cell? ⟨ga, 1, none⟩ = some (.float .f64 0) := h6.2.2 1 _ rfl
      have af0 := h6.2.1 0
      have af1 := h6.2.1 1
      have b1 := Beside.setCell ga w3 0 (.float .f64 x)
      have b2 := Beside.setCell ga (w3.setCell ⟨ga, 0, none⟩ (.float .f64 x)) 1 (.float .f64 y)
      have HM9 : Hid (MeS w r s n c p9 gz gu gv ga zc ze zq zt x y ((w3.setCell ⟨ga, 0, none⟩ (.float .f64 x)).setCell ⟨ga, 1, none⟩ (.float .f64 y))) := ⟨(Rd.below' h1 (b1.below (by omega) h1.1)).below' (b2.below (by omega) (Nat.lt_of_lt_of_le h1.1 b1.2.2.2.1)), (h2.onB (b1.below (by omega) h2.2.2.2.1)).onB (b2.below (by omega) (Nat.le_trans h2.2.2.2.1 b1.2.2.2.1)), (h3.beside b1 (by omega)).beside b2 (by omega), (h4.beside b1 (by omega)).beside b2 (by omega), (h5.beside b1 (by omega)).beside b2 (by omega), (h6.set 0 _).set 1 _, h7⟩
      clear h1 h2 h3 h4 h5 h6 b1 b2
      go_wp2_with fail
      go_meet
      exact ⟨p9, x, y, ⟨lx, ly⟩, HM9⟩
  case rest =>
  clear HM
  obtain ⟨p9, x, y, HXY, HM⟩ := hcut
  obtain ⟨ozc, hzc⟩ := anyFl lc
  have FC : Hid (Fl zc ozc) := hzc
  obtain ⟨oze, hze⟩ := anyFl le
  have FE : Hid (Fl ze oze) := hze
  clear hzc hze
  have LNR : Hid (zq ^^^ 2 ^ 63 < 18446744073709551616) := xor_lt lr
  obtain ⟨nr, hnr⟩ : ∃ z, zq ^^^ 2 ^ 63 = z := ⟨_, rfl⟩
  rw [hnr] at LNR
  have HNR : Hid (zq ^^^ 2 ^ 63 = nr) := hnr
  clear hnr
  go_upto_region 4 with fail
  go_cut [7] (fun q wx => ∃ (p9 g7 a b : Nat), q = .pointer (some ⟨g7, 0, none⟩) ∧ Hid (a < 18446744073709551616 ∧ b < 18446744073709551616) ∧ Hid (ga < g7) ∧ Hid (Blk wx g7 [.float .f64 a, .float .f64 b]) ∧ Hid (MeS w r s n c p9 gz gu gv ga zc ze zq zt x y wx))
  case first =>
    rename World => wb
    have KZ : Hid (∀ (p : Nat) (W : World), MeS w r s n c p gz gu gv ga zc ze zq zt x y W → W.cell? ⟨gz, 0, none⟩ = some (.float .f64 zc) ∧ W.cell? ⟨gz, 1, none⟩ = some (.float .f64 ze) ∧ W.cell? ⟨gz, 2, none⟩ = some (.float .f64 zq)) := fun p W h => ⟨h.2.2.1.2.2 0 _ rfl, h.2.2.1.2.2 1 _ rfl, h.2.2.1.2.2 2 _ rfl⟩
    apply cut8 (fun p9 xa1 sa gs kn lv sb g7 W => Hid (MeS w r s n c p9 gz gu gv ga zc ze zq zt x y W) ∧ xa1 < 18446744073709551616 ∧ sa < 18446744073709551616 ∧ Hid (ga < gs) ∧ Hid (Blk W gs [.float .f64 zq, .float .f64 nr, .float .f64 0, .float .f64 4613937818241073152]) ∧ kn < 4 ∧ lv < 18446744073709551616 ∧ sb < 18446744073709551616 ∧ Hid (ga < g7) ∧ Hid (Blk W g7 [.float .f64 0, .float .f64 0]) ∧ W.cell? ⟨gz, 0, none⟩ = some (.float .f64 zc) ∧ W.cell? ⟨gz, 1, none⟩ = some (.float .f64 ze) ∧ W.cell? ⟨gz, 2, none⟩ = some (.float .f64 zq))
    case' main => intro FS4_5_14_16_18_19_21
    apply cut7 (fun p9 xa1 gs kn lv sb g7 W => Hid (MeS w r s n c p9 gz gu gv ga zc ze zq zt x y W) ∧ xa1 < 18446744073709551616 ∧ Hid (ga < gs) ∧ Hid (Blk W gs [.float .f64 zq, .float .f64 nr, .float .f64 0, .float .f64 4613937818241073152]) ∧ kn < 4 ∧ lv < 18446744073709551616 ∧ sb < 18446744073709551616 ∧ Hid (ga < g7) ∧ Hid (Blk W g7 [.float .f64 0, .float .f64 0]) ∧ W.cell? ⟨gz, 0, none⟩ = some (.float .f64 zc) ∧ W.cell? ⟨gz, 1, none⟩ = some (.float .f64 ze) ∧ W.cell? ⟨gz, 2, none⟩ = some (.float .f64 zq))
    case' main => intro FS4_14_16_18_19_21
    apply cut7 (fun p9 xa1 sa gs kn lv g7 W => Hid (MeS w r s n c p9 gz gu gv ga zc ze zq zt x y W) ∧ xa1 < 18446744073709551616 ∧ sa < 18446744073709551616 ∧ Hid (ga < gs) ∧ Hid (Blk W gs [.float .f64 zq, .float .f64 nr, .float .f64 0, .float .f64 4613937818241073152]) ∧ kn < 4 ∧ lv < 18446744073709551616 ∧ Hid (ga < g7) ∧ Hid (Blk W g7 [.float .f64 0, .float .f64 0]) ∧ W.cell? ⟨gz, 0, none⟩ = some (.float .f64 zc) ∧ W.cell? ⟨gz, 1, none⟩ = some (.float .f64 ze) ∧ W.cell? ⟨gz, 2, none⟩ = some (.float .f64 zq))
    case' main => intro FS4_5_14_16_18_21
    apply cut7 (fun p9 xa1 sa gs kn lv sb W => Hid (MeS w r s n c p9 gz gu gv ga zc ze zq zt x y W) ∧ xa1 < 18446744073709551616 ∧ sa < 18446744073709551616 ∧ Hid (ga < gs) ∧ Hid (Blk W gs [.float .f64 zq, .float .f64 nr, .float .f64 0, .float .f64 4613937818241073152]) ∧ kn < 4 ∧ lv < 18446744073709551616 ∧ sb < 18446744073709551616 ∧ W.cell? ⟨gz, 0, none⟩ = some (.float .f64 zc) ∧ W.cell? ⟨gz, 1, none⟩ = some (.float .f64 ze) ∧ W.cell? ⟨gz, 2, none⟩ = some (.float .f64 zq))
    case' main => intro FS4_5_14_16_18_19
    apply cut6 (fun p9 xa1 gs kn lv g7 W => Hid (MeS w r s n c p9 gz gu gv ga zc ze zq zt x y W) ∧ xa1 < 18446744073709551616 ∧ Hid (ga < gs) ∧ Hid (Blk W gs [.float .f64 zq, .float .f64 nr, .float .f64 0, .float .f64 4613937818241073152]) ∧ kn < 4 ∧ lv < 18446744073709551616 ∧ Hid (ga < g7) ∧ Hid (Blk W g7 [.float .f64 0, .float .f64 0]) ∧ W.cell? ⟨gz, 0, none⟩ = some (.float .f64 zc) ∧ W.cell? ⟨gz, 1, none⟩ = some (.float .f64 ze) ∧ W.cell? ⟨gz, 2, none⟩ = some (.float .f64 zq))
    case' main => intro FS4_14_16_18_21
    apply cut6 (fun p9 xa1 gs kn lv sb W => Hid (MeS w r s n c p9 gz gu gv ga zc ze zq zt x y W) ∧ xa1 < 18446744073709551616 ∧ Hid (ga < gs) ∧ Hid (Blk W gs [.float .f64 zq, .float .f64 nr, .float .f64 0, .float .f64 4613937818241073152]) ∧ kn < 4 ∧ lv < 18446744073709551616 ∧ sb < 18446744073709551616 ∧ W.cell? ⟨gz, 0, none⟩ = some (.float .f64 zc) ∧ W.cell? ⟨gz, 1, none⟩ = some (.float .f64 ze) ∧ W.cell? ⟨gz, 2, none⟩ = some (.float .f64 zq))
    case' main => intro FS4_14_16_18_19
    apply cut6 (fun p9 xa1 sa gs kn g7 W => Hid (MeS w r s n c p9 gz gu gv ga zc ze zq zt x y W) ∧ xa1 < 18446744073709551616 ∧ sa < 18446744073709551616 ∧ Hid (ga < gs) ∧ Hid (Blk W gs [.float .f64 zq, .float .f64 nr, .float .f64 0, .float .f64 4613937818241073152]) ∧ kn < 4 ∧ Hid (ga < g7) ∧ Hid (Blk W g7 [.float .f64 0, .float .f64 0]) ∧ W.cell? ⟨gz, 0, none⟩ = some (.float .f64 zc) ∧ W.cell? ⟨gz, 1, none⟩ = some (.float .f64 ze) ∧ W.cell? ⟨gz, 2, none⟩ = some (.float .f64 zq))
    case' main => intro FS4_5_14_16_21
    apply cut6 (fun p9 xa1 sa gs kn lv W => Hid (MeS w r s n c p9 gz gu gv ga zc ze zq zt x y W) ∧ xa1 < 18446744073709551616 ∧ sa < 18446744073709551616 ∧ Hid (ga < gs) ∧ Hid (Blk W gs [.float .f64 zq, .float .f64 nr, .float .f64 0, .float .f64 4613937818241073152]) ∧ kn < 4 ∧ lv < 18446744073709551616 ∧ W.cell? ⟨gz, 0, none⟩ = some (.float .f64 zc) ∧ W.cell? ⟨gz, 1, none⟩ = some (.float .f64 ze) ∧ W.cell? ⟨gz, 2, none⟩ = some (.float .f64 zq))
    case' main => intro FS4_5_14_16_18
    apply cut5 (fun p9 xa1 gs kn g7 W => Hid (MeS w r s n c p9 gz gu gv ga zc ze zq zt x y W) ∧ xa1 < 18446744073709551616 ∧ Hid (ga < gs) ∧ Hid (Blk W gs [.float .f64 zq, .float .f64 nr, .float .f64 0, .float .f64 4613937818241073152]) ∧ kn < 4 ∧ Hid (ga < g7) ∧ Hid (Blk W g7 [.float .f64 0, .float .f64 0]) ∧ W.cell? ⟨gz, 0, none⟩ = some (.float .f64 zc) ∧ W.cell? ⟨gz, 1, none⟩ = some (.float .f64 ze) ∧ W.cell? ⟨gz, 2, none⟩ = some (.float .f64 zq))
    case' main => intro FS4_14_16_21
    apply cut5 (fun p9 xa1 gs kn lv W => Hid (MeS w r s n c p9 gz gu gv ga zc ze zq zt x y W) ∧ xa1 < 18446744073709551616 ∧ Hid (ga < gs) ∧ Hid (Blk W gs [.float .f64 zq, .float .f64 nr, .float .f64 0, .float .f64 4613937818241073152]) ∧ kn < 4 ∧ lv < 18446744073709551616 ∧ W.cell? ⟨gz, 0, none⟩ = some (.float .f64 zc) ∧ W.cell? ⟨gz, 1, none⟩ = some (.float .f64 ze) ∧ W.cell? ⟨gz, 2, none⟩ = some (.float .f64 zq))
    case' main => intro FS4_14_16_18
    apply cut5 (fun p9 xa1 sa kn g7 W => Hid (MeS w r s n c p9 gz gu gv ga zc ze zq zt x y W) ∧ xa1 < 18446744073709551616 ∧ sa < 18446744073709551616 ∧ kn < 4 ∧ Hid (ga < g7) ∧ Hid (Blk W g7 [.float .f64 0, .float .f64 0]) ∧ W.cell? ⟨gz, 0, none⟩ = some (.float .f64 zc) ∧ W.cell? ⟨gz, 1, none⟩ = some (.float .f64 ze) ∧ W.cell? ⟨gz, 2, none⟩ = some (.float .f64 zq))
    case' main => intro FS4_5_16_21
    apply cut5 (fun p9 xa1 sa gs g7 W => Hid (MeS w r s n c p9 gz gu gv ga zc ze zq zt x y W) ∧ xa1 < 18446744073709551616 ∧ sa < 18446744073709551616 ∧ Hid (ga < gs) ∧ Hid (Blk W gs [.float .f64 zq, .float .f64 nr, .float .f64 0, .float .f64 4613937818241073152]) ∧ Hid (ga < g7) ∧ Hid (Blk W g7 [.float .f64 0, .float .f64 0]) ∧ W.cell? ⟨gz, 0, none⟩ = some (.float .f64 zc) ∧ W.cell? ⟨gz, 1, none⟩ = some (.float .f64 ze) ∧ W.cell? ⟨gz, 2, none⟩ = some (.float .f64 zq))
    case' main => intro FS4_5_14_21
    apply cut5 (fun p9 xa1 sa gs kn W => Hid (MeS w r s n c p9 gz gu gv ga zc ze zq zt x y W) ∧ xa1 < 18446744073709551616 ∧ sa < 18446744073709551616 ∧ Hid (ga < gs) ∧ Hid (Blk W gs [.float .f64 zq, .float .f64 nr, .float .f64 0, .float .f64 4613937818241073152]) ∧ kn < 4 ∧ W.cell? ⟨gz, 0, none⟩ = some (.float .f64 zc) ∧ W.cell? ⟨gz, 1, none⟩ = some (.float .f64 ze) ∧ W.cell? ⟨gz, 2, none⟩ = some (.float .f64 zq))
    case' main => intro FS4_5_14_16
    apply cut4 (fun p9 xa1 kn g7 W => Hid (MeS w r s n c p9 gz gu gv ga zc ze zq zt x y W) ∧ xa1 < 18446744073709551616 ∧ kn < 4 ∧ Hid (ga < g7) ∧ Hid (Blk W g7 [.float .f64 0, .float .f64 0]) ∧ W.cell? ⟨gz, 0, none⟩ = some (.float .f64 zc) ∧ W.cell? ⟨gz, 1, none⟩ = some (.float .f64 ze) ∧ W.cell? ⟨gz, 2, none⟩ = some (.float .f64 zq))
    case' main => intro FS4_16_21
    apply cut4 (fun p9 xa1 gs g7 W => Hid (MeS w r s n c p9 gz gu gv ga zc ze zq zt x y W) ∧ xa1 < 18446744073709551616 ∧ Hid (ga < gs) ∧ Hid (Blk W gs [.float .f64 zq, .float .f64 nr, .float .f64 0, .float .f64 4613937818241073152]) ∧ Hid (ga < g7) ∧ Hid (Blk W g7 [.float .f64 0, .float .f64 0]) ∧ W.cell? ⟨gz, 0, none⟩ = some (.float .f64 zc) ∧ W.cell? ⟨gz, 1, none⟩ = some (.float .f64 ze) ∧ W.cell? ⟨gz, 2, none⟩ = some (.float .f64 zq))
    case' main => intro FS4_14_21
    apply cut4 (fun p9 xa1 gs kn W => Hid (MeS w r s n c p9 gz gu gv ga zc ze zq zt x y W) ∧ xa1 < 18446744073709551616 ∧ Hid (ga < gs) ∧ Hid (Blk W gs [.float .f64 zq, .float .f64 nr, .float .f64 0, .float .f64 4613937818241073152]) ∧ kn < 4 ∧ W.cell? ⟨gz, 0, none⟩ = some (.float .f64 zc) ∧ W.cell? ⟨gz, 1, none⟩ = some (.float .f64 ze) ∧ W.cell? ⟨gz, 2, none⟩ = some (.float .f64 zq))
    case' main => intro FS4_14_16
    apply cut4 (fun p9 xa1 sa g7 W => Hid (MeS w r s n c p9 gz gu gv ga zc ze zq zt x y W) ∧ xa1 < 18446744073709551616 ∧ sa < 18446744073709551616 ∧ Hid (ga < g7) ∧ Hid (Blk W g7 [.float .f64 0, .float .f64 0]) ∧ W.cell? ⟨gz, 0, none⟩ = some (.float .f64 zc) ∧ W.cell? ⟨gz, 1, none⟩ = some (.float .f64 ze) ∧ W.cell? ⟨gz, 2, none⟩ = some (.float .f64 zq))
    case' main => intro FS4_5_21
    apply cut4 (fun p9 xa1 sa kn W => Hid (MeS w r s n c p9 gz gu gv ga zc ze zq zt x y W) ∧ xa1 < 18446744073709551616 ∧ sa < 18446744073709551616 ∧ kn < 4 ∧ W.cell? ⟨gz, 0, none⟩ = some (.float .f64 zc) ∧ W.cell? ⟨gz, 1, none⟩ = some (.float .f64 ze) ∧ W.cell? ⟨gz, 2, none⟩ = some (.float .f64 zq))
    case' main => intro FS4_5_16
    apply cut4 (fun p9 xa1 sa gs W => Hid (MeS w r s n c p9 gz gu gv ga zc ze zq zt x y W) ∧ xa1 < 18446744073709551616 ∧ sa < 18446744073709551616 ∧ Hid (ga < gs) ∧ Hid (Blk W gs [.float .f64 zq, .float .f64 nr, .float .f64 0, .float .f64 4613937818241073152]) ∧ W.cell? ⟨gz, 0, none⟩ = some (.float .f64 zc) ∧ W.cell? ⟨gz, 1, none⟩ = some (.float .f64 ze) ∧ W.cell? ⟨gz, 2, none⟩ = some (.float .f64 zq))
    case' main => intro FS4_5_14
    apply cut3 (fun p9 gs g7 W => Hid (MeS w r s n c p9 gz gu gv ga zc ze zq zt x y W) ∧ Hid (ga < gs) ∧ Hid (Blk W gs [.float .f64 zq, .float .f64 nr, .float .f64 0, .float .f64 4613937818241073152]) ∧ Hid (ga < g7) ∧ Hid (Blk W g7 [.float .f64 0, .float .f64 0]) ∧ W.cell? ⟨gz, 0, none⟩ = some (.float .f64 zc) ∧ W.cell? ⟨gz, 1, none⟩ = some (.float .f64 ze) ∧ W.cell? ⟨gz, 2, none⟩ = some (.float .f64 zq))
    case' main => intro FS14_21
    apply cut3 (fun p9 xa1 g7 W => Hid (MeS w r s n c p9 gz gu gv ga zc ze zq zt x y W) ∧ xa1 < 18446744073709551616 ∧ Hid (ga < g7) ∧ Hid (Blk W g7 [.float .f64 0, .float .f64 0]) ∧ W.cell? ⟨gz, 0, none⟩ = some (.float .f64 zc) ∧ W.cell? ⟨gz, 1, none⟩ = some (.float .f64 ze) ∧ W.cell? ⟨gz, 2, none⟩ = some (.float .f64 zq))
    case' main => intro FS4_21
    apply cut3 (fun p9 xa1 kn W => Hid (MeS w r s n c p9 gz gu gv ga zc ze zq zt x y W) ∧ xa1 < 18446744073709551616 ∧ kn < 4 ∧ W.cell? ⟨gz, 0, none⟩ = some (.float .f64 zc) ∧ W.cell? ⟨gz, 1, none⟩ = some (.float .f64 ze) ∧ W.cell? ⟨gz, 2, none⟩ = some (.float .f64 zq))
    case' main => intro FS4_16
    apply cut3 (fun p9 xa1 gs W => Hid (MeS w r s n c p9 gz gu gv ga zc ze zq zt x y W) ∧ xa1 < 18446744073709551616 ∧ Hid (ga < gs) ∧ Hid (Blk W gs [.float .f64 zq, .float .f64 nr, .float .f64 0, .float .f64 4613937818241073152]) ∧ W.cell? ⟨gz, 0, none⟩ = some (.float .f64 zc) ∧ W.cell? ⟨gz, 1, none⟩ = some (.float .f64 ze) ∧ W.cell? ⟨gz, 2, none⟩ = some (.float .f64 zq))
    case' main => intro FS4_14
    apply cut3 (fun p9 xa1 sa W => Hid (MeS w r s n c p9 gz gu gv ga zc ze zq zt x y W) ∧ xa1 < 18446744073709551616 ∧ sa < 18446744073709551616 ∧ W.cell? ⟨gz, 0, none⟩ = some (.float .f64 zc) ∧ W.cell? ⟨gz, 1, none⟩ = some (.float .f64 ze) ∧ W.cell? ⟨gz, 2, none⟩ = some (.float .f64 zq))
    case' main => intro FS4_5
    apply cut2 (fun p9 g7 W => Hid (MeS w r s n c p9 gz gu gv ga zc ze zq zt x y W) ∧ Hid (ga < g7) ∧ Hid (Blk W g7 [.float .f64 0, .float .f64 0]) ∧ W.cell? ⟨gz, 0, none⟩ = some (.float .f64 zc) ∧ W.cell? ⟨gz, 1, none⟩ = some (.float .f64 ze) ∧ W.cell? ⟨gz, 2, none⟩ = some (.float .f64 zq))
    case' main => intro FS21
    apply cut2 (fun p9 gs W => Hid (MeS w r s n c p9 gz gu gv ga zc ze zq zt x y W) ∧ Hid (ga < gs) ∧ Hid (Blk W gs [.float .f64 zq, .float .f64 nr, .float .f64 0, .float .f64 4613937818241073152]) ∧ W.cell? ⟨gz, 0, none⟩ = some (.float .f64 zc) ∧ W.cell? ⟨gz, 1, none⟩ = some (.float .f64 ze) ∧ W.cell? ⟨gz, 2, none⟩ = some (.float .f64 zq))
    case' main => intro FS14
    apply cut2 (fun p9 xa1 W => Hid (MeS w r s n c p9 gz gu gv ga zc ze zq zt x y W) ∧ xa1 < 18446744073709551616 ∧ W.cell? ⟨gz, 0, none⟩ = some (.float .f64 zc) ∧ W.cell? ⟨gz, 1, none⟩ = some (.float .f64 ze) ∧ W.cell? ⟨gz, 2, none⟩ = some (.float .f64 zq))
    case' main => intro FS4
    · skip
      have z0 := HM.out.2.2.1.2.2 0 _ rfl
      have z1 := HM.out.2.2.1.2.2 1 _ rfl
      have z2 := HM.out.2.2.1.2.2 2 _ rfl
      refine wp_region_held_drew (S := fun w' => w'.cell? ⟨gz, 0, none⟩ = some (.float .f64 zc) ∧ w'.cell? ⟨gz, 1, none⟩ = some (.float .f64 ze) ∧ w'.cell? ⟨gz, 2, none⟩ = some (.float .f64 zq)) (by kernel_rfl) ?_ (fun hHeld => ?_)
      · exact ⟨by simpa [go_sem] using z0, by simpa [go_sem] using z1, by simpa [go_sem] using z2⟩
      obtain ⟨v0, hv0⟩ : ∃ z, z = wb.drew := ⟨_, rfl⟩
      try rw [← hv0] at hHeld
      rw [← hv0]
      have bv0 : Below wb.heap.size wb v0 := by rw [hv0]; exact Below.drew (Below.refl _ _)
      clear hv0
      replace HM : Hid (MeS w r s n c p9 gz gu gv ga zc ze zq zt x y v0) := HM.out.below bv0
      clear bv0 z0 z1 z2
      obtain ⟨p9, hp9⟩ : ∃ q, q = p9 := ⟨_, rfl⟩
      rw [← hp9] at HM
      clear hp9
      refine wpAnyH_take (i := 0) (v := .pointer (some ⟨gz, 0, none⟩)) rfl (by kernel_rfl) (by kernel_rfl) (by kernel_rfl) (fun _ _ _ h => h) (Or.inl ⟨by kernel_rfl, ?_⟩) hHeld ?_
      · intro w' hSw
        obtain ⟨s0_, s1_, s2_⟩ := hSw
        first | (go_simp; done) | (go_simp; with_reducible rfl) | (go_simp; rw [IntKind.wrap_i64]; omega) | (go_simp; omega)
      simp only [Act.put, List.setIfInBounds_toArray, List.set_cons_zero, List.set_cons_succ]
      refine wpAnyH_take (i := 1) (v := .pointer (some ⟨gz, 0, none⟩)) rfl (by kernel_rfl) (by kernel_rfl) (by kernel_rfl) (fun _ _ _ h => h) (Or.inl ⟨by kernel_rfl, ?_⟩) hHeld ?_
      · intro w' hSw
        obtain ⟨s0_, s1_, s2_⟩ := hSw
        first | (go_simp; done) | (go_simp; with_reducible rfl) | (go_simp; rw [IntKind.wrap_i64]; omega) | (go_simp; omega)
      simp only [Act.put, List.setIfInBounds_toArray, List.set_cons_zero, List.set_cons_succ]
      refine wpAnyH_take (i := 2) (v := .float .f64 zc) rfl (by kernel_rfl) (by kernel_rfl) (by kernel_rfl) (fun _ _ _ h => h) (Or.inl ⟨by kernel_rfl, ?_⟩) hHeld ?_
      · intro w' hSw
        obtain ⟨s0_, s1_, s2_⟩ := hSw
        first | (go_simp; done) | (go_simp; with_reducible rfl) | (go_simp; rw [IntKind.wrap_i64]; omega) | (go_simp; omega)
      simp only [Act.put, List.setIfInBounds_toArray, List.set_cons_zero, List.set_cons_succ]
      refine wpAnyH_take (i := 3) (v := .pointer (some ⟨r, 0, none⟩)) rfl (by kernel_rfl) (by kernel_rfl) (by kernel_rfl) (fun _ _ _ h => h) (Or.inl ⟨by kernel_rfl, ?_⟩) hHeld ?_
      · intro w' hSw
        obtain ⟨s0_, s1_, s2_⟩ := hSw
        first | (go_simp; done) | (go_simp; with_reducible rfl) | (go_simp; rw [IntKind.wrap_i64]; omega) | (go_simp; omega)
      simp only [Act.put, List.setIfInBounds_toArray, List.set_cons_zero, List.set_cons_succ]
      refine wpAnyH_take (i := 6) (v := .pointer (some ⟨gz, 0, none⟩)) rfl (by kernel_rfl) (by kernel_rfl) (by kernel_rfl) (fun _ _ _ h => h) (Or.inl ⟨by kernel_rfl, ?_⟩) hHeld ?_
      · intro w' hSw
        obtain ⟨s0_, s1_, s2_⟩ := hSw
        first | (go_simp; done) | (go_simp; with_reducible rfl) | (go_simp; rw [IntKind.wrap_i64]; omega) | (go_simp; omega)
      simp only [Act.put, List.setIfInBounds_toArray, List.set_cons_zero, List.set_cons_succ]
      refine wpAnyH_take (i := 7) (v := .pointer (some ⟨gz, 1, none⟩)) rfl (by kernel_rfl) (by kernel_rfl) (by kernel_rfl) (fun _ _ _ h => h) (Or.inl ⟨by kernel_rfl, ?_⟩) hHeld ?_
      · intro w' hSw
        obtain ⟨s0_, s1_, s2_⟩ := hSw
        first | (go_simp; done) | (go_simp; with_reducible rfl) | (go_simp; rw [IntKind.wrap_i64]; omega) | (go_simp; omega)
      simp only [Act.put, List.setIfInBounds_toArray, List.set_cons_zero, List.set_cons_succ]
      refine wpAnyH_take (i := 8) (v := .float .f64 ze) rfl (by kernel_rfl) (by kernel_rfl) (by kernel_rfl) (fun _ _ _ h => h) (Or.inl ⟨by kernel_rfl, ?_⟩) hHeld ?_
      · intro w' hSw
        obtain ⟨s0_, s1_, s2_⟩ := hSw
        first | (go_simp; done) | (go_simp; with_reducible rfl) | (go_simp; rw [IntKind.wrap_i64]; omega) | (go_simp; omega)
      simp only [Act.put, List.setIfInBounds_toArray, List.set_cons_zero, List.set_cons_succ]
      refine wpAnyH_take (i := 9) (v := .pointer (some ⟨gz, 2, none⟩)) rfl (by kernel_rfl) (by kernel_rfl) (by kernel_rfl) (fun _ _ _ h => h) (Or.inl ⟨by kernel_rfl, ?_⟩) hHeld ?_
      · intro w' hSw
        obtain ⟨s0_, s1_, s2_⟩ := hSw
        first | (go_simp; done) | (go_simp; with_reducible rfl) | (go_simp; rw [IntKind.wrap_i64]; omega) | (go_simp; omega)
      simp only [Act.put, List.setIfInBounds_toArray, List.set_cons_zero, List.set_cons_succ]
      refine wpAnyH_take (i := 10) (v := .float .f64 zq) rfl (by kernel_rfl) (by kernel_rfl) (by kernel_rfl) (fun _ _ _ h => h) (Or.inl ⟨by kernel_rfl, ?_⟩) hHeld ?_
      · intro w' hSw
        obtain ⟨s0_, s1_, s2_⟩ := hSw
        first | (go_simp; done) | (go_simp; with_reducible rfl) | (go_simp; rw [IntKind.wrap_i64]; omega) | (go_simp; omega)
      simp only [Act.put, List.setIfInBounds_toArray, List.set_cons_zero, List.set_cons_succ]
      refine wpAnyH_take (i := 11) (v := .pointer (some ⟨gz, 2, none⟩)) rfl (by kernel_rfl) (by kernel_rfl) (by kernel_rfl) (fun _ _ _ h => h) (Or.inl ⟨by kernel_rfl, ?_⟩) hHeld ?_
      · intro w' hSw
        obtain ⟨s0_, s1_, s2_⟩ := hSw
        first | (go_simp; done) | (go_simp; with_reducible rfl) | (go_simp; rw [IntKind.wrap_i64]; omega) | (go_simp; omega)
      simp only [Act.put, List.setIfInBounds_toArray, List.set_cons_zero, List.set_cons_succ]
      refine wpAnyH_take (i := 12) (v := .float .f64 zq) rfl (by kernel_rfl) (by kernel_rfl) (by kernel_rfl) (fun _ _ _ h => h) (Or.inl ⟨by kernel_rfl, ?_⟩) hHeld ?_
      · intro w' hSw
        obtain ⟨s0_, s1_, s2_⟩ := hSw
        first | (go_simp; done) | (go_simp; with_reducible rfl) | (go_simp; rw [IntKind.wrap_i64]; omega) | (go_simp; omega)
      simp only [Act.put, List.setIfInBounds_toArray, List.set_cons_zero, List.set_cons_succ]
      refine wpAnyH_take (i := 13) (v := .float .f64 nr) rfl (by kernel_rfl) (by kernel_rfl) (by kernel_rfl) (fun _ _ _ h => h) (Or.inl ⟨by kernel_rfl, ?_⟩) hHeld ?_
      · intro w' hSw
        obtain ⟨s0_, s1_, s2_⟩ := hSw
        (rw [← HNR.out]; kernel_rfl)
      simp only [Act.put, List.setIfInBounds_toArray, List.set_cons_zero, List.set_cons_succ]
      refine wpAnyH_take (i := 15) (v := .pointer (some ⟨r, 0, none⟩)) rfl (by kernel_rfl) (by kernel_rfl) (by kernel_rfl) (fun _ _ _ h => h) (Or.inl ⟨by kernel_rfl, ?_⟩) hHeld ?_
      · intro w' hSw
        obtain ⟨s0_, s1_, s2_⟩ := hSw
        first | (go_simp; done) | (go_simp; with_reducible rfl) | (go_simp; rw [IntKind.wrap_i64]; omega) | (go_simp; omega)
      simp only [Act.put, List.setIfInBounds_toArray, List.set_cons_zero, List.set_cons_succ]
      refine wpAnyH_ready (rs := [4, 14, 21]) (by kernel_rfl) (by simp) ?_
      refine (AllReadyH.cons rfl (fun KK hK => ?_) (AllReadyH.cons rfl (fun KK hK => ?_) (AllReadyH.cons rfl (fun KK hK => ?_) AllReadyH.nil)))
      · skip
        go_simp
        go_wp2_with (first | (go_at_call 53; refine (tenth_any HM.out.1 (-40) 40 (by omega) (by omega) (by omega)).mono ?_; rintro e v1 ⟨xa1, p9, rfl, lxa1, R_, b_⟩))
        replace HM : Hid (MeS w r s n c p9 gz gu gv ga zc ze zq zt x y v1) := HM.out.read R_ b_
        try replace HL : Hid (Blk v1 gs [.float .f64 zq, .float .f64 nr, .float .f64 0, .float .f64 4613937818241073152]) := HL.out.beside b_ (by have := GS.out; omega)
        try replace H7 : Hid (Blk v1 g7 [.float .f64 0, .float .f64 0]) := H7.out.beside b_ (by have := G7.out; omega)
        clear R_ b_
        refine hK.out _ _ (KZ.out _ _ HM.out) (fun hHeld => ?_)
        clear hK KK
        refine wpAnyH_lst (l' := #[true, true, true, true, true, false, true, true, true, true, true, true, true, true, false, true, false, false, false, false, false, false, false]) (by kernel_rfl) ?_
        try simp only [Act.put, List.setIfInBounds_toArray, List.set_cons_zero, List.set_cons_succ]
        exact FS4 p9 xa1 v1 ⟨HM, lxa1, hHeld⟩
      · skip
        go_simp
        obtain ⟨v1, hV_⟩ : ∃ z, z = v0.alloc (.cells #[.float .f64 zq, .float .f64 nr, .float .f64 0, .float .f64 4613937818241073152] 22) := ⟨_, rfl⟩
        rw [← hV_]
        have bl_ : Below v0.heap.size v0 v1 := by rw [hV_]; exact below0 _ _
        obtain ⟨gs, hg9⟩ : ∃ z, z = v0.heap.size := ⟨_, rfl⟩
        rw [← hg9]
        have GS : Hid (ga < gs) := by show _ < _; rw [hg9]; exact HM.out.2.2.2.2.2.1.1
        try replace HL : Hid (Blk v1 gs [.float .f64 zq, .float .f64 nr, .float .f64 0, .float .f64 4613937818241073152]) := HL.out.below bl_
        try replace H7 : Hid (Blk v1 g7 [.float .f64 0, .float .f64 0]) := H7.out.below bl_
        have HL : Hid (Blk v1 gs [.float .f64 zq, .float .f64 nr, .float .f64 0, .float .f64 4613937818241073152]) := by show Blk _ _ _; rw [hV_, hg9]; exact Blk.new v0 #[.float .f64 zq, .float .f64 nr, .float .f64 0, .float .f64 4613937818241073152] _
        replace HM : Hid (MeS w r s n c p9 gz gu gv ga zc ze zq zt x y v1) := HM.out.below bl_
        clear hV_ hg9 bl_
        refine hK.out _ _ (KZ.out _ _ HM.out) (fun hHeld => ?_)
        clear hK KK
        refine wpAnyH_lst (l' := #[true, true, true, true, false, false, true, true, true, true, true, true, true, true, true, true, false, false, false, false, false, false, false]) (by kernel_rfl) ?_
        try simp only [Act.put, List.setIfInBounds_toArray, List.set_cons_zero, List.set_cons_succ]
        exact FS14 p9 gs v1 ⟨HM, GS, HL, hHeld⟩
      · skip
        go_simp
        obtain ⟨v1, hV_⟩ : ∃ z, z = v0.alloc (.cells #[.float .f64 0, .float .f64 0] 28) := ⟨_, rfl⟩
        rw [← hV_]
        have bl_ : Below v0.heap.size v0 v1 := by rw [hV_]; exact below0 _ _
        obtain ⟨g7, hg9⟩ : ∃ z, z = v0.heap.size := ⟨_, rfl⟩
        rw [← hg9]
        have G7 : Hid (ga < g7) := by show _ < _; rw [hg9]; exact HM.out.2.2.2.2.2.1.1
        try replace HL : Hid (Blk v1 gs [.float .f64 zq, .float .f64 nr, .float .f64 0, .float .f64 4613937818241073152]) := HL.out.below bl_
        try replace H7 : Hid (Blk v1 g7 [.float .f64 0, .float .f64 0]) := H7.out.below bl_
        have H7 : Hid (Blk v1 g7 [.float .f64 0, .float .f64 0]) := by show Blk _ _ _; rw [hV_, hg9]; exact Blk.new v0 #[.float .f64 0, .float .f64 0] _
        replace HM : Hid (MeS w r s n c p9 gz gu gv ga zc ze zq zt x y v1) := HM.out.below bl_
        clear hV_ hg9 bl_
        refine hK.out _ _ (KZ.out _ _ HM.out) (fun hHeld => ?_)
        clear hK KK
        refine wpAnyH_lst (l' := #[true, true, true, true, false, false, true, true, true, true, true, true, true, true, false, true, false, false, false, false, false, true, false]) (by kernel_rfl) ?_
        try simp only [Act.put, List.setIfInBounds_toArray, List.set_cons_zero, List.set_cons_succ]
        exact FS21 p9 g7 v1 ⟨HM, G7, H7, hHeld⟩
    · rintro p9 xa1 v0 ⟨HM, lxa1, hHeld⟩
      refine wpAnyH_ready (rs := [5, 14, 16, 21]) (by kernel_rfl) (by simp) ?_
      refine (AllReadyH.cons rfl (fun KK hK => ?_) (AllReadyH.cons rfl (fun KK hK => ?_) (AllReadyH.cons rfl (fun KK hK => ?_) (AllReadyH.cons rfl (fun KK hK => ?_) AllReadyH.nil))))
      · skip
        obtain ⟨o21, h21⟩ := anyFl lxa1
        have F21 : Hid (Fl xa1 o21) := h21
        refine step_fop .add rfl _ _ _ _ (by rfl) (by rfl) (by rfl) (by rfl) FC.out F21.out ?_
        intro sa m_ h_
        obtain ⟨v1, hV_⟩ : ∃ z, z = v0.drewN m_ := ⟨_, rfl⟩
        rw [← hV_]
        have bl_ : Below v0.heap.size v0 v1 := by rw [hV_]; exact bDrewN (Below.refl _ _) _
        have lsa : sa < 18446744073709551616 := h_.1
        replace HM : Hid (MeS w r s n c p9 gz gu gv ga zc ze zq zt x y v1) := HM.out.below bl_
        try replace HL : Hid (Blk v1 gs [.float .f64 zq, .float .f64 nr, .float .f64 0, .float .f64 4613937818241073152]) := HL.out.below bl_
        try replace H7 : Hid (Blk v1 g7 [.float .f64 0, .float .f64 0]) := H7.out.below bl_
        clear hV_ bl_ h_
        refine hK.out _ _ (KZ.out _ _ HM.out) (fun hHeld => ?_)
        clear hK KK
        refine wpAnyH_lst (l' := #[true, true, true, true, true, true, true, true, true, true, true, true, true, true, false, true, false, false, false, false, false, false, false]) (by kernel_rfl) ?_
        try simp only [Act.put, List.setIfInBounds_toArray, List.set_cons_zero, List.set_cons_succ]
        exact FS4_5 p9 xa1 sa v1 ⟨HM, lxa1, lsa, hHeld⟩
      · skip
        go_simp
        obtain ⟨v1, hV_⟩ : ∃ z, z = v0.alloc (.cells #[.float .f64 zq, .float .f64 nr, .float .f64 0, .float .f64 4613937818241073152] 22) := ⟨_, rfl⟩
        rw [← hV_]
        have bl_ : Below v0.heap.size v0 v1 := by rw [hV_]; exact below0 _ _
        obtain ⟨gs, hg9⟩ : ∃ z, z = v0.heap.size := ⟨_, rfl⟩
        rw [← hg9]
        have GS : Hid (ga < gs) := by show _ < _; rw [hg9]; exact HM.out.2.2.2.2.2.1.1
        try replace HL : Hid (Blk v1 gs [.float .f64 zq, .float .f64 nr, .float .f64 0, .float .f64 4613937818241073152]) := HL.out.below bl_
        try replace H7 : Hid (Blk v1 g7 [.float .f64 0, .float .f64 0]) := H7.out.below bl_
        have HL : Hid (Blk v1 gs [.float .f64 zq, .float .f64 nr, .float .f64 0, .float .f64 4613937818241073152]) := by show Blk _ _ _; rw [hV_, hg9]; exact Blk.new v0 #[.float .f64 zq, .float .f64 nr, .float .f64 0, .float .f64 4613937818241073152] _
        replace HM : Hid (MeS w r s n c p9 gz gu gv ga zc ze zq zt x y v1) := HM.out.below bl_
        clear hV_ hg9 bl_
        refine hK.out _ _ (KZ.out _ _ HM.out) (fun hHeld => ?_)
        clear hK KK
        refine wpAnyH_lst (l' := #[true, true, true, true, true, false, true, true, true, true, true, true, true, true, true, true, false, false, false, false, false, false, false]) (by kernel_rfl) ?_
        try simp only [Act.put, List.setIfInBounds_toArray, List.set_cons_zero, List.set_cons_succ]
        exact FS4_14 p9 xa1 gs v1 ⟨HM, lxa1, GS, HL, hHeld⟩
      · skip
        go_simp
        go_wp2_with (first | (go_at_call 34; refine (below_any 4 HM.out.1).mono ?_; rintro e v1 ⟨kx, p9, rfl, kx0, kx1, kx2, R_, b_⟩))
        replace HM : Hid (MeS w r s n c p9 gz gu gv ga zc ze zq zt x y v1) := HM.out.read R_ b_
        try replace HL : Hid (Blk v1 gs [.float .f64 zq, .float .f64 nr, .float .f64 0, .float .f64 4613937818241073152]) := HL.out.beside b_ (by have := GS.out; omega)
        try replace H7 : Hid (Blk v1 g7 [.float .f64 0, .float .f64 0]) := H7.out.beside b_ (by have := G7.out; omega)
        obtain ⟨kn, rfl⟩ : ∃ kn : Nat, kx = (kn : Int) := ⟨kx.toNat, by omega⟩
        have kn4 : kn < 4 := by omega
        have kn4i : (kn : Int) < 4 := by omega
        clear R_ b_ kx0 kx1 kx2
        refine hK.out _ _ (KZ.out _ _ HM.out) (fun hHeld => ?_)
        clear hK KK
        refine wpAnyH_lst (l' := #[true, true, true, true, true, false, true, true, true, true, true, true, true, true, false, true, true, false, false, false, false, false, false]) (by kernel_rfl) ?_
        try simp only [Act.put, List.setIfInBounds_toArray, List.set_cons_zero, List.set_cons_succ]
        exact FS4_16 p9 xa1 kn v1 ⟨HM, lxa1, kn4, hHeld⟩
      · skip
        go_simp
        obtain ⟨v1, hV_⟩ : ∃ z, z = v0.alloc (.cells #[.float .f64 0, .float .f64 0] 28) := ⟨_, rfl⟩
        rw [← hV_]
        have bl_ : Below v0.heap.size v0 v1 := by rw [hV_]; exact below0 _ _
        obtain ⟨g7, hg9⟩ : ∃ z, z = v0.heap.size := ⟨_, rfl⟩
        rw [← hg9]
        have G7 : Hid (ga < g7) := by show _ < _; rw [hg9]; exact HM.out.2.2.2.2.2.1.1
        try replace HL : Hid (Blk v1 gs [.float .f64 zq, .float .f64 nr, .float .f64 0, .float .f64 4613937818241073152]) := HL.out.below bl_
        try replace H7 : Hid (Blk v1 g7 [.float .f64 0, .float .f64 0]) := H7.out.below bl_
        have H7 : Hid (Blk v1 g7 [.float .f64 0, .float .f64 0]) := by show Blk _ _ _; rw [hV_, hg9]; exact Blk.new v0 #[.float .f64 0, .float .f64 0] _
        replace HM : Hid (MeS w r s n c p9 gz gu gv ga zc ze zq zt x y v1) := HM.out.below bl_
        clear hV_ hg9 bl_
        refine hK.out _ _ (KZ.out _ _ HM.out) (fun hHeld => ?_)
        clear hK KK
        refine wpAnyH_lst (l' := #[true, true, true, true, true, false, true, true, true, true, true, true, true, true, false, true, false, false, false, false, false, true, false]) (by kernel_rfl) ?_
        try simp only [Act.put, List.setIfInBounds_toArray, List.set_cons_zero, List.set_cons_succ]
        exact FS4_21 p9 xa1 g7 v1 ⟨HM, lxa1, G7, H7, hHeld⟩
    · rintro p9 gs v0 ⟨HM, GS, HL, hHeld⟩
      refine wpAnyH_ready (rs := [4, 21]) (by kernel_rfl) (by simp) ?_
      refine (AllReadyH.cons rfl (fun KK hK => ?_) (AllReadyH.cons rfl (fun KK hK => ?_) AllReadyH.nil))
      · skip
        go_simp
        go_wp2_with (first | (go_at_call 53; refine (tenth_any HM.out.1 (-40) 40 (by omega) (by omega) (by omega)).mono ?_; rintro e v1 ⟨xa1, p9, rfl, lxa1, R_, b_⟩))
        replace HM : Hid (MeS w r s n c p9 gz gu gv ga zc ze zq zt x y v1) := HM.out.read R_ b_
        try replace HL : Hid (Blk v1 gs [.float .f64 zq, .float .f64 nr, .float .f64 0, .float .f64 4613937818241073152]) := HL.out.beside b_ (by have := GS.out; omega)
        try replace H7 : Hid (Blk v1 g7 [.float .f64 0, .float .f64 0]) := H7.out.beside b_ (by have := G7.out; omega)
        clear R_ b_
        refine hK.out _ _ (KZ.out _ _ HM.out) (fun hHeld => ?_)
        clear hK KK
        refine wpAnyH_lst (l' := #[true, true, true, true, true, false, true, true, true, true, true, true, true, true, true, true, false, false, false, false, false, false, false]) (by kernel_rfl) ?_
        try simp only [Act.put, List.setIfInBounds_toArray, List.set_cons_zero, List.set_cons_succ]
        exact FS4_14 p9 xa1 gs v1 ⟨HM, lxa1, GS, HL, hHeld⟩
      · skip
        go_simp
        obtain ⟨v1, hV_⟩ : ∃ z, z = v0.alloc (.cells #[.float .f64 0, .float .f64 0] 28) := ⟨_, rfl⟩
        rw [← hV_]
        have bl_ : Below v0.heap.size v0 v1 := by rw [hV_]; exact below0 _ _
        obtain ⟨g7, hg9⟩ : ∃ z, z = v0.heap.size := ⟨_, rfl⟩
        rw [← hg9]
        have G7 : Hid (ga < g7) := by show _ < _; rw [hg9]; exact HM.out.2.2.2.2.2.1.1
        try replace HL : Hid (Blk v1 gs [.float .f64 zq, .float .f64 nr, .float .f64 0, .float .f64 4613937818241073152]) := HL.out.below bl_
        try replace H7 : Hid (Blk v1 g7 [.float .f64 0, .float .f64 0]) := H7.out.below bl_
        have H7 : Hid (Blk v1 g7 [.float .f64 0, .float .f64 0]) := by show Blk _ _ _; rw [hV_, hg9]; exact Blk.new v0 #[.float .f64 0, .float .f64 0] _
        replace HM : Hid (MeS w r s n c p9 gz gu gv ga zc ze zq zt x y v1) := HM.out.below bl_
        clear hV_ hg9 bl_
        refine hK.out _ _ (KZ.out _ _ HM.out) (fun hHeld => ?_)
        clear hK KK
        refine wpAnyH_lst (l' := #[true, true, true, true, false, false, true, true, true, true, true, true, true, true, true, true, false, false, false, false, false, true, false]) (by kernel_rfl) ?_
        try simp only [Act.put, List.setIfInBounds_toArray, List.set_cons_zero, List.set_cons_succ]
        exact FS14_21 p9 gs g7 v1 ⟨HM, GS, HL, G7, H7, hHeld⟩
    · rintro p9 g7 v0 ⟨HM, G7, H7, hHeld⟩
      refine wpAnyH_ready (rs := [4, 14]) (by kernel_rfl) (by simp) ?_
      refine (AllReadyH.cons rfl (fun KK hK => ?_) (AllReadyH.cons rfl (fun KK hK => ?_) AllReadyH.nil))
      · skip
        go_simp
        go_wp2_with (first | (go_at_call 53; refine (tenth_any HM.out.1 (-40) 40 (by omega) (by omega) (by omega)).mono ?_; rintro e v1 ⟨xa1, p9, rfl, lxa1, R_, b_⟩))
        replace HM : Hid (MeS w r s n c p9 gz gu gv ga zc ze zq zt x y v1) := HM.out.read R_ b_
        try replace HL : Hid (Blk v1 gs [.float .f64 zq, .float .f64 nr, .float .f64 0, .float .f64 4613937818241073152]) := HL.out.beside b_ (by have := GS.out; omega)
        try replace H7 : Hid (Blk v1 g7 [.float .f64 0, .float .f64 0]) := H7.out.beside b_ (by have := G7.out; omega)
        clear R_ b_
        refine hK.out _ _ (KZ.out _ _ HM.out) (fun hHeld => ?_)
        clear hK KK
        refine wpAnyH_lst (l' := #[true, true, true, true, true, false, true, true, true, true, true, true, true, true, false, true, false, false, false, false, false, true, false]) (by kernel_rfl) ?_
        try simp only [Act.put, List.setIfInBounds_toArray, List.set_cons_zero, List.set_cons_succ]
        exact FS4_21 p9 xa1 g7 v1 ⟨HM, lxa1, G7, H7, hHeld⟩
      · skip
        go_simp
        obtain ⟨v1, hV_⟩ : ∃ z, z = v0.alloc (.cells #[.float .f64 zq, .float .f64 nr, .float .f64 0, .float .f64 4613937818241073152] 22) := ⟨_, rfl⟩
        rw [← hV_]
        have bl_ : Below v0.heap.size v0 v1 := by rw [hV_]; exact below0 _ _
        obtain ⟨gs, hg9⟩ : ∃ z, z = v0.heap.size := ⟨_, rfl⟩
        rw [← hg9]
        have GS : Hid (ga < gs) := by show _ < _; rw [hg9]; exact HM.out.2.2.2.2.2.1.1
        try replace HL : Hid (Blk v1 gs [.float .f64 zq, .float .f64 nr, .float .f64 0, .float .f64 4613937818241073152]) := HL.out.below bl_
        try replace H7 : Hid (Blk v1 g7 [.float .f64 0, .float .f64 0]) := H7.out.below bl_
        have HL : Hid (Blk v1 gs [.float .f64 zq, .float .f64 nr, .float .f64 0, .float .f64 4613937818241073152]) := by show Blk _ _ _; rw [hV_, hg9]; exact Blk.new v0 #[.float .f64 zq, .float .f64 nr, .float .f64 0, .float .f64 4613937818241073152] _
        replace HM : Hid (MeS w r s n c p9 gz gu gv ga zc ze zq zt x y v1) := HM.out.below bl_
        clear hV_ hg9 bl_
        refine hK.out _ _ (KZ.out _ _ HM.out) (fun hHeld => ?_)
        clear hK KK
        refine wpAnyH_lst (l' := #[true, true, true, true, false, false, true, true, true, true, true, true, true, true, true, true, false, false, false, false, false, true, false]) (by kernel_rfl) ?_
        try simp only [Act.put, List.setIfInBounds_toArray, List.set_cons_zero, List.set_cons_succ]
        exact FS14_21 p9 gs g7 v1 ⟨HM, GS, HL, G7, H7, hHeld⟩
    · rintro p9 xa1 sa v0 ⟨HM, lxa1, lsa, hHeld⟩
      refine wpAnyH_ready (rs := [14, 16, 21]) (by kernel_rfl) (by simp) ?_
      refine (AllReadyH.cons rfl (fun KK hK => ?_) (AllReadyH.cons rfl (fun KK hK => ?_) (AllReadyH.cons rfl (fun KK hK => ?_) AllReadyH.nil)))
      · skip
        go_simp
        obtain ⟨v1, hV_⟩ : ∃ z, z = v0.alloc (.cells #[.float .f64 zq, .float .f64 nr, .float .f64 0, .float .f64 4613937818241073152] 22) := ⟨_, rfl⟩
        rw [← hV_]
        have bl_ : Below v0.heap.size v0 v1 := by rw [hV_]; exact below0 _ _
        obtain ⟨gs, hg9⟩ : ∃ z, z = v0.heap.size := ⟨_, rfl⟩
        rw [← hg9]
        have GS : Hid (ga < gs) := by show _ < _; rw [hg9]; exact HM.out.2.2.2.2.2.1.1
        try replace HL : Hid (Blk v1 gs [.float .f64 zq, .float .f64 nr, .float .f64 0, .float .f64 4613937818241073152]) := HL.out.below bl_
        try replace H7 : Hid (Blk v1 g7 [.float .f64 0, .float .f64 0]) := H7.out.below bl_
        have HL : Hid (Blk v1 gs [.float .f64 zq, .float .f64 nr, .float .f64 0, .float .f64 4613937818241073152]) := by show Blk _ _ _; rw [hV_, hg9]; exact Blk.new v0 #[.float .f64 zq, .float .f64 nr, .float .f64 0, .float .f64 4613937818241073152] _
        replace HM : Hid (MeS w r s n c p9 gz gu gv ga zc ze zq zt x y v1) := HM.out.below bl_
        clear hV_ hg9 bl_
        refine hK.out _ _ (KZ.out _ _ HM.out) (fun hHeld => ?_)
        clear hK KK
        refine wpAnyH_lst (l' := #[true, true, true, true, true, true, true, true, true, true, true, true, true, true, true, true, false, false, false, false, false, false, false]) (by kernel_rfl) ?_
        try simp only [Act.put, List.setIfInBounds_toArray, List.set_cons_zero, List.set_cons_succ]
        exact FS4_5_14 p9 xa1 sa gs v1 ⟨HM, lxa1, lsa, GS, HL, hHeld⟩
      · skip
        go_simp
        go_wp2_with (first | (go_at_call 34; refine (below_any 4 HM.out.1).mono ?_; rintro e v1 ⟨kx, p9, rfl, kx0, kx1, kx2, R_, b_⟩))
        replace HM : Hid (MeS w r s n c p9 gz gu gv ga zc ze zq zt x y v1) := HM.out.read R_ b_
        try replace HL : Hid (Blk v1 gs [.float .f64 zq, .float .f64 nr, .float .f64 0, .float .f64 4613937818241073152]) := HL.out.beside b_ (by have := GS.out; omega)
        try replace H7 : Hid (Blk v1 g7 [.float .f64 0, .float .f64 0]) := H7.out.beside b_ (by have := G7.out; omega)
        obtain ⟨kn, rfl⟩ : ∃ kn : Nat, kx = (kn : Int) := ⟨kx.toNat, by omega⟩
        have kn4 : kn < 4 := by omega
        have kn4i : (kn : Int) < 4 := by omega
        clear R_ b_ kx0 kx1 kx2
        refine hK.out _ _ (KZ.out _ _ HM.out) (fun hHeld => ?_)
        clear hK KK
        refine wpAnyH_lst (l' := #[true, true, true, true, true, true, true, true, true, true, true, true, true, true, false, true, true, false, false, false, false, false, false]) (by kernel_rfl) ?_
        try simp only [Act.put, List.setIfInBounds_toArray, List.set_cons_zero, List.set_cons_succ]
        exact FS4_5_16 p9 xa1 sa kn v1 ⟨HM, lxa1, lsa, kn4, hHeld⟩
      · skip
        go_simp
        obtain ⟨v1, hV_⟩ : ∃ z, z = v0.alloc (.cells #[.float .f64 0, .float .f64 0] 28) := ⟨_, rfl⟩
        rw [← hV_]
        have bl_ : Below v0.heap.size v0 v1 := by rw [hV_]; exact below0 _ _
        obtain ⟨g7, hg9⟩ : ∃ z, z = v0.heap.size := ⟨_, rfl⟩
        rw [← hg9]
        have G7 : Hid (ga < g7) := by show _ < _; rw [hg9]; exact HM.out.2.2.2.2.2.1.1
        try replace HL : Hid (Blk v1 gs [.float .f64 zq, .float .f64 nr, .float .f64 0, .float .f64 4613937818241073152]) := HL.out.below bl_
        try replace H7 : Hid (Blk v1 g7 [.float .f64 0, .float .f64 0]) := H7.out.below bl_
        have H7 : Hid (Blk v1 g7 [.float .f64 0, .float .f64 0]) := by show Blk _ _ _; rw [hV_, hg9]; exact Blk.new v0 #[.float .f64 0, .float .f64 0] _
        replace HM : Hid (MeS w r s n c p9 gz gu gv ga zc ze zq zt x y v1) := HM.out.below bl_
        clear hV_ hg9 bl_
        refine hK.out _ _ (KZ.out _ _ HM.out) (fun hHeld => ?_)
        clear hK KK
        refine wpAnyH_lst (l' := #[true, true, true, true, true, true, true, true, true, true, true, true, true, true, false, true, false, false, false, false, false, true, false]) (by kernel_rfl) ?_
        try simp only [Act.put, List.setIfInBounds_toArray, List.set_cons_zero, List.set_cons_succ]
        exact FS4_5_21 p9 xa1 sa g7 v1 ⟨HM, lxa1, lsa, G7, H7, hHeld⟩
    · rintro p9 xa1 gs v0 ⟨HM, lxa1, GS, HL, hHeld⟩
      refine wpAnyH_ready (rs := [5, 16, 21]) (by kernel_rfl) (by simp) ?_
      refine (AllReadyH.cons rfl (fun KK hK => ?_) (AllReadyH.cons rfl (fun KK hK => ?_) (AllReadyH.cons rfl (fun KK hK => ?_) AllReadyH.nil)))
      · skip
        obtain ⟨o21, h21⟩ := anyFl lxa1
        have F21 : Hid (Fl xa1 o21) := h21
        refine step_fop .add rfl _ _ _ _ (by rfl) (by rfl) (by rfl) (by rfl) FC.out F21.out ?_
        intro sa m_ h_
        obtain ⟨v1, hV_⟩ : ∃ z, z = v0.drewN m_ := ⟨_, rfl⟩
        rw [← hV_]
        have bl_ : Below v0.heap.size v0 v1 := by rw [hV_]; exact bDrewN (Below.refl _ _) _
        have lsa : sa < 18446744073709551616 := h_.1
        replace HM : Hid (MeS w r s n c p9 gz gu gv ga zc ze zq zt x y v1) := HM.out.below bl_
        try replace HL : Hid (Blk v1 gs [.float .f64 zq, .float .f64 nr, .float .f64 0, .float .f64 4613937818241073152]) := HL.out.below bl_
        try replace H7 : Hid (Blk v1 g7 [.float .f64 0, .float .f64 0]) := H7.out.below bl_
        clear hV_ bl_ h_
        refine hK.out _ _ (KZ.out _ _ HM.out) (fun hHeld => ?_)
        clear hK KK
        refine wpAnyH_lst (l' := #[true, true, true, true, true, true, true, true, true, true, true, true, true, true, true, true, false, false, false, false, false, false, false]) (by kernel_rfl) ?_
        try simp only [Act.put, List.setIfInBounds_toArray, List.set_cons_zero, List.set_cons_succ]
        exact FS4_5_14 p9 xa1 sa gs v1 ⟨HM, lxa1, lsa, GS, HL, hHeld⟩
      · skip
        go_simp
        go_wp2_with (first | (go_at_call 34; refine (below_any 4 HM.out.1).mono ?_; rintro e v1 ⟨kx, p9, rfl, kx0, kx1, kx2, R_, b_⟩))
        replace HM : Hid (MeS w r s n c p9 gz gu gv ga zc ze zq zt x y v1) := HM.out.read R_ b_
        try replace HL : Hid (Blk v1 gs [.float .f64 zq, .float .f64 nr, .float .f64 0, .float .f64 4613937818241073152]) := HL.out.beside b_ (by have := GS.out; omega)
        try replace H7 : Hid (Blk v1 g7 [.float .f64 0, .float .f64 0]) := H7.out.beside b_ (by have := G7.out; omega)
        obtain ⟨kn, rfl⟩ : ∃ kn : Nat, kx = (kn : Int) := ⟨kx.toNat, by omega⟩
        have kn4 : kn < 4 := by omega
        have kn4i : (kn : Int) < 4 := by omega
        clear R_ b_ kx0 kx1 kx2
        refine hK.out _ _ (KZ.out _ _ HM.out) (fun hHeld => ?_)
        clear hK KK
        refine wpAnyH_take (i := 17) (v := .pointer (some ⟨gs, kn, none⟩)) rfl (by kernel_rfl) (by kernel_rfl) (by kernel_rfl) (fun _ _ _ h => h) (Or.inl ⟨by kernel_rfl, ?_⟩) hHeld ?_
        · intro w' hSw
          obtain ⟨s0_, s1_, s2_⟩ := hSw
          first | (go_simp; done) | (go_simp; with_reducible rfl) | (go_simp; rw [IntKind.wrap_i64]; omega) | (go_simp; omega)
        simp only [Act.put, List.setIfInBounds_toArray, List.set_cons_zero, List.set_cons_succ]
        refine wpAnyH_lst (l' := #[true, true, true, true, true, false, true, true, true, true, true, true, true, true, true, true, true, true, false, false, false, false, false]) (by kernel_rfl) ?_
        try simp only [Act.put, List.setIfInBounds_toArray, List.set_cons_zero, List.set_cons_succ]
        exact FS4_14_16 p9 xa1 gs kn v1 ⟨HM, lxa1, GS, HL, kn4, hHeld⟩
      · skip
        go_simp
        obtain ⟨v1, hV_⟩ : ∃ z, z = v0.alloc (.cells #[.float .f64 0, .float .f64 0] 28) := ⟨_, rfl⟩
        rw [← hV_]
        have bl_ : Below v0.heap.size v0 v1 := by rw [hV_]; exact below0 _ _
        obtain ⟨g7, hg9⟩ : ∃ z, z = v0.heap.size := ⟨_, rfl⟩
        rw [← hg9]
        have G7 : Hid (ga < g7) := by show _ < _; rw [hg9]; exact HM.out.2.2.2.2.2.1.1
        try replace HL : Hid (Blk v1 gs [.float .f64 zq, .float .f64 nr, .float .f64 0, .float .f64 4613937818241073152]) := HL.out.below bl_
        try replace H7 : Hid (Blk v1 g7 [.float .f64 0, .float .f64 0]) := H7.out.below bl_
        have H7 : Hid (Blk v1 g7 [.float .f64 0, .float .f64 0]) := by show Blk _ _ _; rw [hV_, hg9]; exact Blk.new v0 #[.float .f64 0, .float .f64 0] _
        replace HM : Hid (MeS w r s n c p9 gz gu gv ga zc ze zq zt x y v1) := HM.out.below bl_
        clear hV_ hg9 bl_
        refine hK.out _ _ (KZ.out _ _ HM.out) (fun hHeld => ?_)
        clear hK KK
        refine wpAnyH_lst (l' := #[true, true, true, true, true, false, true, true, true, true, true, true, true, true, true, true, false, false, false, false, false, true, false]) (by kernel_rfl) ?_
        try simp only [Act.put, List.setIfInBounds_toArray, List.set_cons_zero, List.set_cons_succ]
        exact FS4_14_21 p9 xa1 gs g7 v1 ⟨HM, lxa1, GS, HL, G7, H7, hHeld⟩
    · rintro p9 xa1 kn v0 ⟨HM, lxa1, kn4, hHeld⟩
      have kn4i : (kn : Int) < 4 := by omega
      refine wpAnyH_ready (rs := [5, 14, 21]) (by kernel_rfl) (by simp) ?_
      refine (AllReadyH.cons rfl (fun KK hK => ?_) (AllReadyH.cons rfl (fun KK hK => ?_) (AllReadyH.cons rfl (fun KK hK => ?_) AllReadyH.nil)))
      · skip
        obtain ⟨o21, h21⟩ := anyFl lxa1
        have F21 : Hid (Fl xa1 o21) := h21
        refine step_fop .add rfl _ _ _ _ (by rfl) (by rfl) (by rfl) (by rfl) FC.out F21.out ?_
        intro sa m_ h_
        obtain ⟨v1, hV_⟩ : ∃ z, z = v0.drewN m_ := ⟨_, rfl⟩
        rw [← hV_]
        have bl_ : Below v0.heap.size v0 v1 := by rw [hV_]; exact bDrewN (Below.refl _ _) _
        have lsa : sa < 18446744073709551616 := h_.1
        replace HM : Hid (MeS w r s n c p9 gz gu gv ga zc ze zq zt x y v1) := HM.out.below bl_
        try replace HL : Hid (Blk v1 gs [.float .f64 zq, .float .f64 nr, .float .f64 0, .float .f64 4613937818241073152]) := HL.out.below bl_
        try replace H7 : Hid (Blk v1 g7 [.float .f64 0, .float .f64 0]) := H7.out.below bl_
        clear hV_ bl_ h_
        refine hK.out _ _ (KZ.out _ _ HM.out) (fun hHeld => ?_)
        clear hK KK
        refine wpAnyH_lst (l' := #[true, true, true, true, true, true, true, true, true, true, true, true, true, true, false, true, true, false, false, false, false, false, false]) (by kernel_rfl) ?_
        try simp only [Act.put, List.setIfInBounds_toArray, List.set_cons_zero, List.set_cons_succ]
        exact FS4_5_16 p9 xa1 sa kn v1 ⟨HM, lxa1, lsa, kn4, hHeld⟩
      · skip
        go_simp
        obtain ⟨v1, hV_⟩ : ∃ z, z = v0.alloc (.cells #[.float .f64 zq, .float .f64 nr, .float .f64 0, .float .f64 4613937818241073152] 22) := ⟨_, rfl⟩
        rw [← hV_]
        have bl_ : Below v0.heap.size v0 v1 := by rw [hV_]; exact below0 _ _
        obtain ⟨gs, hg9⟩ : ∃ z, z = v0.heap.size := ⟨_, rfl⟩
        rw [← hg9]
        have GS : Hid (ga < gs) := by show _ < _; rw [hg9]; exact HM.out.2.2.2.2.2.1.1
        try replace HL : Hid (Blk v1 gs [.float .f64 zq, .float .f64 nr, .float .f64 0, .float .f64 4613937818241073152]) := HL.out.below bl_
        try replace H7 : Hid (Blk v1 g7 [.float .f64 0, .float .f64 0]) := H7.out.below bl_
        have HL : Hid (Blk v1 gs [.float .f64 zq, .float .f64 nr, .float .f64 0, .float .f64 4613937818241073152]) := by show Blk _ _ _; rw [hV_, hg9]; exact Blk.new v0 #[.float .f64 zq, .float .f64 nr, .float .f64 0, .float .f64 4613937818241073152] _
        replace HM : Hid (MeS w r s n c p9 gz gu gv ga zc ze zq zt x y v1) := HM.out.below bl_
        clear hV_ hg9 bl_
        refine hK.out _ _ (KZ.out _ _ HM.out) (fun hHeld => ?_)
        clear hK KK
        refine wpAnyH_take (i := 17) (v := .pointer (some ⟨gs, kn, none⟩)) rfl (by kernel_rfl) (by kernel_rfl) (by kernel_rfl) (fun _ _ _ h => h) (Or.inl ⟨by kernel_rfl, ?_⟩) hHeld ?_
        · intro w' hSw
          obtain ⟨s0_, s1_, s2_⟩ := hSw
          first | (go_simp; done) | (go_simp; with_reducible rfl) | (go_simp; rw [IntKind.wrap_i64]; omega) | (go_simp; omega)
        simp only [Act.put, List.setIfInBounds_toArray, List.set_cons_zero, List.set_cons_succ]
        refine wpAnyH_lst (l' := #[true, true, true, true, true, false, true, true, true, true, true, true, true, true, true, true, true, true, false, false, false, false, false]) (by kernel_rfl) ?_
        try simp only [Act.put, List.setIfInBounds_toArray, List.set_cons_zero, List.set_cons_succ]
        exact FS4_14_16 p9 xa1 gs kn v1 ⟨HM, lxa1, GS, HL, kn4, hHeld⟩
      · skip
        go_simp
        obtain ⟨v1, hV_⟩ : ∃ z, z = v0.alloc (.cells #[.float .f64 0, .float .f64 0] 28) := ⟨_, rfl⟩
        rw [← hV_]
        have bl_ : Below v0.heap.size v0 v1 := by rw [hV_]; exact below0 _ _
        obtain ⟨g7, hg9⟩ : ∃ z, z = v0.heap.size := ⟨_, rfl⟩
        rw [← hg9]
        have G7 : Hid (ga < g7) := by show _ < _; rw [hg9]; exact HM.out.2.2.2.2.2.1.1
        try replace HL : Hid (Blk v1 gs [.float .f64 zq, .float .f64 nr, .float .f64 0, .float .f64 4613937818241073152]) := HL.out.below bl_
        try replace H7 : Hid (Blk v1 g7 [.float .f64 0, .float .f64 0]) := H7.out.below bl_
        have H7 : Hid (Blk v1 g7 [.float .f64 0, .float .f64 0]) := by show Blk _ _ _; rw [hV_, hg9]; exact Blk.new v0 #[.float .f64 0, .float .f64 0] _
        replace HM : Hid (MeS w r s n c p9 gz gu gv ga zc ze zq zt x y v1) := HM.out.below bl_
        clear hV_ hg9 bl_
        refine hK.out _ _ (KZ.out _ _ HM.out) (fun hHeld => ?_)
        clear hK KK
        refine wpAnyH_lst (l' := #[true, true, true, true, true, false, true, true, true, true, true, true, true, true, false, true, true, false, false, false, false, true, false]) (by kernel_rfl) ?_
        try simp only [Act.put, List.setIfInBounds_toArray, List.set_cons_zero, List.set_cons_succ]
        exact FS4_16_21 p9 xa1 kn g7 v1 ⟨HM, lxa1, kn4, G7, H7, hHeld⟩
    · rintro p9 xa1 g7 v0 ⟨HM, lxa1, G7, H7, hHeld⟩
      refine wpAnyH_ready (rs := [5, 14, 16]) (by kernel_rfl) (by simp) ?_
      refine (AllReadyH.cons rfl (fun KK hK => ?_) (AllReadyH.cons rfl (fun KK hK => ?_) (AllReadyH.cons rfl (fun KK hK => ?_) AllReadyH.nil)))
      · skip
        obtain ⟨o21, h21⟩ := anyFl lxa1
        have F21 : Hid (Fl xa1 o21) := h21
        refine step_fop .add rfl _ _ _ _ (by rfl) (by rfl) (by rfl) (by rfl) FC.out F21.out ?_
        intro sa m_ h_
        obtain ⟨v1, hV_⟩ : ∃ z, z = v0.drewN m_ := ⟨_, rfl⟩
        rw [← hV_]
        have bl_ : Below v0.heap.size v0 v1 := by rw [hV_]; exact bDrewN (Below.refl _ _) _
        have lsa : sa < 18446744073709551616 := h_.1
        replace HM : Hid (MeS w r s n c p9 gz gu gv ga zc ze zq zt x y v1) := HM.out.below bl_
        try replace HL : Hid (Blk v1 gs [.float .f64 zq, .float .f64 nr, .float .f64 0, .float .f64 4613937818241073152]) := HL.out.below bl_
        try replace H7 : Hid (Blk v1 g7 [.float .f64 0, .float .f64 0]) := H7.out.below bl_
        clear hV_ bl_ h_
        refine hK.out _ _ (KZ.out _ _ HM.out) (fun hHeld => ?_)
        clear hK KK
        refine wpAnyH_lst (l' := #[true, true, true, true, true, true, true, true, true, true, true, true, true, true, false, true, false, false, false, false, false, true, false]) (by kernel_rfl) ?_
        try simp only [Act.put, List.setIfInBounds_toArray, List.set_cons_zero, List.set_cons_succ]
        exact FS4_5_21 p9 xa1 sa g7 v1 ⟨HM, lxa1, lsa, G7, H7, hHeld⟩
      · skip
        go_simp
        obtain ⟨v1, hV_⟩ : ∃ z, z = v0.alloc (.cells #[.float .f64 zq, .float .f64 nr, .float .f64 0, .float .f64 4613937818241073152] 22) := ⟨_, rfl⟩
        rw [← hV_]
        have bl_ : Below v0.heap.size v0 v1 := by rw [hV_]; exact below0 _ _
        obtain ⟨gs, hg9⟩ : ∃ z, z = v0.heap.size := ⟨_, rfl⟩
        rw [← hg9]
        have GS : Hid (ga < gs) := by show _ < _; rw [hg9]; exact HM.out.2.2.2.2.2.1.1
        try replace HL : Hid (Blk v1 gs [.float .f64 zq, .float .f64 nr, .float .f64 0, .float .f64 4613937818241073152]) := HL.out.below bl_
        try replace H7 : Hid (Blk v1 g7 [.float .f64 0, .float .f64 0]) := H7.out.below bl_
        have HL : Hid (Blk v1 gs [.float .f64 zq, .float .f64 nr, .float .f64 0, .float .f64 4613937818241073152]) := by show Blk _ _ _; rw [hV_, hg9]; exact Blk.new v0 #[.float .f64 zq, .float .f64 nr, .float .f64 0, .float .f64 4613937818241073152] _
        replace HM : Hid (MeS w r s n c p9 gz gu gv ga zc ze zq zt x y v1) := HM.out.below bl_
        clear hV_ hg9 bl_
        refine hK.out _ _ (KZ.out _ _ HM.out) (fun hHeld => ?_)
        clear hK KK
        refine wpAnyH_lst (l' := #[true, true, true, true, true, false, true, true, true, true, true, true, true, true, true, true, false, false, false, false, false, true, false]) (by kernel_rfl) ?_
        try simp only [Act.put, List.setIfInBounds_toArray, List.set_cons_zero, List.set_cons_succ]
        exact FS4_14_21 p9 xa1 gs g7 v1 ⟨HM, lxa1, GS, HL, G7, H7, hHeld⟩
      · skip
        go_simp
        go_wp2_with (first | (go_at_call 34; refine (below_any 4 HM.out.1).mono ?_; rintro e v1 ⟨kx, p9, rfl, kx0, kx1, kx2, R_, b_⟩))
        replace HM : Hid (MeS w r s n c p9 gz gu gv ga zc ze zq zt x y v1) := HM.out.read R_ b_
        try replace HL : Hid (Blk v1 gs [.float .f64 zq, .float .f64 nr, .float .f64 0, .float .f64 4613937818241073152]) := HL.out.beside b_ (by have := GS.out; omega)
        try replace H7 : Hid (Blk v1 g7 [.float .f64 0, .float .f64 0]) := H7.out.beside b_ (by have := G7.out; omega)
        obtain ⟨kn, rfl⟩ : ∃ kn : Nat, kx = (kn : Int) := ⟨kx.toNat, by omega⟩
        have kn4 : kn < 4 := by omega
        have kn4i : (kn : Int) < 4 := by omega
        clear R_ b_ kx0 kx1 kx2
        refine hK.out _ _ (KZ.out _ _ HM.out) (fun hHeld => ?_)
        clear hK KK
        refine wpAnyH_lst (l' := #[true, true, true, true, true, false, true, true, true, true, true, true, true, true, false, true, true, false, false, false, false, true, false]) (by kernel_rfl) ?_
        try simp only [Act.put, List.setIfInBounds_toArray, List.set_cons_zero, List.set_cons_succ]
        exact FS4_16_21 p9 xa1 kn g7 v1 ⟨HM, lxa1, kn4, G7, H7, hHeld⟩
    · rintro p9 gs g7 v0 ⟨HM, GS, HL, G7, H7, hHeld⟩
      refine wpAnyH_ready (rs := [4]) (by kernel_rfl) (by simp) ?_
      refine (AllReadyH.cons rfl (fun KK hK => ?_) AllReadyH.nil)
      · skip
        go_simp
        go_wp2_with (first | (go_at_call 53; refine (tenth_any HM.out.1 (-40) 40 (by omega) (by omega) (by omega)).mono ?_; rintro e v1 ⟨xa1, p9, rfl, lxa1, R_, b_⟩))
        replace HM : Hid (MeS w r s n c p9 gz gu gv ga zc ze zq zt x y v1) := HM.out.read R_ b_
        try replace HL : Hid (Blk v1 gs [.float .f64 zq, .float .f64 nr, .float .f64 0, .float .f64 4613937818241073152]) := HL.out.beside b_ (by have := GS.out; omega)
        try replace H7 : Hid (Blk v1 g7 [.float .f64 0, .float .f64 0]) := H7.out.beside b_ (by have := G7.out; omega)
        clear R_ b_
        refine hK.out _ _ (KZ.out _ _ HM.out) (fun hHeld => ?_)
        clear hK KK
        refine wpAnyH_lst (l' := #[true, true, true, true, true, false, true, true, true, true, true, true, true, true, true, true, false, false, false, false, false, true, false]) (by kernel_rfl) ?_
        try simp only [Act.put, List.setIfInBounds_toArray, List.set_cons_zero, List.set_cons_succ]
        exact FS4_14_21 p9 xa1 gs g7 v1 ⟨HM, lxa1, GS, HL, G7, H7, hHeld⟩
    · rintro p9 xa1 sa gs v0 ⟨HM, lxa1, lsa, GS, HL, hHeld⟩
      refine wpAnyH_ready (rs := [16, 21]) (by kernel_rfl) (by simp) ?_
      refine (AllReadyH.cons rfl (fun KK hK => ?_) (AllReadyH.cons rfl (fun KK hK => ?_) AllReadyH.nil))
      · skip
        go_simp
        go_wp2_with (first | (go_at_call 34; refine (below_any 4 HM.out.1).mono ?_; rintro e v1 ⟨kx, p9, rfl, kx0, kx1, kx2, R_, b_⟩))
        replace HM : Hid (MeS w r s n c p9 gz gu gv ga zc ze zq zt x y v1) := HM.out.read R_ b_
        try replace HL : Hid (Blk v1 gs [.float .f64 zq, .float .f64 nr, .float .f64 0, .float .f64 4613937818241073152]) := HL.out.beside b_ (by have := GS.out; omega)
        try replace H7 : Hid (Blk v1 g7 [.float .f64 0, .float .f64 0]) := H7.out.beside b_ (by have := G7.out; omega)
        obtain ⟨kn, rfl⟩ : ∃ kn : Nat, kx = (kn : Int) := ⟨kx.toNat, by omega⟩
        have kn4 : kn < 4 := by omega
        have kn4i : (kn : Int) < 4 := by omega
        clear R_ b_ kx0 kx1 kx2
        refine hK.out _ _ (KZ.out _ _ HM.out) (fun hHeld => ?_)
        clear hK KK
        refine wpAnyH_take (i := 17) (v := .pointer (some ⟨gs, kn, none⟩)) rfl (by kernel_rfl) (by kernel_rfl) (by kernel_rfl) (fun _ _ _ h => h) (Or.inl ⟨by kernel_rfl, ?_⟩) hHeld ?_
        · intro w' hSw
          obtain ⟨s0_, s1_, s2_⟩ := hSw
          first | (go_simp; done) | (go_simp; with_reducible rfl) | (go_simp; rw [IntKind.wrap_i64]; omega) | (go_simp; omega)
        simp only [Act.put, List.setIfInBounds_toArray, List.set_cons_zero, List.set_cons_succ]
        refine wpAnyH_lst (l' := #[true, true, true, true, true, true, true, true, true, true, true, true, true, true, true, true, true, true, false, false, false, false, false]) (by kernel_rfl) ?_
        try simp only [Act.put, List.setIfInBounds_toArray, List.set_cons_zero, List.set_cons_succ]
        exact FS4_5_14_16 p9 xa1 sa gs kn v1 ⟨HM, lxa1, lsa, GS, HL, kn4, hHeld⟩
      · skip
        go_simp
        obtain ⟨v1, hV_⟩ : ∃ z, z = v0.alloc (.cells #[.float .f64 0, .float .f64 0] 28) := ⟨_, rfl⟩
        rw [← hV_]
        have bl_ : Below v0.heap.size v0 v1 := by rw [hV_]; exact below0 _ _
        obtain ⟨g7, hg9⟩ : ∃ z, z = v0.heap.size := ⟨_, rfl⟩
        rw [← hg9]
        have G7 : Hid (ga < g7) := by show _ < _; rw [hg9]; exact HM.out.2.2.2.2.2.1.1
        try replace HL : Hid (Blk v1 gs [.float .f64 zq, .float .f64 nr, .float .f64 0, .float .f64 4613937818241073152]) := HL.out.below bl_
        try replace H7 : Hid (Blk v1 g7 [.float .f64 0, .float .f64 0]) := H7.out.below bl_
        have H7 : Hid (Blk v1 g7 [.float .f64 0, .float .f64 0]) := by show Blk _ _ _; rw [hV_, hg9]; exact Blk.new v0 #[.float .f64 0, .float .f64 0] _
        replace HM : Hid (MeS w r s n c p9 gz gu gv ga zc ze zq zt x y v1) := HM.out.below bl_
        clear hV_ hg9 bl_
        refine hK.out _ _ (KZ.out _ _ HM.out) (fun hHeld => ?_)
        clear hK KK
        refine wpAnyH_lst (l' := #[true, true, true, true, true, true, true, true, true, true, true, true, true, true, true, true, false, false, false, false, false, true, false]) (by kernel_rfl) ?_
        try simp only [Act.put, List.setIfInBounds_toArray, List.set_cons_zero, List.set_cons_succ]
        exact FS4_5_14_21 p9 xa1 sa gs g7 v1 ⟨HM, lxa1, lsa, GS, HL, G7, H7, hHeld⟩
    · rintro p9 xa1 sa kn v0 ⟨HM, lxa1, lsa, kn4, hHeld⟩
      have kn4i : (kn : Int) < 4 := by omega
      refine wpAnyH_ready (rs := [14, 21]) (by kernel_rfl) (by simp) ?_
      refine (AllReadyH.cons rfl (fun KK hK => ?_) (AllReadyH.cons rfl (fun KK hK => ?_) AllReadyH.nil))
      · skip
        go_simp
        obtain ⟨v1, hV_⟩ : ∃ z, z = v0.alloc (.cells #[.float .f64 zq, .float .f64 nr, .float .f64 0, .float .f64 4613937818241073152] 22) := ⟨_, rfl⟩
        rw [← hV_]
        have bl_ : Below v0.heap.size v0 v1 := by rw [hV_]; exact below0 _ _
        obtain ⟨gs, hg9⟩ : ∃ z, z = v0.heap.size := ⟨_, rfl⟩
        rw [← hg9]
        have GS : Hid (ga < gs) := by show _ < _; rw [hg9]; exact HM.out.2.2.2.2.2.1.1
        try replace HL : Hid (Blk v1 gs [.float .f64 zq, .float .f64 nr, .float .f64 0, .float .f64 4613937818241073152]) := HL.out.below bl_
        try replace H7 : Hid (Blk v1 g7 [.float .f64 0, .float .f64 0]) := H7.out.below bl_
        have HL : Hid (Blk v1 gs [.float .f64 zq, .float .f64 nr, .float .f64 0, .float .f64 4613937818241073152]) := by show Blk _ _ _; rw [hV_, hg9]; exact Blk.new v0 #[.float .f64 zq, .float .f64 nr, .float .f64 0, .float .f64 4613937818241073152] _
        replace HM : Hid (MeS w r s n c p9 gz gu gv ga zc ze zq zt x y v1) := HM.out.below bl_
        clear hV_ hg9 bl_
        refine hK.out _ _ (KZ.out _ _ HM.out) (fun hHeld => ?_)
        clear hK KK
        refine wpAnyH_take (i := 17) (v := .pointer (some ⟨gs, kn, none⟩)) rfl (by kernel_rfl) (by kernel_rfl) (by kernel_rfl) (fun _ _ _ h => h) (Or.inl ⟨by kernel_rfl, ?_⟩) hHeld ?_
        · intro w' hSw
          obtain ⟨s0_, s1_, s2_⟩ := hSw
          first | (go_simp; done) | (go_simp; with_reducible rfl) | (go_simp; rw [IntKind.wrap_i64]; omega) | (go_simp; omega)
        simp only [Act.put, List.setIfInBounds_toArray, List.set_cons_zero, List.set_cons_succ]
        refine wpAnyH_lst (l' := #[true, true, true, true, true, true, true, true, true, true, true, true, true, true, true, true, true, true, false, false, false, false, false]) (by kernel_rfl) ?_
        try simp only [Act.put, List.setIfInBounds_toArray, List.set_cons_zero, List.set_cons_succ]
        exact FS4_5_14_16 p9 xa1 sa gs kn v1 ⟨HM, lxa1, lsa, GS, HL, kn4, hHeld⟩
      · skip
        go_simp
        obtain ⟨v1, hV_⟩ : ∃ z, z = v0.alloc (.cells #[.float .f64 0, .float .f64 0] 28) := ⟨_, rfl⟩
        rw [← hV_]
        have bl_ : Below v0.heap.size v0 v1 := by rw [hV_]; exact below0 _ _
        obtain ⟨g7, hg9⟩ : ∃ z, z = v0.heap.size := ⟨_, rfl⟩
        rw [← hg9]
        have G7 : Hid (ga < g7) := by show _ < _; rw [hg9]; exact HM.out.2.2.2.2.2.1.1
        try replace HL : Hid (Blk v1 gs [.float .f64 zq, .float .f64 nr, .float .f64 0, .float .f64 4613937818241073152]) := HL.out.below bl_
        try replace H7 : Hid (Blk v1 g7 [.float .f64 0, .float .f64 0]) := H7.out.below bl_
        have H7 : Hid (Blk v1 g7 [.float .f64 0, .float .f64 0]) := by show Blk _ _ _; rw [hV_, hg9]; exact Blk.new v0 #[.float .f64 0, .float .f64 0] _
        replace HM : Hid (MeS w r s n c p9 gz gu gv ga zc ze zq zt x y v1) := HM.out.below bl_
        clear hV_ hg9 bl_
        refine hK.out _ _ (KZ.out _ _ HM.out) (fun hHeld => ?_)
        clear hK KK
        refine wpAnyH_lst (l' := #[true, true, true, true, true, true, true, true, true, true, true, true, true, true, false, true, true, false, false, false, false, true, false]) (by kernel_rfl) ?_
        try simp only [Act.put, List.setIfInBounds_toArray, List.set_cons_zero, List.set_cons_succ]
        exact FS4_5_16_21 p9 xa1 sa kn g7 v1 ⟨HM, lxa1, lsa, kn4, G7, H7, hHeld⟩
    · rintro p9 xa1 sa g7 v0 ⟨HM, lxa1, lsa, G7, H7, hHeld⟩
      refine wpAnyH_ready (rs := [14, 16]) (by kernel_rfl) (by simp) ?_
      refine (AllReadyH.cons rfl (fun KK hK => ?_) (AllReadyH.cons rfl (fun KK hK => ?_) AllReadyH.nil))
      · skip
        go_simp
        obtain ⟨v1, hV_⟩ : ∃ z, z = v0.alloc (.cells #[.float .f64 zq, .float .f64 nr, .float .f64 0, .float .f64 4613937818241073152] 22) := ⟨_, rfl⟩
        rw [← hV_]
        have bl_ : Below v0.heap.size v0 v1 := by rw [hV_]; exact below0 _ _
        obtain ⟨gs, hg9⟩ : ∃ z, z = v0.heap.size := ⟨_, rfl⟩
        rw [← hg9]
        have GS : Hid (ga < gs) := by show _ < _; rw [hg9]; exact HM.out.2.2.2.2.2.1.1
        try replace HL : Hid (Blk v1 gs [.float .f64 zq, .float .f64 nr, .float .f64 0, .float .f64 4613937818241073152]) := HL.out.below bl_
        try replace H7 : Hid (Blk v1 g7 [.float .f64 0, .float .f64 0]) := H7.out.below bl_
        have HL : Hid (Blk v1 gs [.float .f64 zq, .float .f64 nr, .float .f64 0, .float .f64 4613937818241073152]) := by show Blk _ _ _; rw [hV_, hg9]; exact Blk.new v0 #[.float .f64 zq, .float .f64 nr, .float .f64 0, .float .f64 4613937818241073152] _
        replace HM : Hid (MeS w r s n c p9 gz gu gv ga zc ze zq zt x y v1) := HM.out.below bl_
        clear hV_ hg9 bl_
        refine hK.out _ _ (KZ.out _ _ HM.out) (fun hHeld => ?_)
        clear hK KK
        refine wpAnyH_lst (l' := #[true, true, true, true, true, true, true, true, true, true, true, true, true, true, true, true, false, false, false, false, false, true, false]) (by kernel_rfl) ?_
        try simp only [Act.put, List.setIfInBounds_toArray, List.set_cons_zero, List.set_cons_succ]
        exact FS4_5_14_21 p9 xa1 sa gs g7 v1 ⟨HM, lxa1, lsa, GS, HL, G7, H7, hHeld⟩
      · skip
        go_simp
        go_wp2_with (first | (go_at_call 34; refine (below_any 4 HM.out.1).mono ?_; rintro e v1 ⟨kx, p9, rfl, kx0, kx1, kx2, R_, b_⟩))
        replace HM : Hid (MeS w r s n c p9 gz gu gv ga zc ze zq zt x y v1) := HM.out.read R_ b_
        try replace HL : Hid (Blk v1 gs [.float .f64 zq, .float .f64 nr, .float .f64 0, .float .f64 4613937818241073152]) := HL.out.beside b_ (by have := GS.out; omega)
        try replace H7 : Hid (Blk v1 g7 [.float .f64 0, .float .f64 0]) := H7.out.beside b_ (by have := G7.out; omega)
        obtain ⟨kn, rfl⟩ : ∃ kn : Nat, kx = (kn : Int) := ⟨kx.toNat, by omega⟩
        have kn4 : kn < 4 := by omega
        have kn4i : (kn : Int) < 4 := by omega
        clear R_ b_ kx0 kx1 kx2
        refine hK.out _ _ (KZ.out _ _ HM.out) (fun hHeld => ?_)
        clear hK KK
        refine wpAnyH_lst (l' := #[true, true, true, true, true, true, true, true, true, true, true, true, true, true, false, true, true, false, false, false, false, true, false]) (by kernel_rfl) ?_
        try simp only [Act.put, List.setIfInBounds_toArray, List.set_cons_zero, List.set_cons_succ]
        exact FS4_5_16_21 p9 xa1 sa kn g7 v1 ⟨HM, lxa1, lsa, kn4, G7, H7, hHeld⟩
    · rintro p9 xa1 gs kn v0 ⟨HM, lxa1, GS, HL, kn4, hHeld⟩
      have kn4i : (kn : Int) < 4 := by omega
      refine wpAnyH_ready (rs := [5, 18, 21]) (by kernel_rfl) (by simp) ?_
      refine (AllReadyH.cons rfl (fun KK hK => ?_) (AllReadyH.cons rfl (fun KK hK => ?_) (AllReadyH.cons rfl (fun KK hK => ?_) AllReadyH.nil)))
      · skip
        obtain ⟨o21, h21⟩ := anyFl lxa1
        have F21 : Hid (Fl xa1 o21) := h21
        refine step_fop .add rfl _ _ _ _ (by rfl) (by rfl) (by rfl) (by rfl) FC.out F21.out ?_
        intro sa m_ h_
        obtain ⟨v1, hV_⟩ : ∃ z, z = v0.drewN m_ := ⟨_, rfl⟩
        rw [← hV_]
        have bl_ : Below v0.heap.size v0 v1 := by rw [hV_]; exact bDrewN (Below.refl _ _) _
        have lsa : sa < 18446744073709551616 := h_.1
        replace HM : Hid (MeS w r s n c p9 gz gu gv ga zc ze zq zt x y v1) := HM.out.below bl_
        try replace HL : Hid (Blk v1 gs [.float .f64 zq, .float .f64 nr, .float .f64 0, .float .f64 4613937818241073152]) := HL.out.below bl_
        try replace H7 : Hid (Blk v1 g7 [.float .f64 0, .float .f64 0]) := H7.out.below bl_
        clear hV_ bl_ h_
        refine hK.out _ _ (KZ.out _ _ HM.out) (fun hHeld => ?_)
        clear hK KK
        refine wpAnyH_lst (l' := #[true, true, true, true, true, true, true, true, true, true, true, true, true, true, true, true, true, true, false, false, false, false, false]) (by kernel_rfl) ?_
        try simp only [Act.put, List.setIfInBounds_toArray, List.set_cons_zero, List.set_cons_succ]
        exact FS4_5_14_16 p9 xa1 sa gs kn v1 ⟨HM, lxa1, lsa, GS, HL, kn4, hHeld⟩
      · skip
        obtain ⟨lv, llv, hlv⟩ := pickedF HL.out (by have l_ := LNR.out; simp [isFl, lr, l_]) kn (by simpa using kn4)
        go_simp
        obtain ⟨v1, hV_⟩ : ∃ z, z = v0 := ⟨_, rfl⟩
        rw [← hV_] at HM HL hHeld ⊢
        try rw [← hV_] at H7
        clear hlv hV_
        refine hK.out _ _ (KZ.out _ _ HM.out) (fun hHeld => ?_)
        clear hK KK
        refine wpAnyH_lst (l' := #[true, true, true, true, true, false, true, true, true, true, true, true, true, true, true, true, true, true, true, false, false, false, false]) (by kernel_rfl) ?_
        try simp only [Act.put, List.setIfInBounds_toArray, List.set_cons_zero, List.set_cons_succ]
        exact FS4_14_16_18 p9 xa1 gs kn lv v1 ⟨HM, lxa1, GS, HL, kn4, llv, hHeld⟩
      · skip
        go_simp
        obtain ⟨v1, hV_⟩ : ∃ z, z = v0.alloc (.cells #[.float .f64 0, .float .f64 0] 28) := ⟨_, rfl⟩
        rw [← hV_]
        have bl_ : Below v0.heap.size v0 v1 := by rw [hV_]; exact below0 _ _
        obtain ⟨g7, hg9⟩ : ∃ z, z = v0.heap.size := ⟨_, rfl⟩
        rw [← hg9]
        have G7 : Hid (ga < g7) := by show _ < _; rw [hg9]; exact HM.out.2.2.2.2.2.1.1
        try replace HL : Hid (Blk v1 gs [.float .f64 zq, .float .f64 nr, .float .f64 0, .float .f64 4613937818241073152]) := HL.out.below bl_
        try replace H7 : Hid (Blk v1 g7 [.float .f64 0, .float .f64 0]) := H7.out.below bl_
        have H7 : Hid (Blk v1 g7 [.float .f64 0, .float .f64 0]) := by show Blk _ _ _; rw [hV_, hg9]; exact Blk.new v0 #[.float .f64 0, .float .f64 0] _
        replace HM : Hid (MeS w r s n c p9 gz gu gv ga zc ze zq zt x y v1) := HM.out.below bl_
        clear hV_ hg9 bl_
        refine hK.out _ _ (KZ.out _ _ HM.out) (fun hHeld => ?_)
        clear hK KK
        refine wpAnyH_lst (l' := #[true, true, true, true, true, false, true, true, true, true, true, true, true, true, true, true, true, true, false, false, false, true, false]) (by kernel_rfl) ?_
        try simp only [Act.put, List.setIfInBounds_toArray, List.set_cons_zero, List.set_cons_succ]
        exact FS4_14_16_21 p9 xa1 gs kn g7 v1 ⟨HM, lxa1, GS, HL, kn4, G7, H7, hHeld⟩
    · rintro p9 xa1 gs g7 v0 ⟨HM, lxa1, GS, HL, G7, H7, hHeld⟩
      refine wpAnyH_ready (rs := [5, 16]) (by kernel_rfl) (by simp) ?_
      refine (AllReadyH.cons rfl (fun KK hK => ?_) (AllReadyH.cons rfl (fun KK hK => ?_) AllReadyH.nil))
      · skip
        obtain ⟨o21, h21⟩ := anyFl lxa1
        have F21 : Hid (Fl xa1 o21) := h21
        refine step_fop .add rfl _ _ _ _ (by rfl) (by rfl) (by rfl) (by rfl) FC.out F21.out ?_
        intro sa m_ h_
        obtain ⟨v1, hV_⟩ : ∃ z, z = v0.drewN m_ := ⟨_, rfl⟩
        rw [← hV_]
        have bl_ : Below v0.heap.size v0 v1 := by rw [hV_]; exact bDrewN (Below.refl _ _) _
        have lsa : sa < 18446744073709551616 := h_.1
        replace HM : Hid (MeS w r s n c p9 gz gu gv ga zc ze zq zt x y v1) := HM.out.below bl_
        try replace HL : Hid (Blk v1 gs [.float .f64 zq, .float .f64 nr, .float .f64 0, .float .f64 4613937818241073152]) := HL.out.below bl_
        try replace H7 : Hid (Blk v1 g7 [.float .f64 0, .float .f64 0]) := H7.out.below bl_
        clear hV_ bl_ h_
        refine hK.out _ _ (KZ.out _ _ HM.out) (fun hHeld => ?_)
        clear hK KK
        refine wpAnyH_lst (l' := #[true, true, true, true, true, true, true, true, true, true, true, true, true, true, true, true, false, false, false, false, false, true, false]) (by kernel_rfl) ?_
        try simp only [Act.put, List.setIfInBounds_toArray, List.set_cons_zero, List.set_cons_succ]
        exact FS4_5_14_21 p9 xa1 sa gs g7 v1 ⟨HM, lxa1, lsa, GS, HL, G7, H7, hHeld⟩
      · skip
        go_simp
        go_wp2_with (first | (go_at_call 34; refine (below_any 4 HM.out.1).mono ?_; rintro e v1 ⟨kx, p9, rfl, kx0, kx1, kx2, R_, b_⟩))
        replace HM : Hid (MeS w r s n c p9 gz gu gv ga zc ze zq zt x y v1) := HM.out.read R_ b_
        try replace HL : Hid (Blk v1 gs [.float .f64 zq, .float .f64 nr, .float .f64 0, .float .f64 4613937818241073152]) := HL.out.beside b_ (by have := GS.out; omega)
        try replace H7 : Hid (Blk v1 g7 [.float .f64 0, .float .f64 0]) := H7.out.beside b_ (by have := G7.out; omega)
        obtain ⟨kn, rfl⟩ : ∃ kn : Nat, kx = (kn : Int) := ⟨kx.toNat, by omega⟩
        have kn4 : kn < 4 := by omega
        have kn4i : (kn : Int) < 4 := by omega
        clear R_ b_ kx0 kx1 kx2
        refine hK.out _ _ (KZ.out _ _ HM.out) (fun hHeld => ?_)
        clear hK KK
        refine wpAnyH_take (i := 17) (v := .pointer (some ⟨gs, kn, none⟩)) rfl (by kernel_rfl) (by kernel_rfl) (by kernel_rfl) (fun _ _ _ h => h) (Or.inl ⟨by kernel_rfl, ?_⟩) hHeld ?_
        · intro w' hSw
          obtain ⟨s0_, s1_, s2_⟩ := hSw
          first | (go_simp; done) | (go_simp; with_reducible rfl) | (go_simp; rw [IntKind.wrap_i64]; omega) | (go_simp; omega)
        simp only [Act.put, List.setIfInBounds_toArray, List.set_cons_zero, List.set_cons_succ]
        refine wpAnyH_lst (l' := #[true, true, true, true, true, false, true, true, true, true, true, true, true, true, true, true, true, true, false, false, false, true, false]) (by kernel_rfl) ?_
        try simp only [Act.put, List.setIfInBounds_toArray, List.set_cons_zero, List.set_cons_succ]
        exact FS4_14_16_21 p9 xa1 gs kn g7 v1 ⟨HM, lxa1, GS, HL, kn4, G7, H7, hHeld⟩
    · rintro p9 xa1 kn g7 v0 ⟨HM, lxa1, kn4, G7, H7, hHeld⟩
      have kn4i : (kn : Int) < 4 := by omega
      refine wpAnyH_ready (rs := [5, 14]) (by kernel_rfl) (by simp) ?_
      refine (AllReadyH.cons rfl (fun KK hK => ?_) (AllReadyH.cons rfl (fun KK hK => ?_) AllReadyH.nil))
      · skip
        obtain ⟨o21, h21⟩ := anyFl lxa1
        have F21 : Hid (Fl xa1 o21) := h21
        refine step_fop .add rfl _ _ _ _ (by rfl) (by rfl) (by rfl) (by rfl) FC.out F21.out ?_
        intro sa m_ h_
        obtain ⟨v1, hV_⟩ : ∃ z, z = v0.drewN m_ := ⟨_, rfl⟩
        rw [← hV_]
        have bl_ : Below v0.heap.size v0 v1 := by rw [hV_]; exact bDrewN (Below.refl _ _) _
        have lsa : sa < 18446744073709551616 := h_.1
        replace HM : Hid (MeS w r s n c p9 gz gu gv ga zc ze zq zt x y v1) := HM.out.below bl_
        try replace HL : Hid (Blk v1 gs [.float .f64 zq, .float .f64 nr, .float .f64 0, .float .f64 4613937818241073152]) := HL.out.below bl_
        try replace H7 : Hid (Blk v1 g7 [.float .f64 0, .float .f64 0]) := H7.out.below bl_
        clear hV_ bl_ h_
        refine hK.out _ _ (KZ.out _ _ HM.out) (fun hHeld => ?_)
        clear hK KK
        refine wpAnyH_lst (l' := #[true, true, true, true, true, true, true, true, true, true, true, true, true, true, false, true, true, false, false, false, false, true, false]) (by kernel_rfl) ?_
        try simp only [Act.put, List.setIfInBounds_toArray, List.set_cons_zero, List.set_cons_succ]
        exact FS4_5_16_21 p9 xa1 sa kn g7 v1 ⟨HM, lxa1, lsa, kn4, G7, H7, hHeld⟩
      · skip
        go_simp
        obtain ⟨v1, hV_⟩ : ∃ z, z = v0.alloc (.cells #[.float .f64 zq, .float .f64 nr, .float .f64 0, .float .f64 4613937818241073152] 22) := ⟨_, rfl⟩
        rw [← hV_]
        have bl_ : Below v0.heap.size v0 v1 := by rw [hV_]; exact below0 _ _
        obtain ⟨gs, hg9⟩ : ∃ z, z = v0.heap.size := ⟨_, rfl⟩
        rw [← hg9]
        have GS : Hid (ga < gs) := by show _ < _; rw [hg9]; exact HM.out.2.2.2.2.2.1.1
        try replace HL : Hid (Blk v1 gs [.float .f64 zq, .float .f64 nr, .float .f64 0, .float .f64 4613937818241073152]) := HL.out.below bl_
        try replace H7 : Hid (Blk v1 g7 [.float .f64 0, .float .f64 0]) := H7.out.below bl_
        have HL : Hid (Blk v1 gs [.float .f64 zq, .float .f64 nr, .float .f64 0, .float .f64 4613937818241073152]) := by show Blk _ _ _; rw [hV_, hg9]; exact Blk.new v0 #[.float .f64 zq, .float .f64 nr, .float .f64 0, .float .f64 4613937818241073152] _
        replace HM : Hid (MeS w r s n c p9 gz gu gv ga zc ze zq zt x y v1) := HM.out.below bl_
        clear hV_ hg9 bl_
        refine hK.out _ _ (KZ.out _ _ HM.out) (fun hHeld => ?_)
        clear hK KK
        refine wpAnyH_take (i := 17) (v := .pointer (some ⟨gs, kn, none⟩)) rfl (by kernel_rfl) (by kernel_rfl) (by kernel_rfl) (fun _ _ _ h => h) (Or.inl ⟨by kernel_rfl, ?_⟩) hHeld ?_
        · intro w' hSw
          obtain ⟨s0_, s1_, s2_⟩ := hSw
          first | (go_simp; done) | (go_simp; with_reducible rfl) | (go_simp; rw [IntKind.wrap_i64]; omega) | (go_simp; omega)
        simp only [Act.put, List.setIfInBounds_toArray, List.set_cons_zero, List.set_cons_succ]
        refine wpAnyH_lst (l' := #[true, true, true, true, true, false, true, true, true, true, true, true, true, true, true, true, true, true, false, false, false, true, false]) (by kernel_rfl) ?_
        try simp only [Act.put, List.setIfInBounds_toArray, List.set_cons_zero, List.set_cons_succ]
        exact FS4_14_16_21 p9 xa1 gs kn g7 v1 ⟨HM, lxa1, GS, HL, kn4, G7, H7, hHeld⟩
    · rintro p9 xa1 sa gs kn v0 ⟨HM, lxa1, lsa, GS, HL, kn4, hHeld⟩
      have kn4i : (kn : Int) < 4 := by omega
      refine wpAnyH_ready (rs := [18, 21]) (by kernel_rfl) (by simp) ?_
      refine (AllReadyH.cons rfl (fun KK hK => ?_) (AllReadyH.cons rfl (fun KK hK => ?_) AllReadyH.nil))
      · skip
        obtain ⟨lv, llv, hlv⟩ := pickedF HL.out (by have l_ := LNR.out; simp [isFl, lr, l_]) kn (by simpa using kn4)
        go_simp
        obtain ⟨v1, hV_⟩ : ∃ z, z = v0 := ⟨_, rfl⟩
        rw [← hV_] at HM HL hHeld ⊢
        try rw [← hV_] at H7
        clear hlv hV_
        refine hK.out _ _ (KZ.out _ _ HM.out) (fun hHeld => ?_)
        clear hK KK
        refine wpAnyH_lst (l' := #[true, true, true, true, true, true, true, true, true, true, true, true, true, true, true, true, true, true, true, false, false, false, false]) (by kernel_rfl) ?_
        try simp only [Act.put, List.setIfInBounds_toArray, List.set_cons_zero, List.set_cons_succ]
        exact FS4_5_14_16_18 p9 xa1 sa gs kn lv v1 ⟨HM, lxa1, lsa, GS, HL, kn4, llv, hHeld⟩
      · skip
        go_simp
        obtain ⟨v1, hV_⟩ : ∃ z, z = v0.alloc (.cells #[.float .f64 0, .float .f64 0] 28) := ⟨_, rfl⟩
        rw [← hV_]
        have bl_ : Below v0.heap.size v0 v1 := by rw [hV_]; exact below0 _ _
        obtain ⟨g7, hg9⟩ : ∃ z, z = v0.heap.size := ⟨_, rfl⟩
        rw [← hg9]
        have G7 : Hid (ga < g7) := by show _ < _; rw [hg9]; exact HM.out.2.2.2.2.2.1.1
        try replace HL : Hid (Blk v1 gs [.float .f64 zq, .float .f64 nr, .float .f64 0, .float .f64 4613937818241073152]) := HL.out.below bl_
        try replace H7 : Hid (Blk v1 g7 [.float .f64 0, .float .f64 0]) := H7.out.below bl_
        have H7 : Hid (Blk v1 g7 [.float .f64 0, .float .f64 0]) := by show Blk _ _ _; rw [hV_, hg9]; exact Blk.new v0 #[.float .f64 0, .float .f64 0] _
        replace HM : Hid (MeS w r s n c p9 gz gu gv ga zc ze zq zt x y v1) := HM.out.below bl_
        clear hV_ hg9 bl_
        refine hK.out _ _ (KZ.out _ _ HM.out) (fun hHeld => ?_)
        clear hK KK
        refine wpAnyH_lst (l' := #[true, true, true, true, true, true, true, true, true, true, true, true, true, true, true, true, true, true, false, false, false, true, false]) (by kernel_rfl) ?_
        try simp only [Act.put, List.setIfInBounds_toArray, List.set_cons_zero, List.set_cons_succ]
        exact FS4_5_14_16_21 p9 xa1 sa gs kn g7 v1 ⟨HM, lxa1, lsa, GS, HL, kn4, G7, H7, hHeld⟩
    · rintro p9 xa1 sa gs g7 v0 ⟨HM, lxa1, lsa, GS, HL, G7, H7, hHeld⟩
      refine wpAnyH_ready (rs := [16]) (by kernel_rfl) (by simp) ?_
      refine (AllReadyH.cons rfl (fun KK hK => ?_) AllReadyH.nil)
      · skip
        go_simp
        go_wp2_with (first | (go_at_call 34; refine (below_any 4 HM.out.1).mono ?_; rintro e v1 ⟨kx, p9, rfl, kx0, kx1, kx2, R_, b_⟩))
        replace HM : Hid (MeS w r s n c p9 gz gu gv ga zc ze zq zt x y v1) := HM.out.read R_ b_
        try replace HL : Hid (Blk v1 gs [.float .f64 zq, .float .f64 nr, .float .f64 0, .float .f64 4613937818241073152]) := HL.out.beside b_ (by have := GS.out; omega)
        try replace H7 : Hid (Blk v1 g7 [.float .f64 0, .float .f64 0]) := H7.out.beside b_ (by have := G7.out; omega)
        obtain ⟨kn, rfl⟩ : ∃ kn : Nat, kx = (kn : Int) := ⟨kx.toNat, by omega⟩
        have kn4 : kn < 4 := by omega
        have kn4i : (kn : Int) < 4 := by omega
        clear R_ b_ kx0 kx1 kx2
        refine hK.out _ _ (KZ.out _ _ HM.out) (fun hHeld => ?_)
        clear hK KK
        refine wpAnyH_take (i := 17) (v := .pointer (some ⟨gs, kn, none⟩)) rfl (by kernel_rfl) (by kernel_rfl) (by kernel_rfl) (fun _ _ _ h => h) (Or.inl ⟨by kernel_rfl, ?_⟩) hHeld ?_
        · intro w' hSw
          obtain ⟨s0_, s1_, s2_⟩ := hSw
          first | (go_simp; done) | (go_simp; with_reducible rfl) | (go_simp; rw [IntKind.wrap_i64]; omega) | (go_simp; omega)
        simp only [Act.put, List.setIfInBounds_toArray, List.set_cons_zero, List.set_cons_succ]
        refine wpAnyH_lst (l' := #[true, true, true, true, true, true, true, true, true, true, true, true, true, true, true, true, true, true, false, false, false, true, false]) (by kernel_rfl) ?_
        try simp only [Act.put, List.setIfInBounds_toArray, List.set_cons_zero, List.set_cons_succ]
        exact FS4_5_14_16_21 p9 xa1 sa gs kn g7 v1 ⟨HM, lxa1, lsa, GS, HL, kn4, G7, H7, hHeld⟩
    · rintro p9 xa1 sa kn g7 v0 ⟨HM, lxa1, lsa, kn4, G7, H7, hHeld⟩
      have kn4i : (kn : Int) < 4 := by omega
      refine wpAnyH_ready (rs := [14]) (by kernel_rfl) (by simp) ?_
      refine (AllReadyH.cons rfl (fun KK hK => ?_) AllReadyH.nil)
      · skip
        go_simp
        obtain ⟨v1, hV_⟩ : ∃ z, z = v0.alloc (.cells #[.float .f64 zq, .float .f64 nr, .float .f64 0, .float .f64 4613937818241073152] 22) := ⟨_, rfl⟩
        rw [← hV_]
        have bl_ : Below v0.heap.size v0 v1 := by rw [hV_]; exact below0 _ _
        obtain ⟨gs, hg9⟩ : ∃ z, z = v0.heap.size := ⟨_, rfl⟩
        rw [← hg9]
        have GS : Hid (ga < gs) := by show _ < _; rw [hg9]; exact HM.out.2.2.2.2.2.1.1
        try replace HL : Hid (Blk v1 gs [.float .f64 zq, .float .f64 nr, .float .f64 0, .float .f64 4613937818241073152]) := HL.out.below bl_
        try replace H7 : Hid (Blk v1 g7 [.float .f64 0, .float .f64 0]) := H7.out.below bl_
        have HL : Hid (Blk v1 gs [.float .f64 zq, .float .f64 nr, .float .f64 0, .float .f64 4613937818241073152]) := by show Blk _ _ _; rw [hV_, hg9]; exact Blk.new v0 #[.float .f64 zq, .float .f64 nr, .float .f64 0, .float .f64 4613937818241073152] _
        replace HM : Hid (MeS w r s n c p9 gz gu gv ga zc ze zq zt x y v1) := HM.out.below bl_
        clear hV_ hg9 bl_
        refine hK.out _ _ (KZ.out _ _ HM.out) (fun hHeld => ?_)
        clear hK KK
        refine wpAnyH_take (i := 17) (v := .pointer (some ⟨gs, kn, none⟩)) rfl (by kernel_rfl) (by kernel_rfl) (by kernel_rfl) (fun _ _ _ h => h) (Or.inl ⟨by kernel_rfl, ?_⟩) hHeld ?_
        · intro w' hSw
          obtain ⟨s0_, s1_, s2_⟩ := hSw
          first | (go_simp; done) | (go_simp; with_reducible rfl) | (go_simp; rw [IntKind.wrap_i64]; omega) | (go_simp; omega)
        simp only [Act.put, List.setIfInBounds_toArray, List.set_cons_zero, List.set_cons_succ]
        refine wpAnyH_lst (l' := #[true, true, true, true, true, true, true, true, true, true, true, true, true, true, true, true, true, true, false, false, false, true, false]) (by kernel_rfl) ?_
        try simp only [Act.put, List.setIfInBounds_toArray, List.set_cons_zero, List.set_cons_succ]
        exact FS4_5_14_16_21 p9 xa1 sa gs kn g7 v1 ⟨HM, lxa1, lsa, GS, HL, kn4, G7, H7, hHeld⟩
    · rintro p9 xa1 gs kn lv v0 ⟨HM, lxa1, GS, HL, kn4, llv, hHeld⟩
      have kn4i : (kn : Int) < 4 := by omega
      refine wpAnyH_ready (rs := [5, 19, 21]) (by kernel_rfl) (by simp) ?_
      refine (AllReadyH.cons rfl (fun KK hK => ?_) (AllReadyH.cons rfl (fun KK hK => ?_) (AllReadyH.cons rfl (fun KK hK => ?_) AllReadyH.nil)))
      · skip
        obtain ⟨o21, h21⟩ := anyFl lxa1
        have F21 : Hid (Fl xa1 o21) := h21
        refine step_fop .add rfl _ _ _ _ (by rfl) (by rfl) (by rfl) (by rfl) FC.out F21.out ?_
        intro sa m_ h_
        obtain ⟨v1, hV_⟩ : ∃ z, z = v0.drewN m_ := ⟨_, rfl⟩
        rw [← hV_]
        have bl_ : Below v0.heap.size v0 v1 := by rw [hV_]; exact bDrewN (Below.refl _ _) _
        have lsa : sa < 18446744073709551616 := h_.1
        replace HM : Hid (MeS w r s n c p9 gz gu gv ga zc ze zq zt x y v1) := HM.out.below bl_
        try replace HL : Hid (Blk v1 gs [.float .f64 zq, .float .f64 nr, .float .f64 0, .float .f64 4613937818241073152]) := HL.out.below bl_
        try replace H7 : Hid (Blk v1 g7 [.float .f64 0, .float .f64 0]) := H7.out.below bl_
        clear hV_ bl_ h_
        refine hK.out _ _ (KZ.out _ _ HM.out) (fun hHeld => ?_)
        clear hK KK
        refine wpAnyH_lst (l' := #[true, true, true, true, true, true, true, true, true, true, true, true, true, true, true, true, true, true, true, false, false, false, false]) (by kernel_rfl) ?_
        try simp only [Act.put, List.setIfInBounds_toArray, List.set_cons_zero, List.set_cons_succ]
        exact FS4_5_14_16_18 p9 xa1 sa gs kn lv v1 ⟨HM, lxa1, lsa, GS, HL, kn4, llv, hHeld⟩
      · skip
        obtain ⟨olv, hol⟩ := anyFl llv
        have FLV : Hid (Fl lv olv) := hol
        refine step_fop .add rfl _ _ _ _ (by rfl) (by rfl) (by rfl) (by rfl) FE.out FLV.out ?_
        intro sb m_ h_
        obtain ⟨v1, hV_⟩ : ∃ z, z = v0.drewN m_ := ⟨_, rfl⟩
        rw [← hV_]
        have bl_ : Below v0.heap.size v0 v1 := by rw [hV_]; exact bDrewN (Below.refl _ _) _
        have lsb : sb < 18446744073709551616 := h_.1
        replace HM : Hid (MeS w r s n c p9 gz gu gv ga zc ze zq zt x y v1) := HM.out.below bl_
        try replace HL : Hid (Blk v1 gs [.float .f64 zq, .float .f64 nr, .float .f64 0, .float .f64 4613937818241073152]) := HL.out.below bl_
        try replace H7 : Hid (Blk v1 g7 [.float .f64 0, .float .f64 0]) := H7.out.below bl_
        clear hV_ bl_ h_
        refine hK.out _ _ (KZ.out _ _ HM.out) (fun hHeld => ?_)
        clear hK KK
        refine wpAnyH_lst (l' := #[true, true, true, true, true, false, true, true, true, true, true, true, true, true, true, true, true, true, true, true, false, false, false]) (by kernel_rfl) ?_
        try simp only [Act.put, List.setIfInBounds_toArray, List.set_cons_zero, List.set_cons_succ]
        exact FS4_14_16_18_19 p9 xa1 gs kn lv sb v1 ⟨HM, lxa1, GS, HL, kn4, llv, lsb, hHeld⟩
      · skip
        go_simp
        obtain ⟨v1, hV_⟩ : ∃ z, z = v0.alloc (.cells #[.float .f64 0, .float .f64 0] 28) := ⟨_, rfl⟩
        rw [← hV_]
        have bl_ : Below v0.heap.size v0 v1 := by rw [hV_]; exact below0 _ _
        obtain ⟨g7, hg9⟩ : ∃ z, z = v0.heap.size := ⟨_, rfl⟩
        rw [← hg9]
        have G7 : Hid (ga < g7) := by show _ < _; rw [hg9]; exact HM.out.2.2.2.2.2.1.1
        try replace HL : Hid (Blk v1 gs [.float .f64 zq, .float .f64 nr, .float .f64 0, .float .f64 4613937818241073152]) := HL.out.below bl_
        try replace H7 : Hid (Blk v1 g7 [.float .f64 0, .float .f64 0]) := H7.out.below bl_
        have H7 : Hid (Blk v1 g7 [.float .f64 0, .float .f64 0]) := by show Blk _ _ _; rw [hV_, hg9]; exact Blk.new v0 #[.float .f64 0, .float .f64 0] _
        replace HM : Hid (MeS w r s n c p9 gz gu gv ga zc ze zq zt x y v1) := HM.out.below bl_
        clear hV_ hg9 bl_
        refine hK.out _ _ (KZ.out _ _ HM.out) (fun hHeld => ?_)
        clear hK KK
        refine wpAnyH_lst (l' := #[true, true, true, true, true, false, true, true, true, true, true, true, true, true, true, true, true, true, true, false, false, true, false]) (by kernel_rfl) ?_
        try simp only [Act.put, List.setIfInBounds_toArray, List.set_cons_zero, List.set_cons_succ]
        exact FS4_14_16_18_21 p9 xa1 gs kn lv g7 v1 ⟨HM, lxa1, GS, HL, kn4, llv, G7, H7, hHeld⟩
    · rintro p9 xa1 gs kn g7 v0 ⟨HM, lxa1, GS, HL, kn4, G7, H7, hHeld⟩
      have kn4i : (kn : Int) < 4 := by omega
      refine wpAnyH_ready (rs := [5, 18]) (by kernel_rfl) (by simp) ?_
      refine (AllReadyH.cons rfl (fun KK hK => ?_) (AllReadyH.cons rfl (fun KK hK => ?_) AllReadyH.nil))
      · skip
        obtain ⟨o21, h21⟩ := anyFl lxa1
        have F21 : Hid (Fl xa1 o21) := h21
        refine step_fop .add rfl _ _ _ _ (by rfl) (by rfl) (by rfl) (by rfl) FC.out F21.out ?_
        intro sa m_ h_
        obtain ⟨v1, hV_⟩ : ∃ z, z = v0.drewN m_ := ⟨_, rfl⟩
        rw [← hV_]
        have bl_ : Below v0.heap.size v0 v1 := by rw [hV_]; exact bDrewN (Below.refl _ _) _
        have lsa : sa < 18446744073709551616 := h_.1
        replace HM : Hid (MeS w r s n c p9 gz gu gv ga zc ze zq zt x y v1) := HM.out.below bl_
        try replace HL : Hid (Blk v1 gs [.float .f64 zq, .float .f64 nr, .float .f64 0, .float .f64 4613937818241073152]) := HL.out.below bl_
        try replace H7 : Hid (Blk v1 g7 [.float .f64 0, .float .f64 0]) := H7.out.below bl_
        clear hV_ bl_ h_
        refine hK.out _ _ (KZ.out _ _ HM.out) (fun hHeld => ?_)
        clear hK KK
        refine wpAnyH_lst (l' := #[true, true, true, true, true, true, true, true, true, true, true, true, true, true, true, true, true, true, false, false, false, true, false]) (by kernel_rfl) ?_
        try simp only [Act.put, List.setIfInBounds_toArray, List.set_cons_zero, List.set_cons_succ]
        exact FS4_5_14_16_21 p9 xa1 sa gs kn g7 v1 ⟨HM, lxa1, lsa, GS, HL, kn4, G7, H7, hHeld⟩
      · skip
        obtain ⟨lv, llv, hlv⟩ := pickedF HL.out (by have l_ := LNR.out; simp [isFl, lr, l_]) kn (by simpa using kn4)
        go_simp
        obtain ⟨v1, hV_⟩ : ∃ z, z = v0 := ⟨_, rfl⟩
        rw [← hV_] at HM HL hHeld ⊢
        try rw [← hV_] at H7
        clear hlv hV_
        refine hK.out _ _ (KZ.out _ _ HM.out) (fun hHeld => ?_)
        clear hK KK
        refine wpAnyH_lst (l' := #[true, true, true, true, true, false, true, true, true, true, true, true, true, true, true, true, true, true, true, false, false, true, false]) (by kernel_rfl) ?_
        try simp only [Act.put, List.setIfInBounds_toArray, List.set_cons_zero, List.set_cons_succ]
        exact FS4_14_16_18_21 p9 xa1 gs kn lv g7 v1 ⟨HM, lxa1, GS, HL, kn4, llv, G7, H7, hHeld⟩
    · rintro p9 xa1 sa gs kn lv v0 ⟨HM, lxa1, lsa, GS, HL, kn4, llv, hHeld⟩
      have kn4i : (kn : Int) < 4 := by omega
      refine wpAnyH_ready (rs := [19, 21]) (by kernel_rfl) (by simp) ?_
      refine (AllReadyH.cons rfl (fun KK hK => ?_) (AllReadyH.cons rfl (fun KK hK => ?_) AllReadyH.nil))
      · skip
        obtain ⟨olv, hol⟩ := anyFl llv
        have FLV : Hid (Fl lv olv) := hol
        refine step_fop .add rfl _ _ _ _ (by rfl) (by rfl) (by rfl) (by rfl) FE.out FLV.out ?_
        intro sb m_ h_
        obtain ⟨v1, hV_⟩ : ∃ z, z = v0.drewN m_ := ⟨_, rfl⟩
        rw [← hV_]
        have bl_ : Below v0.heap.size v0 v1 := by rw [hV_]; exact bDrewN (Below.refl _ _) _
        have lsb : sb < 18446744073709551616 := h_.1
        replace HM : Hid (MeS w r s n c p9 gz gu gv ga zc ze zq zt x y v1) := HM.out.below bl_
        try replace HL : Hid (Blk v1 gs [.float .f64 zq, .float .f64 nr, .float .f64 0, .float .f64 4613937818241073152]) := HL.out.below bl_
        try replace H7 : Hid (Blk v1 g7 [.float .f64 0, .float .f64 0]) := H7.out.below bl_
        clear hV_ bl_ h_
        refine hK.out _ _ (KZ.out _ _ HM.out) (fun hHeld => ?_)
        clear hK KK
        refine wpAnyH_take (i := 20) (v := .agg #[.float .f64 sa, .float .f64 sb]) rfl (by kernel_rfl) (by kernel_rfl) (by kernel_rfl) (fun _ _ _ h => h) (Or.inl ⟨by kernel_rfl, ?_⟩) hHeld ?_
        · intro w' hSw
          obtain ⟨s0_, s1_, s2_⟩ := hSw
          first | (go_simp; done) | (go_simp; with_reducible rfl) | (go_simp; rw [IntKind.wrap_i64]; omega) | (go_simp; omega)
        simp only [Act.put, List.setIfInBounds_toArray, List.set_cons_zero, List.set_cons_succ]
        refine wpAnyH_lst (l' := #[true, true, true, true, true, true, true, true, true, true, true, true, true, true, true, true, true, true, true, true, true, false, false]) (by kernel_rfl) ?_
        try simp only [Act.put, List.setIfInBounds_toArray, List.set_cons_zero, List.set_cons_succ]
        exact FS4_5_14_16_18_19 p9 xa1 sa gs kn lv sb v1 ⟨HM, lxa1, lsa, GS, HL, kn4, llv, lsb, hHeld⟩
      · skip
        go_simp
        obtain ⟨v1, hV_⟩ : ∃ z, z = v0.alloc (.cells #[.float .f64 0, .float .f64 0] 28) := ⟨_, rfl⟩
        rw [← hV_]
        have bl_ : Below v0.heap.size v0 v1 := by rw [hV_]; exact below0 _ _
        obtain ⟨g7, hg9⟩ : ∃ z, z = v0.heap.size := ⟨_, rfl⟩
        rw [← hg9]
        have G7 : Hid (ga < g7) := by show _ < _; rw [hg9]; exact HM.out.2.2.2.2.2.1.1
        try replace HL : Hid (Blk v1 gs [.float .f64 zq, .float .f64 nr, .float .f64 0, .float .f64 4613937818241073152]) := HL.out.below bl_
        try replace H7 : Hid (Blk v1 g7 [.float .f64 0, .float .f64 0]) := H7.out.below bl_
        have H7 : Hid (Blk v1 g7 [.float .f64 0, .float .f64 0]) := by show Blk _ _ _; rw [hV_, hg9]; exact Blk.new v0 #[.float .f64 0, .float .f64 0] _
        replace HM : Hid (MeS w r s n c p9 gz gu gv ga zc ze zq zt x y v1) := HM.out.below bl_
        clear hV_ hg9 bl_
        refine hK.out _ _ (KZ.out _ _ HM.out) (fun hHeld => ?_)
        clear hK KK
        refine wpAnyH_lst (l' := #[true, true, true, true, true, true, true, true, true, true, true, true, true, true, true, true, true, true, true, false, false, true, false]) (by kernel_rfl) ?_
        try simp only [Act.put, List.setIfInBounds_toArray, List.set_cons_zero, List.set_cons_succ]
        exact FS4_5_14_16_18_21 p9 xa1 sa gs kn lv g7 v1 ⟨HM, lxa1, lsa, GS, HL, kn4, llv, G7, H7, hHeld⟩
    · rintro p9 xa1 sa gs kn g7 v0 ⟨HM, lxa1, lsa, GS, HL, kn4, G7, H7, hHeld⟩
      have kn4i : (kn : Int) < 4 := by omega
      refine wpAnyH_ready (rs := [18]) (by kernel_rfl) (by simp) ?_
      refine (AllReadyH.cons rfl (fun KK hK => ?_) AllReadyH.nil)
      · skip
        obtain ⟨lv, llv, hlv⟩ := pickedF HL.out (by have l_ := LNR.out; simp [isFl, lr, l_]) kn (by simpa using kn4)
        go_simp
        obtain ⟨v1, hV_⟩ : ∃ z, z = v0 := ⟨_, rfl⟩
        rw [← hV_] at HM HL hHeld ⊢
        try rw [← hV_] at H7
        clear hlv hV_
        refine hK.out _ _ (KZ.out _ _ HM.out) (fun hHeld => ?_)
        clear hK KK
        refine wpAnyH_lst (l' := #[true, true, true, true, true, true, true, true, true, true, true, true, true, true, true, true, true, true, true, false, false, true, false]) (by kernel_rfl) ?_
        try simp only [Act.put, List.setIfInBounds_toArray, List.set_cons_zero, List.set_cons_succ]
        exact FS4_5_14_16_18_21 p9 xa1 sa gs kn lv g7 v1 ⟨HM, lxa1, lsa, GS, HL, kn4, llv, G7, H7, hHeld⟩
    · rintro p9 xa1 gs kn lv sb v0 ⟨HM, lxa1, GS, HL, kn4, llv, lsb, hHeld⟩
      have kn4i : (kn : Int) < 4 := by omega
      refine wpAnyH_ready (rs := [5, 21]) (by kernel_rfl) (by simp) ?_
      refine (AllReadyH.cons rfl (fun KK hK => ?_) (AllReadyH.cons rfl (fun KK hK => ?_) AllReadyH.nil))
      · skip
        obtain ⟨o21, h21⟩ := anyFl lxa1
        have F21 : Hid (Fl xa1 o21) := h21
        refine step_fop .add rfl _ _ _ _ (by rfl) (by rfl) (by rfl) (by rfl) FC.out F21.out ?_
        intro sa m_ h_
        obtain ⟨v1, hV_⟩ : ∃ z, z = v0.drewN m_ := ⟨_, rfl⟩
        rw [← hV_]
        have bl_ : Below v0.heap.size v0 v1 := by rw [hV_]; exact bDrewN (Below.refl _ _) _
        have lsa : sa < 18446744073709551616 := h_.1
        replace HM : Hid (MeS w r s n c p9 gz gu gv ga zc ze zq zt x y v1) := HM.out.below bl_
        try replace HL : Hid (Blk v1 gs [.float .f64 zq, .float .f64 nr, .float .f64 0, .float .f64 4613937818241073152]) := HL.out.below bl_
        try replace H7 : Hid (Blk v1 g7 [.float .f64 0, .float .f64 0]) := H7.out.below bl_
        clear hV_ bl_ h_
        refine hK.out _ _ (KZ.out _ _ HM.out) (fun hHeld => ?_)
        clear hK KK
        refine wpAnyH_take (i := 20) (v := .agg #[.float .f64 sa, .float .f64 sb]) rfl (by kernel_rfl) (by kernel_rfl) (by kernel_rfl) (fun _ _ _ h => h) (Or.inl ⟨by kernel_rfl, ?_⟩) hHeld ?_
        · intro w' hSw
          obtain ⟨s0_, s1_, s2_⟩ := hSw
          first | (go_simp; done) | (go_simp; with_reducible rfl) | (go_simp; rw [IntKind.wrap_i64]; omega) | (go_simp; omega)
        simp only [Act.put, List.setIfInBounds_toArray, List.set_cons_zero, List.set_cons_succ]
        refine wpAnyH_lst (l' := #[true, true, true, true, true, true, true, true, true, true, true, true, true, true, true, true, true, true, true, true, true, false, false]) (by kernel_rfl) ?_
        try simp only [Act.put, List.setIfInBounds_toArray, List.set_cons_zero, List.set_cons_succ]
        exact FS4_5_14_16_18_19 p9 xa1 sa gs kn lv sb v1 ⟨HM, lxa1, lsa, GS, HL, kn4, llv, lsb, hHeld⟩
      · skip
        go_simp
        obtain ⟨v1, hV_⟩ : ∃ z, z = v0.alloc (.cells #[.float .f64 0, .float .f64 0] 28) := ⟨_, rfl⟩
        rw [← hV_]
        have bl_ : Below v0.heap.size v0 v1 := by rw [hV_]; exact below0 _ _
        obtain ⟨g7, hg9⟩ : ∃ z, z = v0.heap.size := ⟨_, rfl⟩
        rw [← hg9]
        have G7 : Hid (ga < g7) := by show _ < _; rw [hg9]; exact HM.out.2.2.2.2.2.1.1
        try replace HL : Hid (Blk v1 gs [.float .f64 zq, .float .f64 nr, .float .f64 0, .float .f64 4613937818241073152]) := HL.out.below bl_
        try replace H7 : Hid (Blk v1 g7 [.float .f64 0, .float .f64 0]) := H7.out.below bl_
        have H7 : Hid (Blk v1 g7 [.float .f64 0, .float .f64 0]) := by show Blk _ _ _; rw [hV_, hg9]; exact Blk.new v0 #[.float .f64 0, .float .f64 0] _
        replace HM : Hid (MeS w r s n c p9 gz gu gv ga zc ze zq zt x y v1) := HM.out.below bl_
        clear hV_ hg9 bl_
        refine hK.out _ _ (KZ.out _ _ HM.out) (fun hHeld => ?_)
        clear hK KK
        refine wpAnyH_lst (l' := #[true, true, true, true, true, false, true, true, true, true, true, true, true, true, true, true, true, true, true, true, false, true, false]) (by kernel_rfl) ?_
        try simp only [Act.put, List.setIfInBounds_toArray, List.set_cons_zero, List.set_cons_succ]
        exact FS4_14_16_18_19_21 p9 xa1 gs kn lv sb g7 v1 ⟨HM, lxa1, GS, HL, kn4, llv, lsb, G7, H7, hHeld⟩
    · rintro p9 xa1 gs kn lv g7 v0 ⟨HM, lxa1, GS, HL, kn4, llv, G7, H7, hHeld⟩
      have kn4i : (kn : Int) < 4 := by omega
      refine wpAnyH_ready (rs := [5, 19]) (by kernel_rfl) (by simp) ?_
      refine (AllReadyH.cons rfl (fun KK hK => ?_) (AllReadyH.cons rfl (fun KK hK => ?_) AllReadyH.nil))
      · skip
        obtain ⟨o21, h21⟩ := anyFl lxa1
        have F21 : Hid (Fl xa1 o21) := h21
        refine step_fop .add rfl _ _ _ _ (by rfl) (by rfl) (by rfl) (by rfl) FC.out F21.out ?_
        intro sa m_ h_
        obtain ⟨v1, hV_⟩ : ∃ z, z = v0.drewN m_ := ⟨_, rfl⟩
        rw [← hV_]
        have bl_ : Below v0.heap.size v0 v1 := by rw [hV_]; exact bDrewN (Below.refl _ _) _
        have lsa : sa < 18446744073709551616 := h_.1
        replace HM : Hid (MeS w r s n c p9 gz gu gv ga zc ze zq zt x y v1) := HM.out.below bl_
        try replace HL : Hid (Blk v1 gs [.float .f64 zq, .float .f64 nr, .float .f64 0, .float .f64 4613937818241073152]) := HL.out.below bl_
        try replace H7 : Hid (Blk v1 g7 [.float .f64 0, .float .f64 0]) := H7.out.below bl_
        clear hV_ bl_ h_
        refine hK.out _ _ (KZ.out _ _ HM.out) (fun hHeld => ?_)
        clear hK KK
        refine wpAnyH_lst (l' := #[true, true, true, true, true, true, true, true, true, true, true, true, true, true, true, true, true, true, true, false, false, true, false]) (by kernel_rfl) ?_
        try simp only [Act.put, List.setIfInBounds_toArray, List.set_cons_zero, List.set_cons_succ]
        exact FS4_5_14_16_18_21 p9 xa1 sa gs kn lv g7 v1 ⟨HM, lxa1, lsa, GS, HL, kn4, llv, G7, H7, hHeld⟩
      · skip
        obtain ⟨olv, hol⟩ := anyFl llv
        have FLV : Hid (Fl lv olv) := hol
        refine step_fop .add rfl _ _ _ _ (by rfl) (by rfl) (by rfl) (by rfl) FE.out FLV.out ?_
        intro sb m_ h_
        obtain ⟨v1, hV_⟩ : ∃ z, z = v0.drewN m_ := ⟨_, rfl⟩
        rw [← hV_]
        have bl_ : Below v0.heap.size v0 v1 := by rw [hV_]; exact bDrewN (Below.refl _ _) _
        have lsb : sb < 18446744073709551616 := h_.1
        replace HM : Hid (MeS w r s n c p9 gz gu gv ga zc ze zq zt x y v1) := HM.out.below bl_
        try replace HL : Hid (Blk v1 gs [.float .f64 zq, .float .f64 nr, .float .f64 0, .float .f64 4613937818241073152]) := HL.out.below bl_
        try replace H7 : Hid (Blk v1 g7 [.float .f64 0, .float .f64 0]) := H7.out.below bl_
        clear hV_ bl_ h_
        refine hK.out _ _ (KZ.out _ _ HM.out) (fun hHeld => ?_)
        clear hK KK
        refine wpAnyH_lst (l' := #[true, true, true, true, true, false, true, true, true, true, true, true, true, true, true, true, true, true, true, true, false, true, false]) (by kernel_rfl) ?_
        try simp only [Act.put, List.setIfInBounds_toArray, List.set_cons_zero, List.set_cons_succ]
        exact FS4_14_16_18_19_21 p9 xa1 gs kn lv sb g7 v1 ⟨HM, lxa1, GS, HL, kn4, llv, lsb, G7, H7, hHeld⟩
    · rintro p9 xa1 sa gs kn lv sb v0 ⟨HM, lxa1, lsa, GS, HL, kn4, llv, lsb, hHeld⟩
      have kn4i : (kn : Int) < 4 := by omega
      refine wpAnyH_ready (rs := [21]) (by kernel_rfl) (by simp) ?_
      refine (AllReadyH.cons rfl (fun KK hK => ?_) AllReadyH.nil)
      · skip
        go_simp
        obtain ⟨v1, hV_⟩ : ∃ z, z = v0.alloc (.cells #[.float .f64 0, .float .f64 0] 28) := ⟨_, rfl⟩
        rw [← hV_]
        have bl_ : Below v0.heap.size v0 v1 := by rw [hV_]; exact below0 _ _
        obtain ⟨g7, hg9⟩ : ∃ z, z = v0.heap.size := ⟨_, rfl⟩
        rw [← hg9]
        have G7 : Hid (ga < g7) := by show _ < _; rw [hg9]; exact HM.out.2.2.2.2.2.1.1
        try replace HL : Hid (Blk v1 gs [.float .f64 zq, .float .f64 nr, .float .f64 0, .float .f64 4613937818241073152]) := HL.out.below bl_
        try replace H7 : Hid (Blk v1 g7 [.float .f64 0, .float .f64 0]) := H7.out.below bl_
        have H7 : Hid (Blk v1 g7 [.float .f64 0, .float .f64 0]) := by show Blk _ _ _; rw [hV_, hg9]; exact Blk.new v0 #[.float .f64 0, .float .f64 0] _
        replace HM : Hid (MeS w r s n c p9 gz gu gv ga zc ze zq zt x y v1) := HM.out.below bl_
        clear hV_ hg9 bl_
        refine hK.out _ _ (KZ.out _ _ HM.out) (fun hHeld => ?_)
        clear hK KK
        refine wpAnyH_lst (l' := #[true, true, true, true, true, true, true, true, true, true, true, true, true, true, true, true, true, true, true, true, true, true, false]) (by kernel_rfl) ?_
        try simp only [Act.put, List.setIfInBounds_toArray, List.set_cons_zero, List.set_cons_succ]
        exact FS4_5_14_16_18_19_21 p9 xa1 sa gs kn lv sb g7 v1 ⟨HM, lxa1, lsa, GS, HL, kn4, llv, lsb, G7, H7, hHeld⟩
    · rintro p9 xa1 sa gs kn lv g7 v0 ⟨HM, lxa1, lsa, GS, HL, kn4, llv, G7, H7, hHeld⟩
      have kn4i : (kn : Int) < 4 := by omega
      refine wpAnyH_ready (rs := [19]) (by kernel_rfl) (by simp) ?_
      refine (AllReadyH.cons rfl (fun KK hK => ?_) AllReadyH.nil)
      · skip
        obtain ⟨olv, hol⟩ := anyFl llv
        have FLV : Hid (Fl lv olv) := hol
        refine step_fop .add rfl _ _ _ _ (by rfl) (by rfl) (by rfl) (by rfl) FE.out FLV.out ?_
        intro sb m_ h_
        obtain ⟨v1, hV_⟩ : ∃ z, z = v0.drewN m_ := ⟨_, rfl⟩
        rw [← hV_]
        have bl_ : Below v0.heap.size v0 v1 := by rw [hV_]; exact bDrewN (Below.refl _ _) _
        have lsb : sb < 18446744073709551616 := h_.1
        replace HM : Hid (MeS w r s n c p9 gz gu gv ga zc ze zq zt x y v1) := HM.out.below bl_
        try replace HL : Hid (Blk v1 gs [.float .f64 zq, .float .f64 nr, .float .f64 0, .float .f64 4613937818241073152]) := HL.out.below bl_
        try replace H7 : Hid (Blk v1 g7 [.float .f64 0, .float .f64 0]) := H7.out.below bl_
        clear hV_ bl_ h_
        refine hK.out _ _ (KZ.out _ _ HM.out) (fun hHeld => ?_)
        clear hK KK
        refine wpAnyH_take (i := 20) (v := .agg #[.float .f64 sa, .float .f64 sb]) rfl (by kernel_rfl) (by kernel_rfl) (by kernel_rfl) (fun _ _ _ h => h) (Or.inl ⟨by kernel_rfl, ?_⟩) hHeld ?_
        · intro w' hSw
          obtain ⟨s0_, s1_, s2_⟩ := hSw
          first | (go_simp; done) | (go_simp; with_reducible rfl) | (go_simp; rw [IntKind.wrap_i64]; omega) | (go_simp; omega)
        simp only [Act.put, List.setIfInBounds_toArray, List.set_cons_zero, List.set_cons_succ]
        refine wpAnyH_lst (l' := #[true, true, true, true, true, true, true, true, true, true, true, true, true, true, true, true, true, true, true, true, true, true, false]) (by kernel_rfl) ?_
        try simp only [Act.put, List.setIfInBounds_toArray, List.set_cons_zero, List.set_cons_succ]
        exact FS4_5_14_16_18_19_21 p9 xa1 sa gs kn lv sb g7 v1 ⟨HM, lxa1, lsa, GS, HL, kn4, llv, lsb, G7, H7, hHeld⟩
    · rintro p9 xa1 gs kn lv sb g7 v0 ⟨HM, lxa1, GS, HL, kn4, llv, lsb, G7, H7, hHeld⟩
      have kn4i : (kn : Int) < 4 := by omega
      refine wpAnyH_ready (rs := [5]) (by kernel_rfl) (by simp) ?_
      refine (AllReadyH.cons rfl (fun KK hK => ?_) AllReadyH.nil)
      · skip
        obtain ⟨o21, h21⟩ := anyFl lxa1
        have F21 : Hid (Fl xa1 o21) := h21
        refine step_fop .add rfl _ _ _ _ (by rfl) (by rfl) (by rfl) (by rfl) FC.out F21.out ?_
        intro sa m_ h_
        obtain ⟨v1, hV_⟩ : ∃ z, z = v0.drewN m_ := ⟨_, rfl⟩
        rw [← hV_]
        have bl_ : Below v0.heap.size v0 v1 := by rw [hV_]; exact bDrewN (Below.refl _ _) _
        have lsa : sa < 18446744073709551616 := h_.1
        replace HM : Hid (MeS w r s n c p9 gz gu gv ga zc ze zq zt x y v1) := HM.out.below bl_
        try replace HL : Hid (Blk v1 gs [.float .f64 zq, .float .f64 nr, .float .f64 0, .float .f64 4613937818241073152]) := HL.out.below bl_
        try replace H7 : Hid (Blk v1 g7 [.float .f64 0, .float .f64 0]) := H7.out.below bl_
        clear hV_ bl_ h_
        refine hK.out _ _ (KZ.out _ _ HM.out) (fun hHeld => ?_)
        clear hK KK
        refine wpAnyH_take (i := 20) (v := .agg #[.float .f64 sa, .float .f64 sb]) rfl (by kernel_rfl) (by kernel_rfl) (by kernel_rfl) (fun _ _ _ h => h) (Or.inl ⟨by kernel_rfl, ?_⟩) hHeld ?_
        · intro w' hSw
          obtain ⟨s0_, s1_, s2_⟩ := hSw
          first | (go_simp; done) | (go_simp; with_reducible rfl) | (go_simp; rw [IntKind.wrap_i64]; omega) | (go_simp; omega)
        simp only [Act.put, List.setIfInBounds_toArray, List.set_cons_zero, List.set_cons_succ]
        refine wpAnyH_lst (l' := #[true, true, true, true, true, true, true, true, true, true, true, true, true, true, true, true, true, true, true, true, true, true, false]) (by kernel_rfl) ?_
        try simp only [Act.put, List.setIfInBounds_toArray, List.set_cons_zero, List.set_cons_succ]
        exact FS4_5_14_16_18_19_21 p9 xa1 sa gs kn lv sb g7 v1 ⟨HM, lxa1, lsa, GS, HL, kn4, llv, lsb, G7, H7, hHeld⟩
    · rintro p9 xa1 sa gs kn lv sb g7 v0 ⟨HM, lxa1, lsa, GS, HL, kn4, llv, lsb, G7, H7, hHeld⟩
      have kn4i : (kn : Int) < 4 := by omega
      refine wpAnyH_ready (rs := [22]) (by kernel_rfl) (by simp) ?_
      refine (AllReadyH.cons rfl (fun KK hK => ?_) AllReadyH.nil)
      · skip
        have l_ := lsa
        have l_ := lsb
        obtain ⟨z7, f7, c7⟩ := H7.out
        have c70 := c7 0 _ rfl
        have c71 := c7 1 _ rfl
        have f70 := f7 0
        have f71 := f7 1
        go_simp
        obtain ⟨v1, hV_⟩ : ∃ z, z = (v0.setCell ⟨g7, 0, none⟩ (.float .f64 sa)).setCell ⟨g7, 1, none⟩ (.float .f64 sb) := ⟨_, rfl⟩
        rw [← hV_]
        replace H7 : Hid (Blk v1 g7 [.float .f64 sa, .float .f64 sb]) := by show Blk _ _ _; rw [hV_]; exact (H7.out.set 0 _).set 1 _
        have b1 := Beside.setCell g7 v0 0 (.float .f64 sa)
        have b2 := Beside.setCell g7 (v0.setCell ⟨g7, 0, none⟩ (.float .f64 sa)) 1 (.float .f64 sb)
        replace HM : Hid (MeS w r s n c p9 gz gu gv ga zc ze zq zt x y v1) := by
          show MeS _ _ _ _ _ _ _ _ _ _ _ _ _ _ _ _ _
          rw [hV_]
          exact HM.out.put b1 b2 G7.out
        clear hV_ b1 b2 z7 f7 c7 c70 c71 f70 f71
        refine hK.out _ _ (KZ.out _ _ HM.out) (fun hHeld => ?_)
        clear hK KK
        refine wpAnyH_done (by kernel_rfl) ?_ _
        go_wp2_with fail
        go_meet
        exact ⟨p9, g7, sa, sb, rfl, ⟨lsa, lsb⟩, G7, H7, HM⟩
  case rest =>
  clear HM
  obtain ⟨p9, g7, qa, qb, rfl, HQ, G7, H7, HM⟩ := hcut
  obtain ⟨oa_, ha_⟩ := anyFl HQ.out.1
  obtain ⟨ob_, hb_⟩ := anyFl HQ.out.2
  obtain ⟨ox_, hx_⟩ := anyFl HXY.out.1
  obtain ⟨oy_, hy_⟩ := anyFl HXY.out.2
  have FQA : Hid (Fl qa oa_) := ha_
  have FQB : Hid (Fl qb ob_) := hb_
  have FX : Hid (Fl x ox_) := hx_
  have FY : Hid (Fl y oy_) := hy_
  have q0 := H7.out.2.2 0 _ rfl
  have q1 := H7.out.2.2 1 _ rfl
  have a0' := HM.out.2.2.2.2.2.1.2.2 0 _ rfl
  have a1' := HM.out.2.2.2.2.2.1.2.2 1 _ rfl
  have hord := HM.out.2.2.2.2.2.2
  have h7 := G7.out
  have nuv : gu ≠ gv := by omega
  have nua : gu ≠ ga := by omega
  have nva : gv ≠ ga := by omega
  have nua' : ga ≠ gu := by omega
  have nva' : ga ≠ gv := by omega
  have nuv' : gv ≠ gu := by omega
  have zrr : r < wc.heap.size := HM.out.1.1
  have zw : w.heap.size ≤ wc.heap.size := HM.out.2.1.2.2.2.1
  clear ha_ hb_ hx_ hy_ HNR LNR FC FE
  go_upto_region 5 with fail
  go_region_with (go_at_call 40; refine (specMulPair_any FQA.out FQB.out FX.out FY.out _).mono ?_; rintro e w9 ⟨m1, m2, rfl, hm1, hm2, b9⟩; have bb : Below wc.heap.size wc w9 := (show Below wc.heap.size wc _ from (by repeat (first | with_reducible exact Below.refl _ _ | with_reducible refine Below.setCell ?_ (by first | omega | (simp; done) | (simp; omega)) _ | with_reducible refine bDrewN ?_ _ | with_reducible refine Below.drew ?_ | with_reducible refine Below.alloc ?_ (by first | omega | (simp; done) | (simp; omega)) _))).trans (b9.mono (by first | omega | (simp; done) | (simp; omega))); have HM9 := HM.out.below bb; have H79 := H7.out.below bb; have u0 : w9.cell? ⟨gu, 0, none⟩ = some (.float .f64 0) := HM9.2.2.2.1.2.2 0 _ rfl; have fu0 := HM9.2.2.2.1.2.1 0; have u1 : w9.cell? ⟨gu, 1, none⟩ = some (.float .f64 0) := HM9.2.2.2.1.2.2 1 _ rfl; have fu1 := HM9.2.2.2.1.2.1 1; have v0 : w9.cell? ⟨gv, 0, none⟩ = some (.float .f64 0) := HM9.2.2.2.2.1.2.2 0 _ rfl; have fv0 := HM9.2.2.2.2.1.2.1 0; have v1 : w9.cell? ⟨gv, 1, none⟩ = some (.float .f64 0) := HM9.2.2.2.2.1.2.2 1 _ rfl; have fv1 := HM9.2.2.2.2.1.2.1 1; have a0 : w9.cell? ⟨ga, 0, none⟩ = some (.float .f64 x) := HM9.2.2.2.2.2.1.2.2 0 _ rfl; have fa0 := HM9.2.2.2.2.2.1.2.1 0; have a1 : w9.cell? ⟨ga, 1, none⟩ = some (.float .f64 y) := HM9.2.2.2.2.2.1.2.2 1 _ rfl; have fa1 := HM9.2.2.2.2.2.1.2.1 1; have RF := HM9.1; have BS := HM9.2.1; have lm1 := hm1.1; have lm2 := hm2.1; have sBS := BS.2.2.2.1; have zr9 := RF.1; clear HM9 H79 bb b9 hm1 hm2)
  all_goals go_wp2
  all_goals exact bodyPost_ret (v := .tuple #[.agg #[.float .f64 m1, .float .f64 m2], .agg #[.float .f64 x, .float .f64 y]]) (by simp [results, Try.results36, go_sem, u0, u1, v0, v1, a0, a1, nuv, nuv', nua, nva, nua', nva']) rfl ⟨m1, m2, x, y, p9, rfl, ⟨lm1, lm2, HXY.out.1, HXY.out.2⟩, Rd.below' RF (show Below (r + 1) w9 _ from (by repeat (first | with_reducible exact Below.refl _ _ | with_reducible refine Below.setCell ?_ (by first | omega | (simp; done) | (simp; omega)) _ | with_reducible refine bDrewN ?_ _ | with_reducible refine Below.drew ?_ | with_reducible refine Below.alloc ?_ (by first | omega | (simp; done) | (simp; omega)) _))), BS.onB (show Below w.heap.size w9 _ from (by repeat (first | with_reducible exact Below.refl _ _ | with_reducible refine Below.setCell ?_ (by first | omega | (simp; done) | (simp; omega)) _ | with_reducible refine bDrewN ?_ _ | with_reducible refine Below.drew ?_ | with_reducible refine Below.alloc ?_ (by first | omega | (simp; done) | (simp; omega)) _)))⟩
end Go.Proofs.Ytedkhhocbnldjaa
