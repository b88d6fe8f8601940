/-
What is proved: a sensor, and a sensor with a number, that are drawn from a code: any floats.
-/
import Derived.Test.YtbdilaacfokpiaaTeN
import Derived.Test.YtbdilaacfokpiaaToSe
import Derived.Test.YtbdilaacfokpiaaSeS
import Derived.Deep.RegionHeld3
import Derived.Deep.DeepCutAuto
import Derived.RegionTactic
namespace Go.Proofs.Ytbdilaacfokpiaa
set_option maxRecDepth 40000
open Go.ChangeShapes Go.WideShapes Go.ChangeAt Go.RowKit
set_option linter.unusedVariables false
set_option linter.unusedSimpArgs false

set_option maxRecDepth 20000 in
set_option maxHeartbeats 8000000 in
theorem sensor_any {r : Nat} {s : Option Addr} {n c p : Nat} {w : World} (h : Hid (Rd w r s n c p)) :
    Calls Try.prog 23 #[.pointer (some ⟨r, 0, none⟩)] w fun e w' => ∃ (a b : Nat) (p' : Nat), e = .returned (.agg #[.float .f64 a, .float .f64 b]) ∧ a < 18446744073709551616 ∧ b < 18446744073709551616 ∧ Rd w' r s n c p' ∧ Beside r w w' := by
  have zr : r < w.heap.size := h.out.1
  have HR : Hid (Rd w r s n c p) := h
  have HS : Hid (Beside r w w) := Beside.of (Below.refl _ _)
  clear h
  go_enter Try.func23, Try.ntmps23
  go_wp2_with fail
  refine (tenth_any (HR.out.below (by repeat (first | with_reducible exact Below.refl _ _ | with_reducible refine Below.setCell ?_ (by first | omega | (simp; done) | (simp; omega)) _ | with_reducible refine bDrewN ?_ _ | with_reducible refine Below.drew ?_ | with_reducible refine Below.alloc ?_ (by first | omega | (simp; done) | (simp; omega)) _))) (-500) 500 (by omega) (by omega) (by omega)).mono ?_
  rintro e w1 ⟨lo, pl, rfl, hlo, R_, b_⟩
  have sz_ : w.heap.size ≤ w.heap.size := HS.out.2.2.2.1
  have zr_ : r < w.heap.size := HR.out.1
  have bb : Beside r w w1 := (Beside.of (show Below w.heap.size w _ from (by repeat (first | with_reducible exact Below.refl _ _ | with_reducible refine Below.setCell ?_ (by first | omega | (simp; done) | (simp; omega)) _ | with_reducible refine bDrewN ?_ _ | with_reducible refine Below.drew ?_ | with_reducible refine Below.alloc ?_ (by first | omega | (simp; done) | (simp; omega)) _)))).trans b_
  obtain ⟨gq, hgq⟩ : ∃ g, g = w.heap.size := ⟨_, rfl⟩
  have Hq : Hid (Blk w1 gq [.float .f64 0, .float .f64 0]) := by
    show Blk _ _ _
    have q := ((Blk.new w #[.float .f64 0, .float .f64 0] 26)).beside b_ (by first | omega | (simp; omega))
    rw [hgq]; exact q
  replace HS : Hid (Beside r w w1) := HS.out.trans bb
  replace HR : Hid (Rd w1 r s n c pl) := R_
  clear R_
  have lgq : w.heap.size ≤ gq := by omega
  have rgq : r < gq := by omega
  try rw [← hgq]
  clear hgq
  clear bb b_ sz_ zr_ 
  go_wp2_with fail
  refine (tenth_any (HR.out.below (by repeat (first | with_reducible exact Below.refl _ _ | with_reducible refine Below.setCell ?_ (by first | omega | (simp; done) | (simp; omega)) _ | with_reducible refine bDrewN ?_ _ | with_reducible refine Below.drew ?_ | with_reducible refine Below.alloc ?_ (by first | omega | (simp; done) | (simp; omega)) _))) 1 3000 (by omega) (by omega) (by omega)).mono ?_
  rintro e w2 ⟨up, pu, rfl, hup, R_, b_⟩
  have Hq_z : gq < w1.heap.size := Hq.out.1
  have sz_ : w.heap.size ≤ w1.heap.size := HS.out.2.2.2.1
  have zr_ : r < w1.heap.size := HR.out.1
  have bb : Beside r w1 w2 := (Beside.of (show Below w1.heap.size w1 _ from (by repeat (first | with_reducible exact Below.refl _ _ | with_reducible refine Below.setCell ?_ (by first | omega | (simp; done) | (simp; omega)) _ | with_reducible refine bDrewN ?_ _ | with_reducible refine Below.drew ?_ | with_reducible refine Below.alloc ?_ (by first | omega | (simp; done) | (simp; omega)) _)))).trans b_
  replace Hq : Hid (Blk w2 gq [.float .f64 0, .float .f64 0]) := Hq.out.beside bb (by omega)
  replace HS : Hid (Beside r w w2) := HS.out.trans bb
  replace HR : Hid (Rd w2 r s n c pu) := R_
  clear R_
  clear bb b_ sz_ zr_ Hq_z
  have hst := store_fp
  have FLO : Hid (Fl lo (ofW lo)) := fl_of lo hlo
  have FUP : Hid (Fl up (ofW up)) := fl_of up hup
  go_upto_region 3 with (first | (refine list_fop .add rfl _ _ _ _ (by rfl) (by rfl) (by rfl) (by rfl) FLO.out FUP.out ?_; intro hi m hhi; obtain ⟨wk, hwk⟩ : ∃ x_, x_ = w2.drewN m := ⟨_, rfl⟩; rw [← hwk]; have HW : Hid (wk = w2.drewN m) := hwk; clear hwk))
  have lhi : hi < 18446744073709551616 := hhi.1
  clear hhi
  have bl_ : Below w2.heap.size w2 wk := by rw [HW.out]; exact (by repeat (first | with_reducible exact Below.refl _ _ | with_reducible refine Below.setCell ?_ (by first | omega | (simp; done) | (simp; omega)) _ | with_reducible refine bDrewN ?_ _ | with_reducible refine Below.drew ?_ | with_reducible refine Below.alloc ?_ (by first | omega | (simp; done) | (simp; omega)) _))
  replace HR : Hid (Rd wk r s n c pu) := HR.out.below bl_
  replace HS : Hid (Beside r w wk) := HS.out.trans (Beside.of bl_)
  replace Hq : Hid (Blk wk gq [.float .f64 0, .float .f64 0]) := Hq.out.below bl_
  clear HW bl_
  go_wp2_with fail
  refine (below_any 20 (HR.out.below (by repeat (first | with_reducible exact Below.refl _ _ | with_reducible refine Below.setCell ?_ (by first | omega | (simp; done) | (simp; omega)) _ | with_reducible refine bDrewN ?_ _ | with_reducible refine Below.drew ?_ | with_reducible refine Below.alloc ?_ (by first | omega | (simp; done) | (simp; omega)) _)))).mono ?_
  rintro e w3 ⟨kk, pk, rfl, kk0, kk1, kk2, R_, b_⟩
  have Hq_z : gq < wk.heap.size := Hq.out.1
  have sz_ : w.heap.size ≤ wk.heap.size := HS.out.2.2.2.1
  have zr_ : r < wk.heap.size := HR.out.1
  have bb : Beside r wk w3 := (Beside.of (show Below wk.heap.size wk _ from (by repeat (first | with_reducible exact Below.refl _ _ | with_reducible refine Below.setCell ?_ (by first | omega | (simp; done) | (simp; omega)) _ | with_reducible refine bDrewN ?_ _ | with_reducible refine Below.drew ?_ | with_reducible refine Below.alloc ?_ (by first | omega | (simp; done) | (simp; omega)) _)))).trans b_
  obtain ⟨gg, hgg⟩ : ∃ g, g = wk.heap.size := ⟨_, rfl⟩
  have Hg : Hid (Blk w3 gg [.float .f64 lo, .float .f64 hi]) := by
    show Blk _ _ _
    have q := ((Blk.new wk #[.float .f64 lo, .float .f64 hi] 26)).beside b_ (by first | omega | (simp; omega))
    rw [hgg]; exact q
  replace Hq : Hid (Blk w3 gq [.float .f64 0, .float .f64 0]) := Hq.out.beside bb (by omega)
  replace HS : Hid (Beside r w w3) := HS.out.trans bb
  replace HR : Hid (Rd w3 r s n c pk) := R_
  clear R_
  have lgg : w.heap.size ≤ gg := by omega
  have rgg : r < gg := by omega
  have dgqgg : gq < gg := by omega
  try rw [← hgg]
  clear hgg
  clear bb b_ sz_ zr_ Hq_z
  clear kk1 kk2
  by_cases e0 : kk = 0
  case pos =>
    subst e0
    go_wp2_with fail
    refine (float_any (HR.out.below (by repeat (first | with_reducible exact Below.refl _ _ | with_reducible refine Below.setCell ?_ (by first | omega | (simp; done) | (simp; omega)) _ | with_reducible refine bDrewN ?_ _ | with_reducible refine Below.drew ?_ | with_reducible refine Below.alloc ?_ (by first | omega | (simp; done) | (simp; omega)) _)))).mono ?_
    rintro e w4 ⟨x, px, rfl, hx, R_, b_⟩
    have Hq_z : gq < w3.heap.size := Hq.out.1
    have Hg_z : gg < w3.heap.size := Hg.out.1
    have sz_ : w.heap.size ≤ w3.heap.size := HS.out.2.2.2.1
    have zr_ : r < w3.heap.size := HR.out.1
    have bb : Beside r w3 w4 := (Beside.of (show Below w3.heap.size w3 _ from (by repeat (first | with_reducible exact Below.refl _ _ | with_reducible refine Below.setCell ?_ (by first | omega | (simp; done) | (simp; omega)) _ | with_reducible refine bDrewN ?_ _ | with_reducible refine Below.drew ?_ | with_reducible refine Below.alloc ?_ (by first | omega | (simp; done) | (simp; omega)) _)))).trans b_
    replace Hq : Hid (Blk w4 gq [.float .f64 0, .float .f64 0]) := Hq.out.beside bb (by omega)
    replace Hg : Hid (Blk w4 gg [.float .f64 lo, .float .f64 hi]) := Hg.out.beside bb (by omega)
    replace HS : Hid (Beside r w w4) := HS.out.trans bb
    replace HR : Hid (Rd w4 r s n c px) := R_
    clear R_
    clear bb b_ sz_ zr_ Hq_z Hg_z
    obtain ⟨z_g, f_g, c_g⟩ := Hg.out
    have gc0 : w4.cell? ⟨gg, 0, none⟩ = some (.float .f64 lo) := c_g 0 _ rfl
    have gc1 : w4.cell? ⟨gg, 1, none⟩ = some (.float .f64 hi) := c_g 1 _ rfl
    have fg := f_g
    clear f_g c_g
    have fg_ := fg 1
    go_upto_region 10 with fail
    clear gc0 gc1 z_g fg
    clear fg_
    have Hq_z : gq < w4.heap.size := Hq.out.1
    have Hg_z : gg < w4.heap.size := Hg.out.1
    have sz_ : w.heap.size ≤ w4.heap.size := HS.out.2.2.2.1
    have zr_ : r < w4.heap.size := HR.out.1
    obtain ⟨w5, hw_⟩ : ∃ x_, x_ = (w4.setCell ⟨gg, 1, none⟩ (.float .f64 x)) := ⟨_, rfl⟩
    rw [← hw_]
    replace Hq : Hid (Blk w5 gq [.float .f64 0, .float .f64 0]) := by show Blk _ _ _; rw [hw_]; exact (Hq.out.beside (Beside.setCell gg _ 1 _) (by omega))
    replace Hg : Hid (Blk w5 gg [.float .f64 lo, .float .f64 x]) := by show Blk _ _ _; rw [hw_]; exact (Hg.out.set 1 (.float .f64 x))
    replace HR : Hid (Rd w5 r s n c px) := by show Rd _ _ _ _ _ _; rw [hw_]; exact Rd.below' HR.out (show Below (r + 1) w4 _ from (by repeat (first | with_reducible exact Below.refl _ _ | with_reducible refine Below.setCell ?_ (by first | omega | (simp; done) | (simp; omega)) _ | with_reducible refine bDrewN ?_ _ | with_reducible refine Below.drew ?_ | with_reducible refine Below.alloc ?_ (by first | omega | (simp; done) | (simp; omega)) _)))
    replace HS : Hid (Beside r w w5) := by show Beside _ _ _; rw [hw_]; exact HS.out.onB (show Below w.heap.size w4 _ from (by repeat (first | with_reducible exact Below.refl _ _ | with_reducible refine Below.setCell ?_ (by first | omega | (simp; done) | (simp; omega)) _ | with_reducible refine bDrewN ?_ _ | with_reducible refine Below.drew ?_ | with_reducible refine Below.alloc ?_ (by first | omega | (simp; done) | (simp; omega)) _)))
    clear hw_
    clear sz_ zr_ Hq_z Hg_z
    obtain ⟨z_g, f_g, c_g⟩ := Hg.out
    have gc0 : w5.cell? ⟨gg, 0, none⟩ = some (.float .f64 lo) := c_g 0 _ rfl
    have gc1 : w5.cell? ⟨gg, 1, none⟩ = some (.float .f64 x) := c_g 1 _ rfl
    have fg := f_g
    clear f_g c_g
    obtain ⟨z_q, f_q, c_q⟩ := Hq.out
    have qc0 : w5.cell? ⟨gq, 0, none⟩ = some (.float .f64 0) := c_q 0 _ rfl
    have qc1 : w5.cell? ⟨gq, 1, none⟩ = some (.float .f64 0) := c_q 1 _ rfl
    have fq := f_q
    clear f_q c_q
    have fq0 := fq 0
    have fq1 := fq 1
    have n_ : gg ≠ gq := by omega
    have BS := HS.out
    have sBS := BS.2.2.2.1
    go_wp2
    exact bodyPost_ret (v := .agg #[.float .f64 lo, .float .f64 x]) (by simp [results, Try.results23, go_sem, gc0, gc1, qc0, qc1, n_, n_.symm]) rfl ⟨lo, x, px, rfl, hlo, hx, Rd.below' HR.out (show Below (r + 1) w5 _ from (by repeat (first | with_reducible exact Below.refl _ _ | with_reducible refine Below.setCell ?_ (by first | omega | (simp; done) | (simp; omega)) _ | with_reducible refine bDrewN ?_ _ | with_reducible refine Below.drew ?_ | with_reducible refine Below.alloc ?_ (by first | omega | (simp; done) | (simp; omega)) _))), BS.onB (show Below w.heap.size w5 _ from (by repeat (first | with_reducible exact Below.refl _ _ | with_reducible refine Below.setCell ?_ (by first | omega | (simp; done) | (simp; omega)) _ | with_reducible refine bDrewN ?_ _ | with_reducible refine Below.drew ?_ | with_reducible refine Below.alloc ?_ (by first | omega | (simp; done) | (simp; omega)) _)))⟩
  have ne0 : (kk == 0) = false := by simpa using e0
  by_cases e1 : kk = 1
  case pos =>
    subst e1
    go_wp2_with fail
    refine (float_any (HR.out.below (by repeat (first | with_reducible exact Below.refl _ _ | with_reducible refine Below.setCell ?_ (by first | omega | (simp; done) | (simp; omega)) _ | with_reducible refine bDrewN ?_ _ | with_reducible refine Below.drew ?_ | with_reducible refine Below.alloc ?_ (by first | omega | (simp; done) | (simp; omega)) _)))).mono ?_
    rintro e w4 ⟨x, px, rfl, hx, R_, b_⟩
    have Hq_z : gq < w3.heap.size := Hq.out.1
    have Hg_z : gg < w3.heap.size := Hg.out.1
    have sz_ : w.heap.size ≤ w3.heap.size := HS.out.2.2.2.1
    have zr_ : r < w3.heap.size := HR.out.1
    have bb : Beside r w3 w4 := (Beside.of (show Below w3.heap.size w3 _ from (by repeat (first | with_reducible exact Below.refl _ _ | with_reducible refine Below.setCell ?_ (by first | omega | (simp; done) | (simp; omega)) _ | with_reducible refine bDrewN ?_ _ | with_reducible refine Below.drew ?_ | with_reducible refine Below.alloc ?_ (by first | omega | (simp; done) | (simp; omega)) _)))).trans b_
    replace Hq : Hid (Blk w4 gq [.float .f64 0, .float .f64 0]) := Hq.out.beside bb (by omega)
    replace Hg : Hid (Blk w4 gg [.float .f64 lo, .float .f64 hi]) := Hg.out.beside bb (by omega)
    replace HS : Hid (Beside r w w4) := HS.out.trans bb
    replace HR : Hid (Rd w4 r s n c px) := R_
    clear R_
    clear bb b_ sz_ zr_ Hq_z Hg_z
    obtain ⟨z_g, f_g, c_g⟩ := Hg.out
    have gc0 : w4.cell? ⟨gg, 0, none⟩ = some (.float .f64 lo) := c_g 0 _ rfl
    have gc1 : w4.cell? ⟨gg, 1, none⟩ = some (.float .f64 hi) := c_g 1 _ rfl
    have fg := f_g
    clear f_g c_g
    have fg_ := fg 0
    go_upto_region 10 with fail
    clear gc0 gc1 z_g fg
    clear fg_
    have Hq_z : gq < w4.heap.size := Hq.out.1
    have Hg_z : gg < w4.heap.size := Hg.out.1
    have sz_ : w.heap.size ≤ w4.heap.size := HS.out.2.2.2.1
    have zr_ : r < w4.heap.size := HR.out.1
    obtain ⟨w5, hw_⟩ : ∃ x_, x_ = (w4.setCell ⟨gg, 0, none⟩ (.float .f64 x)) := ⟨_, rfl⟩
    rw [← hw_]
    replace Hq : Hid (Blk w5 gq [.float .f64 0, .float .f64 0]) := by show Blk _ _ _; rw [hw_]; exact (Hq.out.beside (Beside.setCell gg _ 0 _) (by omega))
    replace Hg : Hid (Blk w5 gg [.float .f64 x, .float .f64 hi]) := by show Blk _ _ _; rw [hw_]; exact (Hg.out.set 0 (.float .f64 x))
    replace HR : Hid (Rd w5 r s n c px) := by show Rd _ _ _ _ _ _; rw [hw_]; exact Rd.below' HR.out (show Below (r + 1) w4 _ from (by repeat (first | with_reducible exact Below.refl _ _ | with_reducible refine Below.setCell ?_ (by first | omega | (simp; done) | (simp; omega)) _ | with_reducible refine bDrewN ?_ _ | with_reducible refine Below.drew ?_ | with_reducible refine Below.alloc ?_ (by first | omega | (simp; done) | (simp; omega)) _)))
    replace HS : Hid (Beside r w w5) := by show Beside _ _ _; rw [hw_]; exact HS.out.onB (show Below w.heap.size w4 _ from (by repeat (first | with_reducible exact Below.refl _ _ | with_reducible refine Below.setCell ?_ (by first | omega | (simp; done) | (simp; omega)) _ | with_reducible refine bDrewN ?_ _ | with_reducible refine Below.drew ?_ | with_reducible refine Below.alloc ?_ (by first | omega | (simp; done) | (simp; omega)) _)))
    clear hw_
    clear sz_ zr_ Hq_z Hg_z
    obtain ⟨z_g, f_g, c_g⟩ := Hg.out
    have gc0 : w5.cell? ⟨gg, 0, none⟩ = some (.float .f64 x) := c_g 0 _ rfl
    have gc1 : w5.cell? ⟨gg, 1, none⟩ = some (.float .f64 hi) := c_g 1 _ rfl
    have fg := f_g
    clear f_g c_g
    obtain ⟨z_q, f_q, c_q⟩ := Hq.out
    have qc0 : w5.cell? ⟨gq, 0, none⟩ = some (.float .f64 0) := c_q 0 _ rfl
    have qc1 : w5.cell? ⟨gq, 1, none⟩ = some (.float .f64 0) := c_q 1 _ rfl
    have fq := f_q
    clear f_q c_q
    have fq0 := fq 0
    have fq1 := fq 1
    have n_ : gg ≠ gq := by omega
    have BS := HS.out
    have sBS := BS.2.2.2.1
    go_wp2
    exact bodyPost_ret (v := .agg #[.float .f64 x, .float .f64 hi]) (by simp [results, Try.results23, go_sem, gc0, gc1, qc0, qc1, n_, n_.symm]) rfl ⟨x, hi, px, rfl, hx, lhi, Rd.below' HR.out (show Below (r + 1) w5 _ from (by repeat (first | with_reducible exact Below.refl _ _ | with_reducible refine Below.setCell ?_ (by first | omega | (simp; done) | (simp; omega)) _ | with_reducible refine bDrewN ?_ _ | with_reducible refine Below.drew ?_ | with_reducible refine Below.alloc ?_ (by first | omega | (simp; done) | (simp; omega)) _))), BS.onB (show Below w.heap.size w5 _ from (by repeat (first | with_reducible exact Below.refl _ _ | with_reducible refine Below.setCell ?_ (by first | omega | (simp; done) | (simp; omega)) _ | with_reducible refine bDrewN ?_ _ | with_reducible refine Below.drew ?_ | with_reducible refine Below.alloc ?_ (by first | omega | (simp; done) | (simp; omega)) _)))⟩
  have ne1 : (kk == 1) = false := by simpa using e1
  by_cases e2 : kk = 2
  case pos =>
    subst e2
    obtain ⟨z_g, f_g, c_g⟩ := Hg.out
    have gc0 : w3.cell? ⟨gg, 0, none⟩ = some (.float .f64 lo) := c_g 0 _ rfl
    have gc1 : w3.cell? ⟨gg, 1, none⟩ = some (.float .f64 hi) := c_g 1 _ rfl
    have fg := f_g
    clear f_g c_g
    have fg_ := fg 1
    go_upto_region 10 with fail
    clear gc0 gc1 z_g fg
    clear fg_
    have Hq_z : gq < w3.heap.size := Hq.out.1
    have Hg_z : gg < w3.heap.size := Hg.out.1
    have sz_ : w.heap.size ≤ w3.heap.size := HS.out.2.2.2.1
    have zr_ : r < w3.heap.size := HR.out.1
    obtain ⟨w4, hw_⟩ : ∃ x_, x_ = (w3.setCell ⟨gg, 1, none⟩ (.float .f64 lo)) := ⟨_, rfl⟩
    rw [← hw_]
    replace Hq : Hid (Blk w4 gq [.float .f64 0, .float .f64 0]) := by show Blk _ _ _; rw [hw_]; exact (Hq.out.beside (Beside.setCell gg _ 1 _) (by omega))
    replace Hg : Hid (Blk w4 gg [.float .f64 lo, .float .f64 lo]) := by show Blk _ _ _; rw [hw_]; exact (Hg.out.set 1 (.float .f64 lo))
    replace HR : Hid (Rd w4 r s n c pk) := by show Rd _ _ _ _ _ _; rw [hw_]; exact Rd.below' HR.out (show Below (r + 1) w3 _ from (by repeat (first | with_reducible exact Below.refl _ _ | with_reducible refine Below.setCell ?_ (by first | omega | (simp; done) | (simp; omega)) _ | with_reducible refine bDrewN ?_ _ | with_reducible refine Below.drew ?_ | with_reducible refine Below.alloc ?_ (by first | omega | (simp; done) | (simp; omega)) _)))
    replace HS : Hid (Beside r w w4) := by show Beside _ _ _; rw [hw_]; exact HS.out.onB (show Below w.heap.size w3 _ from (by repeat (first | with_reducible exact Below.refl _ _ | with_reducible refine Below.setCell ?_ (by first | omega | (simp; done) | (simp; omega)) _ | with_reducible refine bDrewN ?_ _ | with_reducible refine Below.drew ?_ | with_reducible refine Below.alloc ?_ (by first | omega | (simp; done) | (simp; omega)) _)))
    clear hw_
    clear sz_ zr_ Hq_z Hg_z
    obtain ⟨z_g, f_g, c_g⟩ := Hg.out
    have gc0 : w4.cell? ⟨gg, 0, none⟩ = some (.float .f64 lo) := c_g 0 _ rfl
    have gc1 : w4.cell? ⟨gg, 1, none⟩ = some (.float .f64 lo) := c_g 1 _ rfl
    have fg := f_g
    clear f_g c_g
    obtain ⟨z_q, f_q, c_q⟩ := Hq.out
    have qc0 : w4.cell? ⟨gq, 0, none⟩ = some (.float .f64 0) := c_q 0 _ rfl
    have qc1 : w4.cell? ⟨gq, 1, none⟩ = some (.float .f64 0) := c_q 1 _ rfl
    have fq := f_q
    clear f_q c_q
    have fq0 := fq 0
    have fq1 := fq 1
    have n_ : gg ≠ gq := by omega
    have BS := HS.out
    have sBS := BS.2.2.2.1
    go_wp2
    exact bodyPost_ret (v := .agg #[.float .f64 lo, .float .f64 lo]) (by simp [results, Try.results23, go_sem, gc0, gc1, qc0, qc1, n_, n_.symm]) rfl ⟨lo, lo, pk, rfl, hlo, hlo, Rd.below' HR.out (show Below (r + 1) w4 _ from (by repeat (first | with_reducible exact Below.refl _ _ | with_reducible refine Below.setCell ?_ (by first | omega | (simp; done) | (simp; omega)) _ | with_reducible refine bDrewN ?_ _ | with_reducible refine Below.drew ?_ | with_reducible refine Below.alloc ?_ (by first | omega | (simp; done) | (simp; omega)) _))), BS.onB (show Below w.heap.size w4 _ from (by repeat (first | with_reducible exact Below.refl _ _ | with_reducible refine Below.setCell ?_ (by first | omega | (simp; done) | (simp; omega)) _ | with_reducible refine bDrewN ?_ _ | with_reducible refine Below.drew ?_ | with_reducible refine Below.alloc ?_ (by first | omega | (simp; done) | (simp; omega)) _)))⟩
  have ne2 : (kk == 2) = false := by simpa using e2
  obtain ⟨z_g, f_g, c_g⟩ := Hg.out
  have gc0 : w3.cell? ⟨gg, 0, none⟩ = some (.float .f64 lo) := c_g 0 _ rfl
  have gc1 : w3.cell? ⟨gg, 1, none⟩ = some (.float .f64 hi) := c_g 1 _ rfl
  have fg := f_g
  clear f_g c_g
  obtain ⟨z_q, f_q, c_q⟩ := Hq.out
  have qc0 : w3.cell? ⟨gq, 0, none⟩ = some (.float .f64 0) := c_q 0 _ rfl
  have qc1 : w3.cell? ⟨gq, 1, none⟩ = some (.float .f64 0) := c_q 1 _ rfl
  have fq := f_q
  clear f_q c_q
  have fq0 := fq 0
  have fq1 := fq 1
  have n_ : gg ≠ gq := by omega
  have BS := HS.out
  have sBS := BS.2.2.2.1
  go_wp2
  exact bodyPost_ret (v := .agg #[.float .f64 lo, .float .f64 hi]) (by simp [results, Try.results23, go_sem, gc0, gc1, qc0, qc1, n_, n_.symm]) rfl ⟨lo, hi, pk, rfl, hlo, lhi, Rd.below' HR.out (show Below (r + 1) w3 _ from (by repeat (first | with_reducible exact Below.refl _ _ | with_reducible refine Below.setCell ?_ (by first | omega | (simp; done) | (simp; omega)) _ | with_reducible refine bDrewN ?_ _ | with_reducible refine Below.drew ?_ | with_reducible refine Below.alloc ?_ (by first | omega | (simp; done) | (simp; omega)) _))), BS.onB (show Below w.heap.size w3 _ from (by repeat (first | with_reducible exact Below.refl _ _ | with_reducible refine Below.setCell ?_ (by first | omega | (simp; done) | (simp; omega)) _ | with_reducible refine bDrewN ?_ _ | with_reducible refine Below.drew ?_ | with_reducible refine Below.alloc ?_ (by first | omega | (simp; done) | (simp; omega)) _)))⟩
def CntPost (w : World) (e : Ending) (w' : World) : Prop := ∃ a b x : Nat, e = .returned (.tuple #[.agg #[.float .f64 a, .float .f64 b], .float .f64 x]) ∧ a < 18446744073709551616 ∧ b < 18446744073709551616 ∧ x < 18446744073709551616 ∧ Below w.heap.size w w'
set_option maxRecDepth 20000 in
set_option maxHeartbeats 8000000 in
theorem drawCountOf_any {s : Option Addr} {n c : Nat} {w : World} (h : Hid (Code8 w s n)) :
    Calls Try.prog 13 #[.slice s n c] w fun e w' => CntPost w e w' := by
  go_enter Try.func13, Try.ntmps13
  go_wp2_with fail
  refine (open_any (h.out.below (by repeat (first | with_reducible exact Below.refl _ _ | with_reducible refine Below.setCell ?_ (by first | omega | (simp; done) | (simp; omega)) _ | with_reducible refine bDrewN ?_ _ | with_reducible refine Below.drew ?_ | with_reducible refine Below.alloc ?_ (by first | omega | (simp; done) | (simp; omega)) _)))).mono ?_
  rintro e w1 ⟨rfl, R_, b_⟩
  obtain ⟨r, hr⟩ : ∃ r, r = w.heap.size + 1 := ⟨_, rfl⟩
  have HR : Hid (Rd w1 r s n c 0) := by show Rd _ _ _ _ _ _; rw [hr]; simpa using R_
  have HB : Hid (Below w.heap.size w w1) := (show Below w.heap.size w _ from (by repeat (first | with_reducible exact Below.refl _ _ | with_reducible refine Below.setCell ?_ (by first | omega | (simp; done) | (simp; omega)) _ | with_reducible refine bDrewN ?_ _ | with_reducible refine Below.drew ?_ | with_reducible refine Below.alloc ?_ (by first | omega | (simp; done) | (simp; omega)) _))).trans (b_.mono (by first | omega | (simp; done) | (simp; omega)))
  obtain ⟨gq, hgq⟩ : ∃ g, g = w.heap.size := ⟨_, rfl⟩
  have Hq : Hid (Blk w1 gq [.float .f64 0, .float .f64 0]) := by
    show Blk _ _ _
    have q := ((Blk.new w #[.float .f64 0, .float .f64 0] 26)).below b_
    rw [hgq]; exact q
  have lgq : w.heap.size ≤ gq := by omega
  have rgq : gq < r := by omega
  have zr : w.heap.size ≤ r := by omega
  try rw [show (w.alloc (.cells #[.float .f64 0, .float .f64 0] 26)).heap.size = r by rw [hr]; simp]
  try rw [← hr]
  try rw [← hgq]
  clear hgq
  clear R_ b_ h hr
  go_wp2_with fail
  refine (sensor_any (HR.out.below (by repeat (first | with_reducible exact Below.refl _ _ | with_reducible refine Below.setCell ?_ (by first | omega | (simp; done) | (simp; omega)) _ | with_reducible refine bDrewN ?_ _ | with_reducible refine Below.drew ?_ | with_reducible refine Below.alloc ?_ (by first | omega | (simp; done) | (simp; omega)) _)))).mono ?_
  rintro e w2 ⟨a, b, pd, rfl, la, lb, R_, b_⟩
  have Hq_z : gq < w1.heap.size := Hq.out.1
  have sz_ : w.heap.size ≤ w1.heap.size := HB.out.size
  have zr_ : r < w1.heap.size := HR.out.1
  have bb : Beside r w1 w2 := (Beside.of (show Below w1.heap.size w1 _ from (by repeat (first | with_reducible exact Below.refl _ _ | with_reducible refine Below.setCell ?_ (by first | omega | (simp; done) | (simp; omega)) _ | with_reducible refine bDrewN ?_ _ | with_reducible refine Below.drew ?_ | with_reducible refine Below.alloc ?_ (by first | omega | (simp; done) | (simp; omega)) _)))).trans b_
  replace Hq : Hid (Blk w2 gq [.float .f64 0, .float .f64 0]) := Hq.out.beside bb (by omega)
  replace HB : Hid (Below w.heap.size w w2) := HB.out.trans (bb.below (by omega) HB.out.size)
  replace HR : Hid (Rd w2 r s n c pd) := R_
  clear R_
  clear bb b_ sz_ zr_ Hq_z
  have hst := store_fp
  go_wp2_with fail
  refine (below_any 6 (HR.out.below (by repeat (first | with_reducible exact Below.refl _ _ | with_reducible refine Below.setCell ?_ (by first | omega | (simp; done) | (simp; omega)) _ | with_reducible refine bDrewN ?_ _ | with_reducible refine Below.drew ?_ | with_reducible refine Below.alloc ?_ (by first | omega | (simp; done) | (simp; omega)) _)))).mono ?_
  rintro e w3 ⟨kk, pk, rfl, kk0, kk1, kk2, R_, b_⟩
  have Hq_z : gq < w2.heap.size := Hq.out.1
  have sz_ : w.heap.size ≤ w2.heap.size := HB.out.size
  have zr_ : r < w2.heap.size := HR.out.1
  have bb : Beside r w2 w3 := (Beside.of (show Below w2.heap.size w2 _ from (by repeat (first | with_reducible exact Below.refl _ _ | with_reducible refine Below.setCell ?_ (by first | omega | (simp; done) | (simp; omega)) _ | with_reducible refine bDrewN ?_ _ | with_reducible refine Below.drew ?_ | with_reducible refine Below.alloc ?_ (by first | omega | (simp; done) | (simp; omega)) _)))).trans b_
  obtain ⟨gf, hgf⟩ : ∃ g, g = w2.heap.size := ⟨_, rfl⟩
  have Hf : Hid (Blk w3 gf [.float .f64 a, .float .f64 b]) := by
    show Blk _ _ _
    have q := ((Blk.new w2 #[.float .f64 a, .float .f64 b] 26)).beside b_ (by first | omega | (simp; omega))
    rw [hgf]; exact q
  replace Hq : Hid (Blk w3 gq [.float .f64 0, .float .f64 0]) := Hq.out.beside bb (by omega)
  replace HB : Hid (Below w.heap.size w w3) := HB.out.trans (bb.below (by omega) HB.out.size)
  replace HR : Hid (Rd w3 r s n c pk) := R_
  clear R_
  have lgf : w.heap.size ≤ gf := by omega
  have rgf : r < gf := by omega
  have dgqgf : gq < gf := by omega
  try rw [← hgf]
  clear hgf
  clear bb b_ sz_ zr_ Hq_z
  clear kk1 kk2
  by_cases e0 : kk = 0
  case pos =>
    subst e0
    go_upto_region 5 with fail
    obtain ⟨z_f, f_f, c_f⟩ := Hf.out
    have fc0 : w3.cell? ⟨gf, 0, none⟩ = some (.float .f64 a) := c_f 0 _ rfl
    have fc1 : w3.cell? ⟨gf, 1, none⟩ = some (.float .f64 b) := c_f 1 _ rfl
    have ff := f_f
    clear f_f c_f
    obtain ⟨z_q, f_q, c_q⟩ := Hq.out
    have qc0 : w3.cell? ⟨gq, 0, none⟩ = some (.float .f64 0) := c_q 0 _ rfl
    have qc1 : w3.cell? ⟨gq, 1, none⟩ = some (.float .f64 0) := c_q 1 _ rfl
    have fq := f_q
    clear f_q c_q
    have fq0 := fq 0
    have fq1 := fq 1
    have n_ : gf ≠ gq := by omega
    have zr_ : r < w3.heap.size := HR.out.1
    have sB_ : w.heap.size ≤ w3.heap.size := HB.out.size
    go_region_with (go_at_call 25; refine (float_any (HR.out.below (by repeat (first | with_reducible exact Below.refl _ _ | with_reducible refine Below.setCell ?_ (by first | omega | (simp; done) | (simp; omega)) _ | with_reducible refine bDrewN ?_ _ | with_reducible refine Below.drew ?_ | with_reducible refine Below.alloc ?_ (by first | omega | (simp; done) | (simp; omega)) _)))).mono ?_; rintro e w9 ⟨x9, py, rfl, lx9, R9, b9⟩; have bb : Beside r w3 w9 := (Beside.of (show Below w3.heap.size w3 _ from (by repeat (first | with_reducible exact Below.refl _ _ | with_reducible refine Below.setCell ?_ (by first | omega | (simp; done) | (simp; omega)) _ | with_reducible refine bDrewN ?_ _ | with_reducible refine Below.drew ?_ | with_reducible refine Below.alloc ?_ (by first | omega | (simp; done) | (simp; omega)) _)))).trans b9; have HF9 := Hf.out.beside bb (by omega); have HQ9 := Hq.out.beside bb (by omega); have j0 : w9.cell? ⟨gf, 0, none⟩ = some (.float .f64 a) := HF9.2.2 0 _ rfl; have j1 : w9.cell? ⟨gf, 1, none⟩ = some (.float .f64 b) := HF9.2.2 1 _ rfl; have h0 : w9.cell? ⟨gq, 0, none⟩ = some (.float .f64 0) := HQ9.2.2 0 _ rfl; have h1 : w9.cell? ⟨gq, 1, none⟩ = some (.float .f64 0) := HQ9.2.2 1 _ rfl; have e0_ := HQ9.2.1 0; have e1_ := HQ9.2.1 1; have BF : Below w.heap.size w w9 := HB.out.trans (bb.below (by omega) sB_); have sBF := BF.size; have zq9 := HQ9.1; have zf9 := HF9.1; clear HF9 HQ9 R9 bb b9)
    all_goals
      go_wp2
      exact bodyPost_ret (v := .tuple #[.agg #[.float .f64 a, .float .f64 b], .float .f64 x9]) (by simp [results, Try.results13, go_sem, j0, j1, h0, h1, n_, n_.symm]) rfl ⟨a, b, x9, rfl, la, lb, lx9, (by repeat (first | with_reducible exact Below.refl _ _ | with_reducible exact BF | with_reducible refine Below.setCell ?_ (by first | omega | (simp; done) | (simp; omega)) _ | with_reducible refine bDrewN ?_ _ | with_reducible refine Below.drew ?_ | with_reducible refine Below.alloc ?_ (by first | omega | (simp; done) | (simp; omega)) _))⟩
  have ne0 : (kk == 0) = false := by simpa using e0
  by_cases e1 : kk = 1
  case pos =>
    subst e1
    go_upto_region 7 with fail
    obtain ⟨z_f, f_f, c_f⟩ := Hf.out
    have fc0 : w3.cell? ⟨gf, 0, none⟩ = some (.float .f64 a) := c_f 0 _ rfl
    have fc1 : w3.cell? ⟨gf, 1, none⟩ = some (.float .f64 b) := c_f 1 _ rfl
    have ff := f_f
    clear f_f c_f
    obtain ⟨z_q, f_q, c_q⟩ := Hq.out
    have qc0 : w3.cell? ⟨gq, 0, none⟩ = some (.float .f64 0) := c_q 0 _ rfl
    have qc1 : w3.cell? ⟨gq, 1, none⟩ = some (.float .f64 0) := c_q 1 _ rfl
    have fq := f_q
    clear f_q c_q
    have fq0 := fq 0
    have fq1 := fq 1
    have n_ : gf ≠ gq := by omega
    have zr_ : r < w3.heap.size := HR.out.1
    have sB_ : w.heap.size ≤ w3.heap.size := HB.out.size
    have bd_ : Below w3.heap.size w3 w3.drew := Below.drew (Below.refl _ _)
    refine wp_region_held_drew (S := fun w' => w'.cell? ⟨gf, 0, none⟩ = some (.float .f64 a) ∧ w'.cell? ⟨gf, 1, none⟩ = some (.float .f64 b)) (by kernel_rfl) ?_ (fun hHeld => ?_)
    · exact ⟨(Hf.out.below bd_).2.2 0 _ rfl, (Hf.out.below bd_).2.2 1 _ rfl⟩
    refine wpAnyH_take (i := 0) (v := .agg #[.float .f64 a, .float .f64 b]) rfl (by kernel_rfl) (by kernel_rfl) (by kernel_rfl) (fun _ _ _ h => h) (Or.inl ⟨by kernel_rfl, ?_⟩) hHeld ?_
    · intro w' hSw
      obtain ⟨s0_, s1_⟩ := hSw
      first | (go_simp; done) | (go_simp; with_reducible rfl) | (go_simp; rw [IntKind.wrap_i64]; omega) | (go_simp; omega)
    simp only [Act.put, List.setIfInBounds_toArray, List.set_cons_zero, List.set_cons_succ]
    refine wpAnyH_take (i := 1) (v := .pointer (some ⟨gf, 0, none⟩)) rfl (by kernel_rfl) (by kernel_rfl) (by kernel_rfl) (fun _ _ _ h => h) (Or.inl ⟨by kernel_rfl, ?_⟩) hHeld ?_
    · intro w' hSw
      obtain ⟨s0_, s1_⟩ := hSw
      first | (go_simp; done) | (go_simp; with_reducible rfl) | (go_simp; rw [IntKind.wrap_i64]; omega) | (go_simp; omega)
    simp only [Act.put, List.setIfInBounds_toArray, List.set_cons_zero, List.set_cons_succ]
    refine wpAnyH_take (i := 2) (v := .float .f64 a) rfl (by kernel_rfl) (by kernel_rfl) (by kernel_rfl) (fun _ _ _ h => h) (Or.inl ⟨by kernel_rfl, ?_⟩) hHeld ?_
    · intro w' hSw
      obtain ⟨s0_, s1_⟩ := hSw
      first | (go_simp; done) | (go_simp; with_reducible rfl) | (go_simp; rw [IntKind.wrap_i64]; omega) | (go_simp; omega)
    simp only [Act.put, List.setIfInBounds_toArray, List.set_cons_zero, List.set_cons_succ]
    refine wpAnyH_take (i := 3) (v := .pointer (some ⟨gf, 1, none⟩)) rfl (by kernel_rfl) (by kernel_rfl) (by kernel_rfl) (fun _ _ _ h => h) (Or.inl ⟨by kernel_rfl, ?_⟩) hHeld ?_
    · intro w' hSw
      obtain ⟨s0_, s1_⟩ := hSw
      first | (go_simp; done) | (go_simp; with_reducible rfl) | (go_simp; rw [IntKind.wrap_i64]; omega) | (go_simp; omega)
    simp only [Act.put, List.setIfInBounds_toArray, List.set_cons_zero, List.set_cons_succ]
    refine wpAnyH_take (i := 4) (v := .float .f64 b) rfl (by kernel_rfl) (by kernel_rfl) (by kernel_rfl) (fun _ _ _ h => h) (Or.inl ⟨by kernel_rfl, ?_⟩) hHeld ?_
    · intro w' hSw
      obtain ⟨s0_, s1_⟩ := hSw
      first | (go_simp; done) | (go_simp; with_reducible rfl) | (go_simp; rw [IntKind.wrap_i64]; omega) | (go_simp; omega)
    simp only [Act.put, List.setIfInBounds_toArray, List.set_cons_zero, List.set_cons_succ]
    refine wpAnyH_take (i := 6) (v := .pointer (some ⟨r, 0, none⟩)) rfl (by kernel_rfl) (by kernel_rfl) (by kernel_rfl) (fun _ _ _ h => h) (Or.inl ⟨by kernel_rfl, ?_⟩) hHeld ?_
    · intro w' hSw
      obtain ⟨s0_, s1_⟩ := hSw
      first | (go_simp; done) | (go_simp; with_reducible rfl) | (go_simp; rw [IntKind.wrap_i64]; omega) | (go_simp; omega)
    simp only [Act.put, List.setIfInBounds_toArray, List.set_cons_zero, List.set_cons_succ]
    obtain ⟨v0, hv0⟩ : ∃ z, z = w3.drew := ⟨_, rfl⟩
    rw [← hv0]
    have bv0 : Below w3.heap.size w3 v0 := by rw [hv0]; exact bd_
    have zv0 : w3.heap.size = v0.heap.size := by rw [hv0]; simp
    have KF0 : Hid (Blk v0 gf [.float .f64 a, .float .f64 b]) := Hf.out.below bv0
    have KQ0 : Hid (Blk v0 gq [.float .f64 0, .float .f64 0]) := Hq.out.below bv0
    have KR0 : Hid (Rd v0 r s n c pk) := HR.out.below bv0
    have KB0 : Hid (Below w.heap.size w v0) := HB.out.trans (bv0.mono HB.out.size)
    clear hv0 bv0 bd_ fc0 fc1 qc0 qc1 fq0 fq1 z_f ff fq z_q Hf Hq HR HB zr_ sB_ zv0
    refine wpAnyH_ready (rs := [5, 7]) (by kernel_rfl) (by simp) ?_
    refine (AllReadyH.cons rfl (fun KK hK => ?_) (AllReadyH.cons rfl (fun KK hK => ?_) AllReadyH.nil))
    · go_simp
      obtain ⟨v1, hv_⟩ : ∃ z, z = v0.alloc (.cells #[.float .f64 a, .float .f64 b] 22) := ⟨_, rfl⟩
      rw [← hv_]
      obtain ⟨lb_, hlb⟩ : ∃ z, z = v0.heap.size := ⟨_, rfl⟩
      have bv : Below v0.heap.size v0 v1 := by rw [hv_]; exact below0 _ _
      have KL1 : Hid (Blk v1 lb_ [.float .f64 a, .float .f64 b]) := by show Blk _ _ _; rw [hv_, hlb]; exact Blk.new v0 #[.float .f64 a, .float .f64 b] _
      have KF1 : Hid (Blk v1 gf [.float .f64 a, .float .f64 b]) := KF0.out.below bv
      have KQ1 : Hid (Blk v1 gq [.float .f64 0, .float .f64 0]) := KQ0.out.below bv
      have KB1 : Hid (Below w.heap.size w v1) := KB0.out.trans (bv.mono KB0.out.size)
      have nlf : lb_ ≠ gf := by have := KF0.out.1; omega
      have nlq : lb_ ≠ gq := by have := KQ0.out.1; omega
      have KR1 : Hid (Rd v1 r s n c pk) := KR0.out.below bv
      have nlr : lb_ ≠ r := by have := KR0.out.1; omega
      try rw [← hlb]
      clear hv_ hlb bv
      refine hK.out _ _ ⟨KF1.out.2.2 0 _ rfl, KF1.out.2.2 1 _ rfl⟩ (fun hHeld => ?_)
      clear hK KK
      refine wpAnyH_ready (rs := [7]) (by kernel_rfl) (by simp) ?_
      refine (AllReadyH.cons rfl (fun KK hK => ?_) AllReadyH.nil)
      · go_simp
        have zB_ : w.heap.size ≤ v1.heap.size := KB1.out.size
        go_wp2_with (first | (go_at_call 24; refine (below_any 2 KR1).mono ?_; rintro e v2 ⟨j9, py, rfl, j90, j91, j92, R9, b9⟩; have j93 : j9 ≤ 1 := (by omega); obtain ⟨jn, rfl⟩ : ∃ jn : Nat, j9 = jn := ⟨j9.toNat, (by omega)⟩; have jl2 : ((jn : Nat) : Int) < 2 := (by omega); clear j91 j92 R9; have KF2 : Hid (Blk v2 gf [.float .f64 a, .float .f64 b]) := KF1.out.beside b9 (by omega); have KQ2 : Hid (Blk v2 gq [.float .f64 0, .float .f64 0]) := KQ1.out.beside b9 (by omega); have KB2 : Hid (Below w.heap.size w v2) := KB1.out.trans (b9.below (by omega) zB_); have KL2 : Hid (Blk v2 lb_ [.float .f64 a, .float .f64 b]) := KL1.out.beside b9 nlr; clear b9))
        refine hK.out _ _ ⟨KF2.out.2.2 0 _ rfl, KF2.out.2.2 1 _ rfl⟩ (fun hHeld => ?_)
        clear hK KK
        obtain ⟨xv, lxv, hxv⟩ : ∃ xv : Nat, xv < 18446744073709551616 ∧ ([Value.float .f64 a, Value.float .f64 b] : List Value)[jn]? = some (.float .f64 xv) := ⟨if jn = 0 then a else b, by split <;> assumption, by rcases (show jn = 0 ∨ jn = 1 by omega) with q | q <;> subst q <;> rfl⟩
        refine wpAnyH_take (i := 8) (v := .pointer (some ⟨lb_, jn, none⟩)) rfl (by kernel_rfl) (by kernel_rfl) (by kernel_rfl) (fun _ _ _ h => h) (Or.inl ⟨by kernel_rfl, ?_⟩) hHeld ?_
        · intro w' hSw
          obtain ⟨s0_, s1_⟩ := hSw
          first | (go_simp; done) | (go_simp; with_reducible rfl) | (go_simp; rw [IntKind.wrap_i64]; omega) | (go_simp; omega)
        simp only [Act.put, List.setIfInBounds_toArray, List.set_cons_zero, List.set_cons_succ]
        refine wpAnyH_ready (rs := [9, 10]) (by kernel_rfl) (by simp) ?_
        refine (AllReadyH.cons rfl (fun KK hK => ?_) (AllReadyH.cons rfl (fun KK hK => ?_) AllReadyH.nil))
        · have hl9 : v2.cell? ⟨lb_, jn, none⟩ = some (.float .f64 xv) := KL2.out.2.2 jn _ hxv
          go_simp
          refine hK.out _ _ hHeld (fun hHeld => ?_)
          clear hK KK
          refine wpAnyH_ready (rs := [10]) (by kernel_rfl) (by simp) ?_
          refine (AllReadyH.cons rfl (fun KK hK => ?_) AllReadyH.nil)
          · have qc0 : v2.cell? ⟨gq, 0, none⟩ = some (.float .f64 0) := KQ2.out.2.2 0 _ rfl
            have qc1 : v2.cell? ⟨gq, 1, none⟩ = some (.float .f64 0) := KQ2.out.2.2 1 _ rfl
            have qf0 := KQ2.out.2.1 0
            have qf1 := KQ2.out.2.1 1
            go_simp
            obtain ⟨v4, hv_⟩ : ∃ z, z = (v2.setCell ⟨gq, 0, none⟩ (.float .f64 a)).setCell ⟨gq, 1, none⟩ (.float .f64 b) := ⟨_, rfl⟩
            rw [← hv_]
            have bs_ : Beside gq v2 v4 := by rw [hv_]; exact (Beside.setCell gq _ 0 _).trans (Beside.setCell gq _ 1 _)
            have zB_ : w.heap.size ≤ v2.heap.size := KB2.out.size
            have KF4 : Hid (Blk v4 gf [.float .f64 a, .float .f64 b]) := KF2.out.beside bs_ n_
            have KQ4 : Hid (Blk v4 gq [.float .f64 a, .float .f64 b]) := by show Blk _ _ _; rw [hv_]; exact (KQ2.out.set 0 _).set 1 _
            have KB4 : Hid (Below w.heap.size w v4) := KB2.out.trans (bs_.below (by omega) zB_)
            have KL4 : Hid (Blk v4 lb_ [.float .f64 a, .float .f64 b]) := KL2.out.beside bs_ nlq
            clear hv_ bs_ qc0 qc1 qf0 qf1
            refine hK.out _ _ ⟨KF4.out.2.2 0 _ rfl, KF4.out.2.2 1 _ rfl⟩ (fun hHeld => ?_)
            clear hK KK
            refine wpAnyH_ready (rs := [11]) (by kernel_rfl) (by simp) ?_
            refine AllReadyH.cons rfl (fun KK hK => ?_) AllReadyH.nil
            go_simp
            refine hK.out _ _ hHeld (fun hHeld => ?_)
            clear hK KK
            refine wpAnyH_done (by kernel_rfl) ?_ _
            have qc0 : v4.cell? ⟨gq, 0, none⟩ = some (.float .f64 a) := KQ4.out.2.2 0 _ rfl
            have qc1 : v4.cell? ⟨gq, 1, none⟩ = some (.float .f64 b) := KQ4.out.2.2 1 _ rfl
            have BF := KB4.out
            go_wp2
            exact bodyPost_ret (v := .tuple #[.agg #[.float .f64 a, .float .f64 b], .float .f64 xv]) (by simp [results, Try.results13, go_sem, qc0, qc1]) rfl ⟨a, b, xv, rfl, la, lb, lxv, (by repeat (first | with_reducible exact Below.refl _ _ | with_reducible exact BF | with_reducible refine Below.setCell ?_ (by first | omega | (simp; done) | (simp; omega)) _ | with_reducible refine bDrewN ?_ _ | with_reducible refine Below.drew ?_ | with_reducible refine Below.alloc ?_ (by first | omega | (simp; done) | (simp; omega)) _))⟩
        · have qc0 : v2.cell? ⟨gq, 0, none⟩ = some (.float .f64 0) := KQ2.out.2.2 0 _ rfl
          have qc1 : v2.cell? ⟨gq, 1, none⟩ = some (.float .f64 0) := KQ2.out.2.2 1 _ rfl
          have qf0 := KQ2.out.2.1 0
          have qf1 := KQ2.out.2.1 1
          go_simp
          obtain ⟨v5, hv_⟩ : ∃ z, z = (v2.setCell ⟨gq, 0, none⟩ (.float .f64 a)).setCell ⟨gq, 1, none⟩ (.float .f64 b) := ⟨_, rfl⟩
          rw [← hv_]
          have bs_ : Beside gq v2 v5 := by rw [hv_]; exact (Beside.setCell gq _ 0 _).trans (Beside.setCell gq _ 1 _)
          have zB_ : w.heap.size ≤ v2.heap.size := KB2.out.size
          have KF5 : Hid (Blk v5 gf [.float .f64 a, .float .f64 b]) := KF2.out.beside bs_ n_
          have KQ5 : Hid (Blk v5 gq [.float .f64 a, .float .f64 b]) := by show Blk _ _ _; rw [hv_]; exact (KQ2.out.set 0 _).set 1 _
          have KB5 : Hid (Below w.heap.size w v5) := KB2.out.trans (bs_.below (by omega) zB_)
          have KL5 : Hid (Blk v5 lb_ [.float .f64 a, .float .f64 b]) := KL2.out.beside bs_ nlq
          clear hv_ bs_ qc0 qc1 qf0 qf1
          refine hK.out _ _ ⟨KF5.out.2.2 0 _ rfl, KF5.out.2.2 1 _ rfl⟩ (fun hHeld => ?_)
          clear hK KK
          refine wpAnyH_ready (rs := [9]) (by kernel_rfl) (by simp) ?_
          refine (AllReadyH.cons rfl (fun KK hK => ?_) AllReadyH.nil)
          · have hl9 : v5.cell? ⟨lb_, jn, none⟩ = some (.float .f64 xv) := KL5.out.2.2 jn _ hxv
            go_simp
            refine hK.out _ _ hHeld (fun hHeld => ?_)
            clear hK KK
            refine wpAnyH_ready (rs := [11]) (by kernel_rfl) (by simp) ?_
            refine AllReadyH.cons rfl (fun KK hK => ?_) AllReadyH.nil
            go_simp
            refine hK.out _ _ hHeld (fun hHeld => ?_)
            clear hK KK
            refine wpAnyH_done (by kernel_rfl) ?_ _
            have qc0 : v5.cell? ⟨gq, 0, none⟩ = some (.float .f64 a) := KQ5.out.2.2 0 _ rfl
            have qc1 : v5.cell? ⟨gq, 1, none⟩ = some (.float .f64 b) := KQ5.out.2.2 1 _ rfl
            have BF := KB5.out
            go_wp2
            exact bodyPost_ret (v := .tuple #[.agg #[.float .f64 a, .float .f64 b], .float .f64 xv]) (by simp [results, Try.results13, go_sem, qc0, qc1]) rfl ⟨a, b, xv, rfl, la, lb, lxv, (by repeat (first | with_reducible exact Below.refl _ _ | with_reducible exact BF | with_reducible refine Below.setCell ?_ (by first | omega | (simp; done) | (simp; omega)) _ | with_reducible refine bDrewN ?_ _ | with_reducible refine Below.drew ?_ | with_reducible refine Below.alloc ?_ (by first | omega | (simp; done) | (simp; omega)) _))⟩
    · go_simp
      have zB_ : w.heap.size ≤ v0.heap.size := KB0.out.size
      go_wp2_with (first | (go_at_call 24; refine (below_any 2 KR0).mono ?_; rintro e v7 ⟨j9, py, rfl, j90, j91, j92, R9, b9⟩; have j93 : j9 ≤ 1 := (by omega); obtain ⟨jn, rfl⟩ : ∃ jn : Nat, j9 = jn := ⟨j9.toNat, (by omega)⟩; have jl2 : ((jn : Nat) : Int) < 2 := (by omega); clear j91 j92 R9; have KF7 : Hid (Blk v7 gf [.float .f64 a, .float .f64 b]) := KF0.out.beside b9 (by omega); have KQ7 : Hid (Blk v7 gq [.float .f64 0, .float .f64 0]) := KQ0.out.beside b9 (by omega); have KB7 : Hid (Below w.heap.size w v7) := KB0.out.trans (b9.below (by omega) zB_); clear b9))
      refine hK.out _ _ ⟨KF7.out.2.2 0 _ rfl, KF7.out.2.2 1 _ rfl⟩ (fun hHeld => ?_)
      clear hK KK
      refine wpAnyH_ready (rs := [5, 10]) (by kernel_rfl) (by simp) ?_
      refine (AllReadyH.cons rfl (fun KK hK => ?_) (AllReadyH.cons rfl (fun KK hK => ?_) AllReadyH.nil))
      · go_simp
        obtain ⟨v8, hv_⟩ : ∃ z, z = v7.alloc (.cells #[.float .f64 a, .float .f64 b] 22) := ⟨_, rfl⟩
        rw [← hv_]
        obtain ⟨lb_, hlb⟩ : ∃ z, z = v7.heap.size := ⟨_, rfl⟩
        have bv : Below v7.heap.size v7 v8 := by rw [hv_]; exact below0 _ _
        have KL8 : Hid (Blk v8 lb_ [.float .f64 a, .float .f64 b]) := by show Blk _ _ _; rw [hv_, hlb]; exact Blk.new v7 #[.float .f64 a, .float .f64 b] _
        have KF8 : Hid (Blk v8 gf [.float .f64 a, .float .f64 b]) := KF7.out.below bv
        have KQ8 : Hid (Blk v8 gq [.float .f64 0, .float .f64 0]) := KQ7.out.below bv
        have KB8 : Hid (Below w.heap.size w v8) := KB7.out.trans (bv.mono KB7.out.size)
        have nlf : lb_ ≠ gf := by have := KF7.out.1; omega
        have nlq : lb_ ≠ gq := by have := KQ7.out.1; omega
        try rw [← hlb]
        clear hv_ hlb bv
        refine hK.out _ _ ⟨KF8.out.2.2 0 _ rfl, KF8.out.2.2 1 _ rfl⟩ (fun hHeld => ?_)
        clear hK KK
        obtain ⟨xv, lxv, hxv⟩ : ∃ xv : Nat, xv < 18446744073709551616 ∧ ([Value.float .f64 a, Value.float .f64 b] : List Value)[jn]? = some (.float .f64 xv) := ⟨if jn = 0 then a else b, by split <;> assumption, by rcases (show jn = 0 ∨ jn = 1 by omega) with q | q <;> subst q <;> rfl⟩
        refine wpAnyH_take (i := 8) (v := .pointer (some ⟨lb_, jn, none⟩)) rfl (by kernel_rfl) (by kernel_rfl) (by kernel_rfl) (fun _ _ _ h => h) (Or.inl ⟨by kernel_rfl, ?_⟩) hHeld ?_
        · intro w' hSw
          obtain ⟨s0_, s1_⟩ := hSw
          first | (go_simp; done) | (go_simp; with_reducible rfl) | (go_simp; rw [IntKind.wrap_i64]; omega) | (go_simp; omega)
        simp only [Act.put, List.setIfInBounds_toArray, List.set_cons_zero, List.set_cons_succ]
        refine wpAnyH_ready (rs := [9, 10]) (by kernel_rfl) (by simp) ?_
        refine (AllReadyH.cons rfl (fun KK hK => ?_) (AllReadyH.cons rfl (fun KK hK => ?_) AllReadyH.nil))
        · have hl9 : v8.cell? ⟨lb_, jn, none⟩ = some (.float .f64 xv) := KL8.out.2.2 jn _ hxv
          go_simp
          refine hK.out _ _ hHeld (fun hHeld => ?_)
          clear hK KK
          refine wpAnyH_ready (rs := [10]) (by kernel_rfl) (by simp) ?_
          refine (AllReadyH.cons rfl (fun KK hK => ?_) AllReadyH.nil)
          · have qc0 : v8.cell? ⟨gq, 0, none⟩ = some (.float .f64 0) := KQ8.out.2.2 0 _ rfl
            have qc1 : v8.cell? ⟨gq, 1, none⟩ = some (.float .f64 0) := KQ8.out.2.2 1 _ rfl
            have qf0 := KQ8.out.2.1 0
            have qf1 := KQ8.out.2.1 1
            go_simp
            obtain ⟨v10, hv_⟩ : ∃ z, z = (v8.setCell ⟨gq, 0, none⟩ (.float .f64 a)).setCell ⟨gq, 1, none⟩ (.float .f64 b) := ⟨_, rfl⟩
            rw [← hv_]
            have bs_ : Beside gq v8 v10 := by rw [hv_]; exact (Beside.setCell gq _ 0 _).trans (Beside.setCell gq _ 1 _)
            have zB_ : w.heap.size ≤ v8.heap.size := KB8.out.size
            have KF10 : Hid (Blk v10 gf [.float .f64 a, .float .f64 b]) := KF8.out.beside bs_ n_
            have KQ10 : Hid (Blk v10 gq [.float .f64 a, .float .f64 b]) := by show Blk _ _ _; rw [hv_]; exact (KQ8.out.set 0 _).set 1 _
            have KB10 : Hid (Below w.heap.size w v10) := KB8.out.trans (bs_.below (by omega) zB_)
            have KL10 : Hid (Blk v10 lb_ [.float .f64 a, .float .f64 b]) := KL8.out.beside bs_ nlq
            clear hv_ bs_ qc0 qc1 qf0 qf1
            refine hK.out _ _ ⟨KF10.out.2.2 0 _ rfl, KF10.out.2.2 1 _ rfl⟩ (fun hHeld => ?_)
            clear hK KK
            refine wpAnyH_ready (rs := [11]) (by kernel_rfl) (by simp) ?_
            refine AllReadyH.cons rfl (fun KK hK => ?_) AllReadyH.nil
            go_simp
            refine hK.out _ _ hHeld (fun hHeld => ?_)
            clear hK KK
            refine wpAnyH_done (by kernel_rfl) ?_ _
            have qc0 : v10.cell? ⟨gq, 0, none⟩ = some (.float .f64 a) := KQ10.out.2.2 0 _ rfl
            have qc1 : v10.cell? ⟨gq, 1, none⟩ = some (.float .f64 b) := KQ10.out.2.2 1 _ rfl
            have BF := KB10.out
            go_wp2
            exact bodyPost_ret (v := .tuple #[.agg #[.float .f64 a, .float .f64 b], .float .f64 xv]) (by simp [results, Try.results13, go_sem, qc0, qc1]) rfl ⟨a, b, xv, rfl, la, lb, lxv, (by repeat (first | with_reducible exact Below.refl _ _ | with_reducible exact BF | with_reducible refine Below.setCell ?_ (by first | omega | (simp; done) | (simp; omega)) _ | with_reducible refine bDrewN ?_ _ | with_reducible refine Below.drew ?_ | with_reducible refine Below.alloc ?_ (by first | omega | (simp; done) | (simp; omega)) _))⟩
        · have qc0 : v8.cell? ⟨gq, 0, none⟩ = some (.float .f64 0) := KQ8.out.2.2 0 _ rfl
          have qc1 : v8.cell? ⟨gq, 1, none⟩ = some (.float .f64 0) := KQ8.out.2.2 1 _ rfl
          have qf0 := KQ8.out.2.1 0
          have qf1 := KQ8.out.2.1 1
          go_simp
          obtain ⟨v11, hv_⟩ : ∃ z, z = (v8.setCell ⟨gq, 0, none⟩ (.float .f64 a)).setCell ⟨gq, 1, none⟩ (.float .f64 b) := ⟨_, rfl⟩
          rw [← hv_]
          have bs_ : Beside gq v8 v11 := by rw [hv_]; exact (Beside.setCell gq _ 0 _).trans (Beside.setCell gq _ 1 _)
          have zB_ : w.heap.size ≤ v8.heap.size := KB8.out.size
          have KF11 : Hid (Blk v11 gf [.float .f64 a, .float .f64 b]) := KF8.out.beside bs_ n_
          have KQ11 : Hid (Blk v11 gq [.float .f64 a, .float .f64 b]) := by show Blk _ _ _; rw [hv_]; exact (KQ8.out.set 0 _).set 1 _
          have KB11 : Hid (Below w.heap.size w v11) := KB8.out.trans (bs_.below (by omega) zB_)
          have KL11 : Hid (Blk v11 lb_ [.float .f64 a, .float .f64 b]) := KL8.out.beside bs_ nlq
          clear hv_ bs_ qc0 qc1 qf0 qf1
          refine hK.out _ _ ⟨KF11.out.2.2 0 _ rfl, KF11.out.2.2 1 _ rfl⟩ (fun hHeld => ?_)
          clear hK KK
          refine wpAnyH_ready (rs := [9]) (by kernel_rfl) (by simp) ?_
          refine (AllReadyH.cons rfl (fun KK hK => ?_) AllReadyH.nil)
          · have hl9 : v11.cell? ⟨lb_, jn, none⟩ = some (.float .f64 xv) := KL11.out.2.2 jn _ hxv
            go_simp
            refine hK.out _ _ hHeld (fun hHeld => ?_)
            clear hK KK
            refine wpAnyH_ready (rs := [11]) (by kernel_rfl) (by simp) ?_
            refine AllReadyH.cons rfl (fun KK hK => ?_) AllReadyH.nil
            go_simp
            refine hK.out _ _ hHeld (fun hHeld => ?_)
            clear hK KK
            refine wpAnyH_done (by kernel_rfl) ?_ _
            have qc0 : v11.cell? ⟨gq, 0, none⟩ = some (.float .f64 a) := KQ11.out.2.2 0 _ rfl
            have qc1 : v11.cell? ⟨gq, 1, none⟩ = some (.float .f64 b) := KQ11.out.2.2 1 _ rfl
            have BF := KB11.out
            go_wp2
            exact bodyPost_ret (v := .tuple #[.agg #[.float .f64 a, .float .f64 b], .float .f64 xv]) (by simp [results, Try.results13, go_sem, qc0, qc1]) rfl ⟨a, b, xv, rfl, la, lb, lxv, (by repeat (first | with_reducible exact Below.refl _ _ | with_reducible exact BF | with_reducible refine Below.setCell ?_ (by first | omega | (simp; done) | (simp; omega)) _ | with_reducible refine bDrewN ?_ _ | with_reducible refine Below.drew ?_ | with_reducible refine Below.alloc ?_ (by first | omega | (simp; done) | (simp; omega)) _))⟩
      · have qc0 : v7.cell? ⟨gq, 0, none⟩ = some (.float .f64 0) := KQ7.out.2.2 0 _ rfl
        have qc1 : v7.cell? ⟨gq, 1, none⟩ = some (.float .f64 0) := KQ7.out.2.2 1 _ rfl
        have qf0 := KQ7.out.2.1 0
        have qf1 := KQ7.out.2.1 1
        go_simp
        obtain ⟨v13, hv_⟩ : ∃ z, z = (v7.setCell ⟨gq, 0, none⟩ (.float .f64 a)).setCell ⟨gq, 1, none⟩ (.float .f64 b) := ⟨_, rfl⟩
        rw [← hv_]
        have bs_ : Beside gq v7 v13 := by rw [hv_]; exact (Beside.setCell gq _ 0 _).trans (Beside.setCell gq _ 1 _)
        have zB_ : w.heap.size ≤ v7.heap.size := KB7.out.size
        have KF13 : Hid (Blk v13 gf [.float .f64 a, .float .f64 b]) := KF7.out.beside bs_ n_
        have KQ13 : Hid (Blk v13 gq [.float .f64 a, .float .f64 b]) := by show Blk _ _ _; rw [hv_]; exact (KQ7.out.set 0 _).set 1 _
        have KB13 : Hid (Below w.heap.size w v13) := KB7.out.trans (bs_.below (by omega) zB_)
        clear hv_ bs_ qc0 qc1 qf0 qf1
        refine hK.out _ _ ⟨KF13.out.2.2 0 _ rfl, KF13.out.2.2 1 _ rfl⟩ (fun hHeld => ?_)
        clear hK KK
        refine wpAnyH_ready (rs := [5]) (by kernel_rfl) (by simp) ?_
        refine (AllReadyH.cons rfl (fun KK hK => ?_) AllReadyH.nil)
        · go_simp
          obtain ⟨v14, hv_⟩ : ∃ z, z = v13.alloc (.cells #[.float .f64 a, .float .f64 b] 22) := ⟨_, rfl⟩
          rw [← hv_]
          obtain ⟨lb_, hlb⟩ : ∃ z, z = v13.heap.size := ⟨_, rfl⟩
          have bv : Below v13.heap.size v13 v14 := by rw [hv_]; exact below0 _ _
          have KL14 : Hid (Blk v14 lb_ [.float .f64 a, .float .f64 b]) := by show Blk _ _ _; rw [hv_, hlb]; exact Blk.new v13 #[.float .f64 a, .float .f64 b] _
          have KF14 : Hid (Blk v14 gf [.float .f64 a, .float .f64 b]) := KF13.out.below bv
          have KQ14 : Hid (Blk v14 gq [.float .f64 a, .float .f64 b]) := KQ13.out.below bv
          have KB14 : Hid (Below w.heap.size w v14) := KB13.out.trans (bv.mono KB13.out.size)
          have nlf : lb_ ≠ gf := by have := KF13.out.1; omega
          have nlq : lb_ ≠ gq := by have := KQ13.out.1; omega
          try rw [← hlb]
          clear hv_ hlb bv
          refine hK.out _ _ ⟨KF14.out.2.2 0 _ rfl, KF14.out.2.2 1 _ rfl⟩ (fun hHeld => ?_)
          clear hK KK
          obtain ⟨xv, lxv, hxv⟩ : ∃ xv : Nat, xv < 18446744073709551616 ∧ ([Value.float .f64 a, Value.float .f64 b] : List Value)[jn]? = some (.float .f64 xv) := ⟨if jn = 0 then a else b, by split <;> assumption, by rcases (show jn = 0 ∨ jn = 1 by omega) with q | q <;> subst q <;> rfl⟩
          refine wpAnyH_take (i := 8) (v := .pointer (some ⟨lb_, jn, none⟩)) rfl (by kernel_rfl) (by kernel_rfl) (by kernel_rfl) (fun _ _ _ h => h) (Or.inl ⟨by kernel_rfl, ?_⟩) hHeld ?_
          · intro w' hSw
            obtain ⟨s0_, s1_⟩ := hSw
            first | (go_simp; done) | (go_simp; with_reducible rfl) | (go_simp; rw [IntKind.wrap_i64]; omega) | (go_simp; omega)
          simp only [Act.put, List.setIfInBounds_toArray, List.set_cons_zero, List.set_cons_succ]
          refine wpAnyH_ready (rs := [9]) (by kernel_rfl) (by simp) ?_
          refine (AllReadyH.cons rfl (fun KK hK => ?_) AllReadyH.nil)
          · have hl9 : v14.cell? ⟨lb_, jn, none⟩ = some (.float .f64 xv) := KL14.out.2.2 jn _ hxv
            go_simp
            refine hK.out _ _ hHeld (fun hHeld => ?_)
            clear hK KK
            refine wpAnyH_ready (rs := [11]) (by kernel_rfl) (by simp) ?_
            refine AllReadyH.cons rfl (fun KK hK => ?_) AllReadyH.nil
            go_simp
            refine hK.out _ _ hHeld (fun hHeld => ?_)
            clear hK KK
            refine wpAnyH_done (by kernel_rfl) ?_ _
            have qc0 : v14.cell? ⟨gq, 0, none⟩ = some (.float .f64 a) := KQ14.out.2.2 0 _ rfl
            have qc1 : v14.cell? ⟨gq, 1, none⟩ = some (.float .f64 b) := KQ14.out.2.2 1 _ rfl
            have BF := KB14.out
            go_wp2
            exact bodyPost_ret (v := .tuple #[.agg #[.float .f64 a, .float .f64 b], .float .f64 xv]) (by simp [results, Try.results13, go_sem, qc0, qc1]) rfl ⟨a, b, xv, rfl, la, lb, lxv, (by repeat (first | with_reducible exact Below.refl _ _ | with_reducible exact BF | with_reducible refine Below.setCell ?_ (by first | omega | (simp; done) | (simp; omega)) _ | with_reducible refine bDrewN ?_ _ | with_reducible refine Below.drew ?_ | with_reducible refine Below.alloc ?_ (by first | omega | (simp; done) | (simp; omega)) _))⟩
  have ne1 : (kk == 1) = false := by simpa using e1
  go_upto_region 8 with fail
  go_cut [6] (fun v wx => ∃ (x py : Nat), v = .float .f64 x ∧ x < 18446744073709551616 ∧ Hid (Rd wx r s n c py) ∧ Hid (Below w.heap.size w wx) ∧ Hid (Blk wx gf [.float .f64 a, .float .f64 b]) ∧ Hid (Blk wx gq [.float .f64 0, .float .f64 0]))
  case first =>
    have zr_ : r < w3.heap.size := HR.out.1
    have sB_ : w.heap.size ≤ w3.heap.size := HB.out.size
    obtain ⟨z_f, f_f, c_f⟩ := Hf.out
    have fc0 : w3.cell? ⟨gf, 0, none⟩ = some (.float .f64 a) := c_f 0 _ rfl
    have fc1 : w3.cell? ⟨gf, 1, none⟩ = some (.float .f64 b) := c_f 1 _ rfl
    have ff := f_f
    clear f_f c_f
    go_region_with (first | (go_at_call 26; refine (near_any 40 4055 (by omega) (by omega) (by omega) (HR.out.below (by repeat (first | with_reducible exact Below.refl _ _ | with_reducible refine Below.setCell ?_ (by first | omega | (simp; done) | (simp; omega)) _ | with_reducible refine bDrewN ?_ _ | with_reducible refine Below.drew ?_ | with_reducible refine Below.alloc ?_ (by first | omega | (simp; done) | (simp; omega)) _)))).mono ?_; rintro e w9 ⟨c9, py, rfl, c90, c91, R9, b9⟩; have bb : Beside r w3 w9 := (Beside.of (show Below w3.heap.size w3 _ from (by repeat (first | with_reducible exact Below.refl _ _ | with_reducible refine Below.setCell ?_ (by first | omega | (simp; done) | (simp; omega)) _ | with_reducible refine bDrewN ?_ _ | with_reducible refine Below.drew ?_ | with_reducible refine Below.alloc ?_ (by first | omega | (simp; done) | (simp; omega)) _)))).trans b9; have HF9 := Hf.out.beside bb (by omega); have j0 : w9.cell? ⟨gf, 0, none⟩ = some (.float .f64 a) := HF9.2.2 0 _ rfl; have j1 : w9.cell? ⟨gf, 1, none⟩ = some (.float .f64 b) := HF9.2.2 1 _ rfl; have HF8 : Hid (Blk w9 gf [.float .f64 a, .float .f64 b]) := HF9; have HQ8 : Hid (Blk w9 gq [.float .f64 0, .float .f64 0]) := Hq.out.beside bb (by omega); have HR8 : Hid (Rd w9 r s n c py) := R9; have HB8 : Hid (Below w.heap.size w w9) := HB.out.trans (bb.below (by omega) sB_); have zf9 := HF9.1; clear HF9 R9 bb b9) | (go_at_call 9; refine (specRead_any a b la lb c9 _).mono ?_; rintro e w10 ⟨x10, rfl, hx10, h10⟩; have b10 : Below w9.heap.size w9 w10 := Below.trans (by repeat (first | with_reducible exact Below.refl _ _ | with_reducible refine Below.setCell ?_ (by first | omega | (simp; done) | (simp; omega)) _ | with_reducible refine bDrewN ?_ _ | with_reducible refine Below.drew ?_ | with_reducible refine Below.alloc ?_ (by first | omega | (simp; done) | (simp; omega)) _)) (h10.mono (by first | omega | (simp; done) | (simp; omega))); have lx10 : x10 < 18446744073709551616 := hx10.1; clear hx10 h10))
    all_goals
      go_wp2_with fail
      go_meet
      case rel => exact ⟨x10, py, rfl, lx10, HR8.out.below b10, HB8.out.trans (b10.mono HB8.out.size), HF8.out.below b10, HQ8.out.below b10⟩
  case rest =>
    clear HR HB Hf Hq
    obtain ⟨x, px, rfl, lx, HR, HB, Hf, Hq⟩ := hcut
    rename World => w4
    go_wp2_with fail
    refine (once_any 2 (by omega) (by omega) (HR.out.below (by repeat (first | with_reducible exact Below.refl _ _ | with_reducible refine Below.setCell ?_ (by first | omega | (simp; done) | (simp; omega)) _ | with_reducible refine bDrewN ?_ _ | with_reducible refine Below.drew ?_ | with_reducible refine Below.alloc ?_ (by first | omega | (simp; done) | (simp; omega)) _)))).mono ?_
    rintro e w5 ⟨fl, pf, rfl, R_, b_⟩
    have Hq_z : gq < w4.heap.size := Hq.out.1
    have Hf_z : gf < w4.heap.size := Hf.out.1
    have sz_ : w.heap.size ≤ w4.heap.size := HB.out.size
    have zr_ : r < w4.heap.size := HR.out.1
    have bb : Beside r w4 w5 := (Beside.of (show Below w4.heap.size w4 _ from (by repeat (first | with_reducible exact Below.refl _ _ | with_reducible refine Below.setCell ?_ (by first | omega | (simp; done) | (simp; omega)) _ | with_reducible refine bDrewN ?_ _ | with_reducible refine Below.drew ?_ | with_reducible refine Below.alloc ?_ (by first | omega | (simp; done) | (simp; omega)) _)))).trans b_
    replace Hq : Hid (Blk w5 gq [.float .f64 0, .float .f64 0]) := Hq.out.beside bb (by omega)
    replace Hf : Hid (Blk w5 gf [.float .f64 a, .float .f64 b]) := Hf.out.beside bb (by omega)
    replace HB : Hid (Below w.heap.size w w5) := HB.out.trans (bb.below (by omega) HB.out.size)
    replace HR : Hid (Rd w5 r s n c pf) := R_
    clear R_
    clear bb b_ sz_ zr_ Hq_z Hf_z
    cases fl
    · skip
      obtain ⟨z_f, f_f, c_f⟩ := Hf.out
      have fc0 : w5.cell? ⟨gf, 0, none⟩ = some (.float .f64 a) := c_f 0 _ rfl
      have fc1 : w5.cell? ⟨gf, 1, none⟩ = some (.float .f64 b) := c_f 1 _ rfl
      have ff := f_f
      clear f_f c_f
      obtain ⟨z_q, f_q, c_q⟩ := Hq.out
      have qc0 : w5.cell? ⟨gq, 0, none⟩ = some (.float .f64 0) := c_q 0 _ rfl
      have qc1 : w5.cell? ⟨gq, 1, none⟩ = some (.float .f64 0) := c_q 1 _ rfl
      have fq := f_q
      clear f_q c_q
      have fq0 := fq 0
      have fq1 := fq 1
      have n_ : gf ≠ gq := by omega
      have BF := HB.out
      have sBF := BF.size
      go_wp2
      exact bodyPost_ret (v := .tuple #[.agg #[.float .f64 a, .float .f64 b], .float .f64 x]) (by simp [results, Try.results13, go_sem, fc0, fc1, qc0, qc1, n_, n_.symm]) rfl ⟨a, b, x, rfl, la, lb, lx, (by repeat (first | with_reducible exact Below.refl _ _ | with_reducible exact BF | with_reducible refine Below.setCell ?_ (by first | omega | (simp; done) | (simp; omega)) _ | with_reducible refine bDrewN ?_ _ | with_reducible refine Below.drew ?_ | with_reducible refine Below.alloc ?_ (by first | omega | (simp; done) | (simp; omega)) _))⟩
    · skip
      go_wp2_with fail
      refine (tenth_any (HR.out.below (by repeat (first | with_reducible exact Below.refl _ _ | with_reducible refine Below.setCell ?_ (by first | omega | (simp; done) | (simp; omega)) _ | with_reducible refine bDrewN ?_ _ | with_reducible refine Below.drew ?_ | with_reducible refine Below.alloc ?_ (by first | omega | (simp; done) | (simp; omega)) _))) (-2) 2 (by omega) (by omega) (by omega)).mono ?_
      rintro e w6 ⟨y, py2, rfl, ly, R_, b_⟩
      have Hq_z : gq < w5.heap.size := Hq.out.1
      have Hf_z : gf < w5.heap.size := Hf.out.1
      have sz_ : w.heap.size ≤ w5.heap.size := HB.out.size
      have zr_ : r < w5.heap.size := HR.out.1
      have bb : Beside r w5 w6 := (Beside.of (show Below w5.heap.size w5 _ from (by repeat (first | with_reducible exact Below.refl _ _ | with_reducible refine Below.setCell ?_ (by first | omega | (simp; done) | (simp; omega)) _ | with_reducible refine bDrewN ?_ _ | with_reducible refine Below.drew ?_ | with_reducible refine Below.alloc ?_ (by first | omega | (simp; done) | (simp; omega)) _)))).trans b_
      replace Hq : Hid (Blk w6 gq [.float .f64 0, .float .f64 0]) := Hq.out.beside bb (by omega)
      replace Hf : Hid (Blk w6 gf [.float .f64 a, .float .f64 b]) := Hf.out.beside bb (by omega)
      replace HB : Hid (Below w.heap.size w w6) := HB.out.trans (bb.below (by omega) HB.out.size)
      replace HR : Hid (Rd w6 r s n c py2) := R_
      clear R_
      clear bb b_ sz_ zr_ Hq_z Hf_z
      obtain ⟨x2, m2, hrun, hx2⟩ := fl_run (P := Try.prog) (f := .add) rfl 22 (fl_of x lx) (fl_of y ly) w6
      have lx2 : x2 < 18446744073709551616 := hx2.1
      clear hx2
      obtain ⟨z_f, f_f, c_f⟩ := Hf.out
      have fc0 : w6.cell? ⟨gf, 0, none⟩ = some (.float .f64 a) := c_f 0 _ rfl
      have fc1 : w6.cell? ⟨gf, 1, none⟩ = some (.float .f64 b) := c_f 1 _ rfl
      have ff := f_f
      clear f_f c_f
      obtain ⟨z_q, f_q, c_q⟩ := Hq.out
      have qc0 : w6.cell? ⟨gq, 0, none⟩ = some (.float .f64 0) := c_q 0 _ rfl
      have qc1 : w6.cell? ⟨gq, 1, none⟩ = some (.float .f64 0) := c_q 1 _ rfl
      have fq := f_q
      clear f_q c_q
      have fq0 := fq 0
      have fq1 := fq 1
      have n_ : gf ≠ gq := by omega
      have BF := HB.out
      have sBF := BF.size
      go_wp2
      exact bodyPost_ret (v := .tuple #[.agg #[.float .f64 a, .float .f64 b], .float .f64 x2]) (by simp [results, Try.results13, go_sem, fc0, fc1, qc0, qc1, n_, n_.symm]) rfl ⟨a, b, x2, rfl, la, lb, lx2, (by repeat (first | with_reducible exact Below.refl _ _ | with_reducible exact BF | with_reducible refine Below.setCell ?_ (by first | omega | (simp; done) | (simp; omega)) _ | with_reducible refine bDrewN ?_ _ | with_reducible refine Below.drew ?_ | with_reducible refine Below.alloc ?_ (by first | omega | (simp; done) | (simp; omega)) _))⟩
end Go.Proofs.Ytbdilaacfokpiaa
