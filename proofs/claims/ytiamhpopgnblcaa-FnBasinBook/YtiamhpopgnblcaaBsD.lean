/-
What is proved: a day's water, a rule and a basin that are drawn: any int64s.
-/
import Derived.Test.YtiamhpopgnblcaaCuD
import Derived.Deep.RegionHeld3
import Derived.Deep.DeepCutAuto
import Derived.RegionTactic
namespace Go.Proofs.Ytiamhpopgnblcaa
set_option maxRecDepth 40000
open Go.ChangeShapes Go.WideShapes Go.ChangeAt Go.RowKit
set_option linter.unusedVariables false
set_option linter.unusedSimpArgs false

set_option maxRecDepth 20000 in
set_option maxHeartbeats 8000000 in
theorem water_any {r : Nat} {s : Option Addr} {n c p : Nat} {w : World} (h : Hid (Rd w r s n c p)) :
    Calls Try.prog 27 #[.pointer (some ⟨r, 0, none⟩)] w fun e w' => ∃ (x0 x1 x2 : Int) (p' : Nat), e = .returned (.agg #[.int .i64 x0, .int .i64 x1, .int .i64 x2]) ∧ Rd w' r s n c p' ∧ Beside r w w' := by
  have zr : r < w.heap.size := h.out.1
  have HR : Hid (Rd w r s n c p) := h
  have HS : Hid (Beside r w w) := Beside.of (Below.refl _ _)
  clear h
  go_enter Try.func27, Try.ntmps27
  go_wp2_with fail
  refine (near_any 0 900 (by omega) (by omega) (by omega) (HR.out.below (by repeat (first | with_reducible exact Below.refl _ _ | with_reducible refine Below.setCell ?_ (by first | omega | (simp; done) | (simp; omega)) _ | with_reducible refine bDrewN ?_ _ | with_reducible refine Below.drew ?_ | with_reducible refine Below.alloc ?_ (by first | omega | (simp; done) | (simp; omega)) _)))).mono ?_
  rintro e w1 ⟨v0, pv0, rfl, v0a, v0b, R_, b_⟩
  have sz_ : w.heap.size ≤ w.heap.size := HS.out.2.2.2.1
  have zr_ : r < w.heap.size := HR.out.1
  have bb : Beside r w w1 := (Beside.of (show Below w.heap.size w _ from (by repeat (first | with_reducible exact Below.refl _ _ | with_reducible refine Below.setCell ?_ (by first | omega | (simp; done) | (simp; omega)) _ | with_reducible refine bDrewN ?_ _ | with_reducible refine Below.drew ?_ | with_reducible refine Below.alloc ?_ (by first | omega | (simp; done) | (simp; omega)) _)))).trans b_
  obtain ⟨gq, hgq⟩ : ∃ g, g = w.heap.size := ⟨_, rfl⟩
  have Hq : Hid (Blk w1 gq [.int .i64 0, .int .i64 0, .int .i64 0]) := by
    show Blk _ _ _
    have q := ((Blk.new w #[.int .i64 0, .int .i64 0, .int .i64 0] 33)).beside b_ (by first | omega | (simp; omega))
    rw [hgq]; exact q
  replace HS : Hid (Beside r w w1) := HS.out.trans bb
  replace HR : Hid (Rd w1 r s n c pv0) := R_
  clear R_
  have lgq : w.heap.size ≤ gq := by omega
  have rgq : r < gq := by omega
  try rw [← hgq]
  clear hgq
  clear bb b_ sz_ zr_ 
  go_wp2_with fail
  refine (near_any 0 300 (by omega) (by omega) (by omega) (HR.out.below (by repeat (first | with_reducible exact Below.refl _ _ | with_reducible refine Below.setCell ?_ (by first | omega | (simp; done) | (simp; omega)) _ | with_reducible refine bDrewN ?_ _ | with_reducible refine Below.drew ?_ | with_reducible refine Below.alloc ?_ (by first | omega | (simp; done) | (simp; omega)) _)))).mono ?_
  rintro e w2 ⟨v1, pv1, rfl, v1a, v1b, R_, b_⟩
  have Hq_z : gq < w1.heap.size := Hq.out.1
  have sz_ : w.heap.size ≤ w1.heap.size := HS.out.2.2.2.1
  have zr_ : r < w1.heap.size := HR.out.1
  have bb : Beside r w1 w2 := (Beside.of (show Below w1.heap.size w1 _ from (by repeat (first | with_reducible exact Below.refl _ _ | with_reducible refine Below.setCell ?_ (by first | omega | (simp; done) | (simp; omega)) _ | with_reducible refine bDrewN ?_ _ | with_reducible refine Below.drew ?_ | with_reducible refine Below.alloc ?_ (by first | omega | (simp; done) | (simp; omega)) _)))).trans b_
  replace Hq : Hid (Blk w2 gq [.int .i64 0, .int .i64 0, .int .i64 0]) := Hq.out.beside bb (by omega)
  replace HS : Hid (Beside r w w2) := HS.out.trans bb
  replace HR : Hid (Rd w2 r s n c pv1) := R_
  clear R_
  clear bb b_ sz_ zr_ Hq_z
  go_wp2_with fail
  refine (near_any 0 365 (by omega) (by omega) (by omega) (HR.out.below (by repeat (first | with_reducible exact Below.refl _ _ | with_reducible refine Below.setCell ?_ (by first | omega | (simp; done) | (simp; omega)) _ | with_reducible refine bDrewN ?_ _ | with_reducible refine Below.drew ?_ | with_reducible refine Below.alloc ?_ (by first | omega | (simp; done) | (simp; omega)) _)))).mono ?_
  rintro e w3 ⟨v2, pv2, rfl, v2a, v2b, R_, b_⟩
  have Hq_z : gq < w2.heap.size := Hq.out.1
  have sz_ : w.heap.size ≤ w2.heap.size := HS.out.2.2.2.1
  have zr_ : r < w2.heap.size := HR.out.1
  have bb : Beside r w2 w3 := (Beside.of (show Below w2.heap.size w2 _ from (by repeat (first | with_reducible exact Below.refl _ _ | with_reducible refine Below.setCell ?_ (by first | omega | (simp; done) | (simp; omega)) _ | with_reducible refine bDrewN ?_ _ | with_reducible refine Below.drew ?_ | with_reducible refine Below.alloc ?_ (by first | omega | (simp; done) | (simp; omega)) _)))).trans b_
  replace Hq : Hid (Blk w3 gq [.int .i64 0, .int .i64 0, .int .i64 0]) := Hq.out.beside bb (by omega)
  replace HS : Hid (Beside r w w3) := HS.out.trans bb
  replace HR : Hid (Rd w3 r s n c pv2) := R_
  clear R_
  clear bb b_ sz_ zr_ Hq_z
  go_wp2_with fail
  refine (once_any 20 (by omega) (by omega) (HR.out.below (by repeat (first | with_reducible exact Below.refl _ _ | with_reducible refine Below.setCell ?_ (by first | omega | (simp; done) | (simp; omega)) _ | with_reducible refine bDrewN ?_ _ | with_reducible refine Below.drew ?_ | with_reducible refine Below.alloc ?_ (by first | omega | (simp; done) | (simp; omega)) _)))).mono ?_
  rintro e w4 ⟨fl, pf, rfl, R_, b_⟩
  have Hq_z : gq < w3.heap.size := Hq.out.1
  have sz_ : w.heap.size ≤ w3.heap.size := HS.out.2.2.2.1
  have zr_ : r < w3.heap.size := HR.out.1
  have bb : Beside r w3 w4 := (Beside.of (show Below w3.heap.size w3 _ from (by repeat (first | with_reducible exact Below.refl _ _ | with_reducible refine Below.setCell ?_ (by first | omega | (simp; done) | (simp; omega)) _ | with_reducible refine bDrewN ?_ _ | with_reducible refine Below.drew ?_ | with_reducible refine Below.alloc ?_ (by first | omega | (simp; done) | (simp; omega)) _)))).trans b_
  obtain ⟨gg, hgg⟩ : ∃ g, g = w3.heap.size := ⟨_, rfl⟩
  have Hg : Hid (Blk w4 gg [.int .i64 v0, .int .i64 v1, .int .i64 v2]) := by
    show Blk _ _ _
    have q := ((Blk.new w3 #[.int .i64 v0, .int .i64 v1, .int .i64 v2] 33)).beside b_ (by first | omega | (simp; omega))
    rw [hgg]; exact q
  replace Hq : Hid (Blk w4 gq [.int .i64 0, .int .i64 0, .int .i64 0]) := Hq.out.beside bb (by omega)
  replace HS : Hid (Beside r w w4) := HS.out.trans bb
  replace HR : Hid (Rd w4 r s n c pf) := R_
  clear R_
  have lgg : w.heap.size ≤ gg := by omega
  have rgg : r < gg := by omega
  have dgqgg : gq < gg := by omega
  try rw [← hgg]
  clear hgg
  clear bb b_ sz_ zr_ Hq_z
  go_upto_if 12 with fail
  go_cut [] (fun wx => ∃ (py : Nat) (y4g0 : Int), Hid (Rd wx r s n c py) ∧ Hid (Beside r w wx) ∧ Hid (Blk wx gq [.int .i64 0, .int .i64 0, .int .i64 0]) ∧ Hid (Blk wx gg [.int .i64 y4g0, .int .i64 v1, .int .i64 v2]))
  case first =>
    cases fl
    · go_wp2_with fail
      go_meet
      exact ⟨pf, v0, HR, HS, Hq, Hg⟩
    · skip
      go_wp2_with fail
      refine (off_any 0 1000000000 (by omega) (by omega) (by omega) (HR.out.below (by repeat (first | with_reducible exact Below.refl _ _ | with_reducible refine Below.setCell ?_ (by first | omega | (simp; done) | (simp; omega)) _ | with_reducible refine bDrewN ?_ _ | with_reducible refine Below.drew ?_ | with_reducible refine Below.alloc ?_ (by first | omega | (simp; done) | (simp; omega)) _)))).mono ?_
      rintro e w5 ⟨x, px, rfl, x0, R_, b_⟩
      have Hq_z : gq < w4.heap.size := Hq.out.1
      have Hg_z : gg < w4.heap.size := Hg.out.1
      have sz_ : w.heap.size ≤ w4.heap.size := HS.out.2.2.2.1
      have zr_ : r < w4.heap.size := HR.out.1
      have bb : Beside r w4 w5 := (Beside.of (show Below w4.heap.size w4 _ from (by repeat (first | with_reducible exact Below.refl _ _ | with_reducible refine Below.setCell ?_ (by first | omega | (simp; done) | (simp; omega)) _ | with_reducible refine bDrewN ?_ _ | with_reducible refine Below.drew ?_ | with_reducible refine Below.alloc ?_ (by first | omega | (simp; done) | (simp; omega)) _)))).trans b_
      replace Hq : Hid (Blk w5 gq [.int .i64 0, .int .i64 0, .int .i64 0]) := Hq.out.beside bb (by omega)
      replace Hg : Hid (Blk w5 gg [.int .i64 v0, .int .i64 v1, .int .i64 v2]) := Hg.out.beside bb (by omega)
      replace HS : Hid (Beside r w w5) := HS.out.trans bb
      replace HR : Hid (Rd w5 r s n c px) := R_
      clear R_
      clear bb b_ sz_ zr_ Hq_z Hg_z
      obtain ⟨z_g, f_g, c_g⟩ := Hg.out
      have gc0 : w5.cell? ⟨gg, 0, none⟩ = some (.int .i64 v0) := c_g 0 _ rfl
      have gc1 : w5.cell? ⟨gg, 1, none⟩ = some (.int .i64 v1) := c_g 1 _ rfl
      have gc2 : w5.cell? ⟨gg, 2, none⟩ = some (.int .i64 v2) := c_g 2 _ rfl
      have fg := f_g
      clear f_g c_g
      have fg_ := fg 0
      go_wp2_with fail
      clear gc0 gc1 gc2 z_g fg
      clear fg_
      have Hq_z : gq < w5.heap.size := Hq.out.1
      have Hg_z : gg < w5.heap.size := Hg.out.1
      have sz_ : w.heap.size ≤ w5.heap.size := HS.out.2.2.2.1
      have zr_ : r < w5.heap.size := HR.out.1
      obtain ⟨w6, hw_⟩ : ∃ x_, x_ = (w5.setCell ⟨gg, 0, none⟩ (.int .i64 x)) := ⟨_, rfl⟩
      rw [← hw_]
      replace Hq : Hid (Blk w6 gq [.int .i64 0, .int .i64 0, .int .i64 0]) := by show Blk _ _ _; rw [hw_]; exact (Hq.out.beside (Beside.setCell gg _ 0 _) (by omega))
      replace Hg : Hid (Blk w6 gg [.int .i64 x, .int .i64 v1, .int .i64 v2]) := by show Blk _ _ _; rw [hw_]; exact (Hg.out.set 0 (.int .i64 x))
      replace HR : Hid (Rd w6 r s n c px) := by show Rd _ _ _ _ _ _; rw [hw_]; exact Rd.below' HR.out (show Below (r + 1) w5 _ from (by repeat (first | with_reducible exact Below.refl _ _ | with_reducible refine Below.setCell ?_ (by first | omega | (simp; done) | (simp; omega)) _ | with_reducible refine bDrewN ?_ _ | with_reducible refine Below.drew ?_ | with_reducible refine Below.alloc ?_ (by first | omega | (simp; done) | (simp; omega)) _)))
      replace HS : Hid (Beside r w w6) := by show Beside _ _ _; rw [hw_]; exact HS.out.onB (show Below w.heap.size w5 _ from (by repeat (first | with_reducible exact Below.refl _ _ | with_reducible refine Below.setCell ?_ (by first | omega | (simp; done) | (simp; omega)) _ | with_reducible refine bDrewN ?_ _ | with_reducible refine Below.drew ?_ | with_reducible refine Below.alloc ?_ (by first | omega | (simp; done) | (simp; omega)) _)))
      clear hw_
      clear sz_ zr_ Hq_z Hg_z
      go_meet
      exact ⟨px, x, HR, HS, Hq, Hg⟩
  case rest =>
    clear HR HS Hq Hg
    obtain ⟨p7, y4g0, HR, HS, Hq, Hg⟩ := hcut
    rename World => w7
    go_wp2_with fail
    refine (once_any 30 (by omega) (by omega) (HR.out.below (by repeat (first | with_reducible exact Below.refl _ _ | with_reducible refine Below.setCell ?_ (by first | omega | (simp; done) | (simp; omega)) _ | with_reducible refine bDrewN ?_ _ | with_reducible refine Below.drew ?_ | with_reducible refine Below.alloc ?_ (by first | omega | (simp; done) | (simp; omega)) _)))).mono ?_
    rintro e w8 ⟨fl2, pf2, rfl, R_, b_⟩
    have Hq_z : gq < w7.heap.size := Hq.out.1
    have Hg_z : gg < w7.heap.size := Hg.out.1
    have sz_ : w.heap.size ≤ w7.heap.size := HS.out.2.2.2.1
    have zr_ : r < w7.heap.size := HR.out.1
    have bb : Beside r w7 w8 := (Beside.of (show Below w7.heap.size w7 _ from (by repeat (first | with_reducible exact Below.refl _ _ | with_reducible refine Below.setCell ?_ (by first | omega | (simp; done) | (simp; omega)) _ | with_reducible refine bDrewN ?_ _ | with_reducible refine Below.drew ?_ | with_reducible refine Below.alloc ?_ (by first | omega | (simp; done) | (simp; omega)) _)))).trans b_
    replace Hq : Hid (Blk w8 gq [.int .i64 0, .int .i64 0, .int .i64 0]) := Hq.out.beside bb (by omega)
    replace Hg : Hid (Blk w8 gg [.int .i64 y4g0, .int .i64 v1, .int .i64 v2]) := Hg.out.beside bb (by omega)
    replace HS : Hid (Beside r w w8) := HS.out.trans bb
    replace HR : Hid (Rd w8 r s n c pf2) := R_
    clear R_
    clear bb b_ sz_ zr_ Hq_z Hg_z
    go_upto_if 17 with fail
    go_cut [] (fun wx => ∃ (py : Nat) (y8g1 : Int), Hid (Rd wx r s n c py) ∧ Hid (Beside r w wx) ∧ Hid (Blk wx gq [.int .i64 0, .int .i64 0, .int .i64 0]) ∧ Hid (Blk wx gg [.int .i64 y4g0, .int .i64 y8g1, .int .i64 v2]))
    case first =>
      cases fl2
      · go_wp2_with fail
        go_meet
        exact ⟨pf2, v1, HR, HS, Hq, Hg⟩
      · skip
        go_wp2_with fail
        refine (off_any 0 1000000000 (by omega) (by omega) (by omega) (HR.out.below (by repeat (first | with_reducible exact Below.refl _ _ | with_reducible refine Below.setCell ?_ (by first | omega | (simp; done) | (simp; omega)) _ | with_reducible refine bDrewN ?_ _ | with_reducible refine Below.drew ?_ | with_reducible refine Below.alloc ?_ (by first | omega | (simp; done) | (simp; omega)) _)))).mono ?_
        rintro e w9 ⟨x, px, rfl, x0, R_, b_⟩
        have Hq_z : gq < w8.heap.size := Hq.out.1
        have Hg_z : gg < w8.heap.size := Hg.out.1
        have sz_ : w.heap.size ≤ w8.heap.size := HS.out.2.2.2.1
        have zr_ : r < w8.heap.size := HR.out.1
        have bb : Beside r w8 w9 := (Beside.of (show Below w8.heap.size w8 _ from (by repeat (first | with_reducible exact Below.refl _ _ | with_reducible refine Below.setCell ?_ (by first | omega | (simp; done) | (simp; omega)) _ | with_reducible refine bDrewN ?_ _ | with_reducible refine Below.drew ?_ | with_reducible refine Below.alloc ?_ (by first | omega | (simp; done) | (simp; omega)) _)))).trans b_
        replace Hq : Hid (Blk w9 gq [.int .i64 0, .int .i64 0, .int .i64 0]) := Hq.out.beside bb (by omega)
        replace Hg : Hid (Blk w9 gg [.int .i64 y4g0, .int .i64 v1, .int .i64 v2]) := Hg.out.beside bb (by omega)
        replace HS : Hid (Beside r w w9) := HS.out.trans bb
        replace HR : Hid (Rd w9 r s n c px) := R_
        clear R_
        clear bb b_ sz_ zr_ Hq_z Hg_z
        obtain ⟨z_g, f_g, c_g⟩ := Hg.out
        have gc0 : w9.cell? ⟨gg, 0, none⟩ = some (.int .i64 y4g0) := c_g 0 _ rfl
        have gc1 : w9.cell? ⟨gg, 1, none⟩ = some (.int .i64 v1) := c_g 1 _ rfl
        have gc2 : w9.cell? ⟨gg, 2, none⟩ = some (.int .i64 v2) := c_g 2 _ rfl
        have fg := f_g
        clear f_g c_g
        have fg_ := fg 1
        go_wp2_with fail
        clear gc0 gc1 gc2 z_g fg
        clear fg_
        have Hq_z : gq < w9.heap.size := Hq.out.1
        have Hg_z : gg < w9.heap.size := Hg.out.1
        have sz_ : w.heap.size ≤ w9.heap.size := HS.out.2.2.2.1
        have zr_ : r < w9.heap.size := HR.out.1
        obtain ⟨w10, hw_⟩ : ∃ x_, x_ = (w9.setCell ⟨gg, 1, none⟩ (.int .i64 x)) := ⟨_, rfl⟩
        rw [← hw_]
        replace Hq : Hid (Blk w10 gq [.int .i64 0, .int .i64 0, .int .i64 0]) := by show Blk _ _ _; rw [hw_]; exact (Hq.out.beside (Beside.setCell gg _ 1 _) (by omega))
        replace Hg : Hid (Blk w10 gg [.int .i64 y4g0, .int .i64 x, .int .i64 v2]) := by show Blk _ _ _; rw [hw_]; exact (Hg.out.set 1 (.int .i64 x))
        replace HR : Hid (Rd w10 r s n c px) := by show Rd _ _ _ _ _ _; rw [hw_]; exact Rd.below' HR.out (show Below (r + 1) w9 _ from (by repeat (first | with_reducible exact Below.refl _ _ | with_reducible refine Below.setCell ?_ (by first | omega | (simp; done) | (simp; omega)) _ | with_reducible refine bDrewN ?_ _ | with_reducible refine Below.drew ?_ | with_reducible refine Below.alloc ?_ (by first | omega | (simp; done) | (simp; omega)) _)))
        replace HS : Hid (Beside r w w10) := by show Beside _ _ _; rw [hw_]; exact HS.out.onB (show Below w.heap.size w9 _ from (by repeat (first | with_reducible exact Below.refl _ _ | with_reducible refine Below.setCell ?_ (by first | omega | (simp; done) | (simp; omega)) _ | with_reducible refine bDrewN ?_ _ | with_reducible refine Below.drew ?_ | with_reducible refine Below.alloc ?_ (by first | omega | (simp; done) | (simp; omega)) _)))
        clear hw_
        clear sz_ zr_ Hq_z Hg_z
        go_meet
        exact ⟨px, x, HR, HS, Hq, Hg⟩
    case rest =>
      clear HR HS Hq Hg
      obtain ⟨p11, y8g1, HR, HS, Hq, Hg⟩ := hcut
      rename World => w11
      obtain ⟨z_g, f_g, c_g⟩ := Hg.out
      have gc0 : w11.cell? ⟨gg, 0, none⟩ = some (.int .i64 y4g0) := c_g 0 _ rfl
      have gc1 : w11.cell? ⟨gg, 1, none⟩ = some (.int .i64 y8g1) := c_g 1 _ rfl
      have gc2 : w11.cell? ⟨gg, 2, none⟩ = some (.int .i64 v2) := c_g 2 _ rfl
      have fg := f_g
      clear f_g c_g
      obtain ⟨z_q, f_q, c_q⟩ := Hq.out
      have qc0 : w11.cell? ⟨gq, 0, none⟩ = some (.int .i64 0) := c_q 0 _ rfl
      have qc1 : w11.cell? ⟨gq, 1, none⟩ = some (.int .i64 0) := c_q 1 _ rfl
      have qc2 : w11.cell? ⟨gq, 2, none⟩ = some (.int .i64 0) := c_q 2 _ rfl
      have fq := f_q
      clear f_q c_q
      have fq0 := fq 0
      have fq1 := fq 1
      have fq2 := fq 2
      have n_ : gg ≠ gq := by omega
      have BS := HS.out
      have sBS := BS.2.2.2.1
      go_wp2
      exact bodyPost_ret (v := .agg #[.int .i64 y4g0, .int .i64 y8g1, .int .i64 v2]) (by simp [results, Try.results27, go_sem, gc0, gc1, gc2, qc0, qc1, qc2, n_, n_.symm]) rfl ⟨y4g0, y8g1, v2, p11, rfl, Rd.below' HR.out (show Below (r + 1) w11 _ from (by repeat (first | with_reducible exact Below.refl _ _ | with_reducible refine Below.setCell ?_ (by first | omega | (simp; done) | (simp; omega)) _ | with_reducible refine bDrewN ?_ _ | with_reducible refine Below.drew ?_ | with_reducible refine Below.alloc ?_ (by first | omega | (simp; done) | (simp; omega)) _))), HS.out.onB (show Below w.heap.size w11 _ from (by repeat (first | with_reducible exact Below.refl _ _ | with_reducible refine Below.setCell ?_ (by first | omega | (simp; done) | (simp; omega)) _ | with_reducible refine bDrewN ?_ _ | with_reducible refine Below.drew ?_ | with_reducible refine Below.alloc ?_ (by first | omega | (simp; done) | (simp; omega)) _)))⟩
set_option maxRecDepth 20000 in
set_option maxHeartbeats 8000000 in
theorem rule_any {r : Nat} {s : Option Addr} {n c p : Nat} {w : World} (h : Hid (Rd w r s n c p)) :
    Calls Try.prog 25 #[.pointer (some ⟨r, 0, none⟩)] w fun e w' => CurPost r s n c w e w' := by
  have zr : r < w.heap.size := h.out.1
  have HR : Hid (Rd w r s n c p) := h
  have HS : Hid (Beside r w w) := Beside.of (Below.refl _ _)
  clear h
  go_enter Try.func25, Try.ntmps25
  go_wp2_with fail
  refine (near_any 0 2000 (by omega) (by omega) (by omega) (HR.out.below (by repeat (first | with_reducible exact Below.refl _ _ | with_reducible refine Below.setCell ?_ (by first | omega | (simp; done) | (simp; omega)) _ | with_reducible refine bDrewN ?_ _ | with_reducible refine Below.drew ?_ | with_reducible refine Below.alloc ?_ (by first | omega | (simp; done) | (simp; omega)) _)))).mono ?_
  rintro e w1 ⟨v0, pv0, rfl, v0a, v0b, R_, b_⟩
  have sz_ : w.heap.size ≤ w.heap.size := HS.out.2.2.2.1
  have zr_ : r < w.heap.size := HR.out.1
  have bb : Beside r w w1 := (Beside.of (show Below w.heap.size w _ from (by repeat (first | with_reducible exact Below.refl _ _ | with_reducible refine Below.setCell ?_ (by first | omega | (simp; done) | (simp; omega)) _ | with_reducible refine bDrewN ?_ _ | with_reducible refine Below.drew ?_ | with_reducible refine Below.alloc ?_ (by first | omega | (simp; done) | (simp; omega)) _)))).trans b_
  replace HS : Hid (Beside r w w1) := HS.out.trans bb
  replace HR : Hid (Rd w1 r s n c pv0) := R_
  clear R_
  clear bb b_ sz_ zr_ 
  go_wp2_with fail
  refine (near_any 0 2000 (by omega) (by omega) (by omega) (HR.out.below (by repeat (first | with_reducible exact Below.refl _ _ | with_reducible refine Below.setCell ?_ (by first | omega | (simp; done) | (simp; omega)) _ | with_reducible refine bDrewN ?_ _ | with_reducible refine Below.drew ?_ | with_reducible refine Below.alloc ?_ (by first | omega | (simp; done) | (simp; omega)) _)))).mono ?_
  rintro e w2 ⟨v1, pv1, rfl, v1a, v1b, R_, b_⟩
  have sz_ : w.heap.size ≤ w1.heap.size := HS.out.2.2.2.1
  have zr_ : r < w1.heap.size := HR.out.1
  have bb : Beside r w1 w2 := (Beside.of (show Below w1.heap.size w1 _ from (by repeat (first | with_reducible exact Below.refl _ _ | with_reducible refine Below.setCell ?_ (by first | omega | (simp; done) | (simp; omega)) _ | with_reducible refine bDrewN ?_ _ | with_reducible refine Below.drew ?_ | with_reducible refine Below.alloc ?_ (by first | omega | (simp; done) | (simp; omega)) _)))).trans b_
  replace HS : Hid (Beside r w w2) := HS.out.trans bb
  replace HR : Hid (Rd w2 r s n c pv1) := R_
  clear R_
  clear bb b_ sz_ zr_ 
  go_wp2_with fail
  refine (near_any (-50) 2000 (by omega) (by omega) (by omega) (HR.out.below (by repeat (first | with_reducible exact Below.refl _ _ | with_reducible refine Below.setCell ?_ (by first | omega | (simp; done) | (simp; omega)) _ | with_reducible refine bDrewN ?_ _ | with_reducible refine Below.drew ?_ | with_reducible refine Below.alloc ?_ (by first | omega | (simp; done) | (simp; omega)) _)))).mono ?_
  rintro e w3 ⟨v2, pv2, rfl, v2a, v2b, R_, b_⟩
  have sz_ : w.heap.size ≤ w2.heap.size := HS.out.2.2.2.1
  have zr_ : r < w2.heap.size := HR.out.1
  have bb : Beside r w2 w3 := (Beside.of (show Below w2.heap.size w2 _ from (by repeat (first | with_reducible exact Below.refl _ _ | with_reducible refine Below.setCell ?_ (by first | omega | (simp; done) | (simp; omega)) _ | with_reducible refine bDrewN ?_ _ | with_reducible refine Below.drew ?_ | with_reducible refine Below.alloc ?_ (by first | omega | (simp; done) | (simp; omega)) _)))).trans b_
  replace HS : Hid (Beside r w w3) := HS.out.trans bb
  replace HR : Hid (Rd w3 r s n c pv2) := R_
  clear R_
  clear bb b_ sz_ zr_ 
  go_wp2_with fail
  refine (near_any 0 2000 (by omega) (by omega) (by omega) (HR.out.below (by repeat (first | with_reducible exact Below.refl _ _ | with_reducible refine Below.setCell ?_ (by first | omega | (simp; done) | (simp; omega)) _ | with_reducible refine bDrewN ?_ _ | with_reducible refine Below.drew ?_ | with_reducible refine Below.alloc ?_ (by first | omega | (simp; done) | (simp; omega)) _)))).mono ?_
  rintro e w4 ⟨v3, pv3, rfl, v3a, v3b, R_, b_⟩
  have sz_ : w.heap.size ≤ w3.heap.size := HS.out.2.2.2.1
  have zr_ : r < w3.heap.size := HR.out.1
  have bb : Beside r w3 w4 := (Beside.of (show Below w3.heap.size w3 _ from (by repeat (first | with_reducible exact Below.refl _ _ | with_reducible refine Below.setCell ?_ (by first | omega | (simp; done) | (simp; omega)) _ | with_reducible refine bDrewN ?_ _ | with_reducible refine Below.drew ?_ | with_reducible refine Below.alloc ?_ (by first | omega | (simp; done) | (simp; omega)) _)))).trans b_
  replace HS : Hid (Beside r w w4) := HS.out.trans bb
  replace HR : Hid (Rd w4 r s n c pv3) := R_
  clear R_
  clear bb b_ sz_ zr_ 
  go_wp2_with fail
  refine (once_any 20 (by omega) (by omega) (HR.out.below (by repeat (first | with_reducible exact Below.refl _ _ | with_reducible refine Below.setCell ?_ (by first | omega | (simp; done) | (simp; omega)) _ | with_reducible refine bDrewN ?_ _ | with_reducible refine Below.drew ?_ | with_reducible refine Below.alloc ?_ (by first | omega | (simp; done) | (simp; omega)) _)))).mono ?_
  rintro e w5 ⟨fl, pf, rfl, R_, b_⟩
  have sz_ : w.heap.size ≤ w4.heap.size := HS.out.2.2.2.1
  have zr_ : r < w4.heap.size := HR.out.1
  have bb : Beside r w4 w5 := (Beside.of (show Below w4.heap.size w4 _ from (by repeat (first | with_reducible exact Below.refl _ _ | with_reducible refine Below.setCell ?_ (by first | omega | (simp; done) | (simp; omega)) _ | with_reducible refine bDrewN ?_ _ | with_reducible refine Below.drew ?_ | with_reducible refine Below.alloc ?_ (by first | omega | (simp; done) | (simp; omega)) _)))).trans b_
  obtain ⟨gg, hgg⟩ : ∃ g, g = w4.heap.size := ⟨_, rfl⟩
  have Hg : Hid (Blk w5 gg [.int .i64 0, .int .i64 v0, .int .i64 90, .int .i64 v1, .int .i64 200, .int .i64 v2, .int .i64 365, .int .i64 v3]) := by
    show Blk _ _ _
    have q := ((Blk.new w4 #[.int .i64 0, .int .i64 v0, .int .i64 90, .int .i64 v1, .int .i64 200, .int .i64 v2, .int .i64 365, .int .i64 v3] 67)).beside b_ (by first | omega | (simp; omega))
    rw [hgg]; exact q
  replace HS : Hid (Beside r w w5) := HS.out.trans bb
  replace HR : Hid (Rd w5 r s n c pf) := R_
  clear R_
  have lgg : w.heap.size ≤ gg := by omega
  have rgg : r < gg := by omega
  try rw [← hgg]
  clear hgg
  clear bb b_ sz_ zr_ 
  cases fl
  · skip
    have BS := HS.out
    have RF : OwnI w.heap.size w5 (some ⟨gg, 0, none⟩) (4 * 2) (fun j => (([0, v0, 90, v1, 200, v2, 365, v3] : List Int)[j]?).getD 0) := fun j hj => by
      refine ⟨gg, rfl, lgg, Hg.out.1, ?_, Hg.out.2.1 j⟩
      have h8 : j = 0 ∨ j = 1 ∨ j = 2 ∨ j = 3 ∨ j = 4 ∨ j = 5 ∨ j = 6 ∨ j = 7 := by omega
      rcases h8 with rfl | rfl | rfl | rfl | rfl | rfl | rfl | rfl <;> exact Hg.out.2.2 _ _ rfl
    go_wp2
    go_ret
    unfold CurPost
    exact ⟨_, 4, 4, _, pf, rfl, by omega, by omega, RF, HR.out, BS⟩
  · skip
    go_wp2_with fail
    refine (curve_any HR).mono ?_
    rintro e wz ⟨t, m, cap, U, p', rfl, m1, m14, RF, RR, bz⟩
    have BS := HS.out.trans bz
    have HF : Hid (OwnI w.heap.size wz t (m * 2) U) := RF.mono HS.out.2.2.2.1
    have HRz : Hid (Rd wz r s n c p') := RR
    clear RF RR bz
    go_wp2
    go_ret
    unfold CurPost
    exact ⟨t, m, cap, U, p', rfl, m1, m14, HF.out, HRz.out, BS⟩
set_option maxRecDepth 20000 in
set_option maxHeartbeats 16000000 in
theorem basin_any {r : Nat} {s : Option Addr} {n c p : Nat} {w : World} (h : Hid (Rd w r s n c p)) :
    Calls Try.prog 22 #[.pointer (some ⟨r, 0, none⟩)] w fun e w' => ∃ (x0 x1 x2 x3 : Int) (p' : Nat), e = .returned (.agg #[.int .i64 x0, .int .i64 x1, .int .i64 x2, .int .i64 x3]) ∧ Rd w' r s n c p' ∧ Beside r w w' := by
  have zr : r < w.heap.size := h.out.1
  have HR : Hid (Rd w r s n c p) := h
  have HS : Hid (Beside r w w) := Beside.of (Below.refl _ _)
  clear h
  go_enter Try.func22, Try.ntmps22
  go_wp2_with fail
  refine (near_any 0 3000 (by omega) (by omega) (by omega) (HR.out.below (by repeat (first | with_reducible exact Below.refl _ _ | with_reducible refine Below.setCell ?_ (by first | omega | (simp; done) | (simp; omega)) _ | with_reducible refine bDrewN ?_ _ | with_reducible refine Below.drew ?_ | with_reducible refine Below.alloc ?_ (by first | omega | (simp; done) | (simp; omega)) _)))).mono ?_
  rintro e w1 ⟨v0, pv0, rfl, v0a, v0b, R_, b_⟩
  have sz_ : w.heap.size ≤ w.heap.size := HS.out.2.2.2.1
  have zr_ : r < w.heap.size := HR.out.1
  have bb : Beside r w w1 := (Beside.of (show Below w.heap.size w _ from (by repeat (first | with_reducible exact Below.refl _ _ | with_reducible refine Below.setCell ?_ (by first | omega | (simp; done) | (simp; omega)) _ | with_reducible refine bDrewN ?_ _ | with_reducible refine Below.drew ?_ | with_reducible refine Below.alloc ?_ (by first | omega | (simp; done) | (simp; omega)) _)))).trans b_
  obtain ⟨gq, hgq⟩ : ∃ g, g = w.heap.size := ⟨_, rfl⟩
  have Hq : Hid (Blk w1 gq [.int .i64 0, .int .i64 0, .int .i64 0, .int .i64 0]) := by
    show Blk _ _ _
    have q := ((Blk.new w #[.int .i64 0, .int .i64 0, .int .i64 0, .int .i64 0] 25)).beside b_ (by first | omega | (simp; omega))
    rw [hgq]; exact q
  replace HS : Hid (Beside r w w1) := HS.out.trans bb
  replace HR : Hid (Rd w1 r s n c pv0) := R_
  clear R_
  have lgq : w.heap.size ≤ gq := by omega
  have rgq : r < gq := by omega
  try rw [← hgq]
  clear hgq
  clear bb b_ sz_ zr_ 
  go_wp2_with fail
  refine (near_any 0 5000 (by omega) (by omega) (by omega) (HR.out.below (by repeat (first | with_reducible exact Below.refl _ _ | with_reducible refine Below.setCell ?_ (by first | omega | (simp; done) | (simp; omega)) _ | with_reducible refine bDrewN ?_ _ | with_reducible refine Below.drew ?_ | with_reducible refine Below.alloc ?_ (by first | omega | (simp; done) | (simp; omega)) _)))).mono ?_
  rintro e w2 ⟨v1, pv1, rfl, v1a, v1b, R_, b_⟩
  have Hq_z : gq < w1.heap.size := Hq.out.1
  have sz_ : w.heap.size ≤ w1.heap.size := HS.out.2.2.2.1
  have zr_ : r < w1.heap.size := HR.out.1
  have bb : Beside r w1 w2 := (Beside.of (show Below w1.heap.size w1 _ from (by repeat (first | with_reducible exact Below.refl _ _ | with_reducible refine Below.setCell ?_ (by first | omega | (simp; done) | (simp; omega)) _ | with_reducible refine bDrewN ?_ _ | with_reducible refine Below.drew ?_ | with_reducible refine Below.alloc ?_ (by first | omega | (simp; done) | (simp; omega)) _)))).trans b_
  replace Hq : Hid (Blk w2 gq [.int .i64 0, .int .i64 0, .int .i64 0, .int .i64 0]) := Hq.out.beside bb (by omega)
  replace HS : Hid (Beside r w w2) := HS.out.trans bb
  replace HR : Hid (Rd w2 r s n c pv1) := R_
  clear R_
  clear bb b_ sz_ zr_ Hq_z
  go_wp2_with fail
  refine (near_any 0 100 (by omega) (by omega) (by omega) (HR.out.below (by repeat (first | with_reducible exact Below.refl _ _ | with_reducible refine Below.setCell ?_ (by first | omega | (simp; done) | (simp; omega)) _ | with_reducible refine bDrewN ?_ _ | with_reducible refine Below.drew ?_ | with_reducible refine Below.alloc ?_ (by first | omega | (simp; done) | (simp; omega)) _)))).mono ?_
  rintro e w3 ⟨v2, pv2, rfl, v2a, v2b, R_, b_⟩
  have Hq_z : gq < w2.heap.size := Hq.out.1
  have sz_ : w.heap.size ≤ w2.heap.size := HS.out.2.2.2.1
  have zr_ : r < w2.heap.size := HR.out.1
  have bb : Beside r w2 w3 := (Beside.of (show Below w2.heap.size w2 _ from (by repeat (first | with_reducible exact Below.refl _ _ | with_reducible refine Below.setCell ?_ (by first | omega | (simp; done) | (simp; omega)) _ | with_reducible refine bDrewN ?_ _ | with_reducible refine Below.drew ?_ | with_reducible refine Below.alloc ?_ (by first | omega | (simp; done) | (simp; omega)) _)))).trans b_
  replace Hq : Hid (Blk w3 gq [.int .i64 0, .int .i64 0, .int .i64 0, .int .i64 0]) := Hq.out.beside bb (by omega)
  replace HS : Hid (Beside r w w3) := HS.out.trans bb
  replace HR : Hid (Rd w3 r s n c pv2) := R_
  clear R_
  clear bb b_ sz_ zr_ Hq_z
  go_upto_region 2 with fail
  have Hq_z : gq < w3.heap.size := Hq.out.1
  have sz_ : w.heap.size ≤ w3.heap.size := HS.out.2.2.2.1
  have zr_ : r < w3.heap.size := HR.out.1
  obtain ⟨w4, hw_⟩ : ∃ x_, x_ = (w3.alloc (.cells #[.int .i64 v0, .int .i64 0, .int .i64 v1, .int .i64 v2] 25)) := ⟨_, rfl⟩
  rw [← hw_]
  replace Hq : Hid (Blk w4 gq [.int .i64 0, .int .i64 0, .int .i64 0, .int .i64 0]) := by show Blk _ _ _; rw [hw_]; exact (Hq.out.below (below0 _ _))
  obtain ⟨gb, hgb⟩ : ∃ g, g = w3.heap.size := ⟨_, rfl⟩
  have Hb : Hid (Blk w4 gb [.int .i64 v0, .int .i64 0, .int .i64 v1, .int .i64 v2]) := by show Blk _ _ _; rw [hw_, hgb]; have q := (Blk.new w3 #[.int .i64 v0, .int .i64 0, .int .i64 v1, .int .i64 v2] 25); first | exact q | exact (by simpa using q)
  replace HR : Hid (Rd w4 r s n c pv2) := by show Rd _ _ _ _ _ _; rw [hw_]; exact Rd.below' HR.out (show Below (r + 1) w3 _ from (by repeat (first | with_reducible exact Below.refl _ _ | with_reducible refine Below.setCell ?_ (by first | omega | (simp; done) | (simp; omega)) _ | with_reducible refine bDrewN ?_ _ | with_reducible refine Below.drew ?_ | with_reducible refine Below.alloc ?_ (by first | omega | (simp; done) | (simp; omega)) _)))
  replace HS : Hid (Beside r w w4) := by show Beside _ _ _; rw [hw_]; exact HS.out.onB (show Below w.heap.size w3 _ from (by repeat (first | with_reducible exact Below.refl _ _ | with_reducible refine Below.setCell ?_ (by first | omega | (simp; done) | (simp; omega)) _ | with_reducible refine bDrewN ?_ _ | with_reducible refine Below.drew ?_ | with_reducible refine Below.alloc ?_ (by first | omega | (simp; done) | (simp; omega)) _)))
  clear hw_
  have lgb : w.heap.size ≤ gb := by omega
  have rgb : r < gb := by omega
  have dgqgb : gq < gb := by omega
  try rw [← hgb]
  clear hgb
  clear sz_ zr_ Hq_z
  obtain ⟨z_b, f_b, c_b⟩ := Hb.out
  have bc0 : w4.cell? ⟨gb, 0, none⟩ = some (.int .i64 v0) := c_b 0 _ rfl
  have bc1 : w4.cell? ⟨gb, 1, none⟩ = some (.int .i64 0) := c_b 1 _ rfl
  have bc2 : w4.cell? ⟨gb, 2, none⟩ = some (.int .i64 v1) := c_b 2 _ rfl
  have bc3 : w4.cell? ⟨gb, 3, none⟩ = some (.int .i64 v2) := c_b 3 _ rfl
  have fb := f_b
  clear f_b c_b
  have fb_ := fb 1
  go_upto_region 3 with fail
  clear bc0 bc1 bc2 bc3 z_b fb
  clear fb_
  have Hq_z : gq < w4.heap.size := Hq.out.1
  have Hb_z : gb < w4.heap.size := Hb.out.1
  have sz_ : w.heap.size ≤ w4.heap.size := HS.out.2.2.2.1
  have zr_ : r < w4.heap.size := HR.out.1
  obtain ⟨w5, hw_⟩ : ∃ x_, x_ = (w4.setCell ⟨gb, 1, none⟩ (.int .i64 (v0 + v1 + v2))) := ⟨_, rfl⟩
  rw [← hw_]
  replace Hq : Hid (Blk w5 gq [.int .i64 0, .int .i64 0, .int .i64 0, .int .i64 0]) := by show Blk _ _ _; rw [hw_]; exact (Hq.out.beside (Beside.setCell gb _ 1 _) (by omega))
  replace Hb : Hid (Blk w5 gb [.int .i64 v0, .int .i64 (v0 + v1 + v2), .int .i64 v1, .int .i64 v2]) := by show Blk _ _ _; rw [hw_]; exact (Hb.out.set 1 (.int .i64 (v0 + v1 + v2)))
  replace HR : Hid (Rd w5 r s n c pv2) := by show Rd _ _ _ _ _ _; rw [hw_]; exact Rd.below' HR.out (show Below (r + 1) w4 _ from (by repeat (first | with_reducible exact Below.refl _ _ | with_reducible refine Below.setCell ?_ (by first | omega | (simp; done) | (simp; omega)) _ | with_reducible refine bDrewN ?_ _ | with_reducible refine Below.drew ?_ | with_reducible refine Below.alloc ?_ (by first | omega | (simp; done) | (simp; omega)) _)))
  replace HS : Hid (Beside r w w5) := by show Beside _ _ _; rw [hw_]; exact HS.out.onB (show Below w.heap.size w4 _ from (by repeat (first | with_reducible exact Below.refl _ _ | with_reducible refine Below.setCell ?_ (by first | omega | (simp; done) | (simp; omega)) _ | with_reducible refine bDrewN ?_ _ | with_reducible refine Below.drew ?_ | with_reducible refine Below.alloc ?_ (by first | omega | (simp; done) | (simp; omega)) _)))
  clear hw_
  clear sz_ zr_ Hq_z Hb_z
  go_wp2_with fail
  refine (below_any 24 (HR.out.below (by repeat (first | with_reducible exact Below.refl _ _ | with_reducible refine Below.setCell ?_ (by first | omega | (simp; done) | (simp; omega)) _ | with_reducible refine bDrewN ?_ _ | with_reducible refine Below.drew ?_ | with_reducible refine Below.alloc ?_ (by first | omega | (simp; done) | (simp; omega)) _)))).mono ?_
  rintro e w6 ⟨kk, pk, rfl, k0, k1, k2, R_, b_⟩
  have Hq_z : gq < w5.heap.size := Hq.out.1
  have Hb_z : gb < w5.heap.size := Hb.out.1
  have sz_ : w.heap.size ≤ w5.heap.size := HS.out.2.2.2.1
  have zr_ : r < w5.heap.size := HR.out.1
  have bb : Beside r w5 w6 := (Beside.of (show Below w5.heap.size w5 _ from (by repeat (first | with_reducible exact Below.refl _ _ | with_reducible refine Below.setCell ?_ (by first | omega | (simp; done) | (simp; omega)) _ | with_reducible refine bDrewN ?_ _ | with_reducible refine Below.drew ?_ | with_reducible refine Below.alloc ?_ (by first | omega | (simp; done) | (simp; omega)) _)))).trans b_
  replace Hq : Hid (Blk w6 gq [.int .i64 0, .int .i64 0, .int .i64 0, .int .i64 0]) := Hq.out.beside bb (by omega)
  replace Hb : Hid (Blk w6 gb [.int .i64 v0, .int .i64 (v0 + v1 + v2), .int .i64 v1, .int .i64 v2]) := Hb.out.beside bb (by omega)
  replace HS : Hid (Beside r w w6) := HS.out.trans bb
  replace HR : Hid (Rd w6 r s n c pk) := R_
  clear R_
  clear bb b_ sz_ zr_ Hq_z Hb_z
  clear k1 k2
  by_cases e0 : kk = 0
  case pos =>
    subst e0
    obtain ⟨z_b, f_b, c_b⟩ := Hb.out
    have bc0 : w6.cell? ⟨gb, 0, none⟩ = some (.int .i64 v0) := c_b 0 _ rfl
    have bc1 : w6.cell? ⟨gb, 1, none⟩ = some (.int .i64 (v0 + v1 + v2)) := c_b 1 _ rfl
    have bc2 : w6.cell? ⟨gb, 2, none⟩ = some (.int .i64 v1) := c_b 2 _ rfl
    have bc3 : w6.cell? ⟨gb, 3, none⟩ = some (.int .i64 v2) := c_b 3 _ rfl
    have fb := f_b
    clear f_b c_b
    have fb_ := fb 1
    go_upto_region 11 with fail
    clear bc0 bc1 bc2 bc3 z_b fb
    clear fb_
    have Hq_z : gq < w6.heap.size := Hq.out.1
    have Hb_z : gb < w6.heap.size := Hb.out.1
    have sz_ : w.heap.size ≤ w6.heap.size := HS.out.2.2.2.1
    have zr_ : r < w6.heap.size := HR.out.1
    obtain ⟨w7, hw_⟩ : ∃ x_, x_ = (w6.setCell ⟨gb, 1, none⟩ (.int .i64 (v0 + v1 + v2 + 1))) := ⟨_, rfl⟩
    rw [← hw_]
    replace Hq : Hid (Blk w7 gq [.int .i64 0, .int .i64 0, .int .i64 0, .int .i64 0]) := by show Blk _ _ _; rw [hw_]; exact (Hq.out.beside (Beside.setCell gb _ 1 _) (by omega))
    replace Hb : Hid (Blk w7 gb [.int .i64 v0, .int .i64 (v0 + v1 + v2 + 1), .int .i64 v1, .int .i64 v2]) := by show Blk _ _ _; rw [hw_]; exact (Hb.out.set 1 (.int .i64 (v0 + v1 + v2 + 1)))
    replace HR : Hid (Rd w7 r s n c pk) := by show Rd _ _ _ _ _ _; rw [hw_]; exact Rd.below' HR.out (show Below (r + 1) w6 _ from (by repeat (first | with_reducible exact Below.refl _ _ | with_reducible refine Below.setCell ?_ (by first | omega | (simp; done) | (simp; omega)) _ | with_reducible refine bDrewN ?_ _ | with_reducible refine Below.drew ?_ | with_reducible refine Below.alloc ?_ (by first | omega | (simp; done) | (simp; omega)) _)))
    replace HS : Hid (Beside r w w7) := by show Beside _ _ _; rw [hw_]; exact HS.out.onB (show Below w.heap.size w6 _ from (by repeat (first | with_reducible exact Below.refl _ _ | with_reducible refine Below.setCell ?_ (by first | omega | (simp; done) | (simp; omega)) _ | with_reducible refine bDrewN ?_ _ | with_reducible refine Below.drew ?_ | with_reducible refine Below.alloc ?_ (by first | omega | (simp; done) | (simp; omega)) _)))
    clear hw_
    clear sz_ zr_ Hq_z Hb_z
    obtain ⟨z_b, f_b, c_b⟩ := Hb.out
    have bc0 : w7.cell? ⟨gb, 0, none⟩ = some (.int .i64 v0) := c_b 0 _ rfl
    have bc1 : w7.cell? ⟨gb, 1, none⟩ = some (.int .i64 (v0 + v1 + v2 + 1)) := c_b 1 _ rfl
    have bc2 : w7.cell? ⟨gb, 2, none⟩ = some (.int .i64 v1) := c_b 2 _ rfl
    have bc3 : w7.cell? ⟨gb, 3, none⟩ = some (.int .i64 v2) := c_b 3 _ rfl
    have fb := f_b
    clear f_b c_b
    obtain ⟨z_q, f_q, c_q⟩ := Hq.out
    have qc0 : w7.cell? ⟨gq, 0, none⟩ = some (.int .i64 0) := c_q 0 _ rfl
    have qc1 : w7.cell? ⟨gq, 1, none⟩ = some (.int .i64 0) := c_q 1 _ rfl
    have qc2 : w7.cell? ⟨gq, 2, none⟩ = some (.int .i64 0) := c_q 2 _ rfl
    have qc3 : w7.cell? ⟨gq, 3, none⟩ = some (.int .i64 0) := c_q 3 _ rfl
    have fq := f_q
    clear f_q c_q
    have fq0 := fq 0
    have fq1 := fq 1
    have fq2 := fq 2
    have fq3 := fq 3
    have n_ : gb ≠ gq := by omega
    have BS := HS.out
    have sBS := BS.2.2.2.1
    go_wp2
    exact bodyPost_ret (v := .agg #[.int .i64 v0, .int .i64 (v0 + v1 + v2 + 1), .int .i64 v1, .int .i64 v2]) (by simp [results, Try.results22, go_sem, bc0, bc1, bc2, bc3, qc0, qc1, qc2, qc3, n_, n_.symm]) rfl ⟨v0, (v0 + v1 + v2 + 1), v1, v2, pk, rfl, Rd.below' HR.out (show Below (r + 1) w7 _ from (by repeat (first | with_reducible exact Below.refl _ _ | with_reducible refine Below.setCell ?_ (by first | omega | (simp; done) | (simp; omega)) _ | with_reducible refine bDrewN ?_ _ | with_reducible refine Below.drew ?_ | with_reducible refine Below.alloc ?_ (by first | omega | (simp; done) | (simp; omega)) _))), HS.out.onB (show Below w.heap.size w7 _ from (by repeat (first | with_reducible exact Below.refl _ _ | with_reducible refine Below.setCell ?_ (by first | omega | (simp; done) | (simp; omega)) _ | with_reducible refine bDrewN ?_ _ | with_reducible refine Below.drew ?_ | with_reducible refine Below.alloc ?_ (by first | omega | (simp; done) | (simp; omega)) _)))⟩
  have n0 : (kk == 0) = false := by simpa using e0
  by_cases e1 : kk = 1
  case pos =>
    subst e1
    go_upto_region 7 with fail
    have zb_ : gb < w6.heap.size := Hb.out.1
    have zr_ : r < w6.heap.size := HR.out.1
    have ws1 : IntKind.i64.wrap (1000000000000 - v0) = 1000000000000 - v0 := by rw [IntKind.wrap_i64]; omega
    have ws2 : IntKind.i64.wrap (1000000000000 - v0 - v2) = 1000000000000 - v0 - v2 := by rw [IntKind.wrap_i64]; omega
    go_cut [] (fun wx => ∃ (m9 : Int) (py : Nat), 0 ≤ m9 ∧ m9 < 900 ∧ Hid (Rd wx r s n c py) ∧ Hid (Beside r w wx) ∧ Hid (Blk wx gq [.int .i64 0, .int .i64 0, .int .i64 0, .int .i64 0]) ∧ Hid (Blk wx gb [.int .i64 v0, .int .i64 (v0 + v1 + v2), .int .i64 (1000000000000 - v0 - v2 - m9), .int .i64 v2]))
    case first =>
      obtain ⟨z_b, f_b, c_b⟩ := Hb.out
      have bc0 : w6.cell? ⟨gb, 0, none⟩ = some (.int .i64 v0) := c_b 0 _ rfl
      have bc1 : w6.cell? ⟨gb, 1, none⟩ = some (.int .i64 (v0 + v1 + v2)) := c_b 1 _ rfl
      have bc2 : w6.cell? ⟨gb, 2, none⟩ = some (.int .i64 v1) := c_b 2 _ rfl
      have bc3 : w6.cell? ⟨gb, 3, none⟩ = some (.int .i64 v2) := c_b 3 _ rfl
      have fb := f_b
      clear f_b c_b
      have fb2 := fb 2
      go_region_with (go_at_call 24; refine (below_any 900 (HR.out.below (by repeat (first | with_reducible exact Below.refl _ _ | with_reducible refine Below.setCell ?_ (by first | omega | (simp; done) | (simp; omega)) _ | with_reducible refine bDrewN ?_ _ | with_reducible refine Below.drew ?_ | with_reducible refine Below.alloc ?_ (by first | omega | (simp; done) | (simp; omega)) _)))).mono ?_; rintro e w9 ⟨m9, py, rfl, m90, m91, m92, R9, b9⟩; have m93 : m9 < 900 := (by omega); have bb : Beside r w6 w9 := (Beside.of (show Below w6.heap.size w6 _ from (by repeat (first | with_reducible exact Below.refl _ _ | with_reducible refine Below.setCell ?_ (by first | omega | (simp; done) | (simp; omega)) _ | with_reducible refine bDrewN ?_ _ | with_reducible refine Below.drew ?_ | with_reducible refine Below.alloc ?_ (by first | omega | (simp; done) | (simp; omega)) _)))).trans b9; have HB9 := Hb.out.beside bb (by omega); have HQ9 := Hq.out.beside bb (by omega); have HS9 := HS.out.trans bb; have j0 : w9.cell? ⟨gb, 0, none⟩ = some (.int .i64 v0) := HB9.2.2 0 _ rfl; have j1 : w9.cell? ⟨gb, 1, none⟩ = some (.int .i64 (v0 + v1 + v2)) := HB9.2.2 1 _ rfl; have j2 : w9.cell? ⟨gb, 2, none⟩ = some (.int .i64 v1) := HB9.2.2 2 _ rfl; have j3 : w9.cell? ⟨gb, 3, none⟩ = some (.int .i64 v2) := HB9.2.2 3 _ rfl; have jf := HB9.2.1 2; have HB8 : Hid (Blk w9 gb [.int .i64 v0, .int .i64 (v0 + v1 + v2), .int .i64 v1, .int .i64 v2]) := HB9; have HQ8 : Hid (Blk w9 gq [.int .i64 0, .int .i64 0, .int .i64 0, .int .i64 0]) := HQ9; have HS8 : Hid (Beside r w w9) := HS9; have HR8 : Hid (Rd w9 r s n c py) := R9; have sz9 := HS9.2.2.2.1; have zb9 := HB9.1; clear HB9 HQ9 HS9 R9 bb b9 m91 m92)
      all_goals
        have ws3 : IntKind.i64.wrap (1000000000000 - v0 - v2 - m9) = 1000000000000 - v0 - v2 - m9 := by rw [IntKind.wrap_i64]; omega
        go_wp2_with fail
        go_meet
        case rel =>
          refine ⟨m9, py, m90, m93, ?_, ?_, ?_, ?_⟩
          · exact Rd.below' HR8.out (show Below (r + 1) w9 _ from (by repeat (first | with_reducible exact Below.refl _ _ | with_reducible refine Below.setCell ?_ (by first | omega | (simp; done) | (simp; omega)) _ | with_reducible refine bDrewN ?_ _ | with_reducible refine Below.drew ?_ | with_reducible refine Below.alloc ?_ (by first | omega | (simp; done) | (simp; omega)) _)))
          · exact HS8.out.onB (show Below w.heap.size w9 _ from (by repeat (first | with_reducible exact Below.refl _ _ | with_reducible refine Below.setCell ?_ (by first | omega | (simp; done) | (simp; omega)) _ | with_reducible refine bDrewN ?_ _ | with_reducible refine Below.drew ?_ | with_reducible refine Below.alloc ?_ (by first | omega | (simp; done) | (simp; omega)) _)))
          · exact HQ8.out.belowB (show Below gb w9 _ from (by repeat (first | with_reducible exact Below.refl _ _ | with_reducible refine Below.setCell ?_ (by first | omega | (simp; done) | (simp; omega)) _ | with_reducible refine bDrewN ?_ _ | with_reducible refine Below.drew ?_ | with_reducible refine Below.alloc ?_ (by first | omega | (simp; done) | (simp; omega)) _))) (by omega)
          · show Blk _ _ _; rw [ws3]; exact HB8.out.set 2 _
    case rest =>
      clear HR HS Hq Hb zb_ zr_
      obtain ⟨m9, py, m90, m93, HR, HS, Hq, Hb⟩ := hcut
      rename World => w7
      obtain ⟨ot, hot⟩ : ∃ ot : Int, 1000000000000 - v0 - v2 - m9 = ot := ⟨_, rfl⟩
      rw [hot] at Hb
      have ot0 : 0 ≤ ot ∧ ot ≤ 1000000000000 := by omega
      clear hot ws1 ws2
      obtain ⟨z_b, f_b, c_b⟩ := Hb.out
      have bc0 : w7.cell? ⟨gb, 0, none⟩ = some (.int .i64 v0) := c_b 0 _ rfl
      have bc1 : w7.cell? ⟨gb, 1, none⟩ = some (.int .i64 (v0 + v1 + v2)) := c_b 1 _ rfl
      have bc2 : w7.cell? ⟨gb, 2, none⟩ = some (.int .i64 ot) := c_b 2 _ rfl
      have bc3 : w7.cell? ⟨gb, 3, none⟩ = some (.int .i64 v2) := c_b 3 _ rfl
      have fb := f_b
      clear f_b c_b
      have fb_ := fb 1
      go_upto_region 11 with fail
      clear bc0 bc1 bc2 bc3 z_b fb
      clear fb_
      have Hq_z : gq < w7.heap.size := Hq.out.1
      have Hb_z : gb < w7.heap.size := Hb.out.1
      have sz_ : w.heap.size ≤ w7.heap.size := HS.out.2.2.2.1
      have zr_ : r < w7.heap.size := HR.out.1
      obtain ⟨w8, hw_⟩ : ∃ x_, x_ = (w7.setCell ⟨gb, 1, none⟩ (.int .i64 (v0 + ot + v2))) := ⟨_, rfl⟩
      rw [← hw_]
      replace Hq : Hid (Blk w8 gq [.int .i64 0, .int .i64 0, .int .i64 0, .int .i64 0]) := by show Blk _ _ _; rw [hw_]; exact (Hq.out.beside (Beside.setCell gb _ 1 _) (by omega))
      replace Hb : Hid (Blk w8 gb [.int .i64 v0, .int .i64 (v0 + ot + v2), .int .i64 ot, .int .i64 v2]) := by show Blk _ _ _; rw [hw_]; exact (Hb.out.set 1 (.int .i64 (v0 + ot + v2)))
      replace HR : Hid (Rd w8 r s n c py) := by show Rd _ _ _ _ _ _; rw [hw_]; exact Rd.below' HR.out (show Below (r + 1) w7 _ from (by repeat (first | with_reducible exact Below.refl _ _ | with_reducible refine Below.setCell ?_ (by first | omega | (simp; done) | (simp; omega)) _ | with_reducible refine bDrewN ?_ _ | with_reducible refine Below.drew ?_ | with_reducible refine Below.alloc ?_ (by first | omega | (simp; done) | (simp; omega)) _)))
      replace HS : Hid (Beside r w w8) := by show Beside _ _ _; rw [hw_]; exact HS.out.onB (show Below w.heap.size w7 _ from (by repeat (first | with_reducible exact Below.refl _ _ | with_reducible refine Below.setCell ?_ (by first | omega | (simp; done) | (simp; omega)) _ | with_reducible refine bDrewN ?_ _ | with_reducible refine Below.drew ?_ | with_reducible refine Below.alloc ?_ (by first | omega | (simp; done) | (simp; omega)) _)))
      clear hw_
      clear sz_ zr_ Hq_z Hb_z
      obtain ⟨z_b, f_b, c_b⟩ := Hb.out
      have bc0 : w8.cell? ⟨gb, 0, none⟩ = some (.int .i64 v0) := c_b 0 _ rfl
      have bc1 : w8.cell? ⟨gb, 1, none⟩ = some (.int .i64 (v0 + ot + v2)) := c_b 1 _ rfl
      have bc2 : w8.cell? ⟨gb, 2, none⟩ = some (.int .i64 ot) := c_b 2 _ rfl
      have bc3 : w8.cell? ⟨gb, 3, none⟩ = some (.int .i64 v2) := c_b 3 _ rfl
      have fb := f_b
      clear f_b c_b
      obtain ⟨z_q, f_q, c_q⟩ := Hq.out
      have qc0 : w8.cell? ⟨gq, 0, none⟩ = some (.int .i64 0) := c_q 0 _ rfl
      have qc1 : w8.cell? ⟨gq, 1, none⟩ = some (.int .i64 0) := c_q 1 _ rfl
      have qc2 : w8.cell? ⟨gq, 2, none⟩ = some (.int .i64 0) := c_q 2 _ rfl
      have qc3 : w8.cell? ⟨gq, 3, none⟩ = some (.int .i64 0) := c_q 3 _ rfl
      have fq := f_q
      clear f_q c_q
      have fq0 := fq 0
      have fq1 := fq 1
      have fq2 := fq 2
      have fq3 := fq 3
      have n_ : gb ≠ gq := by omega
      have BS := HS.out
      have sBS := BS.2.2.2.1
      go_wp2
      exact bodyPost_ret (v := .agg #[.int .i64 v0, .int .i64 (v0 + ot + v2), .int .i64 ot, .int .i64 v2]) (by simp [results, Try.results22, go_sem, bc0, bc1, bc2, bc3, qc0, qc1, qc2, qc3, n_, n_.symm]) rfl ⟨v0, (v0 + ot + v2), ot, v2, py, rfl, Rd.below' HR.out (show Below (r + 1) w8 _ from (by repeat (first | with_reducible exact Below.refl _ _ | with_reducible refine Below.setCell ?_ (by first | omega | (simp; done) | (simp; omega)) _ | with_reducible refine bDrewN ?_ _ | with_reducible refine Below.drew ?_ | with_reducible refine Below.alloc ?_ (by first | omega | (simp; done) | (simp; omega)) _))), HS.out.onB (show Below w.heap.size w8 _ from (by repeat (first | with_reducible exact Below.refl _ _ | with_reducible refine Below.setCell ?_ (by first | omega | (simp; done) | (simp; omega)) _ | with_reducible refine bDrewN ?_ _ | with_reducible refine Below.drew ?_ | with_reducible refine Below.alloc ?_ (by first | omega | (simp; done) | (simp; omega)) _)))⟩
  have n1 : (kk == 1) = false := by simpa using e1
  by_cases e2 : kk = 2
  case pos =>
    subst e2
    obtain ⟨z_b, f_b, c_b⟩ := Hb.out
    have bc0 : w6.cell? ⟨gb, 0, none⟩ = some (.int .i64 v0) := c_b 0 _ rfl
    have bc1 : w6.cell? ⟨gb, 1, none⟩ = some (.int .i64 (v0 + v1 + v2)) := c_b 1 _ rfl
    have bc2 : w6.cell? ⟨gb, 2, none⟩ = some (.int .i64 v1) := c_b 2 _ rfl
    have bc3 : w6.cell? ⟨gb, 3, none⟩ = some (.int .i64 v2) := c_b 3 _ rfl
    have fb := f_b
    clear f_b c_b
    have fb_ := fb 0
    go_upto_region 11 with fail
    clear bc0 bc1 bc2 bc3 z_b fb
    clear fb_
    have Hq_z : gq < w6.heap.size := Hq.out.1
    have Hb_z : gb < w6.heap.size := Hb.out.1
    have sz_ : w.heap.size ≤ w6.heap.size := HS.out.2.2.2.1
    have zr_ : r < w6.heap.size := HR.out.1
    obtain ⟨w7, hw_⟩ : ∃ x_, x_ = (w6.setCell ⟨gb, 0, none⟩ (.int .i64 (-1))) := ⟨_, rfl⟩
    rw [← hw_]
    replace Hq : Hid (Blk w7 gq [.int .i64 0, .int .i64 0, .int .i64 0, .int .i64 0]) := by show Blk _ _ _; rw [hw_]; exact (Hq.out.beside (Beside.setCell gb _ 0 _) (by omega))
    replace Hb : Hid (Blk w7 gb [.int .i64 (-1), .int .i64 (v0 + v1 + v2), .int .i64 v1, .int .i64 v2]) := by show Blk _ _ _; rw [hw_]; exact (Hb.out.set 0 (.int .i64 (-1)))
    replace HR : Hid (Rd w7 r s n c pk) := by show Rd _ _ _ _ _ _; rw [hw_]; exact Rd.below' HR.out (show Below (r + 1) w6 _ from (by repeat (first | with_reducible exact Below.refl _ _ | with_reducible refine Below.setCell ?_ (by first | omega | (simp; done) | (simp; omega)) _ | with_reducible refine bDrewN ?_ _ | with_reducible refine Below.drew ?_ | with_reducible refine Below.alloc ?_ (by first | omega | (simp; done) | (simp; omega)) _)))
    replace HS : Hid (Beside r w w7) := by show Beside _ _ _; rw [hw_]; exact HS.out.onB (show Below w.heap.size w6 _ from (by repeat (first | with_reducible exact Below.refl _ _ | with_reducible refine Below.setCell ?_ (by first | omega | (simp; done) | (simp; omega)) _ | with_reducible refine bDrewN ?_ _ | with_reducible refine Below.drew ?_ | with_reducible refine Below.alloc ?_ (by first | omega | (simp; done) | (simp; omega)) _)))
    clear hw_
    clear sz_ zr_ Hq_z Hb_z
    obtain ⟨z_b, f_b, c_b⟩ := Hb.out
    have bc0 : w7.cell? ⟨gb, 0, none⟩ = some (.int .i64 (-1)) := c_b 0 _ rfl
    have bc1 : w7.cell? ⟨gb, 1, none⟩ = some (.int .i64 (v0 + v1 + v2)) := c_b 1 _ rfl
    have bc2 : w7.cell? ⟨gb, 2, none⟩ = some (.int .i64 v1) := c_b 2 _ rfl
    have bc3 : w7.cell? ⟨gb, 3, none⟩ = some (.int .i64 v2) := c_b 3 _ rfl
    have fb := f_b
    clear f_b c_b
    obtain ⟨z_q, f_q, c_q⟩ := Hq.out
    have qc0 : w7.cell? ⟨gq, 0, none⟩ = some (.int .i64 0) := c_q 0 _ rfl
    have qc1 : w7.cell? ⟨gq, 1, none⟩ = some (.int .i64 0) := c_q 1 _ rfl
    have qc2 : w7.cell? ⟨gq, 2, none⟩ = some (.int .i64 0) := c_q 2 _ rfl
    have qc3 : w7.cell? ⟨gq, 3, none⟩ = some (.int .i64 0) := c_q 3 _ rfl
    have fq := f_q
    clear f_q c_q
    have fq0 := fq 0
    have fq1 := fq 1
    have fq2 := fq 2
    have fq3 := fq 3
    have n_ : gb ≠ gq := by omega
    have BS := HS.out
    have sBS := BS.2.2.2.1
    go_wp2
    exact bodyPost_ret (v := .agg #[.int .i64 (-1), .int .i64 (v0 + v1 + v2), .int .i64 v1, .int .i64 v2]) (by simp [results, Try.results22, go_sem, bc0, bc1, bc2, bc3, qc0, qc1, qc2, qc3, n_, n_.symm]) rfl ⟨(-1), (v0 + v1 + v2), v1, v2, pk, rfl, Rd.below' HR.out (show Below (r + 1) w7 _ from (by repeat (first | with_reducible exact Below.refl _ _ | with_reducible refine Below.setCell ?_ (by first | omega | (simp; done) | (simp; omega)) _ | with_reducible refine bDrewN ?_ _ | with_reducible refine Below.drew ?_ | with_reducible refine Below.alloc ?_ (by first | omega | (simp; done) | (simp; omega)) _))), HS.out.onB (show Below w.heap.size w7 _ from (by repeat (first | with_reducible exact Below.refl _ _ | with_reducible refine Below.setCell ?_ (by first | omega | (simp; done) | (simp; omega)) _ | with_reducible refine bDrewN ?_ _ | with_reducible refine Below.drew ?_ | with_reducible refine Below.alloc ?_ (by first | omega | (simp; done) | (simp; omega)) _)))⟩
  have n2 : (kk == 2) = false := by simpa using e2
  obtain ⟨z_b, f_b, c_b⟩ := Hb.out
  have bc0 : w6.cell? ⟨gb, 0, none⟩ = some (.int .i64 v0) := c_b 0 _ rfl
  have bc1 : w6.cell? ⟨gb, 1, none⟩ = some (.int .i64 (v0 + v1 + v2)) := c_b 1 _ rfl
  have bc2 : w6.cell? ⟨gb, 2, none⟩ = some (.int .i64 v1) := c_b 2 _ rfl
  have bc3 : w6.cell? ⟨gb, 3, none⟩ = some (.int .i64 v2) := c_b 3 _ rfl
  have fb := f_b
  clear f_b c_b
  obtain ⟨z_q, f_q, c_q⟩ := Hq.out
  have qc0 : w6.cell? ⟨gq, 0, none⟩ = some (.int .i64 0) := c_q 0 _ rfl
  have qc1 : w6.cell? ⟨gq, 1, none⟩ = some (.int .i64 0) := c_q 1 _ rfl
  have qc2 : w6.cell? ⟨gq, 2, none⟩ = some (.int .i64 0) := c_q 2 _ rfl
  have qc3 : w6.cell? ⟨gq, 3, none⟩ = some (.int .i64 0) := c_q 3 _ rfl
  have fq := f_q
  clear f_q c_q
  have fq0 := fq 0
  have fq1 := fq 1
  have fq2 := fq 2
  have fq3 := fq 3
  have n_ : gb ≠ gq := by omega
  have BS := HS.out
  have sBS := BS.2.2.2.1
  go_wp2
  exact bodyPost_ret (v := .agg #[.int .i64 v0, .int .i64 (v0 + v1 + v2), .int .i64 v1, .int .i64 v2]) (by simp [results, Try.results22, go_sem, bc0, bc1, bc2, bc3, qc0, qc1, qc2, qc3, n_, n_.symm]) rfl ⟨v0, (v0 + v1 + v2), v1, v2, pk, rfl, Rd.below' HR.out (show Below (r + 1) w6 _ from (by repeat (first | with_reducible exact Below.refl _ _ | with_reducible refine Below.setCell ?_ (by first | omega | (simp; done) | (simp; omega)) _ | with_reducible refine bDrewN ?_ _ | with_reducible refine Below.drew ?_ | with_reducible refine Below.alloc ?_ (by first | omega | (simp; done) | (simp; omega)) _))), HS.out.onB (show Below w.heap.size w6 _ from (by repeat (first | with_reducible exact Below.refl _ _ | with_reducible refine Below.setCell ?_ (by first | omega | (simp; done) | (simp; omega)) _ | with_reducible refine bDrewN ?_ _ | with_reducible refine Below.drew ?_ | with_reducible refine Below.alloc ?_ (by first | omega | (simp; done) | (simp; omega)) _)))⟩
end Go.Proofs.Ytiamhpopgnblcaa
