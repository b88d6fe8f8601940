/-
What is proved: an act that is drawn: any int64s.
-/
import Derived.Test.YtjiojofgpdimaaaBlk
import Derived.Deep.DeepCutAuto
import Derived.RegionTactic
namespace Go.Proofs.Ytjiojofgpdimaaa
set_option maxRecDepth 40000
open Go.ChangeShapes Go.WideShapes Go.ChangeAt Go.RowKit
set_option linter.unusedVariables false
set_option linter.unusedSimpArgs false

set_option maxRecDepth 20000 in
set_option maxHeartbeats 8000000 in
theorem act_any {r : Nat} {s : Option Addr} {n c p : Nat} {w : World} (h : Hid (Rd w r s n c p)) :
    Calls Try.prog 24 #[.pointer (some ⟨r, 0, none⟩)] w fun e w' => ∃ (x0 x1 x2 : Int) (p' : Nat), e = .returned (.agg #[.int .i64 x0, .int .i64 x1, .int .i64 x2]) ∧ Rd w' r s n c p' ∧ Beside r w w' := by
  have zr : r < w.heap.size := h.out.1
  have HR : Hid (Rd w r s n c p) := h
  have HS : Hid (Beside r w w) := Beside.of (Below.refl _ _)
  clear h
  go_enter Try.func24, Try.ntmps24
  go_wp2_with fail
  refine (below_any 4 (HR.out.below (by repeat (first | with_reducible exact Below.refl _ _ | with_reducible refine Below.setCell ?_ (by first | omega | (simp; done) | (simp; omega)) _ | with_reducible refine bDrewN ?_ _ | with_reducible refine Below.drew ?_ | with_reducible refine Below.alloc ?_ (by first | omega | (simp; done) | (simp; omega)) _)))).mono ?_
  rintro e w1 ⟨j0, p0, rfl, j0a, j0b, j0c, R_, b_⟩
  have sz_ : w.heap.size ≤ w.heap.size := HS.out.2.2.2.1
  have zr_ : r < w.heap.size := HR.out.1
  have bb : Beside r w w1 := (Beside.of (show Below w.heap.size w _ from (by repeat (first | with_reducible exact Below.refl _ _ | with_reducible refine Below.setCell ?_ (by first | omega | (simp; done) | (simp; omega)) _ | with_reducible refine bDrewN ?_ _ | with_reducible refine Below.drew ?_ | with_reducible refine Below.alloc ?_ (by first | omega | (simp; done) | (simp; omega)) _)))).trans b_
  obtain ⟨gq, hgq⟩ : ∃ g, g = w.heap.size := ⟨_, rfl⟩
  have Hq : Hid (Blk w1 gq [.int .i64 0, .int .i64 0, .int .i64 0]) := by
    show Blk _ _ _
    have q := (((Blk.new w #[.int .i64 0, .int .i64 0, .int .i64 0] 32).below (below0 _ _))).beside b_ (by first | omega | (simp; omega))
    rw [hgq]; exact q
  obtain ⟨gt, hgt⟩ : ∃ g, g = w.heap.size + 1 := ⟨_, rfl⟩
  have Ht : Hid (Blk w1 gt [.int .i64 9, .int .i64 300, .int .i64 20000, .int .i64 1000000]) := by
    show Blk _ _ _
    have q := ((Blk.new (w.alloc (.cells #[.int .i64 0, .int .i64 0, .int .i64 0] 32)) #[.int .i64 9, .int .i64 300, .int .i64 20000, .int .i64 1000000] 2)).beside b_ (by first | omega | (simp; omega))
    rw [hgt]; exact (by simpa using q)
  replace HS : Hid (Beside r w w1) := HS.out.trans bb
  replace HR : Hid (Rd w1 r s n c p0) := R_
  clear R_
  have lgq : w.heap.size ≤ gq := by omega
  have rgq : r < gq := by omega
  have lgt : w.heap.size ≤ gt := by omega
  have rgt : r < gt := by omega
  have dgqgt : gq < gt := by omega
  try rw [← hgt]
  try rw [← hgq]
  clear hgq
  clear hgt
  clear bb b_ sz_ zr_ 
  have pk_ : Hid (Blk w1 gt (List.map (Value.int .i64) [9, 300, 20000, 1000000])) := Ht
  obtain ⟨j0n, mo, rfl, j0l, j0v, j0m⟩ := picked (w' := w1) pk_.out j0a (by simp; omega)
  have moa : 9 ≤ mo := by simp at j0m; omega
  have mob : mo ≤ 1000000 := by simp at j0m; omega
  have j0l2 : ((j0n : Nat) : Int) < 4 := by simpa using j0l
  clear pk_ j0m j0b j0c j0l
  go_wp2_with fail
  refine (near_any 0 mo (by omega) (by omega) (by omega) (HR.out.below (by repeat (first | with_reducible exact Below.refl _ _ | with_reducible refine Below.setCell ?_ (by first | omega | (simp; done) | (simp; omega)) _ | with_reducible refine bDrewN ?_ _ | with_reducible refine Below.drew ?_ | with_reducible refine Below.alloc ?_ (by first | omega | (simp; done) | (simp; omega)) _)))).mono ?_
  rintro e w2 ⟨v0, pv0, rfl, v00, v01, R_, b_⟩
  have Hq_z : gq < w1.heap.size := Hq.out.1
  have Ht_z : gt < w1.heap.size := Ht.out.1
  have sz_ : w.heap.size ≤ w1.heap.size := HS.out.2.2.2.1
  have zr_ : r < w1.heap.size := HR.out.1
  have bb : Beside r w1 w2 := (Beside.of (show Below w1.heap.size w1 _ from (by repeat (first | with_reducible exact Below.refl _ _ | with_reducible refine Below.setCell ?_ (by first | omega | (simp; done) | (simp; omega)) _ | with_reducible refine bDrewN ?_ _ | with_reducible refine Below.drew ?_ | with_reducible refine Below.alloc ?_ (by first | omega | (simp; done) | (simp; omega)) _)))).trans b_
  replace Hq : Hid (Blk w2 gq [.int .i64 0, .int .i64 0, .int .i64 0]) := Hq.out.beside bb (by omega)
  replace Ht : Hid (Blk w2 gt [.int .i64 9, .int .i64 300, .int .i64 20000, .int .i64 1000000]) := Ht.out.beside bb (by omega)
  replace HS : Hid (Beside r w w2) := HS.out.trans bb
  replace HR : Hid (Rd w2 r s n c pv0) := R_
  clear R_
  clear bb b_ sz_ zr_ Hq_z Ht_z
  clear j0v
  clear Ht
  go_wp2_with fail
  refine (near_any 0 mo (by omega) (by omega) (by omega) (HR.out.below (by repeat (first | with_reducible exact Below.refl _ _ | with_reducible refine Below.setCell ?_ (by first | omega | (simp; done) | (simp; omega)) _ | with_reducible refine bDrewN ?_ _ | with_reducible refine Below.drew ?_ | with_reducible refine Below.alloc ?_ (by first | omega | (simp; done) | (simp; omega)) _)))).mono ?_
  rintro e w3 ⟨v1, pv1, rfl, v10, v11, R_, b_⟩
  have Hq_z : gq < w2.heap.size := Hq.out.1
  have sz_ : w.heap.size ≤ w2.heap.size := HS.out.2.2.2.1
  have zr_ : r < w2.heap.size := HR.out.1
  have bb : Beside r w2 w3 := (Beside.of (show Below w2.heap.size w2 _ from (by repeat (first | with_reducible exact Below.refl _ _ | with_reducible refine Below.setCell ?_ (by first | omega | (simp; done) | (simp; omega)) _ | with_reducible refine bDrewN ?_ _ | with_reducible refine Below.drew ?_ | with_reducible refine Below.alloc ?_ (by first | omega | (simp; done) | (simp; omega)) _)))).trans b_
  replace Hq : Hid (Blk w3 gq [.int .i64 0, .int .i64 0, .int .i64 0]) := Hq.out.beside bb (by omega)
  replace HS : Hid (Beside r w w3) := HS.out.trans bb
  replace HR : Hid (Rd w3 r s n c pv1) := R_
  clear R_
  clear bb b_ sz_ zr_ Hq_z
  have mq : 0 ≤ mo / 4 ∧ mo / 4 ≤ 1000000 := by omega
  go_wp2_with fail
  refine (near_any 0 (mo / 4) (by omega) (by omega) (by omega) (HR.out.below (by repeat (first | with_reducible exact Below.refl _ _ | with_reducible refine Below.setCell ?_ (by first | omega | (simp; done) | (simp; omega)) _ | with_reducible refine bDrewN ?_ _ | with_reducible refine Below.drew ?_ | with_reducible refine Below.alloc ?_ (by first | omega | (simp; done) | (simp; omega)) _)))).mono ?_
  rintro e w4 ⟨v2, pv2, rfl, v20, v21, R_, b_⟩
  have Hq_z : gq < w3.heap.size := Hq.out.1
  have sz_ : w.heap.size ≤ w3.heap.size := HS.out.2.2.2.1
  have zr_ : r < w3.heap.size := HR.out.1
  have bb : Beside r w3 w4 := (Beside.of (show Below w3.heap.size w3 _ from (by repeat (first | with_reducible exact Below.refl _ _ | with_reducible refine Below.setCell ?_ (by first | omega | (simp; done) | (simp; omega)) _ | with_reducible refine bDrewN ?_ _ | with_reducible refine Below.drew ?_ | with_reducible refine Below.alloc ?_ (by first | omega | (simp; done) | (simp; omega)) _)))).trans b_
  replace Hq : Hid (Blk w4 gq [.int .i64 0, .int .i64 0, .int .i64 0]) := Hq.out.beside bb (by omega)
  replace HS : Hid (Beside r w w4) := HS.out.trans bb
  replace HR : Hid (Rd w4 r s n c pv2) := R_
  clear R_
  clear bb b_ sz_ zr_ Hq_z
  go_wp2_with fail
  refine (once_any 2 (by omega) (by omega) (HR.out.below (by repeat (first | with_reducible exact Below.refl _ _ | with_reducible refine Below.setCell ?_ (by first | omega | (simp; done) | (simp; omega)) _ | with_reducible refine bDrewN ?_ _ | with_reducible refine Below.drew ?_ | with_reducible refine Below.alloc ?_ (by first | omega | (simp; done) | (simp; omega)) _)))).mono ?_
  rintro e w5 ⟨fl, pf, rfl, R_, b_⟩
  have Hq_z : gq < w4.heap.size := Hq.out.1
  have sz_ : w.heap.size ≤ w4.heap.size := HS.out.2.2.2.1
  have zr_ : r < w4.heap.size := HR.out.1
  have bb : Beside r w4 w5 := (Beside.of (show Below w4.heap.size w4 _ from (by repeat (first | with_reducible exact Below.refl _ _ | with_reducible refine Below.setCell ?_ (by first | omega | (simp; done) | (simp; omega)) _ | with_reducible refine bDrewN ?_ _ | with_reducible refine Below.drew ?_ | with_reducible refine Below.alloc ?_ (by first | omega | (simp; done) | (simp; omega)) _)))).trans b_
  obtain ⟨gg, hgg⟩ : ∃ g, g = w4.heap.size := ⟨_, rfl⟩
  have Hg : Hid (Blk w5 gg [.int .i64 v0, .int .i64 v1, .int .i64 v2]) := by
    show Blk _ _ _
    have q := ((Blk.new w4 #[.int .i64 v0, .int .i64 v1, .int .i64 v2] 32)).beside b_ (by first | omega | (simp; omega))
    rw [hgg]; exact q
  replace Hq : Hid (Blk w5 gq [.int .i64 0, .int .i64 0, .int .i64 0]) := Hq.out.beside bb (by omega)
  replace HS : Hid (Beside r w w5) := HS.out.trans bb
  replace HR : Hid (Rd w5 r s n c pf) := R_
  clear R_
  have lgg : w.heap.size ≤ gg := by omega
  have rgg : r < gg := by omega
  have dgqgg : gq < gg := by omega
  try rw [← hgg]
  clear hgg
  clear bb b_ sz_ zr_ Hq_z
  go_upto_if 22 with fail
  go_cut [] (fun wx => ∃ (py : Nat) (y5g1 : Int), Hid (Rd wx r s n c py) ∧ Hid (Beside r w wx) ∧ Hid (Blk wx gq [.int .i64 0, .int .i64 0, .int .i64 0]) ∧ Hid (Blk wx gg [.int .i64 v0, .int .i64 y5g1, .int .i64 v2]))
  case first =>
    cases fl
    · go_wp2_with fail
      go_meet
      exact ⟨pf, v1, HR, HS, Hq, Hg⟩
    · skip
      go_wp2_with fail
      refine (near_any 0 1000000 (by omega) (by omega) (by omega) (HR.out.below (by repeat (first | with_reducible exact Below.refl _ _ | with_reducible refine Below.setCell ?_ (by first | omega | (simp; done) | (simp; omega)) _ | with_reducible refine bDrewN ?_ _ | with_reducible refine Below.drew ?_ | with_reducible refine Below.alloc ?_ (by first | omega | (simp; done) | (simp; omega)) _)))).mono ?_
      rintro e w6 ⟨x, px, rfl, x0, x1, R_, b_⟩
      have Hq_z : gq < w5.heap.size := Hq.out.1
      have Hg_z : gg < w5.heap.size := Hg.out.1
      have sz_ : w.heap.size ≤ w5.heap.size := HS.out.2.2.2.1
      have zr_ : r < w5.heap.size := HR.out.1
      have bb : Beside r w5 w6 := (Beside.of (show Below w5.heap.size w5 _ from (by repeat (first | with_reducible exact Below.refl _ _ | with_reducible refine Below.setCell ?_ (by first | omega | (simp; done) | (simp; omega)) _ | with_reducible refine bDrewN ?_ _ | with_reducible refine Below.drew ?_ | with_reducible refine Below.alloc ?_ (by first | omega | (simp; done) | (simp; omega)) _)))).trans b_
      replace Hq : Hid (Blk w6 gq [.int .i64 0, .int .i64 0, .int .i64 0]) := Hq.out.beside bb (by omega)
      replace Hg : Hid (Blk w6 gg [.int .i64 v0, .int .i64 v1, .int .i64 v2]) := Hg.out.beside bb (by omega)
      replace HS : Hid (Beside r w w6) := HS.out.trans bb
      replace HR : Hid (Rd w6 r s n c px) := R_
      clear R_
      clear bb b_ sz_ zr_ Hq_z Hg_z
      obtain ⟨z_g, f_g, c_g⟩ := Hg.out
      have gc0 : w6.cell? ⟨gg, 0, none⟩ = some (.int .i64 v0) := c_g 0 _ rfl
      have gc1 : w6.cell? ⟨gg, 1, none⟩ = some (.int .i64 v1) := c_g 1 _ rfl
      have gc2 : w6.cell? ⟨gg, 2, none⟩ = some (.int .i64 v2) := c_g 2 _ rfl
      have fg := f_g
      clear f_g c_g
      have fg_ := fg 1
      go_wp2_with fail
      clear gc0 gc1 gc2 z_g fg
      clear fg_
      have Hq_z : gq < w6.heap.size := Hq.out.1
      have Hg_z : gg < w6.heap.size := Hg.out.1
      have sz_ : w.heap.size ≤ w6.heap.size := HS.out.2.2.2.1
      have zr_ : r < w6.heap.size := HR.out.1
      obtain ⟨w7, hw_⟩ : ∃ x_, x_ = (w6.setCell ⟨gg, 1, none⟩ (.int .i64 x)) := ⟨_, rfl⟩
      rw [← hw_]
      replace Hq : Hid (Blk w7 gq [.int .i64 0, .int .i64 0, .int .i64 0]) := by show Blk _ _ _; rw [hw_]; exact (Hq.out.beside (Beside.setCell gg _ 1 _) (by omega))
      replace Hg : Hid (Blk w7 gg [.int .i64 v0, .int .i64 x, .int .i64 v2]) := by show Blk _ _ _; rw [hw_]; exact (Hg.out.set 1 (.int .i64 x))
      replace HR : Hid (Rd w7 r s n c px) := by show Rd _ _ _ _ _ _; rw [hw_]; exact Rd.below' HR.out (show Below (r + 1) w6 _ from (by repeat (first | with_reducible exact Below.refl _ _ | with_reducible refine Below.setCell ?_ (by first | omega | (simp; done) | (simp; omega)) _ | with_reducible refine bDrewN ?_ _ | with_reducible refine Below.drew ?_ | with_reducible refine Below.alloc ?_ (by first | omega | (simp; done) | (simp; omega)) _)))
      replace HS : Hid (Beside r w w7) := by show Beside _ _ _; rw [hw_]; exact HS.out.onB (show Below w.heap.size w6 _ from (by repeat (first | with_reducible exact Below.refl _ _ | with_reducible refine Below.setCell ?_ (by first | omega | (simp; done) | (simp; omega)) _ | with_reducible refine bDrewN ?_ _ | with_reducible refine Below.drew ?_ | with_reducible refine Below.alloc ?_ (by first | omega | (simp; done) | (simp; omega)) _)))
      clear hw_
      clear sz_ zr_ Hq_z Hg_z
      go_meet
      exact ⟨px, x, HR, HS, Hq, Hg⟩
  case rest =>
    clear HR HS Hq Hg
    obtain ⟨p8, y5g1, HR, HS, Hq, Hg⟩ := hcut
    rename World => w8
    go_wp2_with fail
    refine (once_any 60 (by omega) (by omega) (HR.out.below (by repeat (first | with_reducible exact Below.refl _ _ | with_reducible refine Below.setCell ?_ (by first | omega | (simp; done) | (simp; omega)) _ | with_reducible refine bDrewN ?_ _ | with_reducible refine Below.drew ?_ | with_reducible refine Below.alloc ?_ (by first | omega | (simp; done) | (simp; omega)) _)))).mono ?_
    rintro e w9 ⟨fl2, pf2, rfl, R_, b_⟩
    have Hq_z : gq < w8.heap.size := Hq.out.1
    have Hg_z : gg < w8.heap.size := Hg.out.1
    have sz_ : w.heap.size ≤ w8.heap.size := HS.out.2.2.2.1
    have zr_ : r < w8.heap.size := HR.out.1
    have bb : Beside r w8 w9 := (Beside.of (show Below w8.heap.size w8 _ from (by repeat (first | with_reducible exact Below.refl _ _ | with_reducible refine Below.setCell ?_ (by first | omega | (simp; done) | (simp; omega)) _ | with_reducible refine bDrewN ?_ _ | with_reducible refine Below.drew ?_ | with_reducible refine Below.alloc ?_ (by first | omega | (simp; done) | (simp; omega)) _)))).trans b_
    replace Hq : Hid (Blk w9 gq [.int .i64 0, .int .i64 0, .int .i64 0]) := Hq.out.beside bb (by omega)
    replace Hg : Hid (Blk w9 gg [.int .i64 v0, .int .i64 y5g1, .int .i64 v2]) := Hg.out.beside bb (by omega)
    replace HS : Hid (Beside r w w9) := HS.out.trans bb
    replace HR : Hid (Rd w9 r s n c pf2) := R_
    clear R_
    clear bb b_ sz_ zr_ Hq_z Hg_z
    go_upto_if 27 with fail
    go_cut [] (fun wx => ∃ (py : Nat) (y9g2 : Int), Hid (Rd wx r s n c py) ∧ Hid (Beside r w wx) ∧ Hid (Blk wx gq [.int .i64 0, .int .i64 0, .int .i64 0]) ∧ Hid (Blk wx gg [.int .i64 v0, .int .i64 y5g1, .int .i64 y9g2]))
    case first =>
      cases fl2
      · go_wp2_with fail
        go_meet
        exact ⟨pf2, v2, HR, HS, Hq, Hg⟩
      · skip
        go_wp2_with fail
        refine (off_any 0 1000000 (by omega) (by omega) (by omega) (HR.out.below (by repeat (first | with_reducible exact Below.refl _ _ | with_reducible refine Below.setCell ?_ (by first | omega | (simp; done) | (simp; omega)) _ | with_reducible refine bDrewN ?_ _ | with_reducible refine Below.drew ?_ | with_reducible refine Below.alloc ?_ (by first | omega | (simp; done) | (simp; omega)) _)))).mono ?_
        rintro e w10 ⟨x, px, rfl, x0, R_, b_⟩
        have Hq_z : gq < w9.heap.size := Hq.out.1
        have Hg_z : gg < w9.heap.size := Hg.out.1
        have sz_ : w.heap.size ≤ w9.heap.size := HS.out.2.2.2.1
        have zr_ : r < w9.heap.size := HR.out.1
        have bb : Beside r w9 w10 := (Beside.of (show Below w9.heap.size w9 _ from (by repeat (first | with_reducible exact Below.refl _ _ | with_reducible refine Below.setCell ?_ (by first | omega | (simp; done) | (simp; omega)) _ | with_reducible refine bDrewN ?_ _ | with_reducible refine Below.drew ?_ | with_reducible refine Below.alloc ?_ (by first | omega | (simp; done) | (simp; omega)) _)))).trans b_
        replace Hq : Hid (Blk w10 gq [.int .i64 0, .int .i64 0, .int .i64 0]) := Hq.out.beside bb (by omega)
        replace Hg : Hid (Blk w10 gg [.int .i64 v0, .int .i64 y5g1, .int .i64 v2]) := Hg.out.beside bb (by omega)
        replace HS : Hid (Beside r w w10) := HS.out.trans bb
        replace HR : Hid (Rd w10 r s n c px) := R_
        clear R_
        clear bb b_ sz_ zr_ Hq_z Hg_z
        obtain ⟨z_g, f_g, c_g⟩ := Hg.out
        have gc0 : w10.cell? ⟨gg, 0, none⟩ = some (.int .i64 v0) := c_g 0 _ rfl
        have gc1 : w10.cell? ⟨gg, 1, none⟩ = some (.int .i64 y5g1) := c_g 1 _ rfl
        have gc2 : w10.cell? ⟨gg, 2, none⟩ = some (.int .i64 v2) := c_g 2 _ rfl
        have fg := f_g
        clear f_g c_g
        have fg_ := fg 2
        go_wp2_with fail
        clear gc0 gc1 gc2 z_g fg
        clear fg_
        have Hq_z : gq < w10.heap.size := Hq.out.1
        have Hg_z : gg < w10.heap.size := Hg.out.1
        have sz_ : w.heap.size ≤ w10.heap.size := HS.out.2.2.2.1
        have zr_ : r < w10.heap.size := HR.out.1
        obtain ⟨w11, hw_⟩ : ∃ x_, x_ = (w10.setCell ⟨gg, 2, none⟩ (.int .i64 x)) := ⟨_, rfl⟩
        rw [← hw_]
        replace Hq : Hid (Blk w11 gq [.int .i64 0, .int .i64 0, .int .i64 0]) := by show Blk _ _ _; rw [hw_]; exact (Hq.out.beside (Beside.setCell gg _ 2 _) (by omega))
        replace Hg : Hid (Blk w11 gg [.int .i64 v0, .int .i64 y5g1, .int .i64 x]) := by show Blk _ _ _; rw [hw_]; exact (Hg.out.set 2 (.int .i64 x))
        replace HR : Hid (Rd w11 r s n c px) := by show Rd _ _ _ _ _ _; rw [hw_]; exact Rd.below' HR.out (show Below (r + 1) w10 _ from (by repeat (first | with_reducible exact Below.refl _ _ | with_reducible refine Below.setCell ?_ (by first | omega | (simp; done) | (simp; omega)) _ | with_reducible refine bDrewN ?_ _ | with_reducible refine Below.drew ?_ | with_reducible refine Below.alloc ?_ (by first | omega | (simp; done) | (simp; omega)) _)))
        replace HS : Hid (Beside r w w11) := by show Beside _ _ _; rw [hw_]; exact HS.out.onB (show Below w.heap.size w10 _ from (by repeat (first | with_reducible exact Below.refl _ _ | with_reducible refine Below.setCell ?_ (by first | omega | (simp; done) | (simp; omega)) _ | with_reducible refine bDrewN ?_ _ | with_reducible refine Below.drew ?_ | with_reducible refine Below.alloc ?_ (by first | omega | (simp; done) | (simp; omega)) _)))
        clear hw_
        clear sz_ zr_ Hq_z Hg_z
        go_meet
        exact ⟨px, x, HR, HS, Hq, Hg⟩
    case rest =>
      clear HR HS Hq Hg
      obtain ⟨p12, y9g2, HR, HS, Hq, Hg⟩ := hcut
      rename World => w12
      obtain ⟨z_g, f_g, c_g⟩ := Hg.out
      have gc0 : w12.cell? ⟨gg, 0, none⟩ = some (.int .i64 v0) := c_g 0 _ rfl
      have gc1 : w12.cell? ⟨gg, 1, none⟩ = some (.int .i64 y5g1) := c_g 1 _ rfl
      have gc2 : w12.cell? ⟨gg, 2, none⟩ = some (.int .i64 y9g2) := c_g 2 _ rfl
      have fg := f_g
      clear f_g c_g
      obtain ⟨z_q, f_q, c_q⟩ := Hq.out
      have qc0 : w12.cell? ⟨gq, 0, none⟩ = some (.int .i64 0) := c_q 0 _ rfl
      have qc1 : w12.cell? ⟨gq, 1, none⟩ = some (.int .i64 0) := c_q 1 _ rfl
      have qc2 : w12.cell? ⟨gq, 2, none⟩ = some (.int .i64 0) := c_q 2 _ rfl
      have fq := f_q
      clear f_q c_q
      have fq0 := fq 0
      have fq1 := fq 1
      have fq2 := fq 2
      have n_ : gg ≠ gq := by omega
      have BS := HS.out
      have sBS := BS.2.2.2.1
      go_wp2
      exact bodyPost_ret (v := .agg #[.int .i64 v0, .int .i64 y5g1, .int .i64 y9g2]) (by simp [results, Try.results24, go_sem, gc0, gc1, gc2, qc0, qc1, qc2, n_, n_.symm]) rfl ⟨v0, y5g1, y9g2, p12, rfl, Rd.below' HR.out (show Below (r + 1) w12 _ from (by repeat (first | with_reducible exact Below.refl _ _ | with_reducible refine Below.setCell ?_ (by first | omega | (simp; done) | (simp; omega)) _ | with_reducible refine bDrewN ?_ _ | with_reducible refine Below.drew ?_ | with_reducible refine Below.alloc ?_ (by first | omega | (simp; done) | (simp; omega)) _))), HS.out.onB (show Below w.heap.size w12 _ from (by repeat (first | with_reducible exact Below.refl _ _ | with_reducible refine Below.setCell ?_ (by first | omega | (simp; done) | (simp; omega)) _ | with_reducible refine bDrewN ?_ _ | with_reducible refine Below.drew ?_ | with_reducible refine Below.alloc ?_ (by first | omega | (simp; done) | (simp; omega)) _)))⟩
end Go.Proofs.Ytjiojofgpdimaaa
