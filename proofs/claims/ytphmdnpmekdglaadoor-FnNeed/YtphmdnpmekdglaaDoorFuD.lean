/-
What is proved: a fuel, and a fuel with air, that are drawn from a code: any int64s.
-/
import Derived.Test.YtphmdnpmekdglaaDoorBlk
import Derived.Test.YtphmdnpmekdglaaDoorRdC
import Derived.Test.YtphmdnpmekdglaaDoorNeed
import Derived.Deep.DeepCutAuto
import Derived.RegionTactic
namespace Go.Proofs.YtphmdnpmekdglaaDoor
set_option maxRecDepth 40000
open Go.ChangeShapes Go.WideShapes Go.ChangeAt Go.RowKit
set_option linter.unusedVariables false
set_option linter.unusedSimpArgs false

set_option maxRecDepth 20000 in
set_option maxHeartbeats 8000000 in
theorem fuel_any {r : Nat} {s : Option Addr} {n c p : Nat} {w : World} (h : Hid (Rd w r s n c p)) :
    Calls Tryd.prog 24 #[.pointer (some ⟨r, 0, none⟩)] w fun e w' => ∃ (x0 x1 x2 x3 x4 : Int) (p' : Nat), e = .returned (.agg #[.int .i64 x0, .int .i64 x1, .int .i64 x2, .int .i64 x3, .int .i64 x4]) ∧ Rd w' r s n c p' ∧ Beside r w w' := by
  have zr : r < w.heap.size := h.out.1
  have HR : Hid (Rd w r s n c p) := h
  have HS : Hid (Beside r w w) := Beside.of (Below.refl _ _)
  clear h
  go_enter Tryd.func24, Tryd.ntmps24
  go_wp2_with fail
  refine (below_any 4 (HR.out.below (by repeat (first | with_reducible exact Below.refl _ _ | with_reducible refine Below.setCell ?_ (by first | omega | (simp; done) | (simp; omega)) _ | with_reducible refine bDrewN ?_ _ | with_reducible refine Below.drew ?_ | with_reducible refine Below.alloc ?_ (by first | omega | (simp; done) | (simp; omega)) _)))).mono ?_
  rintro e w1 ⟨j0, p0, rfl, j0a, j0b, j0c, R_, b_⟩
  have sz_ : w.heap.size ≤ w.heap.size := HS.out.2.2.2.1
  have zr_ : r < w.heap.size := HR.out.1
  have bb : Beside r w w1 := (Beside.of (show Below w.heap.size w _ from (by repeat (first | with_reducible exact Below.refl _ _ | with_reducible refine Below.setCell ?_ (by first | omega | (simp; done) | (simp; omega)) _ | with_reducible refine bDrewN ?_ _ | with_reducible refine Below.drew ?_ | with_reducible refine Below.alloc ?_ (by first | omega | (simp; done) | (simp; omega)) _)))).trans b_
  obtain ⟨gq, hgq⟩ : ∃ g, g = w.heap.size := ⟨_, rfl⟩
  have Hq : Hid (Blk w1 gq [.int .i64 0, .int .i64 0, .int .i64 0, .int .i64 0, .int .i64 0]) := by
    show Blk _ _ _
    have q := (((Blk.new w #[.int .i64 0, .int .i64 0, .int .i64 0, .int .i64 0, .int .i64 0] 25).below (below0 _ _))).beside b_ (by first | omega | (simp; omega))
    rw [hgq]; exact q
  obtain ⟨gt, hgt⟩ : ∃ g, g = w.heap.size + 1 := ⟨_, rfl⟩
  have Ht : Hid (Blk w1 gt [.int .i64 4, .int .i64 30, .int .i64 1000, .int .i64 1000000000]) := by
    show Blk _ _ _
    have q := ((Blk.new (w.alloc (.cells #[.int .i64 0, .int .i64 0, .int .i64 0, .int .i64 0, .int .i64 0] 25)) #[.int .i64 4, .int .i64 30, .int .i64 1000, .int .i64 1000000000] 2)).beside b_ (by first | omega | (simp; omega))
    rw [hgt]; exact (by simpa using q)
  replace HS : Hid (Beside r w w1) := HS.out.trans bb
  replace HR : Hid (Rd w1 r s n c p0) := R_
  clear R_
  have lgq : w.heap.size ≤ gq := by omega
  have rgq : r < gq := by omega
  have lgt : w.heap.size ≤ gt := by omega
  have rgt : r < gt := by omega
  have dgqgt : gq < gt := by omega
  try rw [← hgt]
  try rw [← hgq]
  clear hgq
  clear hgt
  clear bb b_ sz_ zr_ 
  have pk_ : Hid (Blk w1 gt (List.map (Value.int .i64) [4, 30, 1000, 1000000000])) := Ht
  obtain ⟨j0n, mo, rfl, j0l, j0v, j0m⟩ := picked (w' := w1) pk_.out j0a (by simp; omega)
  have moa : 4 ≤ mo := by simp at j0m; omega
  have mob : mo ≤ 1000000000 := by simp at j0m; omega
  have j0l2 : ((j0n : Nat) : Int) < 4 := by simpa using j0l
  clear pk_ j0m j0b j0c j0l
  obtain ⟨m2, hm2, m20, m21⟩ : ∃ m2 : Int, mo / 2 = m2 ∧ 0 ≤ m2 ∧ m2 ≤ 500000000 := ⟨_, rfl, by omega, by omega⟩
  obtain ⟨m4, hm4, m40, m41⟩ : ∃ m4 : Int, mo / 4 = m4 ∧ 0 ≤ m4 ∧ m4 ≤ 250000000 := ⟨_, rfl, by omega, by omega⟩
  go_wp2_with fail
  refine (near_any 0 mo (by omega) (by omega) (by omega) (HR.out.below (by repeat (first | with_reducible exact Below.refl _ _ | with_reducible refine Below.setCell ?_ (by first | omega | (simp; done) | (simp; omega)) _ | with_reducible refine bDrewN ?_ _ | with_reducible refine Below.drew ?_ | with_reducible refine Below.alloc ?_ (by first | omega | (simp; done) | (simp; omega)) _)))).mono ?_
  rintro e w2 ⟨v0, pv0, rfl, v0a, v0b, R_, b_⟩
  have Hq_z : gq < w1.heap.size := Hq.out.1
  have Ht_z : gt < w1.heap.size := Ht.out.1
  have sz_ : w.heap.size ≤ w1.heap.size := HS.out.2.2.2.1
  have zr_ : r < w1.heap.size := HR.out.1
  have bb : Beside r w1 w2 := (Beside.of (show Below w1.heap.size w1 _ from (by repeat (first | with_reducible exact Below.refl _ _ | with_reducible refine Below.setCell ?_ (by first | omega | (simp; done) | (simp; omega)) _ | with_reducible refine bDrewN ?_ _ | with_reducible refine Below.drew ?_ | with_reducible refine Below.alloc ?_ (by first | omega | (simp; done) | (simp; omega)) _)))).trans b_
  replace Hq : Hid (Blk w2 gq [.int .i64 0, .int .i64 0, .int .i64 0, .int .i64 0, .int .i64 0]) := Hq.out.beside bb (by omega)
  replace Ht : Hid (Blk w2 gt [.int .i64 4, .int .i64 30, .int .i64 1000, .int .i64 1000000000]) := Ht.out.beside bb (by omega)
  replace HS : Hid (Beside r w w2) := HS.out.trans bb
  replace HR : Hid (Rd w2 r s n c pv0) := R_
  clear R_
  clear bb b_ sz_ zr_ Hq_z Ht_z
  clear j0v
  clear Ht
  go_wp2_with fail
  refine (near_any 0 m2 (by omega) (by omega) (by omega) (HR.out.below (by repeat (first | with_reducible exact Below.refl _ _ | with_reducible refine Below.setCell ?_ (by first | omega | (simp; done) | (simp; omega)) _ | with_reducible refine bDrewN ?_ _ | with_reducible refine Below.drew ?_ | with_reducible refine Below.alloc ?_ (by first | omega | (simp; done) | (simp; omega)) _)))).mono ?_
  rintro e w3 ⟨v1, pv1, rfl, v1a, v1b, R_, b_⟩
  have Hq_z : gq < w2.heap.size := Hq.out.1
  have sz_ : w.heap.size ≤ w2.heap.size := HS.out.2.2.2.1
  have zr_ : r < w2.heap.size := HR.out.1
  have bb : Beside r w2 w3 := (Beside.of (show Below w2.heap.size w2 _ from (by repeat (first | with_reducible exact Below.refl _ _ | with_reducible refine Below.setCell ?_ (by first | omega | (simp; done) | (simp; omega)) _ | with_reducible refine bDrewN ?_ _ | with_reducible refine Below.drew ?_ | with_reducible refine Below.alloc ?_ (by first | omega | (simp; done) | (simp; omega)) _)))).trans b_
  replace Hq : Hid (Blk w3 gq [.int .i64 0, .int .i64 0, .int .i64 0, .int .i64 0, .int .i64 0]) := Hq.out.beside bb (by omega)
  replace HS : Hid (Beside r w w3) := HS.out.trans bb
  replace HR : Hid (Rd w3 r s n c pv1) := R_
  clear R_
  clear bb b_ sz_ zr_ Hq_z
  have wv1 : IntKind.i64.wrap (2 * v1) = 2 * v1 := by rw [IntKind.wrap_i64]; omega
  go_wp2_with fail
  refine (near_any 0 m4 (by omega) (by omega) (by omega) (HR.out.below (by repeat (first | with_reducible exact Below.refl _ _ | with_reducible refine Below.setCell ?_ (by first | omega | (simp; done) | (simp; omega)) _ | with_reducible refine bDrewN ?_ _ | with_reducible refine Below.drew ?_ | with_reducible refine Below.alloc ?_ (by first | omega | (simp; done) | (simp; omega)) _)))).mono ?_
  rintro e w4 ⟨v2, pv2, rfl, v2a, v2b, R_, b_⟩
  have Hq_z : gq < w3.heap.size := Hq.out.1
  have sz_ : w.heap.size ≤ w3.heap.size := HS.out.2.2.2.1
  have zr_ : r < w3.heap.size := HR.out.1
  have bb : Beside r w3 w4 := (Beside.of (show Below w3.heap.size w3 _ from (by repeat (first | with_reducible exact Below.refl _ _ | with_reducible refine Below.setCell ?_ (by first | omega | (simp; done) | (simp; omega)) _ | with_reducible refine bDrewN ?_ _ | with_reducible refine Below.drew ?_ | with_reducible refine Below.alloc ?_ (by first | omega | (simp; done) | (simp; omega)) _)))).trans b_
  replace Hq : Hid (Blk w4 gq [.int .i64 0, .int .i64 0, .int .i64 0, .int .i64 0, .int .i64 0]) := Hq.out.beside bb (by omega)
  replace HS : Hid (Beside r w w4) := HS.out.trans bb
  replace HR : Hid (Rd w4 r s n c pv2) := R_
  clear R_
  clear bb b_ sz_ zr_ Hq_z
  go_wp2_with fail
  refine (near_any 0 mo (by omega) (by omega) (by omega) (HR.out.below (by repeat (first | with_reducible exact Below.refl _ _ | with_reducible refine Below.setCell ?_ (by first | omega | (simp; done) | (simp; omega)) _ | with_reducible refine bDrewN ?_ _ | with_reducible refine Below.drew ?_ | with_reducible refine Below.alloc ?_ (by first | omega | (simp; done) | (simp; omega)) _)))).mono ?_
  rintro e w5 ⟨v3, pv3, rfl, v3a, v3b, R_, b_⟩
  have Hq_z : gq < w4.heap.size := Hq.out.1
  have sz_ : w.heap.size ≤ w4.heap.size := HS.out.2.2.2.1
  have zr_ : r < w4.heap.size := HR.out.1
  have bb : Beside r w4 w5 := (Beside.of (show Below w4.heap.size w4 _ from (by repeat (first | with_reducible exact Below.refl _ _ | with_reducible refine Below.setCell ?_ (by first | omega | (simp; done) | (simp; omega)) _ | with_reducible refine bDrewN ?_ _ | with_reducible refine Below.drew ?_ | with_reducible refine Below.alloc ?_ (by first | omega | (simp; done) | (simp; omega)) _)))).trans b_
  replace Hq : Hid (Blk w5 gq [.int .i64 0, .int .i64 0, .int .i64 0, .int .i64 0, .int .i64 0]) := Hq.out.beside bb (by omega)
  replace HS : Hid (Beside r w w5) := HS.out.trans bb
  replace HR : Hid (Rd w5 r s n c pv3) := R_
  clear R_
  clear bb b_ sz_ zr_ Hq_z
  go_wp2_with fail
  refine (near_any 0 mo (by omega) (by omega) (by omega) (HR.out.below (by repeat (first | with_reducible exact Below.refl _ _ | with_reducible refine Below.setCell ?_ (by first | omega | (simp; done) | (simp; omega)) _ | with_reducible refine bDrewN ?_ _ | with_reducible refine Below.drew ?_ | with_reducible refine Below.alloc ?_ (by first | omega | (simp; done) | (simp; omega)) _)))).mono ?_
  rintro e w6 ⟨v4, pv4, rfl, v4a, v4b, R_, b_⟩
  have Hq_z : gq < w5.heap.size := Hq.out.1
  have sz_ : w.heap.size ≤ w5.heap.size := HS.out.2.2.2.1
  have zr_ : r < w5.heap.size := HR.out.1
  have bb : Beside r w5 w6 := (Beside.of (show Below w5.heap.size w5 _ from (by repeat (first | with_reducible exact Below.refl _ _ | with_reducible refine Below.setCell ?_ (by first | omega | (simp; done) | (simp; omega)) _ | with_reducible refine bDrewN ?_ _ | with_reducible refine Below.drew ?_ | with_reducible refine Below.alloc ?_ (by first | omega | (simp; done) | (simp; omega)) _)))).trans b_
  replace Hq : Hid (Blk w6 gq [.int .i64 0, .int .i64 0, .int .i64 0, .int .i64 0, .int .i64 0]) := Hq.out.beside bb (by omega)
  replace HS : Hid (Beside r w w6) := HS.out.trans bb
  replace HR : Hid (Rd w6 r s n c pv4) := R_
  clear R_
  clear bb b_ sz_ zr_ Hq_z
  obtain ⟨v9, hv9⟩ : ∃ v9, 2 * v1 = v9 := ⟨_, rfl⟩
  have wv9 : IntKind.i64.wrap (v9 + 1) = v9 + 1 := by rw [IntKind.wrap_i64]; omega
  rw [hv9]
  clear hm2 hm4 hv9 wv1
  go_wp2_with fail
  refine (once_any 16 (by omega) (by omega) (HR.out.below (by repeat (first | with_reducible exact Below.refl _ _ | with_reducible refine Below.setCell ?_ (by first | omega | (simp; done) | (simp; omega)) _ | with_reducible refine bDrewN ?_ _ | with_reducible refine Below.drew ?_ | with_reducible refine Below.alloc ?_ (by first | omega | (simp; done) | (simp; omega)) _)))).mono ?_
  rintro e w7 ⟨fl, pf, rfl, R_, b_⟩
  have Hq_z : gq < w6.heap.size := Hq.out.1
  have sz_ : w.heap.size ≤ w6.heap.size := HS.out.2.2.2.1
  have zr_ : r < w6.heap.size := HR.out.1
  have bb : Beside r w6 w7 := (Beside.of (show Below w6.heap.size w6 _ from (by repeat (first | with_reducible exact Below.refl _ _ | with_reducible refine Below.setCell ?_ (by first | omega | (simp; done) | (simp; omega)) _ | with_reducible refine bDrewN ?_ _ | with_reducible refine Below.drew ?_ | with_reducible refine Below.alloc ?_ (by first | omega | (simp; done) | (simp; omega)) _)))).trans b_
  obtain ⟨gg, hgg⟩ : ∃ g, g = w6.heap.size := ⟨_, rfl⟩
  have Hg : Hid (Blk w7 gg [.int .i64 v0, .int .i64 v9, .int .i64 v2, .int .i64 v3, .int .i64 v4]) := by
    show Blk _ _ _
    have q := ((Blk.new w6 #[.int .i64 v0, .int .i64 v9, .int .i64 v2, .int .i64 v3, .int .i64 v4] 25)).beside b_ (by first | omega | (simp; omega))
    rw [hgg]; exact q
  replace Hq : Hid (Blk w7 gq [.int .i64 0, .int .i64 0, .int .i64 0, .int .i64 0, .int .i64 0]) := Hq.out.beside bb (by omega)
  replace HS : Hid (Beside r w w7) := HS.out.trans bb
  replace HR : Hid (Rd w7 r s n c pf) := R_
  clear R_
  have lgg : w.heap.size ≤ gg := by omega
  have rgg : r < gg := by omega
  have dgqgg : gq < gg := by omega
  try rw [← hgg]
  clear hgg
  clear bb b_ sz_ zr_ Hq_z
  go_upto_if 30 with fail
  go_cut [] (fun wx => ∃ (py : Nat) (y7g1 : Int), Hid (Rd wx r s n c py) ∧ Hid (Beside r w wx) ∧ Hid (Blk wx gq [.int .i64 0, .int .i64 0, .int .i64 0, .int .i64 0, .int .i64 0]) ∧ Hid (Blk wx gg [.int .i64 v0, .int .i64 y7g1, .int .i64 v2, .int .i64 v3, .int .i64 v4]))
  case first =>
    cases fl
    · go_wp2_with fail
      go_meet
      exact ⟨pf, v9, HR, HS, Hq, Hg⟩
    · skip
      obtain ⟨z_g, f_g, c_g⟩ := Hg.out
      have gc0 : w7.cell? ⟨gg, 0, none⟩ = some (.int .i64 v0) := c_g 0 _ rfl
      have gc1 : w7.cell? ⟨gg, 1, none⟩ = some (.int .i64 v9) := c_g 1 _ rfl
      have gc2 : w7.cell? ⟨gg, 2, none⟩ = some (.int .i64 v2) := c_g 2 _ rfl
      have gc3 : w7.cell? ⟨gg, 3, none⟩ = some (.int .i64 v3) := c_g 3 _ rfl
      have gc4 : w7.cell? ⟨gg, 4, none⟩ = some (.int .i64 v4) := c_g 4 _ rfl
      have fg := f_g
      clear f_g c_g
      have fg_ := fg 1
      go_wp2_with fail
      clear gc0 gc1 gc2 gc3 gc4 z_g fg
      clear fg_
      have Hq_z : gq < w7.heap.size := Hq.out.1
      have Hg_z : gg < w7.heap.size := Hg.out.1
      have sz_ : w.heap.size ≤ w7.heap.size := HS.out.2.2.2.1
      have zr_ : r < w7.heap.size := HR.out.1
      obtain ⟨w8, hw_⟩ : ∃ x_, x_ = (w7.setCell ⟨gg, 1, none⟩ (.int .i64 (v9 + 1))) := ⟨_, rfl⟩
      rw [← hw_]
      replace Hq : Hid (Blk w8 gq [.int .i64 0, .int .i64 0, .int .i64 0, .int .i64 0, .int .i64 0]) := by show Blk _ _ _; rw [hw_]; exact (Hq.out.beside (Beside.setCell gg _ 1 _) (by omega))
      replace Hg : Hid (Blk w8 gg [.int .i64 v0, .int .i64 (v9 + 1), .int .i64 v2, .int .i64 v3, .int .i64 v4]) := by show Blk _ _ _; rw [hw_]; exact (Hg.out.set 1 (.int .i64 (v9 + 1)))
      replace HR : Hid (Rd w8 r s n c pf) := by show Rd _ _ _ _ _ _; rw [hw_]; exact Rd.below' HR.out (show Below (r + 1) w7 _ from (by repeat (first | with_reducible exact Below.refl _ _ | with_reducible refine Below.setCell ?_ (by first | omega | (simp; done) | (simp; omega)) _ | with_reducible refine bDrewN ?_ _ | with_reducible refine Below.drew ?_ | with_reducible refine Below.alloc ?_ (by first | omega | (simp; done) | (simp; omega)) _)))
      replace HS : Hid (Beside r w w8) := by show Beside _ _ _; rw [hw_]; exact HS.out.onB (show Below w.heap.size w7 _ from (by repeat (first | with_reducible exact Below.refl _ _ | with_reducible refine Below.setCell ?_ (by first | omega | (simp; done) | (simp; omega)) _ | with_reducible refine bDrewN ?_ _ | with_reducible refine Below.drew ?_ | with_reducible refine Below.alloc ?_ (by first | omega | (simp; done) | (simp; omega)) _)))
      clear hw_
      clear sz_ zr_ Hq_z Hg_z
      go_meet
      exact ⟨pf, (v9 + 1), HR, HS, Hq, Hg⟩
  case rest =>
    clear HR HS Hq Hg
    obtain ⟨p9, y7g1, HR, HS, Hq, Hg⟩ := hcut
    rename World => w9
    go_wp2_with fail
    refine (once_any 20 (by omega) (by omega) (HR.out.below (by repeat (first | with_reducible exact Below.refl _ _ | with_reducible refine Below.setCell ?_ (by first | omega | (simp; done) | (simp; omega)) _ | with_reducible refine bDrewN ?_ _ | with_reducible refine Below.drew ?_ | with_reducible refine Below.alloc ?_ (by first | omega | (simp; done) | (simp; omega)) _)))).mono ?_
    rintro e w10 ⟨fl2, pf2, rfl, R_, b_⟩
    have Hq_z : gq < w9.heap.size := Hq.out.1
    have Hg_z : gg < w9.heap.size := Hg.out.1
    have sz_ : w.heap.size ≤ w9.heap.size := HS.out.2.2.2.1
    have zr_ : r < w9.heap.size := HR.out.1
    have bb : Beside r w9 w10 := (Beside.of (show Below w9.heap.size w9 _ from (by repeat (first | with_reducible exact Below.refl _ _ | with_reducible refine Below.setCell ?_ (by first | omega | (simp; done) | (simp; omega)) _ | with_reducible refine bDrewN ?_ _ | with_reducible refine Below.drew ?_ | with_reducible refine Below.alloc ?_ (by first | omega | (simp; done) | (simp; omega)) _)))).trans b_
    replace Hq : Hid (Blk w10 gq [.int .i64 0, .int .i64 0, .int .i64 0, .int .i64 0, .int .i64 0]) := Hq.out.beside bb (by omega)
    replace Hg : Hid (Blk w10 gg [.int .i64 v0, .int .i64 y7g1, .int .i64 v2, .int .i64 v3, .int .i64 v4]) := Hg.out.beside bb (by omega)
    replace HS : Hid (Beside r w w10) := HS.out.trans bb
    replace HR : Hid (Rd w10 r s n c pf2) := R_
    clear R_
    clear bb b_ sz_ zr_ Hq_z Hg_z
    go_upto_if 36 with fail
    go_cut [] (fun wx => ∃ (py : Nat) (y10g0 : Int), Hid (Rd wx r s n c py) ∧ Hid (Beside r w wx) ∧ Hid (Blk wx gq [.int .i64 0, .int .i64 0, .int .i64 0, .int .i64 0, .int .i64 0]) ∧ Hid (Blk wx gg [.int .i64 y10g0, .int .i64 y7g1, .int .i64 v2, .int .i64 v3, .int .i64 v4]))
    case first =>
      cases fl2
      · go_wp2_with fail
        go_meet
        exact ⟨pf2, v0, HR, HS, Hq, Hg⟩
      · skip
        go_wp2_with fail
        refine (off_any 0 1000000000 (by omega) (by omega) (by omega) (HR.out.below (by repeat (first | with_reducible exact Below.refl _ _ | with_reducible refine Below.setCell ?_ (by first | omega | (simp; done) | (simp; omega)) _ | with_reducible refine bDrewN ?_ _ | with_reducible refine Below.drew ?_ | with_reducible refine Below.alloc ?_ (by first | omega | (simp; done) | (simp; omega)) _)))).mono ?_
        rintro e w11 ⟨x, px, rfl, x0, R_, b_⟩
        have Hq_z : gq < w10.heap.size := Hq.out.1
        have Hg_z : gg < w10.heap.size := Hg.out.1
        have sz_ : w.heap.size ≤ w10.heap.size := HS.out.2.2.2.1
        have zr_ : r < w10.heap.size := HR.out.1
        have bb : Beside r w10 w11 := (Beside.of (show Below w10.heap.size w10 _ from (by repeat (first | with_reducible exact Below.refl _ _ | with_reducible refine Below.setCell ?_ (by first | omega | (simp; done) | (simp; omega)) _ | with_reducible refine bDrewN ?_ _ | with_reducible refine Below.drew ?_ | with_reducible refine Below.alloc ?_ (by first | omega | (simp; done) | (simp; omega)) _)))).trans b_
        replace Hq : Hid (Blk w11 gq [.int .i64 0, .int .i64 0, .int .i64 0, .int .i64 0, .int .i64 0]) := Hq.out.beside bb (by omega)
        replace Hg : Hid (Blk w11 gg [.int .i64 v0, .int .i64 y7g1, .int .i64 v2, .int .i64 v3, .int .i64 v4]) := Hg.out.beside bb (by omega)
        replace HS : Hid (Beside r w w11) := HS.out.trans bb
        replace HR : Hid (Rd w11 r s n c px) := R_
        clear R_
        clear bb b_ sz_ zr_ Hq_z Hg_z
        obtain ⟨z_g, f_g, c_g⟩ := Hg.out
        have gc0 : w11.cell? ⟨gg, 0, none⟩ = some (.int .i64 v0) := c_g 0 _ rfl
        have gc1 : w11.cell? ⟨gg, 1, none⟩ = some (.int .i64 y7g1) := c_g 1 _ rfl
        have gc2 : w11.cell? ⟨gg, 2, none⟩ = some (.int .i64 v2) := c_g 2 _ rfl
        have gc3 : w11.cell? ⟨gg, 3, none⟩ = some (.int .i64 v3) := c_g 3 _ rfl
        have gc4 : w11.cell? ⟨gg, 4, none⟩ = some (.int .i64 v4) := c_g 4 _ rfl
        have fg := f_g
        clear f_g c_g
        have fg_ := fg 0
        go_wp2_with fail
        clear gc0 gc1 gc2 gc3 gc4 z_g fg
        clear fg_
        have Hq_z : gq < w11.heap.size := Hq.out.1
        have Hg_z : gg < w11.heap.size := Hg.out.1
        have sz_ : w.heap.size ≤ w11.heap.size := HS.out.2.2.2.1
        have zr_ : r < w11.heap.size := HR.out.1
        obtain ⟨w12, hw_⟩ : ∃ x_, x_ = (w11.setCell ⟨gg, 0, none⟩ (.int .i64 x)) := ⟨_, rfl⟩
        rw [← hw_]
        replace Hq : Hid (Blk w12 gq [.int .i64 0, .int .i64 0, .int .i64 0, .int .i64 0, .int .i64 0]) := by show Blk _ _ _; rw [hw_]; exact (Hq.out.beside (Beside.setCell gg _ 0 _) (by omega))
        replace Hg : Hid (Blk w12 gg [.int .i64 x, .int .i64 y7g1, .int .i64 v2, .int .i64 v3, .int .i64 v4]) := by show Blk _ _ _; rw [hw_]; exact (Hg.out.set 0 (.int .i64 x))
        replace HR : Hid (Rd w12 r s n c px) := by show Rd _ _ _ _ _ _; rw [hw_]; exact Rd.below' HR.out (show Below (r + 1) w11 _ from (by repeat (first | with_reducible exact Below.refl _ _ | with_reducible refine Below.setCell ?_ (by first | omega | (simp; done) | (simp; omega)) _ | with_reducible refine bDrewN ?_ _ | with_reducible refine Below.drew ?_ | with_reducible refine Below.alloc ?_ (by first | omega | (simp; done) | (simp; omega)) _)))
        replace HS : Hid (Beside r w w12) := by show Beside _ _ _; rw [hw_]; exact HS.out.onB (show Below w.heap.size w11 _ from (by repeat (first | with_reducible exact Below.refl _ _ | with_reducible refine Below.setCell ?_ (by first | omega | (simp; done) | (simp; omega)) _ | with_reducible refine bDrewN ?_ _ | with_reducible refine Below.drew ?_ | with_reducible refine Below.alloc ?_ (by first | omega | (simp; done) | (simp; omega)) _)))
        clear hw_
        clear sz_ zr_ Hq_z Hg_z
        go_meet
        exact ⟨px, x, HR, HS, Hq, Hg⟩
    case rest =>
      clear HR HS Hq Hg
      obtain ⟨p13, y10g0, HR, HS, Hq, Hg⟩ := hcut
      rename World => w13
      go_wp2_with fail
      refine (once_any 20 (by omega) (by omega) (HR.out.below (by repeat (first | with_reducible exact Below.refl _ _ | with_reducible refine Below.setCell ?_ (by first | omega | (simp; done) | (simp; omega)) _ | with_reducible refine bDrewN ?_ _ | with_reducible refine Below.drew ?_ | with_reducible refine Below.alloc ?_ (by first | omega | (simp; done) | (simp; omega)) _)))).mono ?_
      rintro e w14 ⟨fl3, pf3, rfl, R_, b_⟩
      have Hq_z : gq < w13.heap.size := Hq.out.1
      have Hg_z : gg < w13.heap.size := Hg.out.1
      have sz_ : w.heap.size ≤ w13.heap.size := HS.out.2.2.2.1
      have zr_ : r < w13.heap.size := HR.out.1
      have bb : Beside r w13 w14 := (Beside.of (show Below w13.heap.size w13 _ from (by repeat (first | with_reducible exact Below.refl _ _ | with_reducible refine Below.setCell ?_ (by first | omega | (simp; done) | (simp; omega)) _ | with_reducible refine bDrewN ?_ _ | with_reducible refine Below.drew ?_ | with_reducible refine Below.alloc ?_ (by first | omega | (simp; done) | (simp; omega)) _)))).trans b_
      replace Hq : Hid (Blk w14 gq [.int .i64 0, .int .i64 0, .int .i64 0, .int .i64 0, .int .i64 0]) := Hq.out.beside bb (by omega)
      replace Hg : Hid (Blk w14 gg [.int .i64 y10g0, .int .i64 y7g1, .int .i64 v2, .int .i64 v3, .int .i64 v4]) := Hg.out.beside bb (by omega)
      replace HS : Hid (Beside r w w14) := HS.out.trans bb
      replace HR : Hid (Rd w14 r s n c pf3) := R_
      clear R_
      clear bb b_ sz_ zr_ Hq_z Hg_z
      have wv3 : IntKind.i64.wrap (10 * v3) = 10 * v3 := by rw [IntKind.wrap_i64]; omega
      go_upto_if 41 with fail
      go_cut [] (fun wx => ∃ (py : Nat) (y14g3 : Int), Hid (Rd wx r s n c py) ∧ Hid (Beside r w wx) ∧ Hid (Blk wx gq [.int .i64 0, .int .i64 0, .int .i64 0, .int .i64 0, .int .i64 0]) ∧ Hid (Blk wx gg [.int .i64 y10g0, .int .i64 y7g1, .int .i64 v2, .int .i64 y14g3, .int .i64 v4]))
      case first =>
        cases fl3
        · go_wp2_with fail
          go_meet
          exact ⟨pf3, v3, HR, HS, Hq, Hg⟩
        · skip
          obtain ⟨z_g, f_g, c_g⟩ := Hg.out
          have gc0 : w14.cell? ⟨gg, 0, none⟩ = some (.int .i64 y10g0) := c_g 0 _ rfl
          have gc1 : w14.cell? ⟨gg, 1, none⟩ = some (.int .i64 y7g1) := c_g 1 _ rfl
          have gc2 : w14.cell? ⟨gg, 2, none⟩ = some (.int .i64 v2) := c_g 2 _ rfl
          have gc3 : w14.cell? ⟨gg, 3, none⟩ = some (.int .i64 v3) := c_g 3 _ rfl
          have gc4 : w14.cell? ⟨gg, 4, none⟩ = some (.int .i64 v4) := c_g 4 _ rfl
          have fg := f_g
          clear f_g c_g
          have fg_ := fg 3
          go_wp2_with fail
          clear gc0 gc1 gc2 gc3 gc4 z_g fg
          clear fg_
          have Hq_z : gq < w14.heap.size := Hq.out.1
          have Hg_z : gg < w14.heap.size := Hg.out.1
          have sz_ : w.heap.size ≤ w14.heap.size := HS.out.2.2.2.1
          have zr_ : r < w14.heap.size := HR.out.1
          obtain ⟨w15, hw_⟩ : ∃ x_, x_ = (w14.setCell ⟨gg, 3, none⟩ (.int .i64 (10 * v3))) := ⟨_, rfl⟩
          rw [← hw_]
          replace Hq : Hid (Blk w15 gq [.int .i64 0, .int .i64 0, .int .i64 0, .int .i64 0, .int .i64 0]) := by show Blk _ _ _; rw [hw_]; exact (Hq.out.beside (Beside.setCell gg _ 3 _) (by omega))
          replace Hg : Hid (Blk w15 gg [.int .i64 y10g0, .int .i64 y7g1, .int .i64 v2, .int .i64 (10 * v3), .int .i64 v4]) := by show Blk _ _ _; rw [hw_]; exact (Hg.out.set 3 (.int .i64 (10 * v3)))
          replace HR : Hid (Rd w15 r s n c pf3) := by show Rd _ _ _ _ _ _; rw [hw_]; exact Rd.below' HR.out (show Below (r + 1) w14 _ from (by repeat (first | with_reducible exact Below.refl _ _ | with_reducible refine Below.setCell ?_ (by first | omega | (simp; done) | (simp; omega)) _ | with_reducible refine bDrewN ?_ _ | with_reducible refine Below.drew ?_ | with_reducible refine Below.alloc ?_ (by first | omega | (simp; done) | (simp; omega)) _)))
          replace HS : Hid (Beside r w w15) := by show Beside _ _ _; rw [hw_]; exact HS.out.onB (show Below w.heap.size w14 _ from (by repeat (first | with_reducible exact Below.refl _ _ | with_reducible refine Below.setCell ?_ (by first | omega | (simp; done) | (simp; omega)) _ | with_reducible refine bDrewN ?_ _ | with_reducible refine Below.drew ?_ | with_reducible refine Below.alloc ?_ (by first | omega | (simp; done) | (simp; omega)) _)))
          clear hw_
          clear sz_ zr_ Hq_z Hg_z
          go_meet
          exact ⟨pf3, (10 * v3), HR, HS, Hq, Hg⟩
      case rest =>
        clear HR HS Hq Hg
        obtain ⟨p16, y14g3, HR, HS, Hq, Hg⟩ := hcut
        rename World => w16
        obtain ⟨z_g, f_g, c_g⟩ := Hg.out
        have gc0 : w16.cell? ⟨gg, 0, none⟩ = some (.int .i64 y10g0) := c_g 0 _ rfl
        have gc1 : w16.cell? ⟨gg, 1, none⟩ = some (.int .i64 y7g1) := c_g 1 _ rfl
        have gc2 : w16.cell? ⟨gg, 2, none⟩ = some (.int .i64 v2) := c_g 2 _ rfl
        have gc3 : w16.cell? ⟨gg, 3, none⟩ = some (.int .i64 y14g3) := c_g 3 _ rfl
        have gc4 : w16.cell? ⟨gg, 4, none⟩ = some (.int .i64 v4) := c_g 4 _ rfl
        have fg := f_g
        clear f_g c_g
        obtain ⟨z_q, f_q, c_q⟩ := Hq.out
        have qc0 : w16.cell? ⟨gq, 0, none⟩ = some (.int .i64 0) := c_q 0 _ rfl
        have qc1 : w16.cell? ⟨gq, 1, none⟩ = some (.int .i64 0) := c_q 1 _ rfl
        have qc2 : w16.cell? ⟨gq, 2, none⟩ = some (.int .i64 0) := c_q 2 _ rfl
        have qc3 : w16.cell? ⟨gq, 3, none⟩ = some (.int .i64 0) := c_q 3 _ rfl
        have qc4 : w16.cell? ⟨gq, 4, none⟩ = some (.int .i64 0) := c_q 4 _ rfl
        have fq := f_q
        clear f_q c_q
        have fq0 := fq 0
        have fq1 := fq 1
        have fq2 := fq 2
        have fq3 := fq 3
        have fq4 := fq 4
        have n_ : gg ≠ gq := by omega
        have BS := HS.out
        have sBS := BS.2.2.2.1
        go_wp2
        exact bodyPost_ret (v := .agg #[.int .i64 y10g0, .int .i64 y7g1, .int .i64 v2, .int .i64 y14g3, .int .i64 v4]) (by simp [results, Tryd.results24, go_sem, gc0, gc1, gc2, gc3, gc4, qc0, qc1, qc2, qc3, qc4, n_, n_.symm]) rfl ⟨y10g0, y7g1, v2, y14g3, v4, p16, rfl, Rd.below' HR.out (show Below (r + 1) w16 _ from (by repeat (first | with_reducible exact Below.refl _ _ | with_reducible refine Below.setCell ?_ (by first | omega | (simp; done) | (simp; omega)) _ | with_reducible refine bDrewN ?_ _ | with_reducible refine Below.drew ?_ | with_reducible refine Below.alloc ?_ (by first | omega | (simp; done) | (simp; omega)) _))), HS.out.onB (show Below w.heap.size w16 _ from (by repeat (first | with_reducible exact Below.refl _ _ | with_reducible refine Below.setCell ?_ (by first | omega | (simp; done) | (simp; omega)) _ | with_reducible refine bDrewN ?_ _ | with_reducible refine Below.drew ?_ | with_reducible refine Below.alloc ?_ (by first | omega | (simp; done) | (simp; omega)) _)))⟩
theorem need_in (c h s o n : Int) : -1 ≤ needV c h s o n ∧ needV c h s o n ≤ 107142858 := by
  unfold needV
  split
  · rename_i hf
    have := air_bounds hf
    omega
  · omega
def BurnPost (w : World) (e : Ending) (w' : World) : Prop := ∃ (x0 x1 x2 x3 x4 air : Int), e = .returned (.tuple #[.agg #[.int .i64 x0, .int .i64 x1, .int .i64 x2, .int .i64 x3, .int .i64 x4], .int .i64 air]) ∧ Below w.heap.size w w'
set_option maxRecDepth 20000 in
set_option maxHeartbeats 8000000 in
theorem drawBurn_any {s : Option Addr} {n c : Nat} {w : World} (h : Hid (Code8 w s n)) :
    Calls Tryd.prog 9 #[.slice s n c] w fun e w' => BurnPost w e w' := by
  go_enter Tryd.func9, Tryd.ntmps9
  go_wp2_with fail
  refine (open_any (h.out.below (by repeat (first | with_reducible exact Below.refl _ _ | with_reducible refine Below.setCell ?_ (by first | omega | (simp; done) | (simp; omega)) _ | with_reducible refine bDrewN ?_ _ | with_reducible refine Below.drew ?_ | with_reducible refine Below.alloc ?_ (by first | omega | (simp; done) | (simp; omega)) _)))).mono ?_
  rintro e w1 ⟨rfl, R_, b_⟩
  obtain ⟨r, hr⟩ : ∃ r, r = w.heap.size + 1 := ⟨_, rfl⟩
  have HR : Hid (Rd w1 r s n c 0) := by show Rd _ _ _ _ _ _; rw [hr]; simpa using R_
  have HB : Hid (Below w.heap.size w w1) := (show Below w.heap.size w _ from (by repeat (first | with_reducible exact Below.refl _ _ | with_reducible refine Below.setCell ?_ (by first | omega | (simp; done) | (simp; omega)) _ | with_reducible refine bDrewN ?_ _ | with_reducible refine Below.drew ?_ | with_reducible refine Below.alloc ?_ (by first | omega | (simp; done) | (simp; omega)) _))).trans (b_.mono (by first | omega | (simp; done) | (simp; omega)))
  obtain ⟨gq, hgq⟩ : ∃ g, g = w.heap.size := ⟨_, rfl⟩
  have Hq : Hid (Blk w1 gq [.int .i64 0, .int .i64 0, .int .i64 0, .int .i64 0, .int .i64 0]) := by
    show Blk _ _ _
    have q := ((Blk.new w #[.int .i64 0, .int .i64 0, .int .i64 0, .int .i64 0, .int .i64 0] 25)).below b_
    rw [hgq]; exact q
  have lgq : w.heap.size ≤ gq := by omega
  have rgq : gq < r := by omega
  have zr : w.heap.size ≤ r := by omega
  try rw [show (w.alloc (.cells #[.int .i64 0, .int .i64 0, .int .i64 0, .int .i64 0, .int .i64 0] 25)).heap.size = r by rw [hr]; simp]
  try rw [← hr]
  try rw [← hgq]
  clear hgq
  clear R_ b_ h hr
  go_wp2_with fail
  refine (fuel_any (HR.out.below (by repeat (first | with_reducible exact Below.refl _ _ | with_reducible refine Below.setCell ?_ (by first | omega | (simp; done) | (simp; omega)) _ | with_reducible refine bDrewN ?_ _ | with_reducible refine Below.drew ?_ | with_reducible refine Below.alloc ?_ (by first | omega | (simp; done) | (simp; omega)) _)))).mono ?_
  rintro e w2 ⟨x0, x1, x2, x3, x4, pd, rfl, R_, b_⟩
  have Hq_z : gq < w1.heap.size := Hq.out.1
  have sz_ : w.heap.size ≤ w1.heap.size := HB.out.size
  have zr_ : r < w1.heap.size := HR.out.1
  have bb : Beside r w1 w2 := (Beside.of (show Below w1.heap.size w1 _ from (by repeat (first | with_reducible exact Below.refl _ _ | with_reducible refine Below.setCell ?_ (by first | omega | (simp; done) | (simp; omega)) _ | with_reducible refine bDrewN ?_ _ | with_reducible refine Below.drew ?_ | with_reducible refine Below.alloc ?_ (by first | omega | (simp; done) | (simp; omega)) _)))).trans b_
  replace Hq : Hid (Blk w2 gq [.int .i64 0, .int .i64 0, .int .i64 0, .int .i64 0, .int .i64 0]) := Hq.out.beside bb (by omega)
  replace HB : Hid (Below w.heap.size w w2) := HB.out.trans (bb.below (by omega) HB.out.size)
  replace HR : Hid (Rd w2 r s n c pd) := R_
  clear R_
  clear bb b_ sz_ zr_ Hq_z
  go_upto_region 3 with fail
  have Hq_z : gq < w2.heap.size := Hq.out.1
  have sz_ : w.heap.size ≤ w2.heap.size := HB.out.size
  have zr_ : r < w2.heap.size := HR.out.1
  obtain ⟨w3, hw_⟩ : ∃ x_, x_ = (w2.alloc (.cells #[.int .i64 x0, .int .i64 x1, .int .i64 x2, .int .i64 x3, .int .i64 x4] 25)) := ⟨_, rfl⟩
  rw [← hw_]
  replace Hq : Hid (Blk w3 gq [.int .i64 0, .int .i64 0, .int .i64 0, .int .i64 0, .int .i64 0]) := by show Blk _ _ _; rw [hw_]; exact (Hq.out.below (below0 _ _))
  obtain ⟨gf, hgf⟩ : ∃ g, g = w2.heap.size := ⟨_, rfl⟩
  have Hf : Hid (Blk w3 gf [.int .i64 x0, .int .i64 x1, .int .i64 x2, .int .i64 x3, .int .i64 x4]) := by show Blk _ _ _; rw [hw_, hgf]; have q := (Blk.new w2 #[.int .i64 x0, .int .i64 x1, .int .i64 x2, .int .i64 x3, .int .i64 x4] 25); first | exact q | exact (by simpa using q)
  replace HR : Hid (Rd w3 r s n c pd) := by show Rd _ _ _ _ _ _; rw [hw_]; exact Rd.below' HR.out (show Below (r + 1) w2 _ from (by repeat (first | with_reducible exact Below.refl _ _ | with_reducible refine Below.setCell ?_ (by first | omega | (simp; done) | (simp; omega)) _ | with_reducible refine bDrewN ?_ _ | with_reducible refine Below.drew ?_ | with_reducible refine Below.alloc ?_ (by first | omega | (simp; done) | (simp; omega)) _)))
  replace HB : Hid (Below w.heap.size w w3) := by show Below _ _ _; rw [hw_]; exact HB.out.trans (show Below w.heap.size w2 _ from (by repeat (first | with_reducible exact Below.refl _ _ | with_reducible refine Below.setCell ?_ (by first | omega | (simp; done) | (simp; omega)) _ | with_reducible refine bDrewN ?_ _ | with_reducible refine Below.drew ?_ | with_reducible refine Below.alloc ?_ (by first | omega | (simp; done) | (simp; omega)) _)))
  clear hw_
  have lgf : w.heap.size ≤ gf := by omega
  have rgf : r < gf := by omega
  have dgqgf : gq < gf := by omega
  try rw [← hgf]
  clear hgf
  clear sz_ zr_ Hq_z
  obtain ⟨nd, hnd, nd0, nd1⟩ : ∃ nd, needV x0 x1 x2 x3 x4 = nd ∧ -1 ≤ nd ∧ nd ≤ 107142858 := ⟨_, rfl, need_in _ _ _ _ _⟩
  have HN : Hid (∀ w, Calls Tryd.prog 14 #[.agg #[.int .i64 x0, .int .i64 x1, .int .i64 x2, .int .i64 x3, .int .i64 x4]] w fun e w' => e = .returned (.int .i64 nd) ∧ Below w.heap.size w w') := fun w => hnd ▸ specNeed_any x0 x1 x2 x3 x4 w
  clear hnd
  obtain ⟨z_f, f_f, c_f⟩ := Hf.out
  have fc0 : w3.cell? ⟨gf, 0, none⟩ = some (.int .i64 x0) := c_f 0 _ rfl
  have fc1 : w3.cell? ⟨gf, 1, none⟩ = some (.int .i64 x1) := c_f 1 _ rfl
  have fc2 : w3.cell? ⟨gf, 2, none⟩ = some (.int .i64 x2) := c_f 2 _ rfl
  have fc3 : w3.cell? ⟨gf, 3, none⟩ = some (.int .i64 x3) := c_f 3 _ rfl
  have fc4 : w3.cell? ⟨gf, 4, none⟩ = some (.int .i64 x4) := c_f 4 _ rfl
  have ff := f_f
  clear f_f c_f
  go_wp2_with fail
  refine (HN.out _).mono ?_
  rintro e w4 ⟨rfl, b_⟩
  have Hq_z : gq < w3.heap.size := Hq.out.1
  have Hf_z : gf < w3.heap.size := Hf.out.1
  have sz_ : w.heap.size ≤ w3.heap.size := HB.out.size
  have zr_ : r < w3.heap.size := HR.out.1
  have bb : Beside r w3 w4 := Beside.of ((show Below w3.heap.size w3 _ from (by repeat (first | with_reducible exact Below.refl _ _ | with_reducible refine Below.setCell ?_ (by first | omega | (simp; done) | (simp; omega)) _ | with_reducible refine bDrewN ?_ _ | with_reducible refine Below.drew ?_ | with_reducible refine Below.alloc ?_ (by first | omega | (simp; done) | (simp; omega)) _))).trans (b_.mono (by first | omega | (simp; done) | (simp; omega))))
  replace Hq : Hid (Blk w4 gq [.int .i64 0, .int .i64 0, .int .i64 0, .int .i64 0, .int .i64 0]) := Hq.out.beside bb (by omega)
  replace Hf : Hid (Blk w4 gf [.int .i64 x0, .int .i64 x1, .int .i64 x2, .int .i64 x3, .int .i64 x4]) := Hf.out.beside bb (by omega)
  replace HB : Hid (Below w.heap.size w w4) := HB.out.trans (bb.below (by omega) HB.out.size)
  replace HR : Hid (Rd w4 r s n c pd) := HR.out.below ((show Below w3.heap.size w3 _ from (by repeat (first | with_reducible exact Below.refl _ _ | with_reducible refine Below.setCell ?_ (by first | omega | (simp; done) | (simp; omega)) _ | with_reducible refine bDrewN ?_ _ | with_reducible refine Below.drew ?_ | with_reducible refine Below.alloc ?_ (by first | omega | (simp; done) | (simp; omega)) _))).trans (b_.mono (by first | omega | (simp; done) | (simp; omega))))
  clear bb b_ sz_ zr_ Hq_z Hf_z
  clear fc0 fc1 fc2 fc3 fc4 z_f ff
  go_wp2_with fail
  refine (below_any 4 (HR.out.below (by repeat (first | with_reducible exact Below.refl _ _ | with_reducible refine Below.setCell ?_ (by first | omega | (simp; done) | (simp; omega)) _ | with_reducible refine bDrewN ?_ _ | with_reducible refine Below.drew ?_ | with_reducible refine Below.alloc ?_ (by first | omega | (simp; done) | (simp; omega)) _)))).mono ?_
  rintro e w5 ⟨kk, pk, rfl, kk0, kk1, kk2, R_, b_⟩
  have Hq_z : gq < w4.heap.size := Hq.out.1
  have Hf_z : gf < w4.heap.size := Hf.out.1
  have sz_ : w.heap.size ≤ w4.heap.size := HB.out.size
  have zr_ : r < w4.heap.size := HR.out.1
  have bb : Beside r w4 w5 := (Beside.of (show Below w4.heap.size w4 _ from (by repeat (first | with_reducible exact Below.refl _ _ | with_reducible refine Below.setCell ?_ (by first | omega | (simp; done) | (simp; omega)) _ | with_reducible refine bDrewN ?_ _ | with_reducible refine Below.drew ?_ | with_reducible refine Below.alloc ?_ (by first | omega | (simp; done) | (simp; omega)) _)))).trans b_
  replace Hq : Hid (Blk w5 gq [.int .i64 0, .int .i64 0, .int .i64 0, .int .i64 0, .int .i64 0]) := Hq.out.beside bb (by omega)
  replace Hf : Hid (Blk w5 gf [.int .i64 x0, .int .i64 x1, .int .i64 x2, .int .i64 x3, .int .i64 x4]) := Hf.out.beside bb (by omega)
  replace HB : Hid (Below w.heap.size w w5) := HB.out.trans (bb.below (by omega) HB.out.size)
  replace HR : Hid (Rd w5 r s n c pk) := R_
  clear R_
  clear bb b_ sz_ zr_ Hq_z Hf_z
  clear kk1 kk2
  by_cases e0 : kk = 0
  case pos =>
    subst e0
    go_upto_region 6 with fail
    obtain ⟨z_f, f_f, c_f⟩ := Hf.out
    have fc0 : w5.cell? ⟨gf, 0, none⟩ = some (.int .i64 x0) := c_f 0 _ rfl
    have fc1 : w5.cell? ⟨gf, 1, none⟩ = some (.int .i64 x1) := c_f 1 _ rfl
    have fc2 : w5.cell? ⟨gf, 2, none⟩ = some (.int .i64 x2) := c_f 2 _ rfl
    have fc3 : w5.cell? ⟨gf, 3, none⟩ = some (.int .i64 x3) := c_f 3 _ rfl
    have fc4 : w5.cell? ⟨gf, 4, none⟩ = some (.int .i64 x4) := c_f 4 _ rfl
    have ff := f_f
    clear f_f c_f
    obtain ⟨z_q, f_q, c_q⟩ := Hq.out
    have qc0 : w5.cell? ⟨gq, 0, none⟩ = some (.int .i64 0) := c_q 0 _ rfl
    have qc1 : w5.cell? ⟨gq, 1, none⟩ = some (.int .i64 0) := c_q 1 _ rfl
    have qc2 : w5.cell? ⟨gq, 2, none⟩ = some (.int .i64 0) := c_q 2 _ rfl
    have qc3 : w5.cell? ⟨gq, 3, none⟩ = some (.int .i64 0) := c_q 3 _ rfl
    have qc4 : w5.cell? ⟨gq, 4, none⟩ = some (.int .i64 0) := c_q 4 _ rfl
    have fq := f_q
    clear f_q c_q
    have fq0 := fq 0
    have fq1 := fq 1
    have fq2 := fq 2
    have fq3 := fq 3
    have fq4 := fq 4
    have n_ : gf ≠ gq := by omega
    have zr_ : r < w5.heap.size := HR.out.1
    have sB_ : w.heap.size ≤ w5.heap.size := HB.out.size
    go_region_with (go_at_call 26; refine (off_any 0 1000000000 (by omega) (by omega) (by omega) (HR.out.below (by repeat (first | with_reducible exact Below.refl _ _ | with_reducible refine Below.setCell ?_ (by first | omega | (simp; done) | (simp; omega)) _ | with_reducible refine bDrewN ?_ _ | with_reducible refine Below.drew ?_ | with_reducible refine Below.alloc ?_ (by first | omega | (simp; done) | (simp; omega)) _)))).mono ?_; rintro e w9 ⟨a9, py, rfl, -, R9, b9⟩; have bb : Beside r w5 w9 := (Beside.of (show Below w5.heap.size w5 _ from (by repeat (first | with_reducible exact Below.refl _ _ | with_reducible refine Below.setCell ?_ (by first | omega | (simp; done) | (simp; omega)) _ | with_reducible refine bDrewN ?_ _ | with_reducible refine Below.drew ?_ | with_reducible refine Below.alloc ?_ (by first | omega | (simp; done) | (simp; omega)) _)))).trans b9; have HF9 := Hf.out.beside bb (by omega); have HQ9 := Hq.out.beside bb (by omega); have j0 : w9.cell? ⟨gf, 0, none⟩ = some (.int .i64 x0) := HF9.2.2 0 _ rfl; have j1 : w9.cell? ⟨gf, 1, none⟩ = some (.int .i64 x1) := HF9.2.2 1 _ rfl; have j2 : w9.cell? ⟨gf, 2, none⟩ = some (.int .i64 x2) := HF9.2.2 2 _ rfl; have j3 : w9.cell? ⟨gf, 3, none⟩ = some (.int .i64 x3) := HF9.2.2 3 _ rfl; have j4 : w9.cell? ⟨gf, 4, none⟩ = some (.int .i64 x4) := HF9.2.2 4 _ rfl; have h0 : w9.cell? ⟨gq, 0, none⟩ = some (.int .i64 0) := HQ9.2.2 0 _ rfl; have h1 : w9.cell? ⟨gq, 1, none⟩ = some (.int .i64 0) := HQ9.2.2 1 _ rfl; have h2 : w9.cell? ⟨gq, 2, none⟩ = some (.int .i64 0) := HQ9.2.2 2 _ rfl; have h3 : w9.cell? ⟨gq, 3, none⟩ = some (.int .i64 0) := HQ9.2.2 3 _ rfl; have h4 : w9.cell? ⟨gq, 4, none⟩ = some (.int .i64 0) := HQ9.2.2 4 _ rfl; have e0_ := HQ9.2.1 0; have e1_ := HQ9.2.1 1; have e2_ := HQ9.2.1 2; have e3_ := HQ9.2.1 3; have e4_ := HQ9.2.1 4; have BF : Below w.heap.size w w9 := HB.out.trans (bb.below (by omega) sB_); have sBF := BF.size; have zq9 := HQ9.1; have zf9 := HF9.1; clear HF9 HQ9 R9 bb b9)
    all_goals
      go_wp2
      exact bodyPost_ret (v := .tuple #[.agg #[.int .i64 x0, .int .i64 x1, .int .i64 x2, .int .i64 x3, .int .i64 x4], .int .i64 a9]) (by simp [results, Tryd.results9, go_sem, j0, j1, j2, j3, j4, h0, h1, h2, h3, h4, n_, n_.symm]) rfl ⟨x0, x1, x2, x3, x4, _, rfl, (by repeat (first | with_reducible exact Below.refl _ _ | with_reducible exact BF | with_reducible refine Below.setCell ?_ (by first | omega | (simp; done) | (simp; omega)) _ | with_reducible refine bDrewN ?_ _ | with_reducible refine Below.drew ?_ | with_reducible refine Below.alloc ?_ (by first | omega | (simp; done) | (simp; omega)) _))⟩
  have ne0 : (kk == 0) = false := by simpa using e0
  by_cases e1 : kk = 1
  case pos =>
    subst e1
    go_upto_region 8 with fail
    obtain ⟨z_f, f_f, c_f⟩ := Hf.out
    have fc0 : w5.cell? ⟨gf, 0, none⟩ = some (.int .i64 x0) := c_f 0 _ rfl
    have fc1 : w5.cell? ⟨gf, 1, none⟩ = some (.int .i64 x1) := c_f 1 _ rfl
    have fc2 : w5.cell? ⟨gf, 2, none⟩ = some (.int .i64 x2) := c_f 2 _ rfl
    have fc3 : w5.cell? ⟨gf, 3, none⟩ = some (.int .i64 x3) := c_f 3 _ rfl
    have fc4 : w5.cell? ⟨gf, 4, none⟩ = some (.int .i64 x4) := c_f 4 _ rfl
    have ff := f_f
    clear f_f c_f
    obtain ⟨z_q, f_q, c_q⟩ := Hq.out
    have qc0 : w5.cell? ⟨gq, 0, none⟩ = some (.int .i64 0) := c_q 0 _ rfl
    have qc1 : w5.cell? ⟨gq, 1, none⟩ = some (.int .i64 0) := c_q 1 _ rfl
    have qc2 : w5.cell? ⟨gq, 2, none⟩ = some (.int .i64 0) := c_q 2 _ rfl
    have qc3 : w5.cell? ⟨gq, 3, none⟩ = some (.int .i64 0) := c_q 3 _ rfl
    have qc4 : w5.cell? ⟨gq, 4, none⟩ = some (.int .i64 0) := c_q 4 _ rfl
    have fq := f_q
    clear f_q c_q
    have fq0 := fq 0
    have fq1 := fq 1
    have fq2 := fq 2
    have fq3 := fq 3
    have fq4 := fq 4
    have n_ : gf ≠ gq := by omega
    have zr_ : r < w5.heap.size := HR.out.1
    have sB_ : w.heap.size ≤ w5.heap.size := HB.out.size
    go_region_with (go_at_call 25; refine (below_any 5 (HR.out.below (by repeat (first | with_reducible exact Below.refl _ _ | with_reducible refine Below.setCell ?_ (by first | omega | (simp; done) | (simp; omega)) _ | with_reducible refine bDrewN ?_ _ | with_reducible refine Below.drew ?_ | with_reducible refine Below.alloc ?_ (by first | omega | (simp; done) | (simp; omega)) _)))).mono ?_; rintro e w9 ⟨a9, py, rfl, a90, a91, a92, R9, b9⟩; have a93 : a9 ≤ 4 := (by omega); have wq1 : IntKind.i64.wrap (nd + a9) = nd + a9 := (by rw [IntKind.wrap_i64]; omega); have wq2 : IntKind.i64.wrap (nd + a9 - 2) = nd + a9 - 2 := (by rw [IntKind.wrap_i64]; omega); obtain ⟨mm, hmm⟩ : ∃ mm : Int, (if (2 : Int) < nd + a9 then nd + a9 - 2 else 0) = mm := ⟨_, rfl⟩; clear a90 a91 a92; have bb : Beside r w5 w9 := (Beside.of (show Below w5.heap.size w5 _ from (by repeat (first | with_reducible exact Below.refl _ _ | with_reducible refine Below.setCell ?_ (by first | omega | (simp; done) | (simp; omega)) _ | with_reducible refine bDrewN ?_ _ | with_reducible refine Below.drew ?_ | with_reducible refine Below.alloc ?_ (by first | omega | (simp; done) | (simp; omega)) _)))).trans b9; have HF9 := Hf.out.beside bb (by omega); have HQ9 := Hq.out.beside bb (by omega); have j0 : w9.cell? ⟨gf, 0, none⟩ = some (.int .i64 x0) := HF9.2.2 0 _ rfl; have j1 : w9.cell? ⟨gf, 1, none⟩ = some (.int .i64 x1) := HF9.2.2 1 _ rfl; have j2 : w9.cell? ⟨gf, 2, none⟩ = some (.int .i64 x2) := HF9.2.2 2 _ rfl; have j3 : w9.cell? ⟨gf, 3, none⟩ = some (.int .i64 x3) := HF9.2.2 3 _ rfl; have j4 : w9.cell? ⟨gf, 4, none⟩ = some (.int .i64 x4) := HF9.2.2 4 _ rfl; have h0 : w9.cell? ⟨gq, 0, none⟩ = some (.int .i64 0) := HQ9.2.2 0 _ rfl; have h1 : w9.cell? ⟨gq, 1, none⟩ = some (.int .i64 0) := HQ9.2.2 1 _ rfl; have h2 : w9.cell? ⟨gq, 2, none⟩ = some (.int .i64 0) := HQ9.2.2 2 _ rfl; have h3 : w9.cell? ⟨gq, 3, none⟩ = some (.int .i64 0) := HQ9.2.2 3 _ rfl; have h4 : w9.cell? ⟨gq, 4, none⟩ = some (.int .i64 0) := HQ9.2.2 4 _ rfl; have e0_ := HQ9.2.1 0; have e1_ := HQ9.2.1 1; have e2_ := HQ9.2.1 2; have e3_ := HQ9.2.1 3; have e4_ := HQ9.2.1 4; have BF : Below w.heap.size w w9 := HB.out.trans (bb.below (by omega) sB_); have sBF := BF.size; have zq9 := HQ9.1; have zf9 := HF9.1; clear HF9 HQ9 R9 bb b9)
    all_goals
      go_wp2
      exact bodyPost_ret (v := .tuple #[.agg #[.int .i64 x0, .int .i64 x1, .int .i64 x2, .int .i64 x3, .int .i64 x4], .int .i64 mm]) (by simp [results, Tryd.results9, go_sem, j0, j1, j2, j3, j4, h0, h1, h2, h3, h4, n_, n_.symm]) rfl ⟨x0, x1, x2, x3, x4, _, rfl, (by repeat (first | with_reducible exact Below.refl _ _ | with_reducible exact BF | with_reducible refine Below.setCell ?_ (by first | omega | (simp; done) | (simp; omega)) _ | with_reducible refine bDrewN ?_ _ | with_reducible refine Below.drew ?_ | with_reducible refine Below.alloc ?_ (by first | omega | (simp; done) | (simp; omega)) _))⟩
  have ne1 : (kk == 1) = false := by simpa using e1
  by_cases e2 : kk = 2
  case pos =>
    subst e2
    obtain ⟨mm, hmm, mm0, mm1⟩ : ∃ mm : Int, (if (0 : Int) < nd then nd else 0) = mm ∧ 0 ≤ mm ∧ mm ≤ 107142858 := ⟨_, rfl, by split <;> omega, by split <;> omega⟩
    have wm : IntKind.i64.wrap (2 * mm) = 2 * mm := by rw [IntKind.wrap_i64]; omega
    obtain ⟨z_f, f_f, c_f⟩ := Hf.out
    have fc0 : w5.cell? ⟨gf, 0, none⟩ = some (.int .i64 x0) := c_f 0 _ rfl
    have fc1 : w5.cell? ⟨gf, 1, none⟩ = some (.int .i64 x1) := c_f 1 _ rfl
    have fc2 : w5.cell? ⟨gf, 2, none⟩ = some (.int .i64 x2) := c_f 2 _ rfl
    have fc3 : w5.cell? ⟨gf, 3, none⟩ = some (.int .i64 x3) := c_f 3 _ rfl
    have fc4 : w5.cell? ⟨gf, 4, none⟩ = some (.int .i64 x4) := c_f 4 _ rfl
    have ff := f_f
    clear f_f c_f
    obtain ⟨z_q, f_q, c_q⟩ := Hq.out
    have qc0 : w5.cell? ⟨gq, 0, none⟩ = some (.int .i64 0) := c_q 0 _ rfl
    have qc1 : w5.cell? ⟨gq, 1, none⟩ = some (.int .i64 0) := c_q 1 _ rfl
    have qc2 : w5.cell? ⟨gq, 2, none⟩ = some (.int .i64 0) := c_q 2 _ rfl
    have qc3 : w5.cell? ⟨gq, 3, none⟩ = some (.int .i64 0) := c_q 3 _ rfl
    have qc4 : w5.cell? ⟨gq, 4, none⟩ = some (.int .i64 0) := c_q 4 _ rfl
    have fq := f_q
    clear f_q c_q
    have fq0 := fq 0
    have fq1 := fq 1
    have fq2 := fq 2
    have fq3 := fq 3
    have fq4 := fq 4
    have n_ : gf ≠ gq := by omega
    have BF := HB.out
    have sBF := BF.size
    go_wp2
    exact bodyPost_ret (v := .tuple #[.agg #[.int .i64 x0, .int .i64 x1, .int .i64 x2, .int .i64 x3, .int .i64 x4], .int .i64 (2 * mm)]) (by simp [results, Tryd.results9, go_sem, fc0, fc1, fc2, fc3, fc4, qc0, qc1, qc2, qc3, qc4, n_, n_.symm]) rfl ⟨x0, x1, x2, x3, x4, _, rfl, (by repeat (first | with_reducible exact Below.refl _ _ | with_reducible exact BF | with_reducible refine Below.setCell ?_ (by first | omega | (simp; done) | (simp; omega)) _ | with_reducible refine bDrewN ?_ _ | with_reducible refine Below.drew ?_ | with_reducible refine Below.alloc ?_ (by first | omega | (simp; done) | (simp; omega)) _))⟩
  have ne2 : (kk == 2) = false := by simpa using e2
  obtain ⟨mm, hmm, mm0, mm1⟩ : ∃ mm : Int, (if (1 : Int) < nd + 1 then nd + 1 else 1) = mm ∧ 1 ≤ mm ∧ mm ≤ 107142859 := ⟨_, rfl, by split <;> omega, by split <;> omega⟩
  have wm : IntKind.i64.wrap (nd + 1) = nd + 1 := by rw [IntKind.wrap_i64]; omega
  go_upto_region 11 with fail
  obtain ⟨z_f, f_f, c_f⟩ := Hf.out
  have fc0 : w5.cell? ⟨gf, 0, none⟩ = some (.int .i64 x0) := c_f 0 _ rfl
  have fc1 : w5.cell? ⟨gf, 1, none⟩ = some (.int .i64 x1) := c_f 1 _ rfl
  have fc2 : w5.cell? ⟨gf, 2, none⟩ = some (.int .i64 x2) := c_f 2 _ rfl
  have fc3 : w5.cell? ⟨gf, 3, none⟩ = some (.int .i64 x3) := c_f 3 _ rfl
  have fc4 : w5.cell? ⟨gf, 4, none⟩ = some (.int .i64 x4) := c_f 4 _ rfl
  have ff := f_f
  clear f_f c_f
  obtain ⟨z_q, f_q, c_q⟩ := Hq.out
  have qc0 : w5.cell? ⟨gq, 0, none⟩ = some (.int .i64 0) := c_q 0 _ rfl
  have qc1 : w5.cell? ⟨gq, 1, none⟩ = some (.int .i64 0) := c_q 1 _ rfl
  have qc2 : w5.cell? ⟨gq, 2, none⟩ = some (.int .i64 0) := c_q 2 _ rfl
  have qc3 : w5.cell? ⟨gq, 3, none⟩ = some (.int .i64 0) := c_q 3 _ rfl
  have qc4 : w5.cell? ⟨gq, 4, none⟩ = some (.int .i64 0) := c_q 4 _ rfl
  have fq := f_q
  clear f_q c_q
  have fq0 := fq 0
  have fq1 := fq 1
  have fq2 := fq 2
  have fq3 := fq 3
  have fq4 := fq 4
  have n_ : gf ≠ gq := by omega
  have zr_ : r < w5.heap.size := HR.out.1
  have sB_ : w.heap.size ≤ w5.heap.size := HB.out.size
  go_region_with (go_at_call 27; refine (upto_any mm (wfi (by omega) (by omega)) (HR.out.below (by repeat (first | with_reducible exact Below.refl _ _ | with_reducible refine Below.setCell ?_ (by first | omega | (simp; done) | (simp; omega)) _ | with_reducible refine bDrewN ?_ _ | with_reducible refine Below.drew ?_ | with_reducible refine Below.alloc ?_ (by first | omega | (simp; done) | (simp; omega)) _)))).mono ?_; rintro e w9 ⟨a9, py, rfl, a90, a91, R9, b9⟩; have bb : Beside r w5 w9 := (Beside.of (show Below w5.heap.size w5 _ from (by repeat (first | with_reducible exact Below.refl _ _ | with_reducible refine Below.setCell ?_ (by first | omega | (simp; done) | (simp; omega)) _ | with_reducible refine bDrewN ?_ _ | with_reducible refine Below.drew ?_ | with_reducible refine Below.alloc ?_ (by first | omega | (simp; done) | (simp; omega)) _)))).trans b9; have HF9 := Hf.out.beside bb (by omega); have HQ9 := Hq.out.beside bb (by omega); have j0 : w9.cell? ⟨gf, 0, none⟩ = some (.int .i64 x0) := HF9.2.2 0 _ rfl; have j1 : w9.cell? ⟨gf, 1, none⟩ = some (.int .i64 x1) := HF9.2.2 1 _ rfl; have j2 : w9.cell? ⟨gf, 2, none⟩ = some (.int .i64 x2) := HF9.2.2 2 _ rfl; have j3 : w9.cell? ⟨gf, 3, none⟩ = some (.int .i64 x3) := HF9.2.2 3 _ rfl; have j4 : w9.cell? ⟨gf, 4, none⟩ = some (.int .i64 x4) := HF9.2.2 4 _ rfl; have h0 : w9.cell? ⟨gq, 0, none⟩ = some (.int .i64 0) := HQ9.2.2 0 _ rfl; have h1 : w9.cell? ⟨gq, 1, none⟩ = some (.int .i64 0) := HQ9.2.2 1 _ rfl; have h2 : w9.cell? ⟨gq, 2, none⟩ = some (.int .i64 0) := HQ9.2.2 2 _ rfl; have h3 : w9.cell? ⟨gq, 3, none⟩ = some (.int .i64 0) := HQ9.2.2 3 _ rfl; have h4 : w9.cell? ⟨gq, 4, none⟩ = some (.int .i64 0) := HQ9.2.2 4 _ rfl; have e0_ := HQ9.2.1 0; have e1_ := HQ9.2.1 1; have e2_ := HQ9.2.1 2; have e3_ := HQ9.2.1 3; have e4_ := HQ9.2.1 4; have BF : Below w.heap.size w w9 := HB.out.trans (bb.below (by omega) sB_); have sBF := BF.size; have zq9 := HQ9.1; have zf9 := HF9.1; clear HF9 HQ9 R9 bb b9)
  all_goals
    go_wp2
    exact bodyPost_ret (v := .tuple #[.agg #[.int .i64 x0, .int .i64 x1, .int .i64 x2, .int .i64 x3, .int .i64 x4], .int .i64 a9]) (by simp [results, Tryd.results9, go_sem, j0, j1, j2, j3, j4, h0, h1, h2, h3, h4, n_, n_.symm]) rfl ⟨x0, x1, x2, x3, x4, _, rfl, (by repeat (first | with_reducible exact Below.refl _ _ | with_reducible exact BF | with_reducible refine Below.setCell ?_ (by first | omega | (simp; done) | (simp; omega)) _ | with_reducible refine bDrewN ?_ _ | with_reducible refine Below.drew ?_ | with_reducible refine Below.alloc ?_ (by first | omega | (simp; done) | (simp; omega)) _))⟩
end Go.Proofs.YtphmdnpmekdglaaDoor
