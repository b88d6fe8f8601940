/-
What is proved: a gas and a fraction that are drawn from a code: any int64s.
-/
import Derived.Test.YtnimndpphphcnaaBlk
import Derived.Test.YtnimndpphphcnaaRd4
import Derived.Test.YtnimndpphphcnaaRdC
import Derived.Deep.DeepCutAuto
import Derived.RegionTactic
namespace Go.Proofs.Ytnimndpphphcnaa
set_option maxRecDepth 40000
open Go.ChangeShapes Go.WideShapes Go.ChangeAt Go.RowKit
set_option linter.unusedVariables false
set_option linter.unusedSimpArgs false

set_option maxRecDepth 20000 in
set_option maxHeartbeats 8000000 in
theorem drawBalance_any {s : Option Addr} {n c : Nat} {w : World} (h : Hid (Code8 w s n)) :
    Calls Try.prog 8 #[.slice s n c] w fun e w' => ∃ a b c d x y : Int, e = .returned (.tuple #[.agg #[.int .i64 a, .int .i64 b, .int .i64 c, .int .i64 d], .agg #[.int .i64 x, .int .i64 y]]) ∧ (Lit.int .i64 x).wf = true ∧ (Lit.int .i64 y).wf = true ∧ Below w.heap.size w w' := by
  go_enter Try.func8, Try.ntmps8
  go_wp2_with fail
  refine (open_any (h.out.below (by repeat (first | with_reducible exact Below.refl _ _ | with_reducible refine Below.setCell ?_ (by first | omega | (simp; done) | (simp; omega)) _ | with_reducible refine bDrewN ?_ _ | with_reducible refine Below.drew ?_ | with_reducible refine Below.alloc ?_ (by first | omega | (simp; done) | (simp; omega)) _)))).mono ?_
  rintro e w1 ⟨rfl, R_, b_⟩
  obtain ⟨r, hr⟩ : ∃ r, r = w.heap.size + 1 + 1 := ⟨_, rfl⟩
  have HR : Hid (Rd w1 r s n c 0) := by show Rd _ _ _ _ _ _; rw [hr]; simpa using R_
  have HB : Hid (Below w.heap.size w w1) := (show Below w.heap.size w _ from (by repeat (first | with_reducible exact Below.refl _ _ | with_reducible refine Below.setCell ?_ (by first | omega | (simp; done) | (simp; omega)) _ | with_reducible refine bDrewN ?_ _ | with_reducible refine Below.drew ?_ | with_reducible refine Below.alloc ?_ (by first | omega | (simp; done) | (simp; omega)) _))).trans (b_.mono (by first | omega | (simp; done) | (simp; omega)))
  obtain ⟨gq, hgq⟩ : ∃ g, g = w.heap.size := ⟨_, rfl⟩
  have Hq : Hid (Blk w1 gq [.int .i64 0, .int .i64 0, .int .i64 0, .int .i64 0]) := by
    show Blk _ _ _
    have q := (((Blk.new w #[.int .i64 0, .int .i64 0, .int .i64 0, .int .i64 0] 25).below (below0 _ _))).below b_
    rw [hgq]; exact q
  obtain ⟨gk, hgk⟩ : ∃ g, g = w.heap.size + 1 := ⟨_, rfl⟩
  have Hk : Hid (Blk w1 gk [.int .i64 0, .int .i64 0]) := by
    show Blk _ _ _
    have q := ((Blk.new (w.alloc (.cells #[.int .i64 0, .int .i64 0, .int .i64 0, .int .i64 0] 25)) #[.int .i64 0, .int .i64 0] 27)).below b_
    rw [hgk]; exact (by simpa using q)
  have lgq : w.heap.size ≤ gq := by omega
  have rgq : gq < r := by omega
  have lgk : w.heap.size ≤ gk := by omega
  have rgk : gk < r := by omega
  have dgqgk : gq < gk := by omega
  have zr : w.heap.size ≤ r := by omega
  try rw [show ((w.alloc (.cells #[.int .i64 0, .int .i64 0, .int .i64 0, .int .i64 0] 25)).alloc (.cells #[.int .i64 0, .int .i64 0] 27)).heap.size = r by rw [hr]; simp]
  try rw [← hr]
  try rw [← hgk]
  try rw [← hgq]
  clear hgq
  clear hgk
  clear R_ b_ h hr
  go_wp2_with fail
  refine (below_any 4 (HR.out.below (by repeat (first | with_reducible exact Below.refl _ _ | with_reducible refine Below.setCell ?_ (by first | omega | (simp; done) | (simp; omega)) _ | with_reducible refine bDrewN ?_ _ | with_reducible refine Below.drew ?_ | with_reducible refine Below.alloc ?_ (by first | omega | (simp; done) | (simp; omega)) _)))).mono ?_
  rintro e w2 ⟨j1, p1, rfl, j1a, j1b, j1c, R_, b_⟩
  have Hq_z : gq < w1.heap.size := Hq.out.1
  have Hk_z : gk < w1.heap.size := Hk.out.1
  have sz_ : w.heap.size ≤ w1.heap.size := HB.out.size
  have zr_ : r < w1.heap.size := HR.out.1
  have bb : Beside r w1 w2 := (Beside.of (show Below w1.heap.size w1 _ from (by repeat (first | with_reducible exact Below.refl _ _ | with_reducible refine Below.setCell ?_ (by first | omega | (simp; done) | (simp; omega)) _ | with_reducible refine bDrewN ?_ _ | with_reducible refine Below.drew ?_ | with_reducible refine Below.alloc ?_ (by first | omega | (simp; done) | (simp; omega)) _)))).trans b_
  obtain ⟨gt, hgt⟩ : ∃ g, g = w1.heap.size := ⟨_, rfl⟩
  have Ht : Hid (Blk w2 gt [.int .i64 5, .int .i64 50, .int .i64 1000, .int .i64 10000]) := by
    show Blk _ _ _
    have q := ((Blk.new w1 #[.int .i64 5, .int .i64 50, .int .i64 1000, .int .i64 10000] 2)).beside b_ (by omega)
    rw [hgt]; exact q
  replace Hq : Hid (Blk w2 gq [.int .i64 0, .int .i64 0, .int .i64 0, .int .i64 0]) := Hq.out.beside bb (by omega)
  replace Hk : Hid (Blk w2 gk [.int .i64 0, .int .i64 0]) := Hk.out.beside bb (by omega)
  replace HB : Hid (Below w.heap.size w w2) := HB.out.trans (bb.below (by omega) HB.out.size)
  replace HR : Hid (Rd w2 r s n c p1) := R_
  clear R_
  have lgt : w.heap.size ≤ gt := by omega
  have rgt : r < gt := by omega
  have dgqgt : gq < gt := by omega
  have dgkgt : gk < gt := by omega
  try rw [← hgt]
  clear hgt
  clear bb b_ sz_ zr_ Hq_z Hk_z
  have pk_ : Hid (Blk w2 gt (List.map (Value.int .i64) [5, 50, 1000, 10000])) := Ht
  obtain ⟨j1n, mo, rfl, j1l, j1v, j1m⟩ := picked (w' := w2) pk_.out j1a (by simp; omega)
  have moa : 5 ≤ mo := by simp at j1m; omega
  have mob : mo ≤ 10000 := by simp at j1m; omega
  have j1l2 : ((j1n : Nat) : Int) < 4 := by simpa using j1l
  clear pk_ j1m j1b j1c j1l
  go_wp2_with fail
  refine (near_any 0 mo (by omega) (by omega) (by omega) (HR.out.below (by repeat (first | with_reducible exact Below.refl _ _ | with_reducible refine Below.setCell ?_ (by first | omega | (simp; done) | (simp; omega)) _ | with_reducible refine bDrewN ?_ _ | with_reducible refine Below.drew ?_ | with_reducible refine Below.alloc ?_ (by first | omega | (simp; done) | (simp; omega)) _)))).mono ?_
  rintro e w3 ⟨v0, pv0, rfl, v00, v01, R_, b_⟩
  have Hq_z : gq < w2.heap.size := Hq.out.1
  have Hk_z : gk < w2.heap.size := Hk.out.1
  have Ht_z : gt < w2.heap.size := Ht.out.1
  have sz_ : w.heap.size ≤ w2.heap.size := HB.out.size
  have zr_ : r < w2.heap.size := HR.out.1
  have bb : Beside r w2 w3 := (Beside.of (show Below w2.heap.size w2 _ from (by repeat (first | with_reducible exact Below.refl _ _ | with_reducible refine Below.setCell ?_ (by first | omega | (simp; done) | (simp; omega)) _ | with_reducible refine bDrewN ?_ _ | with_reducible refine Below.drew ?_ | with_reducible refine Below.alloc ?_ (by first | omega | (simp; done) | (simp; omega)) _)))).trans b_
  replace Hq : Hid (Blk w3 gq [.int .i64 0, .int .i64 0, .int .i64 0, .int .i64 0]) := Hq.out.beside bb (by omega)
  replace Hk : Hid (Blk w3 gk [.int .i64 0, .int .i64 0]) := Hk.out.beside bb (by omega)
  replace Ht : Hid (Blk w3 gt [.int .i64 5, .int .i64 50, .int .i64 1000, .int .i64 10000]) := Ht.out.beside bb (by omega)
  replace HB : Hid (Below w.heap.size w w3) := HB.out.trans (bb.below (by omega) HB.out.size)
  replace HR : Hid (Rd w3 r s n c pv0) := R_
  clear R_
  clear bb b_ sz_ zr_ Hq_z Hk_z Ht_z
  clear j1v
  clear Ht
  go_wp2_with fail
  refine (near_any 0 mo (by omega) (by omega) (by omega) (HR.out.below (by repeat (first | with_reducible exact Below.refl _ _ | with_reducible refine Below.setCell ?_ (by first | omega | (simp; done) | (simp; omega)) _ | with_reducible refine bDrewN ?_ _ | with_reducible refine Below.drew ?_ | with_reducible refine Below.alloc ?_ (by first | omega | (simp; done) | (simp; omega)) _)))).mono ?_
  rintro e w4 ⟨v1, pv1, rfl, v10, v11, R_, b_⟩
  have Hq_z : gq < w3.heap.size := Hq.out.1
  have Hk_z : gk < w3.heap.size := Hk.out.1
  have sz_ : w.heap.size ≤ w3.heap.size := HB.out.size
  have zr_ : r < w3.heap.size := HR.out.1
  have bb : Beside r w3 w4 := (Beside.of (show Below w3.heap.size w3 _ from (by repeat (first | with_reducible exact Below.refl _ _ | with_reducible refine Below.setCell ?_ (by first | omega | (simp; done) | (simp; omega)) _ | with_reducible refine bDrewN ?_ _ | with_reducible refine Below.drew ?_ | with_reducible refine Below.alloc ?_ (by first | omega | (simp; done) | (simp; omega)) _)))).trans b_
  replace Hq : Hid (Blk w4 gq [.int .i64 0, .int .i64 0, .int .i64 0, .int .i64 0]) := Hq.out.beside bb (by omega)
  replace Hk : Hid (Blk w4 gk [.int .i64 0, .int .i64 0]) := Hk.out.beside bb (by omega)
  replace HB : Hid (Below w.heap.size w w4) := HB.out.trans (bb.below (by omega) HB.out.size)
  replace HR : Hid (Rd w4 r s n c pv1) := R_
  clear R_
  clear bb b_ sz_ zr_ Hq_z Hk_z
  go_wp2_with fail
  refine (near_any 0 mo (by omega) (by omega) (by omega) (HR.out.below (by repeat (first | with_reducible exact Below.refl _ _ | with_reducible refine Below.setCell ?_ (by first | omega | (simp; done) | (simp; omega)) _ | with_reducible refine bDrewN ?_ _ | with_reducible refine Below.drew ?_ | with_reducible refine Below.alloc ?_ (by first | omega | (simp; done) | (simp; omega)) _)))).mono ?_
  rintro e w5 ⟨v2, pv2, rfl, v20, v21, R_, b_⟩
  have Hq_z : gq < w4.heap.size := Hq.out.1
  have Hk_z : gk < w4.heap.size := Hk.out.1
  have sz_ : w.heap.size ≤ w4.heap.size := HB.out.size
  have zr_ : r < w4.heap.size := HR.out.1
  have bb : Beside r w4 w5 := (Beside.of (show Below w4.heap.size w4 _ from (by repeat (first | with_reducible exact Below.refl _ _ | with_reducible refine Below.setCell ?_ (by first | omega | (simp; done) | (simp; omega)) _ | with_reducible refine bDrewN ?_ _ | with_reducible refine Below.drew ?_ | with_reducible refine Below.alloc ?_ (by first | omega | (simp; done) | (simp; omega)) _)))).trans b_
  replace Hq : Hid (Blk w5 gq [.int .i64 0, .int .i64 0, .int .i64 0, .int .i64 0]) := Hq.out.beside bb (by omega)
  replace Hk : Hid (Blk w5 gk [.int .i64 0, .int .i64 0]) := Hk.out.beside bb (by omega)
  replace HB : Hid (Below w.heap.size w w5) := HB.out.trans (bb.below (by omega) HB.out.size)
  replace HR : Hid (Rd w5 r s n c pv2) := R_
  clear R_
  clear bb b_ sz_ zr_ Hq_z Hk_z
  go_wp2_with fail
  refine (near_any 0 mo (by omega) (by omega) (by omega) (HR.out.below (by repeat (first | with_reducible exact Below.refl _ _ | with_reducible refine Below.setCell ?_ (by first | omega | (simp; done) | (simp; omega)) _ | with_reducible refine bDrewN ?_ _ | with_reducible refine Below.drew ?_ | with_reducible refine Below.alloc ?_ (by first | omega | (simp; done) | (simp; omega)) _)))).mono ?_
  rintro e w6 ⟨v3, pv3, rfl, v30, v31, R_, b_⟩
  have Hq_z : gq < w5.heap.size := Hq.out.1
  have Hk_z : gk < w5.heap.size := Hk.out.1
  have sz_ : w.heap.size ≤ w5.heap.size := HB.out.size
  have zr_ : r < w5.heap.size := HR.out.1
  have bb : Beside r w5 w6 := (Beside.of (show Below w5.heap.size w5 _ from (by repeat (first | with_reducible exact Below.refl _ _ | with_reducible refine Below.setCell ?_ (by first | omega | (simp; done) | (simp; omega)) _ | with_reducible refine bDrewN ?_ _ | with_reducible refine Below.drew ?_ | with_reducible refine Below.alloc ?_ (by first | omega | (simp; done) | (simp; omega)) _)))).trans b_
  replace Hq : Hid (Blk w6 gq [.int .i64 0, .int .i64 0, .int .i64 0, .int .i64 0]) := Hq.out.beside bb (by omega)
  replace Hk : Hid (Blk w6 gk [.int .i64 0, .int .i64 0]) := Hk.out.beside bb (by omega)
  replace HB : Hid (Below w.heap.size w w6) := HB.out.trans (bb.below (by omega) HB.out.size)
  replace HR : Hid (Rd w6 r s n c pv3) := R_
  clear R_
  clear bb b_ sz_ zr_ Hq_z Hk_z
  go_wp2_with fail
  refine (once_any 16 (by omega) (by omega) (HR.out.below (by repeat (first | with_reducible exact Below.refl _ _ | with_reducible refine Below.setCell ?_ (by first | omega | (simp; done) | (simp; omega)) _ | with_reducible refine bDrewN ?_ _ | with_reducible refine Below.drew ?_ | with_reducible refine Below.alloc ?_ (by first | omega | (simp; done) | (simp; omega)) _)))).mono ?_
  rintro e w7 ⟨fl, pf, rfl, R_, b_⟩
  have Hq_z : gq < w6.heap.size := Hq.out.1
  have Hk_z : gk < w6.heap.size := Hk.out.1
  have sz_ : w.heap.size ≤ w6.heap.size := HB.out.size
  have zr_ : r < w6.heap.size := HR.out.1
  have bb : Beside r w6 w7 := (Beside.of (show Below w6.heap.size w6 _ from (by repeat (first | with_reducible exact Below.refl _ _ | with_reducible refine Below.setCell ?_ (by first | omega | (simp; done) | (simp; omega)) _ | with_reducible refine bDrewN ?_ _ | with_reducible refine Below.drew ?_ | with_reducible refine Below.alloc ?_ (by first | omega | (simp; done) | (simp; omega)) _)))).trans b_
  obtain ⟨gg, hgg⟩ : ∃ g, g = w6.heap.size := ⟨_, rfl⟩
  have Hg : Hid (Blk w7 gg [.int .i64 v0, .int .i64 v1, .int .i64 v2, .int .i64 v3]) := by
    show Blk _ _ _
    have q := ((Blk.new w6 #[.int .i64 v0, .int .i64 v1, .int .i64 v2, .int .i64 v3] 25)).beside b_ (by omega)
    rw [hgg]; exact q
  replace Hq : Hid (Blk w7 gq [.int .i64 0, .int .i64 0, .int .i64 0, .int .i64 0]) := Hq.out.beside bb (by omega)
  replace Hk : Hid (Blk w7 gk [.int .i64 0, .int .i64 0]) := Hk.out.beside bb (by omega)
  replace HB : Hid (Below w.heap.size w w7) := HB.out.trans (bb.below (by omega) HB.out.size)
  replace HR : Hid (Rd w7 r s n c pf) := R_
  clear R_
  have lgg : w.heap.size ≤ gg := by omega
  have rgg : r < gg := by omega
  have dgqgg : gq < gg := by omega
  have dgkgg : gk < gg := by omega
  try rw [← hgg]
  clear hgg
  clear bb b_ sz_ zr_ Hq_z Hk_z
  go_upto_if 30 with fail
  go_cut [] (fun wx => ∃ (py : Nat) (y7g3 : Int), Hid (Rd wx r s n c py) ∧ Hid (Below w.heap.size w wx) ∧ Hid (Blk wx gq [.int .i64 0, .int .i64 0, .int .i64 0, .int .i64 0]) ∧ Hid (Blk wx gk [.int .i64 0, .int .i64 0]) ∧ Hid (Blk wx gg [.int .i64 v0, .int .i64 v1, .int .i64 v2, .int .i64 y7g3]))
  case first =>
    cases fl
    · go_wp2_with fail
      go_meet
      exact ⟨pf, v3, HR, HB, Hq, Hk, Hg⟩
    · skip
      go_wp2_with fail
      refine (off_any 0 10000 (by omega) (by omega) (by omega) (HR.out.below (by repeat (first | with_reducible exact Below.refl _ _ | with_reducible refine Below.setCell ?_ (by first | omega | (simp; done) | (simp; omega)) _ | with_reducible refine bDrewN ?_ _ | with_reducible refine Below.drew ?_ | with_reducible refine Below.alloc ?_ (by first | omega | (simp; done) | (simp; omega)) _)))).mono ?_
      rintro e w8 ⟨x, px, rfl, x0, R_, b_⟩
      have Hq_z : gq < w7.heap.size := Hq.out.1
      have Hk_z : gk < w7.heap.size := Hk.out.1
      have Hg_z : gg < w7.heap.size := Hg.out.1
      have sz_ : w.heap.size ≤ w7.heap.size := HB.out.size
      have zr_ : r < w7.heap.size := HR.out.1
      have bb : Beside r w7 w8 := (Beside.of (show Below w7.heap.size w7 _ from (by repeat (first | with_reducible exact Below.refl _ _ | with_reducible refine Below.setCell ?_ (by first | omega | (simp; done) | (simp; omega)) _ | with_reducible refine bDrewN ?_ _ | with_reducible refine Below.drew ?_ | with_reducible refine Below.alloc ?_ (by first | omega | (simp; done) | (simp; omega)) _)))).trans b_
      replace Hq : Hid (Blk w8 gq [.int .i64 0, .int .i64 0, .int .i64 0, .int .i64 0]) := Hq.out.beside bb (by omega)
      replace Hk : Hid (Blk w8 gk [.int .i64 0, .int .i64 0]) := Hk.out.beside bb (by omega)
      replace Hg : Hid (Blk w8 gg [.int .i64 v0, .int .i64 v1, .int .i64 v2, .int .i64 v3]) := Hg.out.beside bb (by omega)
      replace HB : Hid (Below w.heap.size w w8) := HB.out.trans (bb.below (by omega) HB.out.size)
      replace HR : Hid (Rd w8 r s n c px) := R_
      clear R_
      clear bb b_ sz_ zr_ Hq_z Hk_z Hg_z
      obtain ⟨z_g, f_g, c_g⟩ := Hg.out
      have g0 : w8.cell? ⟨gg, 0, none⟩ = some (.int .i64 v0) := c_g 0 _ rfl
      have g1 : w8.cell? ⟨gg, 1, none⟩ = some (.int .i64 v1) := c_g 1 _ rfl
      have g2 : w8.cell? ⟨gg, 2, none⟩ = some (.int .i64 v2) := c_g 2 _ rfl
      have g3 : w8.cell? ⟨gg, 3, none⟩ = some (.int .i64 v3) := c_g 3 _ rfl
      have fg := f_g
      clear f_g c_g
      have fg3 := fg 3
      go_wp2_with fail
      clear g0 g1 g2 g3 z_g fg
      clear fg3
      have Hq_z : gq < w8.heap.size := Hq.out.1
      have Hk_z : gk < w8.heap.size := Hk.out.1
      have Hg_z : gg < w8.heap.size := Hg.out.1
      have sz_ : w.heap.size ≤ w8.heap.size := HB.out.size
      have zr_ : r < w8.heap.size := HR.out.1
      obtain ⟨w9, hw_⟩ : ∃ x_, x_ = (w8.setCell ⟨gg, 3, none⟩ (.int .i64 x)) := ⟨_, rfl⟩
      rw [← hw_]
      replace Hq : Hid (Blk w9 gq [.int .i64 0, .int .i64 0, .int .i64 0, .int .i64 0]) := by show Blk _ _ _; rw [hw_]; exact (Hq.out.beside (Beside.setCell gg _ 3 _) (by omega))
      replace Hk : Hid (Blk w9 gk [.int .i64 0, .int .i64 0]) := by show Blk _ _ _; rw [hw_]; exact (Hk.out.beside (Beside.setCell gg _ 3 _) (by omega))
      replace Hg : Hid (Blk w9 gg [.int .i64 v0, .int .i64 v1, .int .i64 v2, .int .i64 x]) := by show Blk _ _ _; rw [hw_]; exact (Hg.out.set 3 (.int .i64 x))
      replace HR : Hid (Rd w9 r s n c px) := by show Rd _ _ _ _ _ _; rw [hw_]; exact Rd.below' HR.out (show Below (r + 1) w8 _ from (by repeat (first | with_reducible exact Below.refl _ _ | with_reducible refine Below.setCell ?_ (by first | omega | (simp; done) | (simp; omega)) _ | with_reducible refine bDrewN ?_ _ | with_reducible refine Below.drew ?_ | with_reducible refine Below.alloc ?_ (by first | omega | (simp; done) | (simp; omega)) _)))
      replace HB : Hid (Below w.heap.size w w9) := by show Below _ _ _; rw [hw_]; exact HB.out.trans (show Below w.heap.size w8 _ from (by repeat (first | with_reducible exact Below.refl _ _ | with_reducible refine Below.setCell ?_ (by first | omega | (simp; done) | (simp; omega)) _ | with_reducible refine bDrewN ?_ _ | with_reducible refine Below.drew ?_ | with_reducible refine Below.alloc ?_ (by first | omega | (simp; done) | (simp; omega)) _)))
      clear hw_
      clear sz_ zr_ Hq_z Hk_z Hg_z
      go_meet
      exact ⟨px, x, HR, HB, Hq, Hk, Hg⟩
  case rest =>
    clear HR HB Hq Hk Hg
    obtain ⟨p10, y7g3, HR, HB, Hq, Hk, Hg⟩ := hcut
    rename World => w10
    go_wp2_with fail
    refine (near_any 1 1000 (by omega) (by omega) (by omega) (HR.out.below (by repeat (first | with_reducible exact Below.refl _ _ | with_reducible refine Below.setCell ?_ (by first | omega | (simp; done) | (simp; omega)) _ | with_reducible refine bDrewN ?_ _ | with_reducible refine Below.drew ?_ | with_reducible refine Below.alloc ?_ (by first | omega | (simp; done) | (simp; omega)) _)))).mono ?_
    rintro e w11 ⟨x1, px1, rfl, x1a, x1b, R_, b_⟩
    have Hq_z : gq < w10.heap.size := Hq.out.1
    have Hk_z : gk < w10.heap.size := Hk.out.1
    have Hg_z : gg < w10.heap.size := Hg.out.1
    have sz_ : w.heap.size ≤ w10.heap.size := HB.out.size
    have zr_ : r < w10.heap.size := HR.out.1
    have bb : Beside r w10 w11 := (Beside.of (show Below w10.heap.size w10 _ from (by repeat (first | with_reducible exact Below.refl _ _ | with_reducible refine Below.setCell ?_ (by first | omega | (simp; done) | (simp; omega)) _ | with_reducible refine bDrewN ?_ _ | with_reducible refine Below.drew ?_ | with_reducible refine Below.alloc ?_ (by first | omega | (simp; done) | (simp; omega)) _)))).trans b_
    replace Hq : Hid (Blk w11 gq [.int .i64 0, .int .i64 0, .int .i64 0, .int .i64 0]) := Hq.out.beside bb (by omega)
    replace Hk : Hid (Blk w11 gk [.int .i64 0, .int .i64 0]) := Hk.out.beside bb (by omega)
    replace Hg : Hid (Blk w11 gg [.int .i64 v0, .int .i64 v1, .int .i64 v2, .int .i64 y7g3]) := Hg.out.beside bb (by omega)
    replace HB : Hid (Below w.heap.size w w11) := HB.out.trans (bb.below (by omega) HB.out.size)
    replace HR : Hid (Rd w11 r s n c px1) := R_
    clear R_
    clear bb b_ sz_ zr_ Hq_z Hk_z Hg_z
    go_wp2_with fail
    refine (near_any 1 1000 (by omega) (by omega) (by omega) (HR.out.below (by repeat (first | with_reducible exact Below.refl _ _ | with_reducible refine Below.setCell ?_ (by first | omega | (simp; done) | (simp; omega)) _ | with_reducible refine bDrewN ?_ _ | with_reducible refine Below.drew ?_ | with_reducible refine Below.alloc ?_ (by first | omega | (simp; done) | (simp; omega)) _)))).mono ?_
    rintro e w12 ⟨x2, px2, rfl, x2a, x2b, R_, b_⟩
    have Hq_z : gq < w11.heap.size := Hq.out.1
    have Hk_z : gk < w11.heap.size := Hk.out.1
    have Hg_z : gg < w11.heap.size := Hg.out.1
    have sz_ : w.heap.size ≤ w11.heap.size := HB.out.size
    have zr_ : r < w11.heap.size := HR.out.1
    have bb : Beside r w11 w12 := (Beside.of (show Below w11.heap.size w11 _ from (by repeat (first | with_reducible exact Below.refl _ _ | with_reducible refine Below.setCell ?_ (by first | omega | (simp; done) | (simp; omega)) _ | with_reducible refine bDrewN ?_ _ | with_reducible refine Below.drew ?_ | with_reducible refine Below.alloc ?_ (by first | omega | (simp; done) | (simp; omega)) _)))).trans b_
    replace Hq : Hid (Blk w12 gq [.int .i64 0, .int .i64 0, .int .i64 0, .int .i64 0]) := Hq.out.beside bb (by omega)
    replace Hk : Hid (Blk w12 gk [.int .i64 0, .int .i64 0]) := Hk.out.beside bb (by omega)
    replace Hg : Hid (Blk w12 gg [.int .i64 v0, .int .i64 v1, .int .i64 v2, .int .i64 y7g3]) := Hg.out.beside bb (by omega)
    replace HB : Hid (Below w.heap.size w w12) := HB.out.trans (bb.below (by omega) HB.out.size)
    replace HR : Hid (Rd w12 r s n c px2) := R_
    clear R_
    clear bb b_ sz_ zr_ Hq_z Hk_z Hg_z
    go_wp2_with fail
    refine (specMakeFrac_any x1 x2 _ (by omega) (by omega) (by omega) (by omega)).mono ?_
    rintro e w13 ⟨rfl, b_⟩
    have Hq_z : gq < w12.heap.size := Hq.out.1
    have Hk_z : gk < w12.heap.size := Hk.out.1
    have Hg_z : gg < w12.heap.size := Hg.out.1
    have sz_ : w.heap.size ≤ w12.heap.size := HB.out.size
    have zr_ : r < w12.heap.size := HR.out.1
    have bb : Beside r w12 w13 := Beside.of ((show Below w12.heap.size w12 _ from (by repeat (first | with_reducible exact Below.refl _ _ | with_reducible refine Below.setCell ?_ (by first | omega | (simp; done) | (simp; omega)) _ | with_reducible refine bDrewN ?_ _ | with_reducible refine Below.drew ?_ | with_reducible refine Below.alloc ?_ (by first | omega | (simp; done) | (simp; omega)) _))).trans (b_.mono (by first | omega | (simp; done) | (simp; omega))))
    replace Hq : Hid (Blk w13 gq [.int .i64 0, .int .i64 0, .int .i64 0, .int .i64 0]) := Hq.out.beside bb (by omega)
    replace Hk : Hid (Blk w13 gk [.int .i64 0, .int .i64 0]) := Hk.out.beside bb (by omega)
    replace Hg : Hid (Blk w13 gg [.int .i64 v0, .int .i64 v1, .int .i64 v2, .int .i64 y7g3]) := Hg.out.beside bb (by omega)
    replace HB : Hid (Below w.heap.size w w13) := HB.out.trans (bb.below (by omega) HB.out.size)
    replace HR : Hid (Rd w13 r s n c px2) := HR.out.below ((show Below w12.heap.size w12 _ from (by repeat (first | with_reducible exact Below.refl _ _ | with_reducible refine Below.setCell ?_ (by first | omega | (simp; done) | (simp; omega)) _ | with_reducible refine bDrewN ?_ _ | with_reducible refine Below.drew ?_ | with_reducible refine Below.alloc ?_ (by first | omega | (simp; done) | (simp; omega)) _))).trans (b_.mono (by first | omega | (simp; done) | (simp; omega))))
    clear bb b_ sz_ zr_ Hq_z Hk_z Hg_z
    obtain ⟨m1, m2⟩ := mk_wf x1 x2
    generalize mkNum x1 x2 = f0 at *
    generalize mkDen x1 x2 = f1 at *
    generalize mkOk x1 x2 = f2 at *
    go_wp2_with fail
    refine (once_any 12 (by omega) (by omega) (HR.out.below (by repeat (first | with_reducible exact Below.refl _ _ | with_reducible refine Below.setCell ?_ (by first | omega | (simp; done) | (simp; omega)) _ | with_reducible refine bDrewN ?_ _ | with_reducible refine Below.drew ?_ | with_reducible refine Below.alloc ?_ (by first | omega | (simp; done) | (simp; omega)) _)))).mono ?_
    rintro e w14 ⟨fl2, pf2, rfl, R_, b_⟩
    have Hq_z : gq < w13.heap.size := Hq.out.1
    have Hk_z : gk < w13.heap.size := Hk.out.1
    have Hg_z : gg < w13.heap.size := Hg.out.1
    have sz_ : w.heap.size ≤ w13.heap.size := HB.out.size
    have zr_ : r < w13.heap.size := HR.out.1
    have bb : Beside r w13 w14 := (Beside.of (show Below w13.heap.size w13 _ from (by repeat (first | with_reducible exact Below.refl _ _ | with_reducible refine Below.setCell ?_ (by first | omega | (simp; done) | (simp; omega)) _ | with_reducible refine bDrewN ?_ _ | with_reducible refine Below.drew ?_ | with_reducible refine Below.alloc ?_ (by first | omega | (simp; done) | (simp; omega)) _)))).trans b_
    obtain ⟨gf, hgf⟩ : ∃ g, g = w13.heap.size := ⟨_, rfl⟩
    have Hf : Hid (Blk w14 gf [.int .i64 f0, .int .i64 f1]) := by
      show Blk _ _ _
      have q := ((Blk.new w13 #[.int .i64 f0, .int .i64 f1] 27)).beside b_ (by omega)
      rw [hgf]; exact q
    replace Hq : Hid (Blk w14 gq [.int .i64 0, .int .i64 0, .int .i64 0, .int .i64 0]) := Hq.out.beside bb (by omega)
    replace Hk : Hid (Blk w14 gk [.int .i64 0, .int .i64 0]) := Hk.out.beside bb (by omega)
    replace Hg : Hid (Blk w14 gg [.int .i64 v0, .int .i64 v1, .int .i64 v2, .int .i64 y7g3]) := Hg.out.beside bb (by omega)
    replace HB : Hid (Below w.heap.size w w14) := HB.out.trans (bb.below (by omega) HB.out.size)
    replace HR : Hid (Rd w14 r s n c pf2) := R_
    clear R_
    have lgf : w.heap.size ≤ gf := by omega
    have rgf : r < gf := by omega
    have dgqgf : gq < gf := by omega
    have dgkgf : gk < gf := by omega
    have dgggf : gg < gf := by omega
    try rw [← hgf]
    clear hgf
    clear bb b_ sz_ zr_ Hq_z Hk_z Hg_z
    go_upto_if 43 with fail
    go_cut [] (fun wx => ∃ (py : Nat) (y14f0 : Int) (y14f1 : Int), Hid (Rd wx r s n c py) ∧ Hid (Below w.heap.size w wx) ∧ Hid (Blk wx gq [.int .i64 0, .int .i64 0, .int .i64 0, .int .i64 0]) ∧ Hid (Blk wx gk [.int .i64 0, .int .i64 0]) ∧ Hid (Blk wx gg [.int .i64 v0, .int .i64 v1, .int .i64 v2, .int .i64 y7g3]) ∧ Hid (Blk wx gf [.int .i64 y14f0, .int .i64 y14f1]) ∧ Hid ((Lit.int .i64 y14f0).wf = true ∧ (Lit.int .i64 y14f1).wf = true))
    case first =>
      cases fl2
      · go_wp2_with fail
        go_meet
        exact ⟨pf2, f0, f1, HR, HB, Hq, Hk, Hg, Hf, ⟨m1, m2⟩⟩
      · skip
        go_wp2_with fail
        refine (frac_any (HR.out.below (by repeat (first | with_reducible exact Below.refl _ _ | with_reducible refine Below.setCell ?_ (by first | omega | (simp; done) | (simp; omega)) _ | with_reducible refine bDrewN ?_ _ | with_reducible refine Below.drew ?_ | with_reducible refine Below.alloc ?_ (by first | omega | (simp; done) | (simp; omega)) _)))).mono ?_
        rintro e w15 ⟨z0, z1, pz, rfl, hz0, hz1, R_, b_⟩
        have Hq_z : gq < w14.heap.size := Hq.out.1
        have Hk_z : gk < w14.heap.size := Hk.out.1
        have Hg_z : gg < w14.heap.size := Hg.out.1
        have Hf_z : gf < w14.heap.size := Hf.out.1
        have sz_ : w.heap.size ≤ w14.heap.size := HB.out.size
        have zr_ : r < w14.heap.size := HR.out.1
        have bb : Beside r w14 w15 := (Beside.of (show Below w14.heap.size w14 _ from (by repeat (first | with_reducible exact Below.refl _ _ | with_reducible refine Below.setCell ?_ (by first | omega | (simp; done) | (simp; omega)) _ | with_reducible refine bDrewN ?_ _ | with_reducible refine Below.drew ?_ | with_reducible refine Below.alloc ?_ (by first | omega | (simp; done) | (simp; omega)) _)))).trans b_
        replace Hq : Hid (Blk w15 gq [.int .i64 0, .int .i64 0, .int .i64 0, .int .i64 0]) := Hq.out.beside bb (by omega)
        replace Hk : Hid (Blk w15 gk [.int .i64 0, .int .i64 0]) := Hk.out.beside bb (by omega)
        replace Hg : Hid (Blk w15 gg [.int .i64 v0, .int .i64 v1, .int .i64 v2, .int .i64 y7g3]) := Hg.out.beside bb (by omega)
        replace Hf : Hid (Blk w15 gf [.int .i64 f0, .int .i64 f1]) := Hf.out.beside bb (by omega)
        replace HB : Hid (Below w.heap.size w w15) := HB.out.trans (bb.below (by omega) HB.out.size)
        replace HR : Hid (Rd w15 r s n c pz) := R_
        clear R_
        clear bb b_ sz_ zr_ Hq_z Hk_z Hg_z Hf_z
        obtain ⟨z_f, f_f, c_f⟩ := Hf.out
        have f0 : w15.cell? ⟨gf, 0, none⟩ = some (.int .i64 f0) := c_f 0 _ rfl
        have f1 : w15.cell? ⟨gf, 1, none⟩ = some (.int .i64 f1) := c_f 1 _ rfl
        have ff := f_f
        clear f_f c_f
        have ff0 := ff 0
        have ff1 := ff 1
        go_wp2_with fail
        clear f0 f1 z_f ff
        clear ff0 ff1
        have Hq_z : gq < w15.heap.size := Hq.out.1
        have Hk_z : gk < w15.heap.size := Hk.out.1
        have Hg_z : gg < w15.heap.size := Hg.out.1
        have Hf_z : gf < w15.heap.size := Hf.out.1
        have sz_ : w.heap.size ≤ w15.heap.size := HB.out.size
        have zr_ : r < w15.heap.size := HR.out.1
        obtain ⟨w16, hw_⟩ : ∃ x_, x_ = ((w15.setCell ⟨gf, 0, none⟩ (.int .i64 z0)).setCell ⟨gf, 1, none⟩ (.int .i64 z1)) := ⟨_, rfl⟩
        rw [← hw_]
        replace Hq : Hid (Blk w16 gq [.int .i64 0, .int .i64 0, .int .i64 0, .int .i64 0]) := by show Blk _ _ _; rw [hw_]; exact ((Hq.out.beside (Beside.setCell gf _ 0 _) (by omega)).beside (Beside.setCell gf _ 1 _) (by omega))
        replace Hk : Hid (Blk w16 gk [.int .i64 0, .int .i64 0]) := by show Blk _ _ _; rw [hw_]; exact ((Hk.out.beside (Beside.setCell gf _ 0 _) (by omega)).beside (Beside.setCell gf _ 1 _) (by omega))
        replace Hg : Hid (Blk w16 gg [.int .i64 v0, .int .i64 v1, .int .i64 v2, .int .i64 y7g3]) := by show Blk _ _ _; rw [hw_]; exact ((Hg.out.beside (Beside.setCell gf _ 0 _) (by omega)).beside (Beside.setCell gf _ 1 _) (by omega))
        replace Hf : Hid (Blk w16 gf [.int .i64 z0, .int .i64 z1]) := by show Blk _ _ _; rw [hw_]; exact ((Hf.out.set 0 (.int .i64 z0)).set 1 (.int .i64 z1))
        replace HR : Hid (Rd w16 r s n c pz) := by show Rd _ _ _ _ _ _; rw [hw_]; exact Rd.below' HR.out (show Below (r + 1) w15 _ from (by repeat (first | with_reducible exact Below.refl _ _ | with_reducible refine Below.setCell ?_ (by first | omega | (simp; done) | (simp; omega)) _ | with_reducible refine bDrewN ?_ _ | with_reducible refine Below.drew ?_ | with_reducible refine Below.alloc ?_ (by first | omega | (simp; done) | (simp; omega)) _)))
        replace HB : Hid (Below w.heap.size w w16) := by show Below _ _ _; rw [hw_]; exact HB.out.trans (show Below w.heap.size w15 _ from (by repeat (first | with_reducible exact Below.refl _ _ | with_reducible refine Below.setCell ?_ (by first | omega | (simp; done) | (simp; omega)) _ | with_reducible refine bDrewN ?_ _ | with_reducible refine Below.drew ?_ | with_reducible refine Below.alloc ?_ (by first | omega | (simp; done) | (simp; omega)) _)))
        clear hw_
        clear sz_ zr_ Hq_z Hk_z Hg_z Hf_z
        go_meet
        exact ⟨pz, z0, z1, HR, HB, Hq, Hk, Hg, Hf, ⟨hz0, hz1⟩⟩
    case rest =>
      clear HR HB Hq Hk Hg Hf
      obtain ⟨p17, y14f0, y14f1, HR, HB, Hq, Hk, Hg, Hf, HW⟩ := hcut
      rename World => w17
      obtain ⟨z_g, f_g, c_g⟩ := Hg.out
      have g0 : w17.cell? ⟨gg, 0, none⟩ = some (.int .i64 v0) := c_g 0 _ rfl
      have g1 : w17.cell? ⟨gg, 1, none⟩ = some (.int .i64 v1) := c_g 1 _ rfl
      have g2 : w17.cell? ⟨gg, 2, none⟩ = some (.int .i64 v2) := c_g 2 _ rfl
      have g3 : w17.cell? ⟨gg, 3, none⟩ = some (.int .i64 y7g3) := c_g 3 _ rfl
      have fg := f_g
      clear f_g c_g
      obtain ⟨z_f, f_f, c_f⟩ := Hf.out
      have f0 : w17.cell? ⟨gf, 0, none⟩ = some (.int .i64 y14f0) := c_f 0 _ rfl
      have f1 : w17.cell? ⟨gf, 1, none⟩ = some (.int .i64 y14f1) := c_f 1 _ rfl
      have ff := f_f
      clear f_f c_f
      obtain ⟨z_q, f_q, c_q⟩ := Hq.out
      have q0 : w17.cell? ⟨gq, 0, none⟩ = some (.int .i64 0) := c_q 0 _ rfl
      have q1 : w17.cell? ⟨gq, 1, none⟩ = some (.int .i64 0) := c_q 1 _ rfl
      have q2 : w17.cell? ⟨gq, 2, none⟩ = some (.int .i64 0) := c_q 2 _ rfl
      have q3 : w17.cell? ⟨gq, 3, none⟩ = some (.int .i64 0) := c_q 3 _ rfl
      have fq := f_q
      clear f_q c_q
      obtain ⟨z_k, f_k, c_k⟩ := Hk.out
      have k0 : w17.cell? ⟨gk, 0, none⟩ = some (.int .i64 0) := c_k 0 _ rfl
      have k1 : w17.cell? ⟨gk, 1, none⟩ = some (.int .i64 0) := c_k 1 _ rfl
      have fk := f_k
      clear f_k c_k
      have fq0 := fq 0
      have fq1 := fq 1
      have fq2 := fq 2
      have fq3 := fq 3
      have fk0 := fk 0
      have fk1 := fk 1
      have nqk : gq ≠ gk := by omega
      have ngq : gg ≠ gq := by omega
      have ngk : gg ≠ gk := by omega
      have nfq : gf ≠ gq := by omega
      have nfk : gf ≠ gk := by omega
      go_upto_region 9 with fail
      go_region
      all_goals
        go_wp2
        have BF := HB.out
        have sBF := BF.size
        exact bodyPost_ret (v := .tuple #[.agg #[.int .i64 v0, .int .i64 v1, .int .i64 v2, .int .i64 y7g3], .agg #[.int .i64 y14f0, .int .i64 y14f1]]) (by simp [results, Try.results8, go_sem, g0, g1, g2, g3, f0, f1, q0, q1, q2, q3, k0, k1, *]) rfl ⟨v0, v1, v2, y7g3, y14f0, y14f1, rfl, HW.out.1, HW.out.2, (by repeat (first | with_reducible exact Below.refl _ _ | with_reducible exact BF | with_reducible refine Below.setCell ?_ (by first | omega | (simp; done) | (simp; omega)) _ | with_reducible refine bDrewN ?_ _ | with_reducible refine Below.drew ?_ | with_reducible refine Below.alloc ?_ (by first | omega | (simp; done) | (simp; omega)) _))⟩
end Go.Proofs.Ytnimndpphphcnaa
