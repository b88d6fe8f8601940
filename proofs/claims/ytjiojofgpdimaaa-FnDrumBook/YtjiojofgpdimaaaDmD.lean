/-
What is proved: a drum that is drawn: any int64s.
-/
import Derived.Test.YtjiojofgpdimaaaDmA
import Derived.Test.YtjiojofgpdimaaaStepS
import Derived.Test.YtjiojofgpdimaaaRunT
import Derived.Deep.DeepCutAuto
import Derived.RegionTactic
namespace Go.Proofs.Ytjiojofgpdimaaa
set_option maxRecDepth 40000
open Go.ChangeShapes Go.WideShapes Go.ChangeAt Go.RowKit
set_option linter.unusedVariables false
set_option linter.unusedSimpArgs false

set_option maxRecDepth 20000 in
set_option maxHeartbeats 16000000 in
theorem drum_any {r : Nat} {s : Option Addr} {n c p : Nat} {w : World} (h : Hid (Rd w r s n c p)) :
    Calls Try.prog 22 #[.pointer (some ⟨r, 0, none⟩)] w fun e w' => ∃ (x0 x1 x2 x3 x4 x5 x6 : Int) (p' : Nat), e = .returned (.agg #[.int .i64 x0, .int .i64 x1, .int .i64 x2, .int .i64 x3, .int .i64 x4, .int .i64 x5, .int .i64 x6]) ∧ Rd w' r s n c p' ∧ Beside r w w' := by
  have zr : r < w.heap.size := h.out.1
  have HR : Hid (Rd w r s n c p) := h
  have HS : Hid (Beside r w w) := Beside.of (Below.refl _ _)
  clear h
  go_enter Try.func22, Try.ntmps22
  obtain ⟨-, -, rc0, -, -, rn, -⟩ := HR.out
  have n1 : (n : Int) ≤ 1048576 := by omega
  clear rn
  obtain ⟨mm, hm_, hm8⟩ : ∃ mm : Int, (if (8 : Int) < 1 + (n : Int) / 12 then 8 else 1 + (n : Int) / 12) = mm ∧ mm ≤ 8 := ⟨_, rfl, by split <;> omega⟩
  go_wp2_with fail
  refine (below_any mm (HR.out.below (by repeat (first | with_reducible exact Below.refl _ _ | with_reducible refine Below.setCell ?_ (by first | omega | (simp; done) | (simp; omega)) _ | with_reducible refine bDrewN ?_ _ | with_reducible refine Below.drew ?_ | with_reducible refine Below.alloc ?_ (by first | omega | (simp; done) | (simp; omega)) _)))).mono ?_
  rintro e w1 ⟨N, pN, rfl, N0, N1, N2, R_, b_⟩
  have sz_ : w.heap.size ≤ w.heap.size := HS.out.2.2.2.1
  have zr_ : r < w.heap.size := HR.out.1
  have bb : Beside r w w1 := (Beside.of (show Below w.heap.size w _ from (by repeat (first | with_reducible exact Below.refl _ _ | with_reducible refine Below.setCell ?_ (by first | omega | (simp; done) | (simp; omega)) _ | with_reducible refine bDrewN ?_ _ | with_reducible refine Below.drew ?_ | with_reducible refine Below.alloc ?_ (by first | omega | (simp; done) | (simp; omega)) _)))).trans b_
  obtain ⟨gq, hgq⟩ : ∃ g, g = w.heap.size := ⟨_, rfl⟩
  have Hq : Hid (Blk w1 gq [.int .i64 0, .int .i64 0, .int .i64 0, .int .i64 0, .int .i64 0, .int .i64 0, .int .i64 0]) := by
    show Blk _ _ _
    have q := (((Blk.new w #[.int .i64 0, .int .i64 0, .int .i64 0, .int .i64 0, .int .i64 0, .int .i64 0, .int .i64 0] 25).below (below0 _ _))).beside b_ (by first | omega | (simp; omega))
    rw [hgq]; exact q
  obtain ⟨gd, hgd⟩ : ∃ g, g = w.heap.size + 1 := ⟨_, rfl⟩
  have Hd : Hid (Blk w1 gd [.int .i64 0, .int .i64 0, .int .i64 0, .int .i64 0, .int .i64 0, .int .i64 0, .int .i64 0]) := by
    show Blk _ _ _
    have q := ((Blk.new (w.alloc (.cells #[.int .i64 0, .int .i64 0, .int .i64 0, .int .i64 0, .int .i64 0, .int .i64 0, .int .i64 0] 25)) #[.int .i64 0, .int .i64 0, .int .i64 0, .int .i64 0, .int .i64 0, .int .i64 0, .int .i64 0] 25)).beside b_ (by first | omega | (simp; omega))
    rw [hgd]; exact (by simpa using q)
  replace HS : Hid (Beside r w w1) := HS.out.trans bb
  replace HR : Hid (Rd w1 r s n c pN) := R_
  clear R_
  have lgq : w.heap.size ≤ gq := by omega
  have rgq : r < gq := by omega
  have lgd : w.heap.size ≤ gd := by omega
  have rgd : r < gd := by omega
  have dgqgd : gq < gd := by omega
  try rw [← hgd]
  try rw [← hgq]
  clear hgq
  clear hgd
  clear bb b_ sz_ zr_ 
  clear rc0 hm_
  have N8 : N ≤ 8 := by omega
  clear N1 N2
  go_wp2_with fail
  go_loopw [4] (fun i wr => ∃ (jj x0 x1 x2 x3 x4 x5 x6 : Int) (p5 : Nat), jj ≤ 8 ∧ i = .int .i64 jj ∧ Hid (Rd wr r s n c p5) ∧ Hid (Beside r w wr) ∧ Hid (Blk wr gq [.int .i64 0, .int .i64 0, .int .i64 0, .int .i64 0, .int .i64 0, .int .i64 0, .int .i64 0]) ∧ Hid (Blk wr gd [.int .i64 x0, .int .i64 x1, .int .i64 x2, .int .i64 x3, .int .i64 x4, .int .i64 x5, .int .i64 x6])) (fun i _ => (intOf i).toNat)
  case atStart => exact ⟨N, 0, 0, 0, 0, 0, 0, 0, pN, by omega, rfl, HR, HS, Hq, Hd⟩
  case round =>
    clear HR HS Hq Hd
    obtain ⟨jj, x0, x1, x2, x3, x4, x5, x6, p5, j8, rfl, HR, HS, Hq, Hd⟩ := hrel
    by_cases hlt : 0 < jj
    case pos =>
      go_wp2_with fail
      refine (act_any (HR.out.below (by repeat (first | with_reducible exact Below.refl _ _ | with_reducible refine Below.setCell ?_ (by first | omega | (simp; done) | (simp; omega)) _ | with_reducible refine bDrewN ?_ _ | with_reducible refine Below.drew ?_ | with_reducible refine Below.alloc ?_ (by first | omega | (simp; done) | (simp; omega)) _)))).mono ?_
      rintro e w2 ⟨a0, a1, a2, pa, rfl, R_, b_⟩
      have Hq_z : gq < wr.heap.size := Hq.out.1
      have Hd_z : gd < wr.heap.size := Hd.out.1
      have sz_ : w.heap.size ≤ wr.heap.size := HS.out.2.2.2.1
      have zr_ : r < wr.heap.size := HR.out.1
      have bb : Beside r wr w2 := (Beside.of (show Below wr.heap.size wr _ from (by repeat (first | with_reducible exact Below.refl _ _ | with_reducible refine Below.setCell ?_ (by first | omega | (simp; done) | (simp; omega)) _ | with_reducible refine bDrewN ?_ _ | with_reducible refine Below.drew ?_ | with_reducible refine Below.alloc ?_ (by first | omega | (simp; done) | (simp; omega)) _)))).trans b_
      replace Hq : Hid (Blk w2 gq [.int .i64 0, .int .i64 0, .int .i64 0, .int .i64 0, .int .i64 0, .int .i64 0, .int .i64 0]) := Hq.out.beside bb (by omega)
      replace Hd : Hid (Blk w2 gd [.int .i64 x0, .int .i64 x1, .int .i64 x2, .int .i64 x3, .int .i64 x4, .int .i64 x5, .int .i64 x6]) := Hd.out.beside bb (by omega)
      replace HS : Hid (Beside r w w2) := HS.out.trans bb
      replace HR : Hid (Rd w2 r s n c pa) := R_
      clear R_
      clear bb b_ sz_ zr_ Hq_z Hd_z
      go_upto_region 6 with fail
      have Hq_z : gq < w2.heap.size := Hq.out.1
      have Hd_z : gd < w2.heap.size := Hd.out.1
      have sz_ : w.heap.size ≤ w2.heap.size := HS.out.2.2.2.1
      have zr_ : r < w2.heap.size := HR.out.1
      obtain ⟨w3, hw_⟩ : ∃ x_, x_ = (w2.alloc (.cells #[.int .i64 a0, .int .i64 a1, .int .i64 a2] 32)) := ⟨_, rfl⟩
      rw [← hw_]
      replace Hq : Hid (Blk w3 gq [.int .i64 0, .int .i64 0, .int .i64 0, .int .i64 0, .int .i64 0, .int .i64 0, .int .i64 0]) := by show Blk _ _ _; rw [hw_]; exact (Hq.out.below (below0 _ _))
      replace Hd : Hid (Blk w3 gd [.int .i64 x0, .int .i64 x1, .int .i64 x2, .int .i64 x3, .int .i64 x4, .int .i64 x5, .int .i64 x6]) := by show Blk _ _ _; rw [hw_]; exact (Hd.out.below (below0 _ _))
      obtain ⟨ga, hga⟩ : ∃ g, g = w2.heap.size := ⟨_, rfl⟩
      have Ha : Hid (Blk w3 ga [.int .i64 a0, .int .i64 a1, .int .i64 a2]) := by show Blk _ _ _; rw [hw_, hga]; have q := (Blk.new w2 #[.int .i64 a0, .int .i64 a1, .int .i64 a2] 32); first | exact q | exact (by simpa using q)
      replace HR : Hid (Rd w3 r s n c pa) := by show Rd _ _ _ _ _ _; rw [hw_]; exact Rd.below' HR.out (show Below (r + 1) w2 _ from (by repeat (first | with_reducible exact Below.refl _ _ | with_reducible refine Below.setCell ?_ (by first | omega | (simp; done) | (simp; omega)) _ | with_reducible refine bDrewN ?_ _ | with_reducible refine Below.drew ?_ | with_reducible refine Below.alloc ?_ (by first | omega | (simp; done) | (simp; omega)) _)))
      replace HS : Hid (Beside r w w3) := by show Beside _ _ _; rw [hw_]; exact HS.out.onB (show Below w.heap.size w2 _ from (by repeat (first | with_reducible exact Below.refl _ _ | with_reducible refine Below.setCell ?_ (by first | omega | (simp; done) | (simp; omega)) _ | with_reducible refine bDrewN ?_ _ | with_reducible refine Below.drew ?_ | with_reducible refine Below.alloc ?_ (by first | omega | (simp; done) | (simp; omega)) _)))
      clear hw_
      have lga : w.heap.size ≤ ga := by omega
      have rga : r < ga := by omega
      have dgqga : gq < ga := by omega
      have dgdga : gd < ga := by omega
      try rw [← hga]
      clear hga
      clear sz_ zr_ Hq_z Hd_z
      obtain ⟨z_d, f_d, c_d⟩ := Hd.out
      have dc0 : w3.cell? ⟨gd, 0, none⟩ = some (.int .i64 x0) := c_d 0 _ rfl
      have dc1 : w3.cell? ⟨gd, 1, none⟩ = some (.int .i64 x1) := c_d 1 _ rfl
      have dc2 : w3.cell? ⟨gd, 2, none⟩ = some (.int .i64 x2) := c_d 2 _ rfl
      have dc3 : w3.cell? ⟨gd, 3, none⟩ = some (.int .i64 x3) := c_d 3 _ rfl
      have dc4 : w3.cell? ⟨gd, 4, none⟩ = some (.int .i64 x4) := c_d 4 _ rfl
      have dc5 : w3.cell? ⟨gd, 5, none⟩ = some (.int .i64 x5) := c_d 5 _ rfl
      have dc6 : w3.cell? ⟨gd, 6, none⟩ = some (.int .i64 x6) := c_d 6 _ rfl
      have fd := f_d
      clear f_d c_d
      obtain ⟨z_a, f_a, c_a⟩ := Ha.out
      have ac0 : w3.cell? ⟨ga, 0, none⟩ = some (.int .i64 a0) := c_a 0 _ rfl
      have ac1 : w3.cell? ⟨ga, 1, none⟩ = some (.int .i64 a1) := c_a 1 _ rfl
      have ac2 : w3.cell? ⟨ga, 2, none⟩ = some (.int .i64 a2) := c_a 2 _ rfl
      have fa := f_a
      clear f_a c_a
      obtain ⟨y0, y1, y2, y3, y4, y5, y6, hy⟩ := stepV_agg2 x0 x1 x2 x3 x4 x5 x6 a0 a1 a2
      obtain ⟨ok, hok⟩ : ∃ ok, stepOk x0 x1 x2 x3 x4 x5 x6 a0 a1 a2 = ok := ⟨_, rfl⟩
      have ST : Hid (∀ w, Calls Try.prog 12 #[.agg #[.int .i64 x0, .int .i64 x1, .int .i64 x2, .int .i64 x3, .int .i64 x4, .int .i64 x5, .int .i64 x6], .int .i64 a0, .int .i64 a1, .int .i64 a2] w fun e w' => e = .returned (.tuple #[.agg #[.int .i64 y0, .int .i64 y1, .int .i64 y2, .int .i64 y3, .int .i64 y4, .int .i64 y5, .int .i64 y6], .bool ok]) ∧ Below w.heap.size w w') := fun w => by
        have q := specDrumStep_any x0 x1 x2 x3 x4 x5 x6 a0 a1 a2 w
        rw [hy, hok] at q
        exact q
      clear hy hok
      go_wp2_with fail
      refine (ST.out _).mono ?_
      rintro e w4 ⟨rfl, b_⟩
      have Hq_z : gq < w3.heap.size := Hq.out.1
      have Hd_z : gd < w3.heap.size := Hd.out.1
      have Ha_z : ga < w3.heap.size := Ha.out.1
      have sz_ : w.heap.size ≤ w3.heap.size := HS.out.2.2.2.1
      have zr_ : r < w3.heap.size := HR.out.1
      have bb : Beside r w3 w4 := Beside.of ((show Below w3.heap.size w3 _ from (by repeat (first | with_reducible exact Below.refl _ _ | with_reducible refine Below.setCell ?_ (by first | omega | (simp; done) | (simp; omega)) _ | with_reducible refine bDrewN ?_ _ | with_reducible refine Below.drew ?_ | with_reducible refine Below.alloc ?_ (by first | omega | (simp; done) | (simp; omega)) _))).trans (b_.mono (by first | omega | (simp; done) | (simp; omega))))
      replace Hq : Hid (Blk w4 gq [.int .i64 0, .int .i64 0, .int .i64 0, .int .i64 0, .int .i64 0, .int .i64 0, .int .i64 0]) := Hq.out.beside bb (by omega)
      replace Hd : Hid (Blk w4 gd [.int .i64 x0, .int .i64 x1, .int .i64 x2, .int .i64 x3, .int .i64 x4, .int .i64 x5, .int .i64 x6]) := Hd.out.beside bb (by omega)
      replace Ha : Hid (Blk w4 ga [.int .i64 a0, .int .i64 a1, .int .i64 a2]) := Ha.out.beside bb (by omega)
      replace HS : Hid (Beside r w w4) := HS.out.trans bb
      replace HR : Hid (Rd w4 r s n c pa) := HR.out.below ((show Below w3.heap.size w3 _ from (by repeat (first | with_reducible exact Below.refl _ _ | with_reducible refine Below.setCell ?_ (by first | omega | (simp; done) | (simp; omega)) _ | with_reducible refine bDrewN ?_ _ | with_reducible refine Below.drew ?_ | with_reducible refine Below.alloc ?_ (by first | omega | (simp; done) | (simp; omega)) _))).trans (b_.mono (by first | omega | (simp; done) | (simp; omega))))
      clear bb b_ sz_ zr_ Hq_z Hd_z Ha_z
      clear ST
      clear dc0 dc1 dc2 dc3 dc4 dc5 dc6 z_d fd
      clear ac0 ac1 ac2 z_a fa
      clear Ha
      go_upto_region 7 with fail
      have Hq_z : gq < w4.heap.size := Hq.out.1
      have Hd_z : gd < w4.heap.size := Hd.out.1
      have sz_ : w.heap.size ≤ w4.heap.size := HS.out.2.2.2.1
      have zr_ : r < w4.heap.size := HR.out.1
      obtain ⟨w5, hw_⟩ : ∃ x_, x_ = (w4.alloc (.cells #[.int .i64 y0, .int .i64 y1, .int .i64 y2, .int .i64 y3, .int .i64 y4, .int .i64 y5, .int .i64 y6] 25)) := ⟨_, rfl⟩
      rw [← hw_]
      replace Hq : Hid (Blk w5 gq [.int .i64 0, .int .i64 0, .int .i64 0, .int .i64 0, .int .i64 0, .int .i64 0, .int .i64 0]) := by show Blk _ _ _; rw [hw_]; exact (Hq.out.below (below0 _ _))
      replace Hd : Hid (Blk w5 gd [.int .i64 x0, .int .i64 x1, .int .i64 x2, .int .i64 x3, .int .i64 x4, .int .i64 x5, .int .i64 x6]) := by show Blk _ _ _; rw [hw_]; exact (Hd.out.below (below0 _ _))
      obtain ⟨gy, hgy⟩ : ∃ g, g = w4.heap.size := ⟨_, rfl⟩
      have Hy : Hid (Blk w5 gy [.int .i64 y0, .int .i64 y1, .int .i64 y2, .int .i64 y3, .int .i64 y4, .int .i64 y5, .int .i64 y6]) := by show Blk _ _ _; rw [hw_, hgy]; have q := (Blk.new w4 #[.int .i64 y0, .int .i64 y1, .int .i64 y2, .int .i64 y3, .int .i64 y4, .int .i64 y5, .int .i64 y6] 25); first | exact q | exact (by simpa using q)
      replace HR : Hid (Rd w5 r s n c pa) := by show Rd _ _ _ _ _ _; rw [hw_]; exact Rd.below' HR.out (show Below (r + 1) w4 _ from (by repeat (first | with_reducible exact Below.refl _ _ | with_reducible refine Below.setCell ?_ (by first | omega | (simp; done) | (simp; omega)) _ | with_reducible refine bDrewN ?_ _ | with_reducible refine Below.drew ?_ | with_reducible refine Below.alloc ?_ (by first | omega | (simp; done) | (simp; omega)) _)))
      replace HS : Hid (Beside r w w5) := by show Beside _ _ _; rw [hw_]; exact HS.out.onB (show Below w.heap.size w4 _ from (by repeat (first | with_reducible exact Below.refl _ _ | with_reducible refine Below.setCell ?_ (by first | omega | (simp; done) | (simp; omega)) _ | with_reducible refine bDrewN ?_ _ | with_reducible refine Below.drew ?_ | with_reducible refine Below.alloc ?_ (by first | omega | (simp; done) | (simp; omega)) _)))
      clear hw_
      have lgy : w.heap.size ≤ gy := by omega
      have rgy : r < gy := by omega
      have dgqgy : gq < gy := by omega
      have dgdgy : gd < gy := by omega
      try rw [← hgy]
      clear hgy
      clear sz_ zr_ Hq_z Hd_z
      cases ok
      · go_wp2
        go_roundw
        case rel => exact ⟨jj - 1, x0, x1, x2, x3, x4, x5, x6, pa, by omega, by congr 1, HR, HS, Hq, Hd⟩
        case measure => simp [intOf]; omega
      · skip
        obtain ⟨z_y, f_y, c_y⟩ := Hy.out
        have yc0 : w5.cell? ⟨gy, 0, none⟩ = some (.int .i64 y0) := c_y 0 _ rfl
        have yc1 : w5.cell? ⟨gy, 1, none⟩ = some (.int .i64 y1) := c_y 1 _ rfl
        have yc2 : w5.cell? ⟨gy, 2, none⟩ = some (.int .i64 y2) := c_y 2 _ rfl
        have yc3 : w5.cell? ⟨gy, 3, none⟩ = some (.int .i64 y3) := c_y 3 _ rfl
        have yc4 : w5.cell? ⟨gy, 4, none⟩ = some (.int .i64 y4) := c_y 4 _ rfl
        have yc5 : w5.cell? ⟨gy, 5, none⟩ = some (.int .i64 y5) := c_y 5 _ rfl
        have yc6 : w5.cell? ⟨gy, 6, none⟩ = some (.int .i64 y6) := c_y 6 _ rfl
        have fy := f_y
        clear f_y c_y
        obtain ⟨z_d, f_d, c_d⟩ := Hd.out
        have dc0 : w5.cell? ⟨gd, 0, none⟩ = some (.int .i64 x0) := c_d 0 _ rfl
        have dc1 : w5.cell? ⟨gd, 1, none⟩ = some (.int .i64 x1) := c_d 1 _ rfl
        have dc2 : w5.cell? ⟨gd, 2, none⟩ = some (.int .i64 x2) := c_d 2 _ rfl
        have dc3 : w5.cell? ⟨gd, 3, none⟩ = some (.int .i64 x3) := c_d 3 _ rfl
        have dc4 : w5.cell? ⟨gd, 4, none⟩ = some (.int .i64 x4) := c_d 4 _ rfl
        have dc5 : w5.cell? ⟨gd, 5, none⟩ = some (.int .i64 x5) := c_d 5 _ rfl
        have dc6 : w5.cell? ⟨gd, 6, none⟩ = some (.int .i64 x6) := c_d 6 _ rfl
        have fd := f_d
        clear f_d c_d
        have fd0 := fd 0
        have fd1 := fd 1
        have fd2 := fd 2
        have fd3 := fd 3
        have fd4 := fd 4
        have fd5 := fd 5
        have fd6 := fd 6
        have nyd : gy ≠ gd := by omega
        go_wp2
        go_roundw
        case rel =>
          refine ⟨jj - 1, y0, y1, y2, y3, y4, y5, y6, pa, by omega, by congr 1, ?_, ?_, ?_, ?_⟩
          · exact Rd.below' HR.out (show Below (r + 1) w5 _ from (by repeat (first | with_reducible exact Below.refl _ _ | with_reducible refine Below.setCell ?_ (by first | omega | (simp; done) | (simp; omega)) _ | with_reducible refine bDrewN ?_ _ | with_reducible refine Below.drew ?_ | with_reducible refine Below.alloc ?_ (by first | omega | (simp; done) | (simp; omega)) _)))
          · exact HS.out.onB (show Below w.heap.size w5 _ from (by repeat (first | with_reducible exact Below.refl _ _ | with_reducible refine Below.setCell ?_ (by first | omega | (simp; done) | (simp; omega)) _ | with_reducible refine bDrewN ?_ _ | with_reducible refine Below.drew ?_ | with_reducible refine Below.alloc ?_ (by first | omega | (simp; done) | (simp; omega)) _)))
          · exact (((((((Hq.out.beside (Beside.setCell gd _ 0 _) (by omega)).beside (Beside.setCell gd _ 1 _) (by omega)).beside (Beside.setCell gd _ 2 _) (by omega)).beside (Beside.setCell gd _ 3 _) (by omega)).beside (Beside.setCell gd _ 4 _) (by omega)).beside (Beside.setCell gd _ 5 _) (by omega)).beside (Beside.setCell gd _ 6 _) (by omega))
          · exact (((((((Hd.out.set 0 (.int .i64 y0)).set 1 (.int .i64 y1)).set 2 (.int .i64 y2)).set 3 (.int .i64 y3)).set 4 (.int .i64 y4)).set 5 (.int .i64 y5)).set 6 (.int .i64 y6))
        case measure => simp [intOf]; omega
    case neg =>
      rename World => wl
      go_wp2_with fail
      refine (below_any 24 (HR.out.below (by repeat (first | with_reducible exact Below.refl _ _ | with_reducible refine Below.setCell ?_ (by first | omega | (simp; done) | (simp; omega)) _ | with_reducible refine bDrewN ?_ _ | with_reducible refine Below.drew ?_ | with_reducible refine Below.alloc ?_ (by first | omega | (simp; done) | (simp; omega)) _)))).mono ?_
      rintro e w2 ⟨kk, pk, rfl, k0, k1, k2, R_, b_⟩
      have Hq_z : gq < wl.heap.size := Hq.out.1
      have Hd_z : gd < wl.heap.size := Hd.out.1
      have sz_ : w.heap.size ≤ wl.heap.size := HS.out.2.2.2.1
      have zr_ : r < wl.heap.size := HR.out.1
      have bb : Beside r wl w2 := (Beside.of (show Below wl.heap.size wl _ from (by repeat (first | with_reducible exact Below.refl _ _ | with_reducible refine Below.setCell ?_ (by first | omega | (simp; done) | (simp; omega)) _ | with_reducible refine bDrewN ?_ _ | with_reducible refine Below.drew ?_ | with_reducible refine Below.alloc ?_ (by first | omega | (simp; done) | (simp; omega)) _)))).trans b_
      replace Hq : Hid (Blk w2 gq [.int .i64 0, .int .i64 0, .int .i64 0, .int .i64 0, .int .i64 0, .int .i64 0, .int .i64 0]) := Hq.out.beside bb (by omega)
      replace Hd : Hid (Blk w2 gd [.int .i64 x0, .int .i64 x1, .int .i64 x2, .int .i64 x3, .int .i64 x4, .int .i64 x5, .int .i64 x6]) := Hd.out.beside bb (by omega)
      replace HS : Hid (Beside r w w2) := HS.out.trans bb
      replace HR : Hid (Rd w2 r s n c pk) := R_
      clear R_
      clear bb b_ sz_ zr_ Hq_z Hd_z
      clear k1 k2
      by_cases e0 : kk = 0
      case pos =>
        subst e0
        obtain ⟨z_d, f_d, c_d⟩ := Hd.out
        have dc0 : w2.cell? ⟨gd, 0, none⟩ = some (.int .i64 x0) := c_d 0 _ rfl
        have dc1 : w2.cell? ⟨gd, 1, none⟩ = some (.int .i64 x1) := c_d 1 _ rfl
        have dc2 : w2.cell? ⟨gd, 2, none⟩ = some (.int .i64 x2) := c_d 2 _ rfl
        have dc3 : w2.cell? ⟨gd, 3, none⟩ = some (.int .i64 x3) := c_d 3 _ rfl
        have dc4 : w2.cell? ⟨gd, 4, none⟩ = some (.int .i64 x4) := c_d 4 _ rfl
        have dc5 : w2.cell? ⟨gd, 5, none⟩ = some (.int .i64 x5) := c_d 5 _ rfl
        have dc6 : w2.cell? ⟨gd, 6, none⟩ = some (.int .i64 x6) := c_d 6 _ rfl
        have fd := f_d
        clear f_d c_d
        have fd_ := fd 0
        obtain ⟨z0, hz0⟩ : ∃ z : Int, IntKind.i64.wrap (x0 + 1) = z := ⟨_, rfl⟩
        go_upto_region 23 with fail
        clear dc0 dc1 dc2 dc3 dc4 dc5 dc6 z_d fd
        clear fd_
        try rw [hz0]
        have Hq_z : gq < w2.heap.size := Hq.out.1
        have Hd_z : gd < w2.heap.size := Hd.out.1
        have sz_ : w.heap.size ≤ w2.heap.size := HS.out.2.2.2.1
        have zr_ : r < w2.heap.size := HR.out.1
        obtain ⟨w3, hw_⟩ : ∃ x_, x_ = (w2.setCell ⟨gd, 0, none⟩ (.int .i64 z0)) := ⟨_, rfl⟩
        rw [← hw_]
        replace Hq : Hid (Blk w3 gq [.int .i64 0, .int .i64 0, .int .i64 0, .int .i64 0, .int .i64 0, .int .i64 0, .int .i64 0]) := by show Blk _ _ _; rw [hw_]; exact (Hq.out.beside (Beside.setCell gd _ 0 _) (by omega))
        replace Hd : Hid (Blk w3 gd [.int .i64 z0, .int .i64 x1, .int .i64 x2, .int .i64 x3, .int .i64 x4, .int .i64 x5, .int .i64 x6]) := by show Blk _ _ _; rw [hw_]; exact (Hd.out.set 0 (.int .i64 z0))
        replace HR : Hid (Rd w3 r s n c pk) := by show Rd _ _ _ _ _ _; rw [hw_]; exact Rd.below' HR.out (show Below (r + 1) w2 _ from (by repeat (first | with_reducible exact Below.refl _ _ | with_reducible refine Below.setCell ?_ (by first | omega | (simp; done) | (simp; omega)) _ | with_reducible refine bDrewN ?_ _ | with_reducible refine Below.drew ?_ | with_reducible refine Below.alloc ?_ (by first | omega | (simp; done) | (simp; omega)) _)))
        replace HS : Hid (Beside r w w3) := by show Beside _ _ _; rw [hw_]; exact HS.out.onB (show Below w.heap.size w2 _ from (by repeat (first | with_reducible exact Below.refl _ _ | with_reducible refine Below.setCell ?_ (by first | omega | (simp; done) | (simp; omega)) _ | with_reducible refine bDrewN ?_ _ | with_reducible refine Below.drew ?_ | with_reducible refine Below.alloc ?_ (by first | omega | (simp; done) | (simp; omega)) _)))
        clear hw_
        clear sz_ zr_ Hq_z Hd_z
        clear hz0
        obtain ⟨z_d, f_d, c_d⟩ := Hd.out
        have dc0 : w3.cell? ⟨gd, 0, none⟩ = some (.int .i64 z0) := c_d 0 _ rfl
        have dc1 : w3.cell? ⟨gd, 1, none⟩ = some (.int .i64 x1) := c_d 1 _ rfl
        have dc2 : w3.cell? ⟨gd, 2, none⟩ = some (.int .i64 x2) := c_d 2 _ rfl
        have dc3 : w3.cell? ⟨gd, 3, none⟩ = some (.int .i64 x3) := c_d 3 _ rfl
        have dc4 : w3.cell? ⟨gd, 4, none⟩ = some (.int .i64 x4) := c_d 4 _ rfl
        have dc5 : w3.cell? ⟨gd, 5, none⟩ = some (.int .i64 x5) := c_d 5 _ rfl
        have dc6 : w3.cell? ⟨gd, 6, none⟩ = some (.int .i64 x6) := c_d 6 _ rfl
        have fd := f_d
        clear f_d c_d
        obtain ⟨z_q, f_q, c_q⟩ := Hq.out
        have qc0 : w3.cell? ⟨gq, 0, none⟩ = some (.int .i64 0) := c_q 0 _ rfl
        have qc1 : w3.cell? ⟨gq, 1, none⟩ = some (.int .i64 0) := c_q 1 _ rfl
        have qc2 : w3.cell? ⟨gq, 2, none⟩ = some (.int .i64 0) := c_q 2 _ rfl
        have qc3 : w3.cell? ⟨gq, 3, none⟩ = some (.int .i64 0) := c_q 3 _ rfl
        have qc4 : w3.cell? ⟨gq, 4, none⟩ = some (.int .i64 0) := c_q 4 _ rfl
        have qc5 : w3.cell? ⟨gq, 5, none⟩ = some (.int .i64 0) := c_q 5 _ rfl
        have qc6 : w3.cell? ⟨gq, 6, none⟩ = some (.int .i64 0) := c_q 6 _ rfl
        have fq := f_q
        clear f_q c_q
        have fq0 := fq 0
        have fq1 := fq 1
        have fq2 := fq 2
        have fq3 := fq 3
        have fq4 := fq 4
        have fq5 := fq 5
        have fq6 := fq 6
        have n_ : gd ≠ gq := by omega
        have BS := HS.out
        have sBS := BS.2.2.2.1
        go_wp2
        exact bodyPost_ret (v := .agg #[.int .i64 z0, .int .i64 x1, .int .i64 x2, .int .i64 x3, .int .i64 x4, .int .i64 x5, .int .i64 x6]) (by simp [results, Try.results22, go_sem, dc0, dc1, dc2, dc3, dc4, dc5, dc6, qc0, qc1, qc2, qc3, qc4, qc5, qc6, n_, n_.symm]) rfl ⟨z0, x1, x2, x3, x4, x5, x6, pk, rfl, Rd.below' HR.out (show Below (r + 1) w3 _ from (by repeat (first | with_reducible exact Below.refl _ _ | with_reducible refine Below.setCell ?_ (by first | omega | (simp; done) | (simp; omega)) _ | with_reducible refine bDrewN ?_ _ | with_reducible refine Below.drew ?_ | with_reducible refine Below.alloc ?_ (by first | omega | (simp; done) | (simp; omega)) _))), HS.out.onB (show Below w.heap.size w3 _ from (by repeat (first | with_reducible exact Below.refl _ _ | with_reducible refine Below.setCell ?_ (by first | omega | (simp; done) | (simp; omega)) _ | with_reducible refine bDrewN ?_ _ | with_reducible refine Below.drew ?_ | with_reducible refine Below.alloc ?_ (by first | omega | (simp; done) | (simp; omega)) _)))⟩
      have n0 : (kk == 0) = false := by simpa using e0
      by_cases e1 : kk = 1
      case pos =>
        subst e1
        obtain ⟨z_d, f_d, c_d⟩ := Hd.out
        have dc0 : w2.cell? ⟨gd, 0, none⟩ = some (.int .i64 x0) := c_d 0 _ rfl
        have dc1 : w2.cell? ⟨gd, 1, none⟩ = some (.int .i64 x1) := c_d 1 _ rfl
        have dc2 : w2.cell? ⟨gd, 2, none⟩ = some (.int .i64 x2) := c_d 2 _ rfl
        have dc3 : w2.cell? ⟨gd, 3, none⟩ = some (.int .i64 x3) := c_d 3 _ rfl
        have dc4 : w2.cell? ⟨gd, 4, none⟩ = some (.int .i64 x4) := c_d 4 _ rfl
        have dc5 : w2.cell? ⟨gd, 5, none⟩ = some (.int .i64 x5) := c_d 5 _ rfl
        have dc6 : w2.cell? ⟨gd, 6, none⟩ = some (.int .i64 x6) := c_d 6 _ rfl
        have fd := f_d
        clear f_d c_d
        have fd_ := fd 2
        obtain ⟨z0, hz0⟩ : ∃ z : Int, IntKind.i64.wrap (x2 - 1) = z := ⟨_, rfl⟩
        go_upto_region 23 with fail
        clear dc0 dc1 dc2 dc3 dc4 dc5 dc6 z_d fd
        clear fd_
        try rw [hz0]
        have Hq_z : gq < w2.heap.size := Hq.out.1
        have Hd_z : gd < w2.heap.size := Hd.out.1
        have sz_ : w.heap.size ≤ w2.heap.size := HS.out.2.2.2.1
        have zr_ : r < w2.heap.size := HR.out.1
        obtain ⟨w3, hw_⟩ : ∃ x_, x_ = (w2.setCell ⟨gd, 2, none⟩ (.int .i64 z0)) := ⟨_, rfl⟩
        rw [← hw_]
        replace Hq : Hid (Blk w3 gq [.int .i64 0, .int .i64 0, .int .i64 0, .int .i64 0, .int .i64 0, .int .i64 0, .int .i64 0]) := by show Blk _ _ _; rw [hw_]; exact (Hq.out.beside (Beside.setCell gd _ 2 _) (by omega))
        replace Hd : Hid (Blk w3 gd [.int .i64 x0, .int .i64 x1, .int .i64 z0, .int .i64 x3, .int .i64 x4, .int .i64 x5, .int .i64 x6]) := by show Blk _ _ _; rw [hw_]; exact (Hd.out.set 2 (.int .i64 z0))
        replace HR : Hid (Rd w3 r s n c pk) := by show Rd _ _ _ _ _ _; rw [hw_]; exact Rd.below' HR.out (show Below (r + 1) w2 _ from (by repeat (first | with_reducible exact Below.refl _ _ | with_reducible refine Below.setCell ?_ (by first | omega | (simp; done) | (simp; omega)) _ | with_reducible refine bDrewN ?_ _ | with_reducible refine Below.drew ?_ | with_reducible refine Below.alloc ?_ (by first | omega | (simp; done) | (simp; omega)) _)))
        replace HS : Hid (Beside r w w3) := by show Beside _ _ _; rw [hw_]; exact HS.out.onB (show Below w.heap.size w2 _ from (by repeat (first | with_reducible exact Below.refl _ _ | with_reducible refine Below.setCell ?_ (by first | omega | (simp; done) | (simp; omega)) _ | with_reducible refine bDrewN ?_ _ | with_reducible refine Below.drew ?_ | with_reducible refine Below.alloc ?_ (by first | omega | (simp; done) | (simp; omega)) _)))
        clear hw_
        clear sz_ zr_ Hq_z Hd_z
        clear hz0
        obtain ⟨z_d, f_d, c_d⟩ := Hd.out
        have dc0 : w3.cell? ⟨gd, 0, none⟩ = some (.int .i64 x0) := c_d 0 _ rfl
        have dc1 : w3.cell? ⟨gd, 1, none⟩ = some (.int .i64 x1) := c_d 1 _ rfl
        have dc2 : w3.cell? ⟨gd, 2, none⟩ = some (.int .i64 z0) := c_d 2 _ rfl
        have dc3 : w3.cell? ⟨gd, 3, none⟩ = some (.int .i64 x3) := c_d 3 _ rfl
        have dc4 : w3.cell? ⟨gd, 4, none⟩ = some (.int .i64 x4) := c_d 4 _ rfl
        have dc5 : w3.cell? ⟨gd, 5, none⟩ = some (.int .i64 x5) := c_d 5 _ rfl
        have dc6 : w3.cell? ⟨gd, 6, none⟩ = some (.int .i64 x6) := c_d 6 _ rfl
        have fd := f_d
        clear f_d c_d
        obtain ⟨z_q, f_q, c_q⟩ := Hq.out
        have qc0 : w3.cell? ⟨gq, 0, none⟩ = some (.int .i64 0) := c_q 0 _ rfl
        have qc1 : w3.cell? ⟨gq, 1, none⟩ = some (.int .i64 0) := c_q 1 _ rfl
        have qc2 : w3.cell? ⟨gq, 2, none⟩ = some (.int .i64 0) := c_q 2 _ rfl
        have qc3 : w3.cell? ⟨gq, 3, none⟩ = some (.int .i64 0) := c_q 3 _ rfl
        have qc4 : w3.cell? ⟨gq, 4, none⟩ = some (.int .i64 0) := c_q 4 _ rfl
        have qc5 : w3.cell? ⟨gq, 5, none⟩ = some (.int .i64 0) := c_q 5 _ rfl
        have qc6 : w3.cell? ⟨gq, 6, none⟩ = some (.int .i64 0) := c_q 6 _ rfl
        have fq := f_q
        clear f_q c_q
        have fq0 := fq 0
        have fq1 := fq 1
        have fq2 := fq 2
        have fq3 := fq 3
        have fq4 := fq 4
        have fq5 := fq 5
        have fq6 := fq 6
        have n_ : gd ≠ gq := by omega
        have BS := HS.out
        have sBS := BS.2.2.2.1
        go_wp2
        exact bodyPost_ret (v := .agg #[.int .i64 x0, .int .i64 x1, .int .i64 z0, .int .i64 x3, .int .i64 x4, .int .i64 x5, .int .i64 x6]) (by simp [results, Try.results22, go_sem, dc0, dc1, dc2, dc3, dc4, dc5, dc6, qc0, qc1, qc2, qc3, qc4, qc5, qc6, n_, n_.symm]) rfl ⟨x0, x1, z0, x3, x4, x5, x6, pk, rfl, Rd.below' HR.out (show Below (r + 1) w3 _ from (by repeat (first | with_reducible exact Below.refl _ _ | with_reducible refine Below.setCell ?_ (by first | omega | (simp; done) | (simp; omega)) _ | with_reducible refine bDrewN ?_ _ | with_reducible refine Below.drew ?_ | with_reducible refine Below.alloc ?_ (by first | omega | (simp; done) | (simp; omega)) _))), HS.out.onB (show Below w.heap.size w3 _ from (by repeat (first | with_reducible exact Below.refl _ _ | with_reducible refine Below.setCell ?_ (by first | omega | (simp; done) | (simp; omega)) _ | with_reducible refine bDrewN ?_ _ | with_reducible refine Below.drew ?_ | with_reducible refine Below.alloc ?_ (by first | omega | (simp; done) | (simp; omega)) _)))⟩
      have n1 : (kk == 1) = false := by simpa using e1
      by_cases e2 : kk = 2
      case pos =>
        subst e2
        obtain ⟨z_d, f_d, c_d⟩ := Hd.out
        have dc0 : w2.cell? ⟨gd, 0, none⟩ = some (.int .i64 x0) := c_d 0 _ rfl
        have dc1 : w2.cell? ⟨gd, 1, none⟩ = some (.int .i64 x1) := c_d 1 _ rfl
        have dc2 : w2.cell? ⟨gd, 2, none⟩ = some (.int .i64 x2) := c_d 2 _ rfl
        have dc3 : w2.cell? ⟨gd, 3, none⟩ = some (.int .i64 x3) := c_d 3 _ rfl
        have dc4 : w2.cell? ⟨gd, 4, none⟩ = some (.int .i64 x4) := c_d 4 _ rfl
        have dc5 : w2.cell? ⟨gd, 5, none⟩ = some (.int .i64 x5) := c_d 5 _ rfl
        have dc6 : w2.cell? ⟨gd, 6, none⟩ = some (.int .i64 x6) := c_d 6 _ rfl
        have fd := f_d
        clear f_d c_d
        have fd_ := fd 1
        obtain ⟨z0, hz0⟩ : ∃ z : Int, IntKind.i64.wrap (x1 + 1) = z := ⟨_, rfl⟩
        go_upto_region 16 with fail
        clear dc0 dc1 dc2 dc3 dc4 dc5 dc6 z_d fd
        clear fd_
        try rw [hz0]
        have Hq_z : gq < w2.heap.size := Hq.out.1
        have Hd_z : gd < w2.heap.size := Hd.out.1
        have sz_ : w.heap.size ≤ w2.heap.size := HS.out.2.2.2.1
        have zr_ : r < w2.heap.size := HR.out.1
        obtain ⟨w3, hw_⟩ : ∃ x_, x_ = (w2.setCell ⟨gd, 1, none⟩ (.int .i64 z0)) := ⟨_, rfl⟩
        rw [← hw_]
        replace Hq : Hid (Blk w3 gq [.int .i64 0, .int .i64 0, .int .i64 0, .int .i64 0, .int .i64 0, .int .i64 0, .int .i64 0]) := by show Blk _ _ _; rw [hw_]; exact (Hq.out.beside (Beside.setCell gd _ 1 _) (by omega))
        replace Hd : Hid (Blk w3 gd [.int .i64 x0, .int .i64 z0, .int .i64 x2, .int .i64 x3, .int .i64 x4, .int .i64 x5, .int .i64 x6]) := by show Blk _ _ _; rw [hw_]; exact (Hd.out.set 1 (.int .i64 z0))
        replace HR : Hid (Rd w3 r s n c pk) := by show Rd _ _ _ _ _ _; rw [hw_]; exact Rd.below' HR.out (show Below (r + 1) w2 _ from (by repeat (first | with_reducible exact Below.refl _ _ | with_reducible refine Below.setCell ?_ (by first | omega | (simp; done) | (simp; omega)) _ | with_reducible refine bDrewN ?_ _ | with_reducible refine Below.drew ?_ | with_reducible refine Below.alloc ?_ (by first | omega | (simp; done) | (simp; omega)) _)))
        replace HS : Hid (Beside r w w3) := by show Beside _ _ _; rw [hw_]; exact HS.out.onB (show Below w.heap.size w2 _ from (by repeat (first | with_reducible exact Below.refl _ _ | with_reducible refine Below.setCell ?_ (by first | omega | (simp; done) | (simp; omega)) _ | with_reducible refine bDrewN ?_ _ | with_reducible refine Below.drew ?_ | with_reducible refine Below.alloc ?_ (by first | omega | (simp; done) | (simp; omega)) _)))
        clear hw_
        clear sz_ zr_ Hq_z Hd_z
        clear hz0
        obtain ⟨z_d, f_d, c_d⟩ := Hd.out
        have dc0 : w3.cell? ⟨gd, 0, none⟩ = some (.int .i64 x0) := c_d 0 _ rfl
        have dc1 : w3.cell? ⟨gd, 1, none⟩ = some (.int .i64 z0) := c_d 1 _ rfl
        have dc2 : w3.cell? ⟨gd, 2, none⟩ = some (.int .i64 x2) := c_d 2 _ rfl
        have dc3 : w3.cell? ⟨gd, 3, none⟩ = some (.int .i64 x3) := c_d 3 _ rfl
        have dc4 : w3.cell? ⟨gd, 4, none⟩ = some (.int .i64 x4) := c_d 4 _ rfl
        have dc5 : w3.cell? ⟨gd, 5, none⟩ = some (.int .i64 x5) := c_d 5 _ rfl
        have dc6 : w3.cell? ⟨gd, 6, none⟩ = some (.int .i64 x6) := c_d 6 _ rfl
        have fd := f_d
        clear f_d c_d
        have fd_ := fd 3
        obtain ⟨z1, hz1⟩ : ∃ z : Int, IntKind.i64.wrap (x3 + 1) = z := ⟨_, rfl⟩
        go_upto_region 23 with fail
        clear dc0 dc1 dc2 dc3 dc4 dc5 dc6 z_d fd
        clear fd_
        try rw [hz1]
        have Hq_z : gq < w3.heap.size := Hq.out.1
        have Hd_z : gd < w3.heap.size := Hd.out.1
        have sz_ : w.heap.size ≤ w3.heap.size := HS.out.2.2.2.1
        have zr_ : r < w3.heap.size := HR.out.1
        obtain ⟨w4, hw_⟩ : ∃ x_, x_ = (w3.setCell ⟨gd, 3, none⟩ (.int .i64 z1)) := ⟨_, rfl⟩
        rw [← hw_]
        replace Hq : Hid (Blk w4 gq [.int .i64 0, .int .i64 0, .int .i64 0, .int .i64 0, .int .i64 0, .int .i64 0, .int .i64 0]) := by show Blk _ _ _; rw [hw_]; exact (Hq.out.beside (Beside.setCell gd _ 3 _) (by omega))
        replace Hd : Hid (Blk w4 gd [.int .i64 x0, .int .i64 z0, .int .i64 x2, .int .i64 z1, .int .i64 x4, .int .i64 x5, .int .i64 x6]) := by show Blk _ _ _; rw [hw_]; exact (Hd.out.set 3 (.int .i64 z1))
        replace HR : Hid (Rd w4 r s n c pk) := by show Rd _ _ _ _ _ _; rw [hw_]; exact Rd.below' HR.out (show Below (r + 1) w3 _ from (by repeat (first | with_reducible exact Below.refl _ _ | with_reducible refine Below.setCell ?_ (by first | omega | (simp; done) | (simp; omega)) _ | with_reducible refine bDrewN ?_ _ | with_reducible refine Below.drew ?_ | with_reducible refine Below.alloc ?_ (by first | omega | (simp; done) | (simp; omega)) _)))
        replace HS : Hid (Beside r w w4) := by show Beside _ _ _; rw [hw_]; exact HS.out.onB (show Below w.heap.size w3 _ from (by repeat (first | with_reducible exact Below.refl _ _ | with_reducible refine Below.setCell ?_ (by first | omega | (simp; done) | (simp; omega)) _ | with_reducible refine bDrewN ?_ _ | with_reducible refine Below.drew ?_ | with_reducible refine Below.alloc ?_ (by first | omega | (simp; done) | (simp; omega)) _)))
        clear hw_
        clear sz_ zr_ Hq_z Hd_z
        clear hz1
        obtain ⟨z_d, f_d, c_d⟩ := Hd.out
        have dc0 : w4.cell? ⟨gd, 0, none⟩ = some (.int .i64 x0) := c_d 0 _ rfl
        have dc1 : w4.cell? ⟨gd, 1, none⟩ = some (.int .i64 z0) := c_d 1 _ rfl
        have dc2 : w4.cell? ⟨gd, 2, none⟩ = some (.int .i64 x2) := c_d 2 _ rfl
        have dc3 : w4.cell? ⟨gd, 3, none⟩ = some (.int .i64 z1) := c_d 3 _ rfl
        have dc4 : w4.cell? ⟨gd, 4, none⟩ = some (.int .i64 x4) := c_d 4 _ rfl
        have dc5 : w4.cell? ⟨gd, 5, none⟩ = some (.int .i64 x5) := c_d 5 _ rfl
        have dc6 : w4.cell? ⟨gd, 6, none⟩ = some (.int .i64 x6) := c_d 6 _ rfl
        have fd := f_d
        clear f_d c_d
        obtain ⟨z_q, f_q, c_q⟩ := Hq.out
        have qc0 : w4.cell? ⟨gq, 0, none⟩ = some (.int .i64 0) := c_q 0 _ rfl
        have qc1 : w4.cell? ⟨gq, 1, none⟩ = some (.int .i64 0) := c_q 1 _ rfl
        have qc2 : w4.cell? ⟨gq, 2, none⟩ = some (.int .i64 0) := c_q 2 _ rfl
        have qc3 : w4.cell? ⟨gq, 3, none⟩ = some (.int .i64 0) := c_q 3 _ rfl
        have qc4 : w4.cell? ⟨gq, 4, none⟩ = some (.int .i64 0) := c_q 4 _ rfl
        have qc5 : w4.cell? ⟨gq, 5, none⟩ = some (.int .i64 0) := c_q 5 _ rfl
        have qc6 : w4.cell? ⟨gq, 6, none⟩ = some (.int .i64 0) := c_q 6 _ rfl
        have fq := f_q
        clear f_q c_q
        have fq0 := fq 0
        have fq1 := fq 1
        have fq2 := fq 2
        have fq3 := fq 3
        have fq4 := fq 4
        have fq5 := fq 5
        have fq6 := fq 6
        have n_ : gd ≠ gq := by omega
        have BS := HS.out
        have sBS := BS.2.2.2.1
        go_wp2
        exact bodyPost_ret (v := .agg #[.int .i64 x0, .int .i64 z0, .int .i64 x2, .int .i64 z1, .int .i64 x4, .int .i64 x5, .int .i64 x6]) (by simp [results, Try.results22, go_sem, dc0, dc1, dc2, dc3, dc4, dc5, dc6, qc0, qc1, qc2, qc3, qc4, qc5, qc6, n_, n_.symm]) rfl ⟨x0, z0, x2, z1, x4, x5, x6, pk, rfl, Rd.below' HR.out (show Below (r + 1) w4 _ from (by repeat (first | with_reducible exact Below.refl _ _ | with_reducible refine Below.setCell ?_ (by first | omega | (simp; done) | (simp; omega)) _ | with_reducible refine bDrewN ?_ _ | with_reducible refine Below.drew ?_ | with_reducible refine Below.alloc ?_ (by first | omega | (simp; done) | (simp; omega)) _))), HS.out.onB (show Below w.heap.size w4 _ from (by repeat (first | with_reducible exact Below.refl _ _ | with_reducible refine Below.setCell ?_ (by first | omega | (simp; done) | (simp; omega)) _ | with_reducible refine bDrewN ?_ _ | with_reducible refine Below.drew ?_ | with_reducible refine Below.alloc ?_ (by first | omega | (simp; done) | (simp; omega)) _)))⟩
      have n2 : (kk == 2) = false := by simpa using e2
      by_cases e3 : kk = 3
      case pos =>
        subst e3
        go_wp2_with fail
        refine (below_any 9 (HR.out.below (by repeat (first | with_reducible exact Below.refl _ _ | with_reducible refine Below.setCell ?_ (by first | omega | (simp; done) | (simp; omega)) _ | with_reducible refine bDrewN ?_ _ | with_reducible refine Below.drew ?_ | with_reducible refine Below.alloc ?_ (by first | omega | (simp; done) | (simp; omega)) _)))).mono ?_
        rintro e w3 ⟨m9, pm, rfl, m90, m91, m92, R_, b_⟩
        have Hq_z : gq < w2.heap.size := Hq.out.1
        have Hd_z : gd < w2.heap.size := Hd.out.1
        have sz_ : w.heap.size ≤ w2.heap.size := HS.out.2.2.2.1
        have zr_ : r < w2.heap.size := HR.out.1
        have bb : Beside r w2 w3 := (Beside.of (show Below w2.heap.size w2 _ from (by repeat (first | with_reducible exact Below.refl _ _ | with_reducible refine Below.setCell ?_ (by first | omega | (simp; done) | (simp; omega)) _ | with_reducible refine bDrewN ?_ _ | with_reducible refine Below.drew ?_ | with_reducible refine Below.alloc ?_ (by first | omega | (simp; done) | (simp; omega)) _)))).trans b_
        replace Hq : Hid (Blk w3 gq [.int .i64 0, .int .i64 0, .int .i64 0, .int .i64 0, .int .i64 0, .int .i64 0, .int .i64 0]) := Hq.out.beside bb (by omega)
        replace Hd : Hid (Blk w3 gd [.int .i64 x0, .int .i64 x1, .int .i64 x2, .int .i64 x3, .int .i64 x4, .int .i64 x5, .int .i64 x6]) := Hd.out.beside bb (by omega)
        replace HS : Hid (Beside r w w3) := HS.out.trans bb
        replace HR : Hid (Rd w3 r s n c pm) := R_
        clear R_
        clear bb b_ sz_ zr_ Hq_z Hd_z
        clear m91
        obtain ⟨z_d, f_d, c_d⟩ := Hd.out
        have dc0 : w3.cell? ⟨gd, 0, none⟩ = some (.int .i64 x0) := c_d 0 _ rfl
        have dc1 : w3.cell? ⟨gd, 1, none⟩ = some (.int .i64 x1) := c_d 1 _ rfl
        have dc2 : w3.cell? ⟨gd, 2, none⟩ = some (.int .i64 x2) := c_d 2 _ rfl
        have dc3 : w3.cell? ⟨gd, 3, none⟩ = some (.int .i64 x3) := c_d 3 _ rfl
        have dc4 : w3.cell? ⟨gd, 4, none⟩ = some (.int .i64 x4) := c_d 4 _ rfl
        have dc5 : w3.cell? ⟨gd, 5, none⟩ = some (.int .i64 x5) := c_d 5 _ rfl
        have dc6 : w3.cell? ⟨gd, 6, none⟩ = some (.int .i64 x6) := c_d 6 _ rfl
        have fd := f_d
        clear f_d c_d
        have fd_ := fd 3
        have wm : IntKind.i64.wrap (1000000000000 - m9) = 1000000000000 - m9 := by rw [IntKind.wrap_i64]; omega
        go_upto_region 19 with fail
        clear dc0 dc1 dc2 dc3 dc4 dc5 dc6 z_d fd
        clear fd_
        have Hq_z : gq < w3.heap.size := Hq.out.1
        have Hd_z : gd < w3.heap.size := Hd.out.1
        have sz_ : w.heap.size ≤ w3.heap.size := HS.out.2.2.2.1
        have zr_ : r < w3.heap.size := HR.out.1
        obtain ⟨w4, hw_⟩ : ∃ x_, x_ = (w3.setCell ⟨gd, 3, none⟩ (.int .i64 (1000000000000 - m9))) := ⟨_, rfl⟩
        rw [← hw_]
        replace Hq : Hid (Blk w4 gq [.int .i64 0, .int .i64 0, .int .i64 0, .int .i64 0, .int .i64 0, .int .i64 0, .int .i64 0]) := by show Blk _ _ _; rw [hw_]; exact (Hq.out.beside (Beside.setCell gd _ 3 _) (by omega))
        replace Hd : Hid (Blk w4 gd [.int .i64 x0, .int .i64 x1, .int .i64 x2, .int .i64 (1000000000000 - m9), .int .i64 x4, .int .i64 x5, .int .i64 x6]) := by show Blk _ _ _; rw [hw_]; exact (Hd.out.set 3 (.int .i64 (1000000000000 - m9)))
        replace HR : Hid (Rd w4 r s n c pm) := by show Rd _ _ _ _ _ _; rw [hw_]; exact Rd.below' HR.out (show Below (r + 1) w3 _ from (by repeat (first | with_reducible exact Below.refl _ _ | with_reducible refine Below.setCell ?_ (by first | omega | (simp; done) | (simp; omega)) _ | with_reducible refine bDrewN ?_ _ | with_reducible refine Below.drew ?_ | with_reducible refine Below.alloc ?_ (by first | omega | (simp; done) | (simp; omega)) _)))
        replace HS : Hid (Beside r w w4) := by show Beside _ _ _; rw [hw_]; exact HS.out.onB (show Below w.heap.size w3 _ from (by repeat (first | with_reducible exact Below.refl _ _ | with_reducible refine Below.setCell ?_ (by first | omega | (simp; done) | (simp; omega)) _ | with_reducible refine bDrewN ?_ _ | with_reducible refine Below.drew ?_ | with_reducible refine Below.alloc ?_ (by first | omega | (simp; done) | (simp; omega)) _)))
        clear hw_
        clear sz_ zr_ Hq_z Hd_z
        obtain ⟨zf, hzf⟩ : ∃ z : Int, 1000000000000 - m9 = z := ⟨_, rfl⟩
        rw [hzf] at Hd
        clear hzf wm
        obtain ⟨z_d, f_d, c_d⟩ := Hd.out
        have dc0 : w4.cell? ⟨gd, 0, none⟩ = some (.int .i64 x0) := c_d 0 _ rfl
        have dc1 : w4.cell? ⟨gd, 1, none⟩ = some (.int .i64 x1) := c_d 1 _ rfl
        have dc2 : w4.cell? ⟨gd, 2, none⟩ = some (.int .i64 x2) := c_d 2 _ rfl
        have dc3 : w4.cell? ⟨gd, 3, none⟩ = some (.int .i64 zf) := c_d 3 _ rfl
        have dc4 : w4.cell? ⟨gd, 4, none⟩ = some (.int .i64 x4) := c_d 4 _ rfl
        have dc5 : w4.cell? ⟨gd, 5, none⟩ = some (.int .i64 x5) := c_d 5 _ rfl
        have dc6 : w4.cell? ⟨gd, 6, none⟩ = some (.int .i64 x6) := c_d 6 _ rfl
        have fd := f_d
        clear f_d c_d
        have fd_ := fd 4
        obtain ⟨z1, hz1⟩ : ∃ z : Int, IntKind.i64.wrap (zf - x0) = z := ⟨_, rfl⟩
        obtain ⟨z2, hz2⟩ : ∃ z : Int, IntKind.i64.wrap (z1 - x1) = z := ⟨_, rfl⟩
        go_upto_region 23 with fail
        clear dc0 dc1 dc2 dc3 dc4 dc5 dc6 z_d fd
        clear fd_
        try rw [hz1]
        try rw [hz2]
        have Hq_z : gq < w4.heap.size := Hq.out.1
        have Hd_z : gd < w4.heap.size := Hd.out.1
        have sz_ : w.heap.size ≤ w4.heap.size := HS.out.2.2.2.1
        have zr_ : r < w4.heap.size := HR.out.1
        obtain ⟨w5, hw_⟩ : ∃ x_, x_ = (w4.setCell ⟨gd, 4, none⟩ (.int .i64 z2)) := ⟨_, rfl⟩
        rw [← hw_]
        replace Hq : Hid (Blk w5 gq [.int .i64 0, .int .i64 0, .int .i64 0, .int .i64 0, .int .i64 0, .int .i64 0, .int .i64 0]) := by show Blk _ _ _; rw [hw_]; exact (Hq.out.beside (Beside.setCell gd _ 4 _) (by omega))
        replace Hd : Hid (Blk w5 gd [.int .i64 x0, .int .i64 x1, .int .i64 x2, .int .i64 zf, .int .i64 z2, .int .i64 x5, .int .i64 x6]) := by show Blk _ _ _; rw [hw_]; exact (Hd.out.set 4 (.int .i64 z2))
        replace HR : Hid (Rd w5 r s n c pm) := by show Rd _ _ _ _ _ _; rw [hw_]; exact Rd.below' HR.out (show Below (r + 1) w4 _ from (by repeat (first | with_reducible exact Below.refl _ _ | with_reducible refine Below.setCell ?_ (by first | omega | (simp; done) | (simp; omega)) _ | with_reducible refine bDrewN ?_ _ | with_reducible refine Below.drew ?_ | with_reducible refine Below.alloc ?_ (by first | omega | (simp; done) | (simp; omega)) _)))
        replace HS : Hid (Beside r w w5) := by show Beside _ _ _; rw [hw_]; exact HS.out.onB (show Below w.heap.size w4 _ from (by repeat (first | with_reducible exact Below.refl _ _ | with_reducible refine Below.setCell ?_ (by first | omega | (simp; done) | (simp; omega)) _ | with_reducible refine bDrewN ?_ _ | with_reducible refine Below.drew ?_ | with_reducible refine Below.alloc ?_ (by first | omega | (simp; done) | (simp; omega)) _)))
        clear hw_
        clear sz_ zr_ Hq_z Hd_z
        obtain ⟨z_d, f_d, c_d⟩ := Hd.out
        have dc0 : w5.cell? ⟨gd, 0, none⟩ = some (.int .i64 x0) := c_d 0 _ rfl
        have dc1 : w5.cell? ⟨gd, 1, none⟩ = some (.int .i64 x1) := c_d 1 _ rfl
        have dc2 : w5.cell? ⟨gd, 2, none⟩ = some (.int .i64 x2) := c_d 2 _ rfl
        have dc3 : w5.cell? ⟨gd, 3, none⟩ = some (.int .i64 zf) := c_d 3 _ rfl
        have dc4 : w5.cell? ⟨gd, 4, none⟩ = some (.int .i64 z2) := c_d 4 _ rfl
        have dc5 : w5.cell? ⟨gd, 5, none⟩ = some (.int .i64 x5) := c_d 5 _ rfl
        have dc6 : w5.cell? ⟨gd, 6, none⟩ = some (.int .i64 x6) := c_d 6 _ rfl
        have fd := f_d
        clear f_d c_d
        obtain ⟨z_q, f_q, c_q⟩ := Hq.out
        have qc0 : w5.cell? ⟨gq, 0, none⟩ = some (.int .i64 0) := c_q 0 _ rfl
        have qc1 : w5.cell? ⟨gq, 1, none⟩ = some (.int .i64 0) := c_q 1 _ rfl
        have qc2 : w5.cell? ⟨gq, 2, none⟩ = some (.int .i64 0) := c_q 2 _ rfl
        have qc3 : w5.cell? ⟨gq, 3, none⟩ = some (.int .i64 0) := c_q 3 _ rfl
        have qc4 : w5.cell? ⟨gq, 4, none⟩ = some (.int .i64 0) := c_q 4 _ rfl
        have qc5 : w5.cell? ⟨gq, 5, none⟩ = some (.int .i64 0) := c_q 5 _ rfl
        have qc6 : w5.cell? ⟨gq, 6, none⟩ = some (.int .i64 0) := c_q 6 _ rfl
        have fq := f_q
        clear f_q c_q
        have fq0 := fq 0
        have fq1 := fq 1
        have fq2 := fq 2
        have fq3 := fq 3
        have fq4 := fq 4
        have fq5 := fq 5
        have fq6 := fq 6
        have n_ : gd ≠ gq := by omega
        have BS := HS.out
        have sBS := BS.2.2.2.1
        go_wp2
        exact bodyPost_ret (v := .agg #[.int .i64 x0, .int .i64 x1, .int .i64 x2, .int .i64 zf, .int .i64 z2, .int .i64 x5, .int .i64 x6]) (by simp [results, Try.results22, go_sem, dc0, dc1, dc2, dc3, dc4, dc5, dc6, qc0, qc1, qc2, qc3, qc4, qc5, qc6, n_, n_.symm]) rfl ⟨x0, x1, x2, zf, z2, x5, x6, pm, rfl, Rd.below' HR.out (show Below (r + 1) w5 _ from (by repeat (first | with_reducible exact Below.refl _ _ | with_reducible refine Below.setCell ?_ (by first | omega | (simp; done) | (simp; omega)) _ | with_reducible refine bDrewN ?_ _ | with_reducible refine Below.drew ?_ | with_reducible refine Below.alloc ?_ (by first | omega | (simp; done) | (simp; omega)) _))), HS.out.onB (show Below w.heap.size w5 _ from (by repeat (first | with_reducible exact Below.refl _ _ | with_reducible refine Below.setCell ?_ (by first | omega | (simp; done) | (simp; omega)) _ | with_reducible refine bDrewN ?_ _ | with_reducible refine Below.drew ?_ | with_reducible refine Below.alloc ?_ (by first | omega | (simp; done) | (simp; omega)) _)))⟩
      have n3 : (kk == 3) = false := by simpa using e3
      by_cases e4 : kk = 4
      case pos =>
        subst e4
        go_wp2_with fail
        refine (below_any 99 (HR.out.below (by repeat (first | with_reducible exact Below.refl _ _ | with_reducible refine Below.setCell ?_ (by first | omega | (simp; done) | (simp; omega)) _ | with_reducible refine bDrewN ?_ _ | with_reducible refine Below.drew ?_ | with_reducible refine Below.alloc ?_ (by first | omega | (simp; done) | (simp; omega)) _)))).mono ?_
        rintro e w3 ⟨m9, pm, rfl, m90, m91, m92, R_, b_⟩
        have Hq_z : gq < w2.heap.size := Hq.out.1
        have Hd_z : gd < w2.heap.size := Hd.out.1
        have sz_ : w.heap.size ≤ w2.heap.size := HS.out.2.2.2.1
        have zr_ : r < w2.heap.size := HR.out.1
        have bb : Beside r w2 w3 := (Beside.of (show Below w2.heap.size w2 _ from (by repeat (first | with_reducible exact Below.refl _ _ | with_reducible refine Below.setCell ?_ (by first | omega | (simp; done) | (simp; omega)) _ | with_reducible refine bDrewN ?_ _ | with_reducible refine Below.drew ?_ | with_reducible refine Below.alloc ?_ (by first | omega | (simp; done) | (simp; omega)) _)))).trans b_
        replace Hq : Hid (Blk w3 gq [.int .i64 0, .int .i64 0, .int .i64 0, .int .i64 0, .int .i64 0, .int .i64 0, .int .i64 0]) := Hq.out.beside bb (by omega)
        replace Hd : Hid (Blk w3 gd [.int .i64 x0, .int .i64 x1, .int .i64 x2, .int .i64 x3, .int .i64 x4, .int .i64 x5, .int .i64 x6]) := Hd.out.beside bb (by omega)
        replace HS : Hid (Beside r w w3) := HS.out.trans bb
        replace HR : Hid (Rd w3 r s n c pm) := R_
        clear R_
        clear bb b_ sz_ zr_ Hq_z Hd_z
        clear m91
        obtain ⟨z_d, f_d, c_d⟩ := Hd.out
        have dc0 : w3.cell? ⟨gd, 0, none⟩ = some (.int .i64 x0) := c_d 0 _ rfl
        have dc1 : w3.cell? ⟨gd, 1, none⟩ = some (.int .i64 x1) := c_d 1 _ rfl
        have dc2 : w3.cell? ⟨gd, 2, none⟩ = some (.int .i64 x2) := c_d 2 _ rfl
        have dc3 : w3.cell? ⟨gd, 3, none⟩ = some (.int .i64 x3) := c_d 3 _ rfl
        have dc4 : w3.cell? ⟨gd, 4, none⟩ = some (.int .i64 x4) := c_d 4 _ rfl
        have dc5 : w3.cell? ⟨gd, 5, none⟩ = some (.int .i64 x5) := c_d 5 _ rfl
        have dc6 : w3.cell? ⟨gd, 6, none⟩ = some (.int .i64 x6) := c_d 6 _ rfl
        have fd := f_d
        clear f_d c_d
        have fd_ := fd 5
        have wm : IntKind.i64.wrap (1000000000000 - m9) = 1000000000000 - m9 := by rw [IntKind.wrap_i64]; omega
        go_upto_region 22 with fail
        clear dc0 dc1 dc2 dc3 dc4 dc5 dc6 z_d fd
        clear fd_
        have Hq_z : gq < w3.heap.size := Hq.out.1
        have Hd_z : gd < w3.heap.size := Hd.out.1
        have sz_ : w.heap.size ≤ w3.heap.size := HS.out.2.2.2.1
        have zr_ : r < w3.heap.size := HR.out.1
        obtain ⟨w4, hw_⟩ : ∃ x_, x_ = (w3.setCell ⟨gd, 5, none⟩ (.int .i64 (1000000000000 - m9))) := ⟨_, rfl⟩
        rw [← hw_]
        replace Hq : Hid (Blk w4 gq [.int .i64 0, .int .i64 0, .int .i64 0, .int .i64 0, .int .i64 0, .int .i64 0, .int .i64 0]) := by show Blk _ _ _; rw [hw_]; exact (Hq.out.beside (Beside.setCell gd _ 5 _) (by omega))
        replace Hd : Hid (Blk w4 gd [.int .i64 x0, .int .i64 x1, .int .i64 x2, .int .i64 x3, .int .i64 x4, .int .i64 (1000000000000 - m9), .int .i64 x6]) := by show Blk _ _ _; rw [hw_]; exact (Hd.out.set 5 (.int .i64 (1000000000000 - m9)))
        replace HR : Hid (Rd w4 r s n c pm) := by show Rd _ _ _ _ _ _; rw [hw_]; exact Rd.below' HR.out (show Below (r + 1) w3 _ from (by repeat (first | with_reducible exact Below.refl _ _ | with_reducible refine Below.setCell ?_ (by first | omega | (simp; done) | (simp; omega)) _ | with_reducible refine bDrewN ?_ _ | with_reducible refine Below.drew ?_ | with_reducible refine Below.alloc ?_ (by first | omega | (simp; done) | (simp; omega)) _)))
        replace HS : Hid (Beside r w w4) := by show Beside _ _ _; rw [hw_]; exact HS.out.onB (show Below w.heap.size w3 _ from (by repeat (first | with_reducible exact Below.refl _ _ | with_reducible refine Below.setCell ?_ (by first | omega | (simp; done) | (simp; omega)) _ | with_reducible refine bDrewN ?_ _ | with_reducible refine Below.drew ?_ | with_reducible refine Below.alloc ?_ (by first | omega | (simp; done) | (simp; omega)) _)))
        clear hw_
        clear sz_ zr_ Hq_z Hd_z
        obtain ⟨zf, hzf⟩ : ∃ z : Int, 1000000000000 - m9 = z := ⟨_, rfl⟩
        rw [hzf] at Hd
        clear hzf wm
        obtain ⟨z_d, f_d, c_d⟩ := Hd.out
        have dc0 : w4.cell? ⟨gd, 0, none⟩ = some (.int .i64 x0) := c_d 0 _ rfl
        have dc1 : w4.cell? ⟨gd, 1, none⟩ = some (.int .i64 x1) := c_d 1 _ rfl
        have dc2 : w4.cell? ⟨gd, 2, none⟩ = some (.int .i64 x2) := c_d 2 _ rfl
        have dc3 : w4.cell? ⟨gd, 3, none⟩ = some (.int .i64 x3) := c_d 3 _ rfl
        have dc4 : w4.cell? ⟨gd, 4, none⟩ = some (.int .i64 x4) := c_d 4 _ rfl
        have dc5 : w4.cell? ⟨gd, 5, none⟩ = some (.int .i64 zf) := c_d 5 _ rfl
        have dc6 : w4.cell? ⟨gd, 6, none⟩ = some (.int .i64 x6) := c_d 6 _ rfl
        have fd := f_d
        clear f_d c_d
        have fd_ := fd 6
        obtain ⟨z1, hz1⟩ : ∃ z : Int, IntKind.i64.wrap (zf - x2) = z := ⟨_, rfl⟩
        go_upto_region 23 with fail
        clear dc0 dc1 dc2 dc3 dc4 dc5 dc6 z_d fd
        clear fd_
        try rw [hz1]
        have Hq_z : gq < w4.heap.size := Hq.out.1
        have Hd_z : gd < w4.heap.size := Hd.out.1
        have sz_ : w.heap.size ≤ w4.heap.size := HS.out.2.2.2.1
        have zr_ : r < w4.heap.size := HR.out.1
        obtain ⟨w5, hw_⟩ : ∃ x_, x_ = (w4.setCell ⟨gd, 6, none⟩ (.int .i64 z1)) := ⟨_, rfl⟩
        rw [← hw_]
        replace Hq : Hid (Blk w5 gq [.int .i64 0, .int .i64 0, .int .i64 0, .int .i64 0, .int .i64 0, .int .i64 0, .int .i64 0]) := by show Blk _ _ _; rw [hw_]; exact (Hq.out.beside (Beside.setCell gd _ 6 _) (by omega))
        replace Hd : Hid (Blk w5 gd [.int .i64 x0, .int .i64 x1, .int .i64 x2, .int .i64 x3, .int .i64 x4, .int .i64 zf, .int .i64 z1]) := by show Blk _ _ _; rw [hw_]; exact (Hd.out.set 6 (.int .i64 z1))
        replace HR : Hid (Rd w5 r s n c pm) := by show Rd _ _ _ _ _ _; rw [hw_]; exact Rd.below' HR.out (show Below (r + 1) w4 _ from (by repeat (first | with_reducible exact Below.refl _ _ | with_reducible refine Below.setCell ?_ (by first | omega | (simp; done) | (simp; omega)) _ | with_reducible refine bDrewN ?_ _ | with_reducible refine Below.drew ?_ | with_reducible refine Below.alloc ?_ (by first | omega | (simp; done) | (simp; omega)) _)))
        replace HS : Hid (Beside r w w5) := by show Beside _ _ _; rw [hw_]; exact HS.out.onB (show Below w.heap.size w4 _ from (by repeat (first | with_reducible exact Below.refl _ _ | with_reducible refine Below.setCell ?_ (by first | omega | (simp; done) | (simp; omega)) _ | with_reducible refine bDrewN ?_ _ | with_reducible refine Below.drew ?_ | with_reducible refine Below.alloc ?_ (by first | omega | (simp; done) | (simp; omega)) _)))
        clear hw_
        clear sz_ zr_ Hq_z Hd_z
        obtain ⟨z_d, f_d, c_d⟩ := Hd.out
        have dc0 : w5.cell? ⟨gd, 0, none⟩ = some (.int .i64 x0) := c_d 0 _ rfl
        have dc1 : w5.cell? ⟨gd, 1, none⟩ = some (.int .i64 x1) := c_d 1 _ rfl
        have dc2 : w5.cell? ⟨gd, 2, none⟩ = some (.int .i64 x2) := c_d 2 _ rfl
        have dc3 : w5.cell? ⟨gd, 3, none⟩ = some (.int .i64 x3) := c_d 3 _ rfl
        have dc4 : w5.cell? ⟨gd, 4, none⟩ = some (.int .i64 x4) := c_d 4 _ rfl
        have dc5 : w5.cell? ⟨gd, 5, none⟩ = some (.int .i64 zf) := c_d 5 _ rfl
        have dc6 : w5.cell? ⟨gd, 6, none⟩ = some (.int .i64 z1) := c_d 6 _ rfl
        have fd := f_d
        clear f_d c_d
        obtain ⟨z_q, f_q, c_q⟩ := Hq.out
        have qc0 : w5.cell? ⟨gq, 0, none⟩ = some (.int .i64 0) := c_q 0 _ rfl
        have qc1 : w5.cell? ⟨gq, 1, none⟩ = some (.int .i64 0) := c_q 1 _ rfl
        have qc2 : w5.cell? ⟨gq, 2, none⟩ = some (.int .i64 0) := c_q 2 _ rfl
        have qc3 : w5.cell? ⟨gq, 3, none⟩ = some (.int .i64 0) := c_q 3 _ rfl
        have qc4 : w5.cell? ⟨gq, 4, none⟩ = some (.int .i64 0) := c_q 4 _ rfl
        have qc5 : w5.cell? ⟨gq, 5, none⟩ = some (.int .i64 0) := c_q 5 _ rfl
        have qc6 : w5.cell? ⟨gq, 6, none⟩ = some (.int .i64 0) := c_q 6 _ rfl
        have fq := f_q
        clear f_q c_q
        have fq0 := fq 0
        have fq1 := fq 1
        have fq2 := fq 2
        have fq3 := fq 3
        have fq4 := fq 4
        have fq5 := fq 5
        have fq6 := fq 6
        have n_ : gd ≠ gq := by omega
        have BS := HS.out
        have sBS := BS.2.2.2.1
        go_wp2
        exact bodyPost_ret (v := .agg #[.int .i64 x0, .int .i64 x1, .int .i64 x2, .int .i64 x3, .int .i64 x4, .int .i64 zf, .int .i64 z1]) (by simp [results, Try.results22, go_sem, dc0, dc1, dc2, dc3, dc4, dc5, dc6, qc0, qc1, qc2, qc3, qc4, qc5, qc6, n_, n_.symm]) rfl ⟨x0, x1, x2, x3, x4, zf, z1, pm, rfl, Rd.below' HR.out (show Below (r + 1) w5 _ from (by repeat (first | with_reducible exact Below.refl _ _ | with_reducible refine Below.setCell ?_ (by first | omega | (simp; done) | (simp; omega)) _ | with_reducible refine bDrewN ?_ _ | with_reducible refine Below.drew ?_ | with_reducible refine Below.alloc ?_ (by first | omega | (simp; done) | (simp; omega)) _))), HS.out.onB (show Below w.heap.size w5 _ from (by repeat (first | with_reducible exact Below.refl _ _ | with_reducible refine Below.setCell ?_ (by first | omega | (simp; done) | (simp; omega)) _ | with_reducible refine bDrewN ?_ _ | with_reducible refine Below.drew ?_ | with_reducible refine Below.alloc ?_ (by first | omega | (simp; done) | (simp; omega)) _)))⟩
      have n4 : (kk == 4) = false := by simpa using e4
      obtain ⟨z_d, f_d, c_d⟩ := Hd.out
      have dc0 : w2.cell? ⟨gd, 0, none⟩ = some (.int .i64 x0) := c_d 0 _ rfl
      have dc1 : w2.cell? ⟨gd, 1, none⟩ = some (.int .i64 x1) := c_d 1 _ rfl
      have dc2 : w2.cell? ⟨gd, 2, none⟩ = some (.int .i64 x2) := c_d 2 _ rfl
      have dc3 : w2.cell? ⟨gd, 3, none⟩ = some (.int .i64 x3) := c_d 3 _ rfl
      have dc4 : w2.cell? ⟨gd, 4, none⟩ = some (.int .i64 x4) := c_d 4 _ rfl
      have dc5 : w2.cell? ⟨gd, 5, none⟩ = some (.int .i64 x5) := c_d 5 _ rfl
      have dc6 : w2.cell? ⟨gd, 6, none⟩ = some (.int .i64 x6) := c_d 6 _ rfl
      have fd := f_d
      clear f_d c_d
      obtain ⟨z_q, f_q, c_q⟩ := Hq.out
      have qc0 : w2.cell? ⟨gq, 0, none⟩ = some (.int .i64 0) := c_q 0 _ rfl
      have qc1 : w2.cell? ⟨gq, 1, none⟩ = some (.int .i64 0) := c_q 1 _ rfl
      have qc2 : w2.cell? ⟨gq, 2, none⟩ = some (.int .i64 0) := c_q 2 _ rfl
      have qc3 : w2.cell? ⟨gq, 3, none⟩ = some (.int .i64 0) := c_q 3 _ rfl
      have qc4 : w2.cell? ⟨gq, 4, none⟩ = some (.int .i64 0) := c_q 4 _ rfl
      have qc5 : w2.cell? ⟨gq, 5, none⟩ = some (.int .i64 0) := c_q 5 _ rfl
      have qc6 : w2.cell? ⟨gq, 6, none⟩ = some (.int .i64 0) := c_q 6 _ rfl
      have fq := f_q
      clear f_q c_q
      have fq0 := fq 0
      have fq1 := fq 1
      have fq2 := fq 2
      have fq3 := fq 3
      have fq4 := fq 4
      have fq5 := fq 5
      have fq6 := fq 6
      have n_ : gd ≠ gq := by omega
      have BS := HS.out
      have sBS := BS.2.2.2.1
      go_wp2
      exact bodyPost_ret (v := .agg #[.int .i64 x0, .int .i64 x1, .int .i64 x2, .int .i64 x3, .int .i64 x4, .int .i64 x5, .int .i64 x6]) (by simp [results, Try.results22, go_sem, dc0, dc1, dc2, dc3, dc4, dc5, dc6, qc0, qc1, qc2, qc3, qc4, qc5, qc6, n_, n_.symm]) rfl ⟨x0, x1, x2, x3, x4, x5, x6, pk, rfl, Rd.below' HR.out (show Below (r + 1) w2 _ from (by repeat (first | with_reducible exact Below.refl _ _ | with_reducible refine Below.setCell ?_ (by first | omega | (simp; done) | (simp; omega)) _ | with_reducible refine bDrewN ?_ _ | with_reducible refine Below.drew ?_ | with_reducible refine Below.alloc ?_ (by first | omega | (simp; done) | (simp; omega)) _))), HS.out.onB (show Below w.heap.size w2 _ from (by repeat (first | with_reducible exact Below.refl _ _ | with_reducible refine Below.setCell ?_ (by first | omega | (simp; done) | (simp; omega)) _ | with_reducible refine bDrewN ?_ _ | with_reducible refine Below.drew ?_ | with_reducible refine Below.alloc ?_ (by first | omega | (simp; done) | (simp; omega)) _)))⟩
end Go.Proofs.Ytjiojofgpdimaaa
