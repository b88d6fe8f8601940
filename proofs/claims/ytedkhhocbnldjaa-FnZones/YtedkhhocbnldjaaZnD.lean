/-
What is proved: a zone that is drawn: any floats, any time.
-/
import Derived.Test.YtedkhhocbnldjaaPaZ
import Derived.Test.YtedkhhocbnldjaaOfZ
import Derived.Deep.DeepCutAuto
import Derived.RegionTactic
namespace Go.Proofs.Ytedkhhocbnldjaa
set_option maxRecDepth 40000
open Go.ChangeShapes Go.WideShapes Go.ChangeAt Go.RowKit
set_option linter.unusedVariables false
set_option linter.unusedSimpArgs false

set_option maxRecDepth 20000 in
set_option maxHeartbeats 4000000 in
theorem zone_any {r : Nat} {s : Option Addr} {n c p : Nat} {w : World} (h : Hid (Rd w r s n c p)) :
    Calls Try.prog 35 #[.pointer (some ⟨r, 0, none⟩)] w fun e w' => ∃ (zc ze zr : Nat) (t : Int) (p' : Nat), e = .returned (.agg #[.float .f64 zc, .float .f64 ze, .float .f64 zr, .int .i64 t]) ∧ (zc < 18446744073709551616 ∧ ze < 18446744073709551616 ∧ zr < 18446744073709551616) ∧ Rd w' r s n c p' ∧ Beside r w w' := by
  have zr : r < w.heap.size := h.out.1
  have HR : Hid (Rd w r s n c p) := h
  have HS : Hid (Beside r w w) := Beside.of (Below.refl _ _)
  clear h
  go_enter Try.func35, Try.ntmps35
  have hst := store_fp
  go_wp2_with fail
  refine (tenth_any (HR.out.below (by repeat (first | with_reducible exact Below.refl _ _ | with_reducible refine Below.setCell ?_ (by first | omega | (simp; done) | (simp; omega)) _ | with_reducible refine bDrewN ?_ _ | with_reducible refine Below.drew ?_ | with_reducible refine Below.alloc ?_ (by first | omega | (simp; done) | (simp; omega)) _))) 1 200 (by omega) (by omega) (by omega)).mono ?_
  rintro e w1 ⟨re, pr, rfl, hre, R_, b_⟩
  have sz_ : w.heap.size ≤ w.heap.size := HS.out.2.2.2.1
  have zr_ : r < w.heap.size := HR.out.1
  have bb : Beside r w w1 := (Beside.of (show Below w.heap.size w _ from (by repeat (first | with_reducible exact Below.refl _ _ | with_reducible refine Below.setCell ?_ (by first | omega | (simp; done) | (simp; omega)) _ | with_reducible refine bDrewN ?_ _ | with_reducible refine Below.drew ?_ | with_reducible refine Below.alloc ?_ (by first | omega | (simp; done) | (simp; omega)) _)))).trans b_
  obtain ⟨gq, hgq⟩ : ∃ g, g = w.heap.size := ⟨_, rfl⟩
  have Hq : Hid (Blk w1 gq [.float .f64 0, .float .f64 0, .float .f64 0, .int .i64 0]) := by
    show Blk _ _ _
    have q := ((Blk.new w #[.float .f64 0, .float .f64 0, .float .f64 0, .int .i64 0] 30)).beside b_ (by first | omega | (simp; omega))
    rw [hgq]; exact q
  replace HS : Hid (Beside r w w1) := HS.out.trans bb
  replace HR : Hid (Rd w1 r s n c pr) := R_
  clear R_
  have lgq : w.heap.size ≤ gq := by omega
  have rgq : r < gq := by omega
  try rw [← hgq]
  clear hgq
  clear bb b_ sz_ zr_ 
  go_wp2_with fail
  refine (near_any 0 900 (by omega) (by omega) (by omega) (HR.out.below (by repeat (first | with_reducible exact Below.refl _ _ | with_reducible refine Below.setCell ?_ (by first | omega | (simp; done) | (simp; omega)) _ | with_reducible refine bDrewN ?_ _ | with_reducible refine Below.drew ?_ | with_reducible refine Below.alloc ?_ (by first | omega | (simp; done) | (simp; omega)) _)))).mono ?_
  rintro e w2 ⟨t, pt, rfl, t0, t1, R_, b_⟩
  have Hq_z : gq < w1.heap.size := Hq.out.1
  have sz_ : w.heap.size ≤ w1.heap.size := HS.out.2.2.2.1
  have zr_ : r < w1.heap.size := HR.out.1
  have bb : Beside r w1 w2 := (Beside.of (show Below w1.heap.size w1 _ from (by repeat (first | with_reducible exact Below.refl _ _ | with_reducible refine Below.setCell ?_ (by first | omega | (simp; done) | (simp; omega)) _ | with_reducible refine bDrewN ?_ _ | with_reducible refine Below.drew ?_ | with_reducible refine Below.alloc ?_ (by first | omega | (simp; done) | (simp; omega)) _)))).trans b_
  replace Hq : Hid (Blk w2 gq [.float .f64 0, .float .f64 0, .float .f64 0, .int .i64 0]) := Hq.out.beside bb (by omega)
  replace HS : Hid (Beside r w w2) := HS.out.trans bb
  replace HR : Hid (Rd w2 r s n c pt) := R_
  clear R_
  clear bb b_ sz_ zr_ Hq_z
  clear t0 t1
  go_wp2_with fail
  refine (below_any 24 (HR.out.below (by repeat (first | with_reducible exact Below.refl _ _ | with_reducible refine Below.setCell ?_ (by first | omega | (simp; done) | (simp; omega)) _ | with_reducible refine bDrewN ?_ _ | with_reducible refine Below.drew ?_ | with_reducible refine Below.alloc ?_ (by first | omega | (simp; done) | (simp; omega)) _)))).mono ?_
  rintro e w3 ⟨x, px, rfl, x0, x1, x2, R_, b_⟩
  have Hq_z : gq < w2.heap.size := Hq.out.1
  have sz_ : w.heap.size ≤ w2.heap.size := HS.out.2.2.2.1
  have zr_ : r < w2.heap.size := HR.out.1
  have bb : Beside r w2 w3 := (Beside.of (show Below w2.heap.size w2 _ from (by repeat (first | with_reducible exact Below.refl _ _ | with_reducible refine Below.setCell ?_ (by first | omega | (simp; done) | (simp; omega)) _ | with_reducible refine bDrewN ?_ _ | with_reducible refine Below.drew ?_ | with_reducible refine Below.alloc ?_ (by first | omega | (simp; done) | (simp; omega)) _)))).trans b_
  obtain ⟨gz, hgz⟩ : ∃ g, g = w2.heap.size := ⟨_, rfl⟩
  have Hz : Hid (Blk w3 gz [.float .f64 0, .float .f64 re, .float .f64 re, .int .i64 t]) := by
    show Blk _ _ _
    have q := ((Blk.new w2 #[.float .f64 0, .float .f64 re, .float .f64 re, .int .i64 t] 30)).beside b_ (by first | omega | (simp; omega))
    rw [hgz]; exact q
  replace Hq : Hid (Blk w3 gq [.float .f64 0, .float .f64 0, .float .f64 0, .int .i64 0]) := Hq.out.beside bb (by omega)
  replace HS : Hid (Beside r w w3) := HS.out.trans bb
  replace HR : Hid (Rd w3 r s n c px) := R_
  clear R_
  have lgz : w.heap.size ≤ gz := by omega
  have rgz : r < gz := by omega
  have dgqgz : gq < gz := by omega
  try rw [← hgz]
  clear hgz
  clear bb b_ sz_ zr_ Hq_z
  clear x0 x1 x2
  by_cases e0 : x = 0
  case pos =>
    subst e0
    go_wp2_with fail
    refine (float_any (HR.out.below (by repeat (first | with_reducible exact Below.refl _ _ | with_reducible refine Below.setCell ?_ (by first | omega | (simp; done) | (simp; omega)) _ | with_reducible refine bDrewN ?_ _ | with_reducible refine Below.drew ?_ | with_reducible refine Below.alloc ?_ (by first | omega | (simp; done) | (simp; omega)) _)))).mono ?_
    rintro e w4 ⟨y, py, rfl, hy, R_, b_⟩
    have Hq_z : gq < w3.heap.size := Hq.out.1
    have Hz_z : gz < w3.heap.size := Hz.out.1
    have sz_ : w.heap.size ≤ w3.heap.size := HS.out.2.2.2.1
    have zr_ : r < w3.heap.size := HR.out.1
    have bb : Beside r w3 w4 := (Beside.of (show Below w3.heap.size w3 _ from (by repeat (first | with_reducible exact Below.refl _ _ | with_reducible refine Below.setCell ?_ (by first | omega | (simp; done) | (simp; omega)) _ | with_reducible refine bDrewN ?_ _ | with_reducible refine Below.drew ?_ | with_reducible refine Below.alloc ?_ (by first | omega | (simp; done) | (simp; omega)) _)))).trans b_
    replace Hq : Hid (Blk w4 gq [.float .f64 0, .float .f64 0, .float .f64 0, .int .i64 0]) := Hq.out.beside bb (by omega)
    replace Hz : Hid (Blk w4 gz [.float .f64 0, .float .f64 re, .float .f64 re, .int .i64 t]) := Hz.out.beside bb (by omega)
    replace HS : Hid (Beside r w w4) := HS.out.trans bb
    replace HR : Hid (Rd w4 r s n c py) := R_
    clear R_
    clear bb b_ sz_ zr_ Hq_z Hz_z
    obtain ⟨z_z, f_z, c_z⟩ := Hz.out
    have zc0 : w4.cell? ⟨gz, 0, none⟩ = some (.float .f64 0) := c_z 0 _ rfl
    have zc1 : w4.cell? ⟨gz, 1, none⟩ = some (.float .f64 re) := c_z 1 _ rfl
    have zc2 : w4.cell? ⟨gz, 2, none⟩ = some (.float .f64 re) := c_z 2 _ rfl
    have zc3 : w4.cell? ⟨gz, 3, none⟩ = some (.int .i64 t) := c_z 3 _ rfl
    have fz := f_z
    clear f_z c_z
    obtain ⟨z_q, f_q, c_q⟩ := Hq.out
    have qc0 : w4.cell? ⟨gq, 0, none⟩ = some (.float .f64 0) := c_q 0 _ rfl
    have qc1 : w4.cell? ⟨gq, 1, none⟩ = some (.float .f64 0) := c_q 1 _ rfl
    have qc2 : w4.cell? ⟨gq, 2, none⟩ = some (.float .f64 0) := c_q 2 _ rfl
    have qc3 : w4.cell? ⟨gq, 3, none⟩ = some (.int .i64 0) := c_q 3 _ rfl
    have fq := f_q
    clear f_q c_q
    have fq0 := fq 0
    have fz0 := fz 0
    have fq1 := fq 1
    have fz1 := fz 1
    have fq2 := fq 2
    have fz2 := fz 2
    have fq3 := fq 3
    have fz3 := fz 3
    have n_ : gz ≠ gq := by omega
    have BS := HS.out
    have sBS := BS.2.2.2.1
    go_wp2
    exact bodyPost_ret (v := .agg #[.float .f64 0, .float .f64 re, .float .f64 y, .int .i64 t]) (by simp [results, Try.results35, go_sem, zc0, zc1, zc2, zc3, qc0, qc1, qc2, qc3, n_, n_.symm]) rfl ⟨0, re, y, t, py, rfl, ⟨(by decide), hre, hy⟩, Rd.below' HR.out (show Below (r + 1) w4 _ from (by repeat (first | with_reducible exact Below.refl _ _ | with_reducible refine Below.setCell ?_ (by first | omega | (simp; done) | (simp; omega)) _ | with_reducible refine bDrewN ?_ _ | with_reducible refine Below.drew ?_ | with_reducible refine Below.alloc ?_ (by first | omega | (simp; done) | (simp; omega)) _))), BS.onB (show Below w.heap.size w4 _ from (by repeat (first | with_reducible exact Below.refl _ _ | with_reducible refine Below.setCell ?_ (by first | omega | (simp; done) | (simp; omega)) _ | with_reducible refine bDrewN ?_ _ | with_reducible refine Below.drew ?_ | with_reducible refine Below.alloc ?_ (by first | omega | (simp; done) | (simp; omega)) _)))⟩
  have ne0 : (x == 0) = false := by simpa using e0
  by_cases e1 : x = 1
  case pos =>
    subst e1
    go_wp2_with fail
    refine (float_any (HR.out.below (by repeat (first | with_reducible exact Below.refl _ _ | with_reducible refine Below.setCell ?_ (by first | omega | (simp; done) | (simp; omega)) _ | with_reducible refine bDrewN ?_ _ | with_reducible refine Below.drew ?_ | with_reducible refine Below.alloc ?_ (by first | omega | (simp; done) | (simp; omega)) _)))).mono ?_
    rintro e w4 ⟨y, py, rfl, hy, R_, b_⟩
    have Hq_z : gq < w3.heap.size := Hq.out.1
    have Hz_z : gz < w3.heap.size := Hz.out.1
    have sz_ : w.heap.size ≤ w3.heap.size := HS.out.2.2.2.1
    have zr_ : r < w3.heap.size := HR.out.1
    have bb : Beside r w3 w4 := (Beside.of (show Below w3.heap.size w3 _ from (by repeat (first | with_reducible exact Below.refl _ _ | with_reducible refine Below.setCell ?_ (by first | omega | (simp; done) | (simp; omega)) _ | with_reducible refine bDrewN ?_ _ | with_reducible refine Below.drew ?_ | with_reducible refine Below.alloc ?_ (by first | omega | (simp; done) | (simp; omega)) _)))).trans b_
    replace Hq : Hid (Blk w4 gq [.float .f64 0, .float .f64 0, .float .f64 0, .int .i64 0]) := Hq.out.beside bb (by omega)
    replace Hz : Hid (Blk w4 gz [.float .f64 0, .float .f64 re, .float .f64 re, .int .i64 t]) := Hz.out.beside bb (by omega)
    replace HS : Hid (Beside r w w4) := HS.out.trans bb
    replace HR : Hid (Rd w4 r s n c py) := R_
    clear R_
    clear bb b_ sz_ zr_ Hq_z Hz_z
    obtain ⟨z_z, f_z, c_z⟩ := Hz.out
    have zc0 : w4.cell? ⟨gz, 0, none⟩ = some (.float .f64 0) := c_z 0 _ rfl
    have zc1 : w4.cell? ⟨gz, 1, none⟩ = some (.float .f64 re) := c_z 1 _ rfl
    have zc2 : w4.cell? ⟨gz, 2, none⟩ = some (.float .f64 re) := c_z 2 _ rfl
    have zc3 : w4.cell? ⟨gz, 3, none⟩ = some (.int .i64 t) := c_z 3 _ rfl
    have fz := f_z
    clear f_z c_z
    obtain ⟨z_q, f_q, c_q⟩ := Hq.out
    have qc0 : w4.cell? ⟨gq, 0, none⟩ = some (.float .f64 0) := c_q 0 _ rfl
    have qc1 : w4.cell? ⟨gq, 1, none⟩ = some (.float .f64 0) := c_q 1 _ rfl
    have qc2 : w4.cell? ⟨gq, 2, none⟩ = some (.float .f64 0) := c_q 2 _ rfl
    have qc3 : w4.cell? ⟨gq, 3, none⟩ = some (.int .i64 0) := c_q 3 _ rfl
    have fq := f_q
    clear f_q c_q
    have fq0 := fq 0
    have fz0 := fz 0
    have fq1 := fq 1
    have fz1 := fz 1
    have fq2 := fq 2
    have fz2 := fz 2
    have fq3 := fq 3
    have fz3 := fz 3
    have n_ : gz ≠ gq := by omega
    have BS := HS.out
    have sBS := BS.2.2.2.1
    go_wp2
    exact bodyPost_ret (v := .agg #[.float .f64 y, .float .f64 re, .float .f64 re, .int .i64 t]) (by simp [results, Try.results35, go_sem, zc0, zc1, zc2, zc3, qc0, qc1, qc2, qc3, n_, n_.symm]) rfl ⟨y, re, re, t, py, rfl, ⟨hy, hre, hre⟩, Rd.below' HR.out (show Below (r + 1) w4 _ from (by repeat (first | with_reducible exact Below.refl _ _ | with_reducible refine Below.setCell ?_ (by first | omega | (simp; done) | (simp; omega)) _ | with_reducible refine bDrewN ?_ _ | with_reducible refine Below.drew ?_ | with_reducible refine Below.alloc ?_ (by first | omega | (simp; done) | (simp; omega)) _))), BS.onB (show Below w.heap.size w4 _ from (by repeat (first | with_reducible exact Below.refl _ _ | with_reducible refine Below.setCell ?_ (by first | omega | (simp; done) | (simp; omega)) _ | with_reducible refine bDrewN ?_ _ | with_reducible refine Below.drew ?_ | with_reducible refine Below.alloc ?_ (by first | omega | (simp; done) | (simp; omega)) _)))⟩
  have ne1 : (x == 1) = false := by simpa using e1
  by_cases e2 : x = 2
  case pos =>
    subst e2
    go_wp2_with fail
    refine (off_any 0 100000 (by omega) (by omega) (by omega) (HR.out.below (by repeat (first | with_reducible exact Below.refl _ _ | with_reducible refine Below.setCell ?_ (by first | omega | (simp; done) | (simp; omega)) _ | with_reducible refine bDrewN ?_ _ | with_reducible refine Below.drew ?_ | with_reducible refine Below.alloc ?_ (by first | omega | (simp; done) | (simp; omega)) _)))).mono ?_
    rintro e w4 ⟨y, py, rfl, hy, R_, b_⟩
    have Hq_z : gq < w3.heap.size := Hq.out.1
    have Hz_z : gz < w3.heap.size := Hz.out.1
    have sz_ : w.heap.size ≤ w3.heap.size := HS.out.2.2.2.1
    have zr_ : r < w3.heap.size := HR.out.1
    have bb : Beside r w3 w4 := (Beside.of (show Below w3.heap.size w3 _ from (by repeat (first | with_reducible exact Below.refl _ _ | with_reducible refine Below.setCell ?_ (by first | omega | (simp; done) | (simp; omega)) _ | with_reducible refine bDrewN ?_ _ | with_reducible refine Below.drew ?_ | with_reducible refine Below.alloc ?_ (by first | omega | (simp; done) | (simp; omega)) _)))).trans b_
    replace Hq : Hid (Blk w4 gq [.float .f64 0, .float .f64 0, .float .f64 0, .int .i64 0]) := Hq.out.beside bb (by omega)
    replace Hz : Hid (Blk w4 gz [.float .f64 0, .float .f64 re, .float .f64 re, .int .i64 t]) := Hz.out.beside bb (by omega)
    replace HS : Hid (Beside r w w4) := HS.out.trans bb
    replace HR : Hid (Rd w4 r s n c py) := R_
    clear R_
    clear bb b_ sz_ zr_ Hq_z Hz_z
    obtain ⟨z_z, f_z, c_z⟩ := Hz.out
    have zc0 : w4.cell? ⟨gz, 0, none⟩ = some (.float .f64 0) := c_z 0 _ rfl
    have zc1 : w4.cell? ⟨gz, 1, none⟩ = some (.float .f64 re) := c_z 1 _ rfl
    have zc2 : w4.cell? ⟨gz, 2, none⟩ = some (.float .f64 re) := c_z 2 _ rfl
    have zc3 : w4.cell? ⟨gz, 3, none⟩ = some (.int .i64 t) := c_z 3 _ rfl
    have fz := f_z
    clear f_z c_z
    obtain ⟨z_q, f_q, c_q⟩ := Hq.out
    have qc0 : w4.cell? ⟨gq, 0, none⟩ = some (.float .f64 0) := c_q 0 _ rfl
    have qc1 : w4.cell? ⟨gq, 1, none⟩ = some (.float .f64 0) := c_q 1 _ rfl
    have qc2 : w4.cell? ⟨gq, 2, none⟩ = some (.float .f64 0) := c_q 2 _ rfl
    have qc3 : w4.cell? ⟨gq, 3, none⟩ = some (.int .i64 0) := c_q 3 _ rfl
    have fq := f_q
    clear f_q c_q
    have fq0 := fq 0
    have fz0 := fz 0
    have fq1 := fq 1
    have fz1 := fz 1
    have fq2 := fq 2
    have fz2 := fz 2
    have fq3 := fq 3
    have fz3 := fz 3
    have n_ : gz ≠ gq := by omega
    have BS := HS.out
    have sBS := BS.2.2.2.1
    go_wp2
    exact bodyPost_ret (v := .agg #[.float .f64 0, .float .f64 re, .float .f64 re, .int .i64 y]) (by simp [results, Try.results35, go_sem, zc0, zc1, zc2, zc3, qc0, qc1, qc2, qc3, n_, n_.symm]) rfl ⟨0, re, re, y, py, rfl, ⟨(by decide), hre, hre⟩, Rd.below' HR.out (show Below (r + 1) w4 _ from (by repeat (first | with_reducible exact Below.refl _ _ | with_reducible refine Below.setCell ?_ (by first | omega | (simp; done) | (simp; omega)) _ | with_reducible refine bDrewN ?_ _ | with_reducible refine Below.drew ?_ | with_reducible refine Below.alloc ?_ (by first | omega | (simp; done) | (simp; omega)) _))), BS.onB (show Below w.heap.size w4 _ from (by repeat (first | with_reducible exact Below.refl _ _ | with_reducible refine Below.setCell ?_ (by first | omega | (simp; done) | (simp; omega)) _ | with_reducible refine bDrewN ?_ _ | with_reducible refine Below.drew ?_ | with_reducible refine Below.alloc ?_ (by first | omega | (simp; done) | (simp; omega)) _)))⟩
  have ne2 : (x == 2) = false := by simpa using e2
  obtain ⟨z_z, f_z, c_z⟩ := Hz.out
  have zc0 : w3.cell? ⟨gz, 0, none⟩ = some (.float .f64 0) := c_z 0 _ rfl
  have zc1 : w3.cell? ⟨gz, 1, none⟩ = some (.float .f64 re) := c_z 1 _ rfl
  have zc2 : w3.cell? ⟨gz, 2, none⟩ = some (.float .f64 re) := c_z 2 _ rfl
  have zc3 : w3.cell? ⟨gz, 3, none⟩ = some (.int .i64 t) := c_z 3 _ rfl
  have fz := f_z
  clear f_z c_z
  obtain ⟨z_q, f_q, c_q⟩ := Hq.out
  have qc0 : w3.cell? ⟨gq, 0, none⟩ = some (.float .f64 0) := c_q 0 _ rfl
  have qc1 : w3.cell? ⟨gq, 1, none⟩ = some (.float .f64 0) := c_q 1 _ rfl
  have qc2 : w3.cell? ⟨gq, 2, none⟩ = some (.float .f64 0) := c_q 2 _ rfl
  have qc3 : w3.cell? ⟨gq, 3, none⟩ = some (.int .i64 0) := c_q 3 _ rfl
  have fq := f_q
  clear f_q c_q
  have fq0 := fq 0
  have fz0 := fz 0
  have fq1 := fq 1
  have fz1 := fz 1
  have fq2 := fq 2
  have fz2 := fz 2
  have fq3 := fq 3
  have fz3 := fz 3
  have n_ : gz ≠ gq := by omega
  have BS := HS.out
  have sBS := BS.2.2.2.1
  go_wp2
  exact bodyPost_ret (v := .agg #[.float .f64 0, .float .f64 re, .float .f64 re, .int .i64 t]) (by simp [results, Try.results35, go_sem, zc0, zc1, zc2, zc3, qc0, qc1, qc2, qc3, n_, n_.symm]) rfl ⟨0, re, re, t, px, rfl, ⟨(by decide), hre, hre⟩, Rd.below' HR.out (show Below (r + 1) w3 _ from (by repeat (first | with_reducible exact Below.refl _ _ | with_reducible refine Below.setCell ?_ (by first | omega | (simp; done) | (simp; omega)) _ | with_reducible refine bDrewN ?_ _ | with_reducible refine Below.drew ?_ | with_reducible refine Below.alloc ?_ (by first | omega | (simp; done) | (simp; omega)) _))), BS.onB (show Below w.heap.size w3 _ from (by repeat (first | with_reducible exact Below.refl _ _ | with_reducible refine Below.setCell ?_ (by first | omega | (simp; done) | (simp; omega)) _ | with_reducible refine bDrewN ?_ _ | with_reducible refine Below.drew ?_ | with_reducible refine Below.alloc ?_ (by first | omega | (simp; done) | (simp; omega)) _)))⟩
end Go.Proofs.Ytedkhhocbnldjaa
