/-
What is proved: a number of tenths, a pair, two pairs that are drawn from a code: any floats.
-/
import Derived.Test.YtjgjddlfciaeeaaFlY
import Derived.Test.YtjgjddlfciaeeaaRdC
import Derived.Test.YtjgjddlfciaeeaaPairT
import Derived.Deep.DeepCutAuto
import Derived.RegionTactic
namespace Go.Proofs.Ytjgjddlfciaeeaa
set_option maxRecDepth 40000
open Go.ChangeShapes Go.WideShapes Go.ChangeAt Go.RowKit
set_option linter.unusedVariables false
set_option linter.unusedSimpArgs false

set_option maxRecDepth 20000 in
set_option maxHeartbeats 2000000 in
theorem tenth_any {r : Nat} {s : Option Addr} {n c p : Nat} {w : World} (h : Hid (Rd w r s n c p)) (lo hi : Int) (l0 : -100000 ≤ lo) (l1 : lo ≤ hi) (l2 : hi ≤ 100000) :
    Calls Try.prog 41 #[.pointer (some ⟨r, 0, none⟩), .int .i64 lo, .int .i64 hi] w fun e w' => ∃ (x : Nat) (p' : Nat), e = .returned (.float .f64 x) ∧ x < 18446744073709551616 ∧ Rd w' r s n c p' ∧ Beside r w w' := by
  have zr : r < w.heap.size := h.out.1
  have HR : Hid (Rd w r s n c p) := h
  have HS : Hid (Beside r w w) := Beside.of (Below.refl _ _)
  clear h
  go_enter Try.func41, Try.ntmps41
  have w1 : IntKind.i64.wrap (hi - lo) = hi - lo := by rw [IntKind.wrap_i64]; omega
  have w2 : IntKind.i64.wrap (hi - lo + 1) = hi - lo + 1 := by rw [IntKind.wrap_i64]; omega
  go_wp2_with fail
  refine (below_any (hi - lo + 1) (HR.out.below (by repeat (first | with_reducible exact Below.refl _ _ | with_reducible refine Below.setCell ?_ (by first | omega | (simp; done) | (simp; omega)) _ | with_reducible refine bDrewN ?_ _ | with_reducible refine Below.drew ?_ | with_reducible refine Below.alloc ?_ (by first | omega | (simp; done) | (simp; omega)) _)))).mono ?_
  rintro e w1 ⟨k, pk, rfl, k0, k1, k2, R_, b_⟩
  have sz_ : w.heap.size ≤ w.heap.size := HS.out.2.2.2.1
  have zr_ : r < w.heap.size := HR.out.1
  have bb : Beside r w w1 := (Beside.of (show Below w.heap.size w _ from (by repeat (first | with_reducible exact Below.refl _ _ | with_reducible refine Below.setCell ?_ (by first | omega | (simp; done) | (simp; omega)) _ | with_reducible refine bDrewN ?_ _ | with_reducible refine Below.drew ?_ | with_reducible refine Below.alloc ?_ (by first | omega | (simp; done) | (simp; omega)) _)))).trans b_
  replace HS : Hid (Beside r w w1) := HS.out.trans bb
  replace HR : Hid (Rd w1 r s n c pk) := R_
  clear R_
  clear bb b_ sz_ zr_ 
  have k3 : k ≤ 65536 := by omega
  clear k1 k2
  have w3 : IntKind.i64.wrap (lo + k) = lo + k := by rw [IntKind.wrap_i64]; omega
  have cv := conv_fl (lo + k)
  obtain ⟨x, m, hrun, hx⟩ := fl_run (P := Try.prog) (f := .quo) rfl 24 (itF_fl (lo + k)) fl_ten w1
  go_wp2
  go_ret
  exact ⟨x, pk, rfl, hx.1, Rd.below' HR.out (show Below (r + 1) w1 _ from (by repeat (first | with_reducible exact Below.refl _ _ | with_reducible refine Below.setCell ?_ (by first | omega | (simp; done) | (simp; omega)) _ | with_reducible refine bDrewN ?_ _ | with_reducible refine Below.drew ?_ | with_reducible refine Below.alloc ?_ (by first | omega | (simp; done) | (simp; omega)) _))), HS.out.onB (show Below w.heap.size w1 _ from (by repeat (first | with_reducible exact Below.refl _ _ | with_reducible refine Below.setCell ?_ (by first | omega | (simp; done) | (simp; omega)) _ | with_reducible refine bDrewN ?_ _ | with_reducible refine Below.drew ?_ | with_reducible refine Below.alloc ?_ (by first | omega | (simp; done) | (simp; omega)) _)))⟩
set_option maxRecDepth 20000 in
set_option maxHeartbeats 4000000 in
theorem pair_any {r : Nat} {s : Option Addr} {n c p : Nat} {w : World} (h : Hid (Rd w r s n c p)) :
    Calls Try.prog 36 #[.pointer (some ⟨r, 0, none⟩)] w fun e w' => ∃ (x y : Nat) (p' : Nat), e = .returned (.agg #[.float .f64 x, .float .f64 y]) ∧ x < 18446744073709551616 ∧ y < 18446744073709551616 ∧ Rd w' r s n c p' ∧ Beside r w w' := by
  have zr : r < w.heap.size := h.out.1
  have HR : Hid (Rd w r s n c p) := h
  have HS : Hid (Beside r w w) := Beside.of (Below.refl _ _)
  clear h
  go_enter Try.func36, Try.ntmps36
  go_wp2_with fail
  refine (once_any 6 (by omega) (by omega) (HR.out.below (by repeat (first | with_reducible exact Below.refl _ _ | with_reducible refine Below.setCell ?_ (by first | omega | (simp; done) | (simp; omega)) _ | with_reducible refine bDrewN ?_ _ | with_reducible refine Below.drew ?_ | with_reducible refine Below.alloc ?_ (by first | omega | (simp; done) | (simp; omega)) _)))).mono ?_
  rintro e w1 ⟨fl, pf, rfl, R_, b_⟩
  have sz_ : w.heap.size ≤ w.heap.size := HS.out.2.2.2.1
  have zr_ : r < w.heap.size := HR.out.1
  have bb : Beside r w w1 := (Beside.of (show Below w.heap.size w _ from (by repeat (first | with_reducible exact Below.refl _ _ | with_reducible refine Below.setCell ?_ (by first | omega | (simp; done) | (simp; omega)) _ | with_reducible refine bDrewN ?_ _ | with_reducible refine Below.drew ?_ | with_reducible refine Below.alloc ?_ (by first | omega | (simp; done) | (simp; omega)) _)))).trans b_
  obtain ⟨gq, hgq⟩ : ∃ g, g = w.heap.size := ⟨_, rfl⟩
  have Hq : Hid (Blk w1 gq [.float .f64 0, .float .f64 0]) := by
    show Blk _ _ _
    have q := ((Blk.new w #[.float .f64 0, .float .f64 0] 26)).beside b_ (by first | omega | (simp; omega))
    rw [hgq]; exact q
  replace HS : Hid (Beside r w w1) := HS.out.trans bb
  replace HR : Hid (Rd w1 r s n c pf) := R_
  clear R_
  have lgq : w.heap.size ≤ gq := by omega
  have rgq : r < gq := by omega
  try rw [← hgq]
  clear hgq
  clear bb b_ sz_ zr_ 
  cases fl
  · skip
    go_wp2_with fail
    refine (tenth_any (HR.out.below (by repeat (first | with_reducible exact Below.refl _ _ | with_reducible refine Below.setCell ?_ (by first | omega | (simp; done) | (simp; omega)) _ | with_reducible refine bDrewN ?_ _ | with_reducible refine Below.drew ?_ | with_reducible refine Below.alloc ?_ (by first | omega | (simp; done) | (simp; omega)) _))) (-300) 300 (by omega) (by omega) (by omega)).mono ?_
    rintro e w2 ⟨x, px, rfl, hx, R_, b_⟩
    have Hq_z : gq < w1.heap.size := Hq.out.1
    have sz_ : w.heap.size ≤ w1.heap.size := HS.out.2.2.2.1
    have zr_ : r < w1.heap.size := HR.out.1
    have bb : Beside r w1 w2 := (Beside.of (show Below w1.heap.size w1 _ from (by repeat (first | with_reducible exact Below.refl _ _ | with_reducible refine Below.setCell ?_ (by first | omega | (simp; done) | (simp; omega)) _ | with_reducible refine bDrewN ?_ _ | with_reducible refine Below.drew ?_ | with_reducible refine Below.alloc ?_ (by first | omega | (simp; done) | (simp; omega)) _)))).trans b_
    replace Hq : Hid (Blk w2 gq [.float .f64 0, .float .f64 0]) := Hq.out.beside bb (by omega)
    replace HS : Hid (Beside r w w2) := HS.out.trans bb
    replace HR : Hid (Rd w2 r s n c px) := R_
    clear R_
    clear bb b_ sz_ zr_ Hq_z
    go_wp2_with fail
    refine (tenth_any (HR.out.below (by repeat (first | with_reducible exact Below.refl _ _ | with_reducible refine Below.setCell ?_ (by first | omega | (simp; done) | (simp; omega)) _ | with_reducible refine bDrewN ?_ _ | with_reducible refine Below.drew ?_ | with_reducible refine Below.alloc ?_ (by first | omega | (simp; done) | (simp; omega)) _))) (-300) 300 (by omega) (by omega) (by omega)).mono ?_
    rintro e w3 ⟨y, py, rfl, hy, R_, b_⟩
    have Hq_z : gq < w2.heap.size := Hq.out.1
    have sz_ : w.heap.size ≤ w2.heap.size := HS.out.2.2.2.1
    have zr_ : r < w2.heap.size := HR.out.1
    have bb : Beside r w2 w3 := (Beside.of (show Below w2.heap.size w2 _ from (by repeat (first | with_reducible exact Below.refl _ _ | with_reducible refine Below.setCell ?_ (by first | omega | (simp; done) | (simp; omega)) _ | with_reducible refine bDrewN ?_ _ | with_reducible refine Below.drew ?_ | with_reducible refine Below.alloc ?_ (by first | omega | (simp; done) | (simp; omega)) _)))).trans b_
    replace Hq : Hid (Blk w3 gq [.float .f64 0, .float .f64 0]) := Hq.out.beside bb (by omega)
    replace HS : Hid (Beside r w w3) := HS.out.trans bb
    replace HR : Hid (Rd w3 r s n c py) := R_
    clear R_
    clear bb b_ sz_ zr_ Hq_z
    obtain ⟨z_q, f_q, c_q⟩ := Hq.out
    have qc0 : w3.cell? ⟨gq, 0, none⟩ = some (.float .f64 0) := c_q 0 _ rfl
    have qc1 : w3.cell? ⟨gq, 1, none⟩ = some (.float .f64 0) := c_q 1 _ rfl
    have fq := f_q
    clear f_q c_q
    have fq0 := fq 0
    have fq1 := fq 1
    have hst := store_fp
    have BS := HS.out
    have sBS := BS.2.2.2.1
    go_wp2
    exact bodyPost_ret (v := .agg #[.float .f64 x, .float .f64 y]) (by simp [results, Try.results36, go_sem, qc0, qc1]) rfl ⟨x, y, py, rfl, hx, hy, Rd.below' HR.out (show Below (r + 1) w3 _ from (by repeat (first | with_reducible exact Below.refl _ _ | with_reducible refine Below.setCell ?_ (by first | omega | (simp; done) | (simp; omega)) _ | with_reducible refine bDrewN ?_ _ | with_reducible refine Below.drew ?_ | with_reducible refine Below.alloc ?_ (by first | omega | (simp; done) | (simp; omega)) _))), BS.onB (show Below w.heap.size w3 _ from (by repeat (first | with_reducible exact Below.refl _ _ | with_reducible refine Below.setCell ?_ (by first | omega | (simp; done) | (simp; omega)) _ | with_reducible refine bDrewN ?_ _ | with_reducible refine Below.drew ?_ | with_reducible refine Below.alloc ?_ (by first | omega | (simp; done) | (simp; omega)) _)))⟩
  · skip
    go_wp2_with fail
    refine (float_any (HR.out.below (by repeat (first | with_reducible exact Below.refl _ _ | with_reducible refine Below.setCell ?_ (by first | omega | (simp; done) | (simp; omega)) _ | with_reducible refine bDrewN ?_ _ | with_reducible refine Below.drew ?_ | with_reducible refine Below.alloc ?_ (by first | omega | (simp; done) | (simp; omega)) _)))).mono ?_
    rintro e w2 ⟨x, px, rfl, hx, R_, b_⟩
    have Hq_z : gq < w1.heap.size := Hq.out.1
    have sz_ : w.heap.size ≤ w1.heap.size := HS.out.2.2.2.1
    have zr_ : r < w1.heap.size := HR.out.1
    have bb : Beside r w1 w2 := (Beside.of (show Below w1.heap.size w1 _ from (by repeat (first | with_reducible exact Below.refl _ _ | with_reducible refine Below.setCell ?_ (by first | omega | (simp; done) | (simp; omega)) _ | with_reducible refine bDrewN ?_ _ | with_reducible refine Below.drew ?_ | with_reducible refine Below.alloc ?_ (by first | omega | (simp; done) | (simp; omega)) _)))).trans b_
    replace Hq : Hid (Blk w2 gq [.float .f64 0, .float .f64 0]) := Hq.out.beside bb (by omega)
    replace HS : Hid (Beside r w w2) := HS.out.trans bb
    replace HR : Hid (Rd w2 r s n c px) := R_
    clear R_
    clear bb b_ sz_ zr_ Hq_z
    go_wp2_with fail
    refine (float_any (HR.out.below (by repeat (first | with_reducible exact Below.refl _ _ | with_reducible refine Below.setCell ?_ (by first | omega | (simp; done) | (simp; omega)) _ | with_reducible refine bDrewN ?_ _ | with_reducible refine Below.drew ?_ | with_reducible refine Below.alloc ?_ (by first | omega | (simp; done) | (simp; omega)) _)))).mono ?_
    rintro e w3 ⟨y, py, rfl, hy, R_, b_⟩
    have Hq_z : gq < w2.heap.size := Hq.out.1
    have sz_ : w.heap.size ≤ w2.heap.size := HS.out.2.2.2.1
    have zr_ : r < w2.heap.size := HR.out.1
    have bb : Beside r w2 w3 := (Beside.of (show Below w2.heap.size w2 _ from (by repeat (first | with_reducible exact Below.refl _ _ | with_reducible refine Below.setCell ?_ (by first | omega | (simp; done) | (simp; omega)) _ | with_reducible refine bDrewN ?_ _ | with_reducible refine Below.drew ?_ | with_reducible refine Below.alloc ?_ (by first | omega | (simp; done) | (simp; omega)) _)))).trans b_
    replace Hq : Hid (Blk w3 gq [.float .f64 0, .float .f64 0]) := Hq.out.beside bb (by omega)
    replace HS : Hid (Beside r w w3) := HS.out.trans bb
    replace HR : Hid (Rd w3 r s n c py) := R_
    clear R_
    clear bb b_ sz_ zr_ Hq_z
    obtain ⟨z_q, f_q, c_q⟩ := Hq.out
    have qc0 : w3.cell? ⟨gq, 0, none⟩ = some (.float .f64 0) := c_q 0 _ rfl
    have qc1 : w3.cell? ⟨gq, 1, none⟩ = some (.float .f64 0) := c_q 1 _ rfl
    have fq := f_q
    clear f_q c_q
    have fq0 := fq 0
    have fq1 := fq 1
    have hst := store_fp
    have BS := HS.out
    have sBS := BS.2.2.2.1
    go_wp2
    exact bodyPost_ret (v := .agg #[.float .f64 x, .float .f64 y]) (by simp [results, Try.results36, go_sem, qc0, qc1]) rfl ⟨x, y, py, rfl, hx, hy, Rd.below' HR.out (show Below (r + 1) w3 _ from (by repeat (first | with_reducible exact Below.refl _ _ | with_reducible refine Below.setCell ?_ (by first | omega | (simp; done) | (simp; omega)) _ | with_reducible refine bDrewN ?_ _ | with_reducible refine Below.drew ?_ | with_reducible refine Below.alloc ?_ (by first | omega | (simp; done) | (simp; omega)) _))), BS.onB (show Below w.heap.size w3 _ from (by repeat (first | with_reducible exact Below.refl _ _ | with_reducible refine Below.setCell ?_ (by first | omega | (simp; done) | (simp; omega)) _ | with_reducible refine bDrewN ?_ _ | with_reducible refine Below.drew ?_ | with_reducible refine Below.alloc ?_ (by first | omega | (simp; done) | (simp; omega)) _)))⟩
set_option maxRecDepth 20000 in
set_option maxHeartbeats 4000000 in
theorem drawAddPair_any {s : Option Addr} {n c : Nat} {w : World} (h : Hid (Code8 w s n)) :
    Calls Try.prog 24 #[.slice s n c] w fun e w' => ∃ x y z u : Nat, e = .returned (.tuple #[.agg #[.float .f64 x, .float .f64 y], .agg #[.float .f64 z, .float .f64 u]]) ∧ (x < 18446744073709551616 ∧ y < 18446744073709551616 ∧ z < 18446744073709551616 ∧ u < 18446744073709551616) ∧ Below w.heap.size w w' := by
  go_enter Try.func24, Try.ntmps24
  go_wp2_with fail
  refine (open_any (h.out.below (by repeat (first | with_reducible exact Below.refl _ _ | with_reducible refine Below.setCell ?_ (by first | omega | (simp; done) | (simp; omega)) _ | with_reducible refine bDrewN ?_ _ | with_reducible refine Below.drew ?_ | with_reducible refine Below.alloc ?_ (by first | omega | (simp; done) | (simp; omega)) _)))).mono ?_
  rintro e w1 ⟨rfl, R_, b_⟩
  obtain ⟨r, hr⟩ : ∃ r, r = w.heap.size + 1 + 1 := ⟨_, rfl⟩
  have HR : Hid (Rd w1 r s n c 0) := by show Rd _ _ _ _ _ _; rw [hr]; simpa using R_
  have HB : Hid (Below w.heap.size w w1) := (show Below w.heap.size w _ from (by repeat (first | with_reducible exact Below.refl _ _ | with_reducible refine Below.setCell ?_ (by first | omega | (simp; done) | (simp; omega)) _ | with_reducible refine bDrewN ?_ _ | with_reducible refine Below.drew ?_ | with_reducible refine Below.alloc ?_ (by first | omega | (simp; done) | (simp; omega)) _))).trans (b_.mono (by first | omega | (simp; done) | (simp; omega)))
  obtain ⟨gq, hgq⟩ : ∃ g, g = w.heap.size := ⟨_, rfl⟩
  have Hq : Hid (Blk w1 gq [.float .f64 0, .float .f64 0]) := by
    show Blk _ _ _
    have q := (((Blk.new w #[.float .f64 0, .float .f64 0] 26).below (below0 _ _))).below b_
    rw [hgq]; exact q
  obtain ⟨gt, hgt⟩ : ∃ g, g = w.heap.size + 1 := ⟨_, rfl⟩
  have Ht : Hid (Blk w1 gt [.float .f64 0, .float .f64 0]) := by
    show Blk _ _ _
    have q := ((Blk.new (w.alloc (.cells #[.float .f64 0, .float .f64 0] 26)) #[.float .f64 0, .float .f64 0] 26)).below b_
    rw [hgt]; exact (by simpa using q)
  have lgq : w.heap.size ≤ gq := by omega
  have rgq : gq < r := by omega
  have lgt : w.heap.size ≤ gt := by omega
  have rgt : gt < r := by omega
  have dgqgt : gq < gt := by omega
  have zr : w.heap.size ≤ r := by omega
  try rw [show ((w.alloc (.cells #[.float .f64 0, .float .f64 0] 26)).alloc (.cells #[.float .f64 0, .float .f64 0] 26)).heap.size = r by rw [hr]; simp]
  try rw [← hr]
  try rw [← hgt]
  try rw [← hgq]
  clear hgq
  clear hgt
  clear R_ b_ h hr
  go_wp2_with fail
  refine (pair_any (HR.out.below (by repeat (first | with_reducible exact Below.refl _ _ | with_reducible refine Below.setCell ?_ (by first | omega | (simp; done) | (simp; omega)) _ | with_reducible refine bDrewN ?_ _ | with_reducible refine Below.drew ?_ | with_reducible refine Below.alloc ?_ (by first | omega | (simp; done) | (simp; omega)) _)))).mono ?_
  rintro e w2 ⟨x, y, px, rfl, hx, hy, R_, b_⟩
  have Hq_z : gq < w1.heap.size := Hq.out.1
  have Ht_z : gt < w1.heap.size := Ht.out.1
  have sz_ : w.heap.size ≤ w1.heap.size := HB.out.size
  have zr_ : r < w1.heap.size := HR.out.1
  have bb : Beside r w1 w2 := (Beside.of (show Below w1.heap.size w1 _ from (by repeat (first | with_reducible exact Below.refl _ _ | with_reducible refine Below.setCell ?_ (by first | omega | (simp; done) | (simp; omega)) _ | with_reducible refine bDrewN ?_ _ | with_reducible refine Below.drew ?_ | with_reducible refine Below.alloc ?_ (by first | omega | (simp; done) | (simp; omega)) _)))).trans b_
  replace Hq : Hid (Blk w2 gq [.float .f64 0, .float .f64 0]) := Hq.out.beside bb (by omega)
  replace Ht : Hid (Blk w2 gt [.float .f64 0, .float .f64 0]) := Ht.out.beside bb (by omega)
  replace HB : Hid (Below w.heap.size w w2) := HB.out.trans (bb.below (by omega) HB.out.size)
  replace HR : Hid (Rd w2 r s n c px) := R_
  clear R_
  clear bb b_ sz_ zr_ Hq_z Ht_z
  go_wp2_with fail
  refine (pair_any (HR.out.below (by repeat (first | with_reducible exact Below.refl _ _ | with_reducible refine Below.setCell ?_ (by first | omega | (simp; done) | (simp; omega)) _ | with_reducible refine bDrewN ?_ _ | with_reducible refine Below.drew ?_ | with_reducible refine Below.alloc ?_ (by first | omega | (simp; done) | (simp; omega)) _)))).mono ?_
  rintro e w3 ⟨z, u, pz, rfl, hz, hu, R_, b_⟩
  have Hq_z : gq < w2.heap.size := Hq.out.1
  have Ht_z : gt < w2.heap.size := Ht.out.1
  have sz_ : w.heap.size ≤ w2.heap.size := HB.out.size
  have zr_ : r < w2.heap.size := HR.out.1
  have bb : Beside r w2 w3 := (Beside.of (show Below w2.heap.size w2 _ from (by repeat (first | with_reducible exact Below.refl _ _ | with_reducible refine Below.setCell ?_ (by first | omega | (simp; done) | (simp; omega)) _ | with_reducible refine bDrewN ?_ _ | with_reducible refine Below.drew ?_ | with_reducible refine Below.alloc ?_ (by first | omega | (simp; done) | (simp; omega)) _)))).trans b_
  replace Hq : Hid (Blk w3 gq [.float .f64 0, .float .f64 0]) := Hq.out.beside bb (by omega)
  replace Ht : Hid (Blk w3 gt [.float .f64 0, .float .f64 0]) := Ht.out.beside bb (by omega)
  replace HB : Hid (Below w.heap.size w w3) := HB.out.trans (bb.below (by omega) HB.out.size)
  replace HR : Hid (Rd w3 r s n c pz) := R_
  clear R_
  clear bb b_ sz_ zr_ Hq_z Ht_z
  obtain ⟨z_q, f_q, c_q⟩ := Hq.out
  have qc0 : w3.cell? ⟨gq, 0, none⟩ = some (.float .f64 0) := c_q 0 _ rfl
  have qc1 : w3.cell? ⟨gq, 1, none⟩ = some (.float .f64 0) := c_q 1 _ rfl
  have fq := f_q
  clear f_q c_q
  obtain ⟨z_t, f_t, c_t⟩ := Ht.out
  have tc0 : w3.cell? ⟨gt, 0, none⟩ = some (.float .f64 0) := c_t 0 _ rfl
  have tc1 : w3.cell? ⟨gt, 1, none⟩ = some (.float .f64 0) := c_t 1 _ rfl
  have ft := f_t
  clear f_t c_t
  have fq0 := fq 0
  have fq1 := fq 1
  have ft0 := ft 0
  have ft1 := ft 1
  have n_ : gq ≠ gt := by omega
  have hst := store_fp
  have BF := HB.out
  have sBF := BF.size
  go_wp2
  exact bodyPost_ret (v := .tuple #[.agg #[.float .f64 x, .float .f64 y], .agg #[.float .f64 z, .float .f64 u]]) (by simp [results, Try.results24, go_sem, qc0, qc1, tc0, tc1, n_, n_.symm]) rfl ⟨x, y, z, u, rfl, ⟨hx, hy, hz, hu⟩, (by repeat (first | with_reducible exact Below.refl _ _ | with_reducible exact BF | with_reducible refine Below.setCell ?_ (by first | omega | (simp; done) | (simp; omega)) _ | with_reducible refine bDrewN ?_ _ | with_reducible refine Below.drew ?_ | with_reducible refine Below.alloc ?_ (by first | omega | (simp; done) | (simp; omega)) _))⟩
set_option maxRecDepth 20000 in
set_option maxHeartbeats 4000000 in
theorem drawMulPair_any {s : Option Addr} {n c : Nat} {w : World} (h : Hid (Code8 w s n)) :
    Calls Try.prog 10 #[.slice s n c] w fun e w' => ∃ x y z u : Nat, e = .returned (.tuple #[.agg #[.float .f64 x, .float .f64 y], .agg #[.float .f64 z, .float .f64 u]]) ∧ (x < 18446744073709551616 ∧ y < 18446744073709551616 ∧ z < 18446744073709551616 ∧ u < 18446744073709551616) ∧ Below w.heap.size w w' := by
  have hst := store_fp
  go_enter Try.func10, Try.ntmps10
  go_wp2_with fail
  refine (drawAddPair_any (h.out.below (by repeat (first | with_reducible exact Below.refl _ _ | with_reducible refine Below.setCell ?_ (by first | omega | (simp; done) | (simp; omega)) _ | with_reducible refine bDrewN ?_ _ | with_reducible refine Below.drew ?_ | with_reducible refine Below.alloc ?_ (by first | omega | (simp; done) | (simp; omega)) _)))).mono ?_
  rintro e w1 ⟨x, y, z, u, rfl, hb, h1⟩
  have HQ := (Blk.new w #[.float .f64 0, .float .f64 0] 26).below (below0 (w.alloc (.cells #[.float .f64 0, .float .f64 0] 26)) (.cells #[.float .f64 0, .float .f64 0] 26))
  have HT := Blk.new (w.alloc (.cells #[.float .f64 0, .float .f64 0] 26)) #[.float .f64 0, .float .f64 0] 26
  replace HQ := HQ.below h1
  replace HT := HT.below h1
  have BF : Below w.heap.size w w1 := (show Below w.heap.size w _ from (by repeat (first | with_reducible exact Below.refl _ _ | with_reducible refine Below.setCell ?_ (by first | omega | (simp; done) | (simp; omega)) _ | with_reducible refine bDrewN ?_ _ | with_reducible refine Below.drew ?_ | with_reducible refine Below.alloc ?_ (by first | omega | (simp; done) | (simp; omega)) _))).trans (h1.mono (by first | omega | (simp; done) | (simp; omega)))
  have sBF := BF.size
  obtain ⟨zq, fq, cq⟩ := HQ
  obtain ⟨zt, ft, ct⟩ := HT
  rw [show (w.alloc (.cells #[.float .f64 0, .float .f64 0] 26)).heap.size = w.heap.size + 1 by simp] at zt ft ct
  have qc0 : w1.cell? ⟨w.heap.size, 0, none⟩ = some (.float .f64 0) := cq 0 _ rfl
  have qc1 : w1.cell? ⟨w.heap.size, 1, none⟩ = some (.float .f64 0) := cq 1 _ rfl
  have tc0 : w1.cell? ⟨w.heap.size + 1, 0, none⟩ = some (.float .f64 0) := ct 0 _ rfl
  have tc1 : w1.cell? ⟨w.heap.size + 1, 1, none⟩ = some (.float .f64 0) := ct 1 _ rfl
  have fq0 := fq 0
  have fq1 := fq 1
  have ft0 := ft 0
  have ft1 := ft 1
  clear cq ct fq ft h1 h
  go_wp2
  exact bodyPost_ret (v := .tuple #[.agg #[.float .f64 x, .float .f64 y], .agg #[.float .f64 z, .float .f64 u]]) (by simp [results, Try.results10, go_sem, qc0, qc1, tc0, tc1]) rfl ⟨x, y, z, u, rfl, hb, (by repeat (first | with_reducible exact Below.refl _ _ | with_reducible exact BF | with_reducible refine Below.setCell ?_ (by first | omega | (simp; done) | (simp; omega)) _ | with_reducible refine bDrewN ?_ _ | with_reducible refine Below.drew ?_ | with_reducible refine Below.alloc ?_ (by first | omega | (simp; done) | (simp; omega)) _))⟩
end Go.Proofs.Ytjgjddlfciaeeaa
