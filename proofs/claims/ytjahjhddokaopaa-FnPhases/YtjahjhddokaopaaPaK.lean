/-
What is proved: a number of tenths, a pair, two pairs that are drawn from a code: any floats.
-/
import Derived.Test.YtjahjhddokaopaaTeK
import Derived.Test.YtjahjhddokaopaaRdC
import Derived.Test.YtjahjhddokaopaaPairK
import Derived.Deep.DeepCutAuto
import Derived.RegionTactic
namespace Go.Proofs.Ytjahjhddokaopaa
set_option maxRecDepth 40000
open Go.ChangeShapes Go.WideShapes Go.ChangeAt Go.RowKit
set_option linter.unusedVariables false
set_option linter.unusedSimpArgs false

set_option maxRecDepth 20000 in
set_option maxHeartbeats 4000000 in
theorem pair_any {r : Nat} {s : Option Addr} {n c p : Nat} {w : World} (h : Hid (Rd w r s n c p)) :
    Calls Try.prog 19 #[.pointer (some ⟨r, 0, none⟩)] w fun e w' => ∃ (x y : Nat) (p' : Nat), e = .returned (.agg #[.float .f64 x, .float .f64 y]) ∧ x < 18446744073709551616 ∧ y < 18446744073709551616 ∧ Rd w' r s n c p' ∧ Beside r w w' := by
  have zr : r < w.heap.size := h.out.1
  have HR : Hid (Rd w r s n c p) := h
  have HS : Hid (Beside r w w) := Beside.of (Below.refl _ _)
  clear h
  go_enter Try.func19, Try.ntmps19
  go_wp2_with fail
  refine (once_any 6 (by omega) (by omega) (HR.out.below (by repeat (first | with_reducible exact Below.refl _ _ | with_reducible refine Below.setCell ?_ (by first | omega | (simp; done) | (simp; omega)) _ | with_reducible refine bDrewN ?_ _ | with_reducible refine Below.drew ?_ | with_reducible refine Below.alloc ?_ (by first | omega | (simp; done) | (simp; omega)) _)))).mono ?_
  rintro e w1 ⟨fl, pf, rfl, R_, b_⟩
  have sz_ : w.heap.size ≤ w.heap.size := HS.out.2.2.2.1
  have zr_ : r < w.heap.size := HR.out.1
  have bb : Beside r w w1 := (Beside.of (show Below w.heap.size w _ from (by repeat (first | with_reducible exact Below.refl _ _ | with_reducible refine Below.setCell ?_ (by first | omega | (simp; done) | (simp; omega)) _ | with_reducible refine bDrewN ?_ _ | with_reducible refine Below.drew ?_ | with_reducible refine Below.alloc ?_ (by first | omega | (simp; done) | (simp; omega)) _)))).trans b_
  obtain ⟨gq, hgq⟩ : ∃ g, g = w.heap.size := ⟨_, rfl⟩
  have Hq : Hid (Blk w1 gq [.float .f64 0, .float .f64 0]) := by
    show Blk _ _ _
    have q := ((Blk.new w #[.float .f64 0, .float .f64 0] 26)).beside b_ (by first | omega | (simp; omega))
    rw [hgq]; exact q
  replace HS : Hid (Beside r w w1) := HS.out.trans bb
  replace HR : Hid (Rd w1 r s n c pf) := R_
  clear R_
  have lgq : w.heap.size ≤ gq := by omega
  have rgq : r < gq := by omega
  try rw [← hgq]
  clear hgq
  clear bb b_ sz_ zr_ 
  cases fl
  · skip
    go_wp2_with fail
    refine (tenth_any (HR.out.below (by repeat (first | with_reducible exact Below.refl _ _ | with_reducible refine Below.setCell ?_ (by first | omega | (simp; done) | (simp; omega)) _ | with_reducible refine bDrewN ?_ _ | with_reducible refine Below.drew ?_ | with_reducible refine Below.alloc ?_ (by first | omega | (simp; done) | (simp; omega)) _))) (-300) 300 (by omega) (by omega) (by omega)).mono ?_
    rintro e w2 ⟨x, px, rfl, hx, R_, b_⟩
    have Hq_z : gq < w1.heap.size := Hq.out.1
    have sz_ : w.heap.size ≤ w1.heap.size := HS.out.2.2.2.1
    have zr_ : r < w1.heap.size := HR.out.1
    have bb : Beside r w1 w2 := (Beside.of (show Below w1.heap.size w1 _ from (by repeat (first | with_reducible exact Below.refl _ _ | with_reducible refine Below.setCell ?_ (by first | omega | (simp; done) | (simp; omega)) _ | with_reducible refine bDrewN ?_ _ | with_reducible refine Below.drew ?_ | with_reducible refine Below.alloc ?_ (by first | omega | (simp; done) | (simp; omega)) _)))).trans b_
    replace Hq : Hid (Blk w2 gq [.float .f64 0, .float .f64 0]) := Hq.out.beside bb (by omega)
    replace HS : Hid (Beside r w w2) := HS.out.trans bb
    replace HR : Hid (Rd w2 r s n c px) := R_
    clear R_
    clear bb b_ sz_ zr_ Hq_z
    go_wp2_with fail
    refine (tenth_any (HR.out.below (by repeat (first | with_reducible exact Below.refl _ _ | with_reducible refine Below.setCell ?_ (by first | omega | (simp; done) | (simp; omega)) _ | with_reducible refine bDrewN ?_ _ | with_reducible refine Below.drew ?_ | with_reducible refine Below.alloc ?_ (by first | omega | (simp; done) | (simp; omega)) _))) (-300) 300 (by omega) (by omega) (by omega)).mono ?_
    rintro e w3 ⟨y, py, rfl, hy, R_, b_⟩
    have Hq_z : gq < w2.heap.size := Hq.out.1
    have sz_ : w.heap.size ≤ w2.heap.size := HS.out.2.2.2.1
    have zr_ : r < w2.heap.size := HR.out.1
    have bb : Beside r w2 w3 := (Beside.of (show Below w2.heap.size w2 _ from (by repeat (first | with_reducible exact Below.refl _ _ | with_reducible refine Below.setCell ?_ (by first | omega | (simp; done) | (simp; omega)) _ | with_reducible refine bDrewN ?_ _ | with_reducible refine Below.drew ?_ | with_reducible refine Below.alloc ?_ (by first | omega | (simp; done) | (simp; omega)) _)))).trans b_
    replace Hq : Hid (Blk w3 gq [.float .f64 0, .float .f64 0]) := Hq.out.beside bb (by omega)
    replace HS : Hid (Beside r w w3) := HS.out.trans bb
    replace HR : Hid (Rd w3 r s n c py) := R_
    clear R_
    clear bb b_ sz_ zr_ Hq_z
    obtain ⟨z_q, f_q, c_q⟩ := Hq.out
    have qc0 : w3.cell? ⟨gq, 0, none⟩ = some (.float .f64 0) := c_q 0 _ rfl
    have qc1 : w3.cell? ⟨gq, 1, none⟩ = some (.float .f64 0) := c_q 1 _ rfl
    have fq := f_q
    clear f_q c_q
    have fq0 := fq 0
    have fq1 := fq 1
    have hst := store_fp
    have BS := HS.out
    have sBS := BS.2.2.2.1
    go_wp2
    exact bodyPost_ret (v := .agg #[.float .f64 x, .float .f64 y]) (by simp [results, Try.results19, go_sem, qc0, qc1]) rfl ⟨x, y, py, rfl, hx, hy, Rd.below' HR.out (show Below (r + 1) w3 _ from (by repeat (first | with_reducible exact Below.refl _ _ | with_reducible refine Below.setCell ?_ (by first | omega | (simp; done) | (simp; omega)) _ | with_reducible refine bDrewN ?_ _ | with_reducible refine Below.drew ?_ | with_reducible refine Below.alloc ?_ (by first | omega | (simp; done) | (simp; omega)) _))), BS.onB (show Below w.heap.size w3 _ from (by repeat (first | with_reducible exact Below.refl _ _ | with_reducible refine Below.setCell ?_ (by first | omega | (simp; done) | (simp; omega)) _ | with_reducible refine bDrewN ?_ _ | with_reducible refine Below.drew ?_ | with_reducible refine Below.alloc ?_ (by first | omega | (simp; done) | (simp; omega)) _)))⟩
  · skip
    go_wp2_with fail
    refine (float_any (HR.out.below (by repeat (first | with_reducible exact Below.refl _ _ | with_reducible refine Below.setCell ?_ (by first | omega | (simp; done) | (simp; omega)) _ | with_reducible refine bDrewN ?_ _ | with_reducible refine Below.drew ?_ | with_reducible refine Below.alloc ?_ (by first | omega | (simp; done) | (simp; omega)) _)))).mono ?_
    rintro e w2 ⟨x, px, rfl, hx, R_, b_⟩
    have Hq_z : gq < w1.heap.size := Hq.out.1
    have sz_ : w.heap.size ≤ w1.heap.size := HS.out.2.2.2.1
    have zr_ : r < w1.heap.size := HR.out.1
    have bb : Beside r w1 w2 := (Beside.of (show Below w1.heap.size w1 _ from (by repeat (first | with_reducible exact Below.refl _ _ | with_reducible refine Below.setCell ?_ (by first | omega | (simp; done) | (simp; omega)) _ | with_reducible refine bDrewN ?_ _ | with_reducible refine Below.drew ?_ | with_reducible refine Below.alloc ?_ (by first | omega | (simp; done) | (simp; omega)) _)))).trans b_
    replace Hq : Hid (Blk w2 gq [.float .f64 0, .float .f64 0]) := Hq.out.beside bb (by omega)
    replace HS : Hid (Beside r w w2) := HS.out.trans bb
    replace HR : Hid (Rd w2 r s n c px) := R_
    clear R_
    clear bb b_ sz_ zr_ Hq_z
    go_wp2_with fail
    refine (float_any (HR.out.below (by repeat (first | with_reducible exact Below.refl _ _ | with_reducible refine Below.setCell ?_ (by first | omega | (simp; done) | (simp; omega)) _ | with_reducible refine bDrewN ?_ _ | with_reducible refine Below.drew ?_ | with_reducible refine Below.alloc ?_ (by first | omega | (simp; done) | (simp; omega)) _)))).mono ?_
    rintro e w3 ⟨y, py, rfl, hy, R_, b_⟩
    have Hq_z : gq < w2.heap.size := Hq.out.1
    have sz_ : w.heap.size ≤ w2.heap.size := HS.out.2.2.2.1
    have zr_ : r < w2.heap.size := HR.out.1
    have bb : Beside r w2 w3 := (Beside.of (show Below w2.heap.size w2 _ from (by repeat (first | with_reducible exact Below.refl _ _ | with_reducible refine Below.setCell ?_ (by first | omega | (simp; done) | (simp; omega)) _ | with_reducible refine bDrewN ?_ _ | with_reducible refine Below.drew ?_ | with_reducible refine Below.alloc ?_ (by first | omega | (simp; done) | (simp; omega)) _)))).trans b_
    replace Hq : Hid (Blk w3 gq [.float .f64 0, .float .f64 0]) := Hq.out.beside bb (by omega)
    replace HS : Hid (Beside r w w3) := HS.out.trans bb
    replace HR : Hid (Rd w3 r s n c py) := R_
    clear R_
    clear bb b_ sz_ zr_ Hq_z
    obtain ⟨z_q, f_q, c_q⟩ := Hq.out
    have qc0 : w3.cell? ⟨gq, 0, none⟩ = some (.float .f64 0) := c_q 0 _ rfl
    have qc1 : w3.cell? ⟨gq, 1, none⟩ = some (.float .f64 0) := c_q 1 _ rfl
    have fq := f_q
    clear f_q c_q
    have fq0 := fq 0
    have fq1 := fq 1
    have hst := store_fp
    have BS := HS.out
    have sBS := BS.2.2.2.1
    go_wp2
    exact bodyPost_ret (v := .agg #[.float .f64 x, .float .f64 y]) (by simp [results, Try.results19, go_sem, qc0, qc1]) rfl ⟨x, y, py, rfl, hx, hy, Rd.below' HR.out (show Below (r + 1) w3 _ from (by repeat (first | with_reducible exact Below.refl _ _ | with_reducible refine Below.setCell ?_ (by first | omega | (simp; done) | (simp; omega)) _ | with_reducible refine bDrewN ?_ _ | with_reducible refine Below.drew ?_ | with_reducible refine Below.alloc ?_ (by first | omega | (simp; done) | (simp; omega)) _))), BS.onB (show Below w.heap.size w3 _ from (by repeat (first | with_reducible exact Below.refl _ _ | with_reducible refine Below.setCell ?_ (by first | omega | (simp; done) | (simp; omega)) _ | with_reducible refine bDrewN ?_ _ | with_reducible refine Below.drew ?_ | with_reducible refine Below.alloc ?_ (by first | omega | (simp; done) | (simp; omega)) _)))⟩
end Go.Proofs.Ytjahjhddokaopaa
