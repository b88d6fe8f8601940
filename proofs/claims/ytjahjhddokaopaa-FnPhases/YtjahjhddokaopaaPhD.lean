/-
What is proved: three pairs that are drawn from a code: any floats.
-/
import Derived.Test.YtjahjhddokaopaaPaK
import Derived.Deep.DeepCutAuto
import Derived.RegionTactic
namespace Go.Proofs.Ytjahjhddokaopaa
set_option maxRecDepth 40000
open Go.ChangeShapes Go.WideShapes Go.ChangeAt Go.RowKit
set_option linter.unusedVariables false
set_option linter.unusedSimpArgs false

set_option maxRecDepth 20000 in
set_option maxHeartbeats 4000000 in
theorem drawSequence_any {s : Option Addr} {n c : Nat} {w : World} (h : Hid (Code8 w s n)) :
    Calls Try.prog 7 #[.slice s n c] w fun e w' => ∃ x y z u v t : Nat, e = .returned (.tuple #[.agg #[.float .f64 x, .float .f64 y], .agg #[.float .f64 z, .float .f64 u], .agg #[.float .f64 v, .float .f64 t]]) ∧ (x < 18446744073709551616 ∧ y < 18446744073709551616 ∧ z < 18446744073709551616 ∧ u < 18446744073709551616 ∧ v < 18446744073709551616 ∧ t < 18446744073709551616) ∧ Below w.heap.size w w' := by
  go_enter Try.func7, Try.ntmps7
  go_wp2_with fail
  obtain ⟨wa, hwa⟩ : ∃ z, z = ((w.alloc (.cells #[.float .f64 0, .float .f64 0] 26)).alloc (.cells #[.float .f64 0, .float .f64 0] 26)).alloc (.cells #[.float .f64 0, .float .f64 0] 26) := ⟨_, rfl⟩
  obtain ⟨gq, hgq⟩ : ∃ g, g = w.heap.size := ⟨_, rfl⟩
  obtain ⟨gt, hgt⟩ : ∃ g, g = w.heap.size + 1 := ⟨_, rfl⟩
  obtain ⟨gv, hgv⟩ : ∃ g, g = w.heap.size + 1 + 1 := ⟨_, rfl⟩
  rw [← hwa, ← hgv, ← hgt, ← hgq]
  have Hq : Hid (Blk wa gq [.float .f64 0, .float .f64 0]) := by
    show Blk _ _ _
    rw [hwa, hgq]; exact ((Blk.new w #[.float .f64 0, .float .f64 0] 26).below (below0 _ _)).below (below0 _ _)
  have Ht : Hid (Blk wa gt [.float .f64 0, .float .f64 0]) := by
    show Blk _ _ _
    have q := (Blk.new (w.alloc (.cells #[.float .f64 0, .float .f64 0] 26)) #[.float .f64 0, .float .f64 0] 26).below (below0 (_) (.cells #[.float .f64 0, .float .f64 0] 26))
    rw [hwa, hgt]; simpa using q
  have Hv : Hid (Blk wa gv [.float .f64 0, .float .f64 0]) := by
    show Blk _ _ _
    have q := Blk.new ((w.alloc (.cells #[.float .f64 0, .float .f64 0] 26)).alloc (.cells #[.float .f64 0, .float .f64 0] 26)) #[.float .f64 0, .float .f64 0] 26
    rw [hwa, hgv]; simpa using q
  have B0 : Below w.heap.size w wa := by rw [hwa]; exact (by repeat (first | with_reducible exact Below.refl _ _ | with_reducible refine Below.setCell ?_ (by first | omega | (simp; done) | (simp; omega)) _ | with_reducible refine bDrewN ?_ _ | with_reducible refine Below.drew ?_ | with_reducible refine Below.alloc ?_ (by first | omega | (simp; done) | (simp; omega)) _))
  have za : wa.heap.size = gv + 1 := by rw [hwa, hgv]; simp
  have lq : w.heap.size ≤ gq := by omega
  have qt : gq < gt := by omega
  have tv : gt < gv := by omega
  have zav : gv < wa.heap.size := by omega
  clear hwa hgq hgt hgv za
  refine (open_any (h.out.below B0)).mono ?_
  rintro e w1 ⟨rfl, R_, b_⟩
  obtain ⟨r, hr⟩ : ∃ r, r = wa.heap.size := ⟨_, rfl⟩
  rw [← hr] at R_ ⊢
  have rv_ : gv < r := by omega
  have HR : Hid (Rd w1 r s n c 0) := R_
  replace Hq : Hid (Blk w1 gq [.float .f64 0, .float .f64 0]) := Hq.out.below b_
  replace Ht : Hid (Blk w1 gt [.float .f64 0, .float .f64 0]) := Ht.out.below b_
  replace Hv : Hid (Blk w1 gv [.float .f64 0, .float .f64 0]) := Hv.out.below b_
  have HB : Hid (Below w.heap.size w w1) := B0.trans (b_.mono B0.size)
  clear R_ b_ B0 h hr zav
  go_wp2_with fail
  refine (pair_any HR).mono ?_
  rintro e w2 ⟨x, y, px, rfl, hx, hy, R_, bb⟩
  replace Hq : Hid (Blk w2 gq [.float .f64 0, .float .f64 0]) := Hq.out.beside bb (by omega)
  replace Ht : Hid (Blk w2 gt [.float .f64 0, .float .f64 0]) := Ht.out.beside bb (by omega)
  replace Hv : Hid (Blk w2 gv [.float .f64 0, .float .f64 0]) := Hv.out.beside bb (by omega)
  replace HB : Hid (Below w.heap.size w w2) := HB.out.trans (bb.below (by omega) HB.out.size)
  replace HR : Hid (Rd w2 r s n c px) := R_
  clear R_ bb
  go_wp2_with fail
  refine (pair_any HR).mono ?_
  rintro e w3 ⟨z, u, pz, rfl, hz, hu, R_, bb⟩
  replace Hq : Hid (Blk w3 gq [.float .f64 0, .float .f64 0]) := Hq.out.beside bb (by omega)
  replace Ht : Hid (Blk w3 gt [.float .f64 0, .float .f64 0]) := Ht.out.beside bb (by omega)
  replace Hv : Hid (Blk w3 gv [.float .f64 0, .float .f64 0]) := Hv.out.beside bb (by omega)
  replace HB : Hid (Below w.heap.size w w3) := HB.out.trans (bb.below (by omega) HB.out.size)
  replace HR : Hid (Rd w3 r s n c pz) := R_
  clear R_ bb
  go_wp2_with fail
  refine (pair_any HR).mono ?_
  rintro e w4 ⟨v, t, pv, rfl, hv, ht, R_, bb⟩
  replace Hq : Hid (Blk w4 gq [.float .f64 0, .float .f64 0]) := Hq.out.beside bb (by omega)
  replace Ht : Hid (Blk w4 gt [.float .f64 0, .float .f64 0]) := Ht.out.beside bb (by omega)
  replace Hv : Hid (Blk w4 gv [.float .f64 0, .float .f64 0]) := Hv.out.beside bb (by omega)
  replace HB : Hid (Below w.heap.size w w4) := HB.out.trans (bb.below (by omega) HB.out.size)
  replace HR : Hid (Rd w4 r s n c pv) := R_
  clear R_ bb
  obtain ⟨z_q, fq, c_q⟩ := Hq.out
  have qc0 : w4.cell? ⟨gq, 0, none⟩ = some (.float .f64 0) := c_q 0 _ rfl
  have qc1 : w4.cell? ⟨gq, 1, none⟩ = some (.float .f64 0) := c_q 1 _ rfl
  obtain ⟨z_t, ft, c_t⟩ := Ht.out
  have tc0 : w4.cell? ⟨gt, 0, none⟩ = some (.float .f64 0) := c_t 0 _ rfl
  have tc1 : w4.cell? ⟨gt, 1, none⟩ = some (.float .f64 0) := c_t 1 _ rfl
  obtain ⟨z_v, fv, c_v⟩ := Hv.out
  have vc0 : w4.cell? ⟨gv, 0, none⟩ = some (.float .f64 0) := c_v 0 _ rfl
  have vc1 : w4.cell? ⟨gv, 1, none⟩ = some (.float .f64 0) := c_v 1 _ rfl
  have fq0 := fq 0
  have fq1 := fq 1
  have ft0 := ft 0
  have ft1 := ft 1
  have fv0 := fv 0
  have fv1 := fv 1
  have n1_ : gq ≠ gt := by omega
  have n2_ : gq ≠ gv := by omega
  have n3_ : gt ≠ gv := by omega
  have hst := store_fp
  have BF := HB.out
  have sBF := BF.size
  have lt' : w.heap.size ≤ gt := by omega
  have lv' : w.heap.size ≤ gv := by omega
  clear c_q c_t c_v Hq Ht Hv
  go_wp2
  exact bodyPost_ret (v := .tuple #[.agg #[.float .f64 x, .float .f64 y], .agg #[.float .f64 z, .float .f64 u], .agg #[.float .f64 v, .float .f64 t]]) (by simp [results, Try.results7, go_sem, qc0, qc1, tc0, tc1, vc0, vc1, n1_, n1_.symm, n2_, n2_.symm, n3_, n3_.symm]) rfl ⟨x, y, z, u, v, t, rfl, ⟨hx, hy, hz, hu, hv, ht⟩, (by repeat (first | with_reducible exact Below.refl _ _ | with_reducible exact BF | with_reducible refine Below.setCell ?_ (by first | omega | (simp; done) | (simp; omega)) _ | with_reducible refine bDrewN ?_ _ | with_reducible refine Below.drew ?_ | with_reducible refine Below.alloc ?_ (by first | omega | (simp; done) | (simp; omega)) _))⟩
end Go.Proofs.Ytjahjhddokaopaa
