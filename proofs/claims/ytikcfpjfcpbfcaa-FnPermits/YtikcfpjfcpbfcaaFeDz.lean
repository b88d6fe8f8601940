/-
What is proved: DrawFewest: any net and any place.
-/
import Derived.Test.YtikcfpjfcpbfcaaNdDz
import Derived.Test.YtikcfpjfcpbfcaaRdCz
import Derived.Test.YtikcfpjfcpbfcaaZcA
import Derived.Deep.DeepCutAuto
import Derived.Deep.RegionHeldLaw
namespace Go.Proofs.Ytikcfpjfcpbfcaa
set_option maxRecDepth 40000
open Go.ChangeShapes Go.WideShapes Go.ChangeAt Go.RowKit
set_option linter.unusedVariables false
set_option linter.unusedSimpArgs false

theorem Lst.duct {base : Nat} {W : World} {t : Option Addr} {k kd : Nat} {U : Nat → Int} (h : Lst base 106 2 W (.slice t k kd) k U) : RowDuct W t k (fun i => (U (i * 2), U (i * 2 + 1))) := fun j hj => by
  obtain ⟨t', c', e, ho⟩ := h.own
  simp only [Value.slice.injEq] at e
  obtain ⟨rfl, -, -⟩ := e
  obtain ⟨b, e1, _, a2, a3, _⟩ := ho (j * 2) (by omega)
  obtain ⟨b', e2, _, _, b3, _⟩ := ho (j * 2 + 1) (by omega)
  rw [e1] at e2
  cases e2
  exact ⟨b, 0, e1, a2, by rw [Nat.zero_add]; exact a3, by rw [Nat.zero_add]; exact b3⟩
theorem Lst.src {base : Nat} {W : World} {t : Option Addr} {k ks : Nat} {U : Nat → Int} (h : Lst base 2 1 W (.slice t k ks) k U) : RowI W t k U := by
  obtain ⟨t', c', e, ho⟩ := h.own
  simp only [Value.slice.injEq] at e
  obtain ⟨rfl, -, -⟩ := e
  rw [Nat.mul_one] at ho
  exact ho.row
def DfPost (w : World) (e : Ending) (w' : World) : Prop := ∃ (p : Int) (td : Option Addr) (nd kd : Nat) (ts : Option Addr) (ns ks : Nat) (x : Int) (D : Nat → Int × Int) (S : Nat → Int), e = .returned (.tuple #[.agg #[.int .i64 p, .slice td nd kd, .slice ts ns ks], .int .i64 x]) ∧ nd ≤ 70000 ∧ ns ≤ 10 ∧ RowDuct w' td nd D ∧ RowI w' ts ns S ∧ Below w.heap.size w w'
set_option maxRecDepth 20000 in
set_option maxHeartbeats 8000000 in
theorem drawFewest_any {s : Option Addr} {n c : Nat} {w : World} (h : Hid (Code8 w s n)) :
    Calls Try.prog 34 #[.slice s n c] w fun e w' => DfPost w e w' := by
  go_enter Try.func34, Try.ntmps34
  go_upto_region 1 with fail
  obtain ⟨wa, hwa⟩ : ∃ z, z = w.alloc (.cells #[.int .i64 0, .slice none 0 0, .slice none 0 0] 41) := ⟨_, rfl⟩
  try rw [← hwa]
  obtain ⟨gu, hgu⟩ : ∃ z, z = w.heap.size := ⟨_, rfl⟩
  have ba : Below w.heap.size w wa := by rw [hwa]; exact below0 _ _
  have HUa : Hid (Blk wa gu [.int .i64 0, .slice none 0 0, .slice none 0 0]) := by rw [hwa, hgu]; exact Blk.new w #[.int .i64 0, .slice none 0 0, .slice none 0 0] _
  have HCa : Hid (Code8 wa s n) := h.out.below ba
  have HBa : Hid (Below w.heap.size w wa) := ba
  try rw [← hgu]
  have zgw : w.heap.size ≤ gu := by omega
  clear hwa ba hgu
  go_wp2_with fail
  refine (open_any HCa).mono ?_
  rintro e w1 ⟨rfl, R1, b1⟩
  obtain ⟨r, hr⟩ : ∃ z, z = wa.heap.size := ⟨_, rfl⟩
  have HR1 : Hid (Rd w1 r s n c 0) := by show Rd _ _ _ _ _ _; rw [hr]; exact R1
  have HU1 : Hid (Blk w1 gu [.int .i64 0, .slice none 0 0, .slice none 0 0]) := HUa.out.below b1
  have HB1 : Hid (Below w.heap.size w w1) := HBa.out.trans (b1.mono HBa.out.size)
  have zr : gu < r := by have := HUa.out.1; omega
  try rw [← hr]
  clear R1 b1 hr HCa HUa HBa
  go_wp2_with fail
  refine (net_any HR1).mono ?_
  rintro e w2 ⟨p, td, nd, kd, ts, ns, ks, rfl, p2, R2, b2, hnd, hns, ⟨U, hU⟩, ⟨V, hV⟩⟩
  have HR2 : Hid (Rd w2 r s n c p2) := R2
  have HU2 : Hid (Blk w2 gu [.int .i64 0, .slice none 0 0, .slice none 0 0]) := HU1.out.beside b2 (by omega)
  have HB2 : Hid (Below w.heap.size w w2) := HB1.out.trans (b2.below (by omega) HB1.out.size)
  have zr1 : r < w1.heap.size := HR1.out.1
  have HD2 : Hid (Lst w1.heap.size 106 2 w2 (.slice td nd kd) nd U) := hU
  have HS2 : Hid (Lst w1.heap.size 2 1 w2 (.slice ts ns ks) ns V) := hV
  clear R2 b2 hU hV HR1 HU1 HB1
  go_upto_region 3 with fail
  obtain ⟨w3, hw3⟩ : ∃ z, z = w2.alloc (.cells #[.int .i64 p, .slice td nd kd, .slice ts ns ks] 41) := ⟨_, rfl⟩
  try rw [← hw3]
  obtain ⟨gn, hgn⟩ : ∃ z, z = w2.heap.size := ⟨_, rfl⟩
  have b3 : Below w2.heap.size w2 w3 := by rw [hw3]; exact below0 _ _
  have HN3 : Hid (Blk w3 gn [.int .i64 p, .slice td nd kd, .slice ts ns ks]) := by rw [hw3, hgn]; exact Blk.new w2 #[.int .i64 p, .slice td nd kd, .slice ts ns ks] _
  have HR3 : Hid (Rd w3 r s n c p2) := HR2.out.below b3
  have HU3 : Hid (Blk w3 gu [.int .i64 0, .slice none 0 0, .slice none 0 0]) := HU2.out.below b3
  have HB3 : Hid (Below w.heap.size w w3) := HB2.out.trans (b3.mono HB2.out.size)
  have HD3 : Hid (Lst w1.heap.size 106 2 w3 (.slice td nd kd) nd U) := HD2.out.below b3
  have HS3 : Hid (Lst w1.heap.size 2 1 w3 (.slice ts ns ks) ns V) := HS2.out.below b3
  have zgn : r < gn := by have := HR2.out.1; omega
  try rw [← hgn]
  clear hw3 b3 hgn HR2 HU2 HB2 HD2 HS2
  refine wp_region_held_drew (S := fun w' => w'.cell? ⟨gn, 0, none⟩ = some (.int .i64 p) ∧ w'.cell? ⟨gn, 1, none⟩ = some (.slice td nd kd) ∧ w'.cell? ⟨gn, 2, none⟩ = some (.slice ts ns ks) ∧ gn < w'.heap.size) (by kernel_rfl) ?_ (fun hHeld => ?_)
  · exact ⟨HN3.out.2.2 0 _ rfl, HN3.out.2.2 1 _ rfl, HN3.out.2.2 2 _ rfl, HN3.out.1⟩
  obtain ⟨v0, hv0⟩ : ∃ z, z = w3.drew := ⟨_, rfl⟩
  try rw [← hv0] at hHeld
  rw [← hv0]
  have bv0 : Below w3.heap.size w3 v0 := by rw [hv0]; exact Below.drew (Below.refl _ _)
  clear hv0
  have HN4 : Hid (Blk v0 gn [.int .i64 p, .slice td nd kd, .slice ts ns ks]) := HN3.out.below bv0
  have HR4 : Hid (Rd v0 r s n c p2) := HR3.out.below bv0
  have HU4 : Hid (Blk v0 gu [.int .i64 0, .slice none 0 0, .slice none 0 0]) := HU3.out.below bv0
  have HB4 : Hid (Below w.heap.size w v0) := HB3.out.trans (bv0.mono HB3.out.size)
  have HD4 : Hid (Lst w1.heap.size 106 2 v0 (.slice td nd kd) nd U) := HD3.out.below bv0
  have HS4 : Hid (Lst w1.heap.size 2 1 v0 (.slice ts ns ks) ns V) := HS3.out.below bv0
  clear bv0 HN3 HR3 HU3 HB3 HD3 HS3
  refine wpAnyH_take (i := 0) (v := .agg #[.int .i64 p, .slice td nd kd, .slice ts ns ks]) rfl (by kernel_rfl) (by kernel_rfl) (by kernel_rfl) (fun _ _ _ h => h) (Or.inl ⟨by kernel_rfl, ?_⟩) hHeld ?_
  · intro w' hSw
    obtain ⟨hc0, hc1, hc2, hz0⟩ := hSw
    first | (go_simp; done) | (go_simp; with_reducible rfl) | (go_simp; rw [IntKind.wrap_i64]; omega) | (go_simp; omega)
  simp only [Act.put, List.setIfInBounds_toArray, List.set_cons_zero, List.set_cons_succ]
  refine wpAnyH_take (i := 1) (v := .pointer (some ⟨r, 0, none⟩)) rfl (by kernel_rfl) (by kernel_rfl) (by kernel_rfl) (fun _ _ _ h => h) (Or.inl ⟨by kernel_rfl, ?_⟩) hHeld ?_
  · intro w' hSw
    obtain ⟨hc0, hc1, hc2, hz0⟩ := hSw
    first | (go_simp; done) | (go_simp; with_reducible rfl) | (go_simp; rw [IntKind.wrap_i64]; omega) | (go_simp; omega)
  simp only [Act.put, List.setIfInBounds_toArray, List.set_cons_zero, List.set_cons_succ]
  refine wpAnyH_take (i := 2) (v := .pointer (some ⟨gn, 0, none⟩)) rfl (by kernel_rfl) (by kernel_rfl) (by kernel_rfl) (fun _ _ _ h => h) (Or.inl ⟨by kernel_rfl, ?_⟩) hHeld ?_
  · intro w' hSw
    obtain ⟨hc0, hc1, hc2, hz0⟩ := hSw
    first | (go_simp; done) | (go_simp; with_reducible rfl) | (go_simp; rw [IntKind.wrap_i64]; omega) | (go_simp; omega)
  simp only [Act.put, List.setIfInBounds_toArray, List.set_cons_zero, List.set_cons_succ]
  refine wpAnyH_take (i := 3) (v := .int .i64 p) rfl (by kernel_rfl) (by kernel_rfl) (by kernel_rfl) (fun _ _ _ h => h) (Or.inl ⟨by kernel_rfl, ?_⟩) hHeld ?_
  · intro w' hSw
    obtain ⟨hc0, hc1, hc2, hz0⟩ := hSw
    first | (go_simp; done) | (go_simp; with_reducible rfl) | (go_simp; rw [IntKind.wrap_i64]; omega) | (go_simp; omega)
  simp only [Act.put, List.setIfInBounds_toArray, List.set_cons_zero, List.set_cons_succ]
  refine wpAnyH_ready (rs := [4]) (by kernel_rfl) (by simp) ?_
  refine (AllReadyH.cons rfl (fun KK hK => ?_) AllReadyH.nil)
  go_simp
  refine hK.out _ _ (⟨HN4.out.2.2 0 _ rfl, HN4.out.2.2 1 _ rfl, HN4.out.2.2 2 _ rfl, HN4.out.1⟩) (fun hHeld => ?_)
  clear hK KK
  refine wpAnyH_ready (rs := [5]) (by kernel_rfl) (by simp) ?_
  refine (AllReadyH.cons rfl (fun KK hK => ?_) AllReadyH.nil)
  go_simp
  go_wp2_with (first | (go_at_call 73; refine (off_all 0 _ HR4).mono ?_; rintro e v0_2 ⟨x, p3, rfl, R5, b5⟩))
  have HN5 : Hid (Blk v0_2 gn [.int .i64 p, .slice td nd kd, .slice ts ns ks]) := HN4.out.beside b5 (by omega)
  have HU5 : Hid (Blk v0_2 gu [.int .i64 0, .slice none 0 0, .slice none 0 0]) := HU4.out.beside b5 (by omega)
  have HB5 : Hid (Below w.heap.size w v0_2) := HB4.out.trans (b5.below (by omega) HB4.out.size)
  have HD5 : Hid (Lst w1.heap.size 106 2 v0_2 (.slice td nd kd) nd U) := HD4.out.beside b5 zr1
  have HS5 : Hid (Lst w1.heap.size 2 1 v0_2 (.slice ts ns ks) ns V) := HS4.out.beside b5 zr1
  clear R5 b5 HN4 HR4 HU4 HB4 HD4 HS4
  refine hK.out _ _ (⟨HN5.out.2.2 0 _ rfl, HN5.out.2.2 1 _ rfl, HN5.out.2.2 2 _ rfl, HN5.out.1⟩) (fun hHeld => ?_)
  clear hK KK
  refine wpAnyH_ready (rs := [6]) (by kernel_rfl) (by simp) ?_
  refine (AllReadyH.cons rfl (fun KK hK => ?_) AllReadyH.nil)
  have u0 := HU5.out.2.2 0 _ rfl
  have u1 := HU5.out.2.2 1 _ rfl
  have u2 := HU5.out.2.2 2 _ rfl
  have f0 := HU5.out.2.1 0
  have f1 := HU5.out.2.1 1
  have f2 := HU5.out.2.1 2
  have uz := HU5.out.1
  have hst := store_slT
  go_simp
  obtain ⟨v0_3, hv_⟩ : ∃ z, z = ((v0_2.setCell ⟨gu, 0, none⟩ (.int .i64 p)).setCell ⟨gu, 1, none⟩ (.slice td nd kd)).setCell ⟨gu, 2, none⟩ (.slice ts ns ks) := ⟨_, rfl⟩
  rw [← hv_]
  have bs_ : Beside gu v0_2 v0_3 := by rw [hv_]; exact ((Beside.setCell gu _ 0 _).trans (Beside.setCell gu _ 1 _)).trans (Beside.setCell gu _ 2 _)
  have HU6 : Hid (Blk v0_3 gu [.int .i64 p, .slice td nd kd, .slice ts ns ks]) := by rw [hv_]; exact ((HU5.out.set 0 _).set 1 _).set 2 _
  have HN6 : Hid (Blk v0_3 gn [.int .i64 p, .slice td nd kd, .slice ts ns ks]) := HN5.out.beside bs_ (by omega)
  have HB6 : Hid (Below w.heap.size w v0_3) := HB5.out.trans (bs_.below (by omega) HB5.out.size)
  have HD6 : Hid (Lst w1.heap.size 106 2 v0_3 (.slice td nd kd) nd U) := HD5.out.beside bs_ (by omega)
  have HS6 : Hid (Lst w1.heap.size 2 1 v0_3 (.slice ts ns ks) ns V) := HS5.out.beside bs_ (by omega)
  clear hv_ bs_ u0 u1 u2 f0 f1 f2 uz hst HU5 HN5 HB5 HD5 HS5
  refine hK.out _ _ (⟨HN6.out.2.2 0 _ rfl, HN6.out.2.2 1 _ rfl, HN6.out.2.2 2 _ rfl, HN6.out.1⟩) (fun hHeld => ?_)
  clear hK KK
  refine wpAnyH_ready (rs := [7]) (by kernel_rfl) (by simp) ?_
  refine AllReadyH.cons rfl (fun KK hK => ?_) AllReadyH.nil
  go_simp
  refine hK.out _ _ hHeld (fun hHeld => ?_)
  clear hK KK
  refine wpAnyH_done (by kernel_rfl) ?_ _
  clear hHeld
  have u0 := HU6.out.2.2 0 _ rfl
  have u1 := HU6.out.2.2 1 _ rfl
  have u2 := HU6.out.2.2 2 _ rfl
  have uz := HU6.out.1
  go_wp2
  refine bodyPost_ret (v := .tuple #[.agg #[.int .i64 p, .slice td nd kd, .slice ts ns ks], .int .i64 x]) (by simp [results, Try.results34, go_sem, u0, u1, u2]) rfl ?_
  exact ⟨p, td, nd, kd, ts, ns, ks, x, _, _, rfl, hnd, hns, HD6.out.duct, HS6.out.src, HB6.out⟩
end Go.Proofs.Ytikcfpjfcpbfcaa
