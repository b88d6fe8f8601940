/-
What is proved: a speed and a flow that are picked of a map that was drawn: any numbers.
-/
import Derived.Test.YtbabedfbadlhjaaLnD
import Derived.Test.YtbabedfbadlhjaaNrA
import Derived.Deep.RegionHeldLaw
import Derived.BigQuiet
namespace Go.Proofs.Ytbabedfbadlhjaa
set_option maxRecDepth 40000
open Go.ChangeShapes Go.WideShapes Go.ChangeAt Go.RowKit
set_option linter.unusedVariables false
set_option linter.unusedSimpArgs false

def PikPost (r : Nat) (s : Option Addr) (n c : Nat) (w : World) (e : Ending) (w' : World) : Prop := ∃ (x y : Int) (p' : Nat), e = .returned (.tuple #[.int .i64 x, .int .i64 y]) ∧ Rd w' r s n c p' ∧ Beside r w w'
set_option maxRecDepth 20000 in
set_option maxHeartbeats 8000000 in
theorem pick_any {r : Nat} {s : Option Addr} {n c p : Nat} {w : World} (h : Hid (Rd w r s n c p)) {B g m cm : Nat} (HM : Hid (MpL B w (.slice (some ⟨g, 0, none⟩) m cm) m)) (hr : r < B) (m1 : 1 ≤ m) (m6 : m ≤ 6) :
    Calls Try.prog 40 #[.pointer (some ⟨r, 0, none⟩), .slice (some ⟨g, 0, none⟩) m cm] w fun e w' => PikPost r s n c w e w' := by
  obtain ⟨f, hF⟩ := HM.out
  have HF : Hid (MpF B w (.slice (some ⟨g, 0, none⟩) m cm) m f) := hF
  have hg : B ≤ g ∧ g < w.heap.size := by
    rcases hF.1.2 with ⟨_, q⟩ | ⟨g', cap, cur, e, hb, hg, _⟩
    · omega
    · cases e; exact ⟨hb, (Array.getElem?_eq_some_iff.1 hg).1⟩
  obtain ⟨s0, -, -, -, e0, -⟩ := hF.2 0 (by omega)
  obtain ⟨ml, hml⟩ : ∃ ml, m = ml + 1 := ⟨m - 1, by omega⟩
  obtain ⟨sl, -, -, -, el, -⟩ := hF.2 ml (by omega)
  have C0 : Hid (w.cell? ⟨g, 0, none⟩ = some (.int .i64 s0)) := by have := hF.cell (i := 0) (by omega); rw [show f 0 = .int .i64 s0 from e0] at this; exact this
  have CL : Hid (w.cell? ⟨g, ml * 2, none⟩ = some (.int .i64 sl)) := by have := hF.cell (i := ml * 2) (by omega); rw [el] at this; exact this
  have hki : (m : Int) - 1 = (ml : Int) := by omega
  have hlm : (ml : Int) < (m : Int) := by omega
  have hml5 : (ml : Int) ≤ 5 := by omega
  have mp : (0 : Int) < (m : Int) := by omega
  obtain ⟨mx, hmx⟩ : ∃ z : Int, (if s0 < sl then sl else s0) = z := ⟨_, rfl⟩
  have HX : Hid ((if s0 < sl then sl else s0) = mx) := hmx
  clear hF e0 el hml hmx HM
  have HR : Hid (Rd w r s n c p) := h
  have HS : Hid (Beside r w w) := Beside.of (Below.refl _ _)
  have gr : g ≠ r := by omega
  have gz := hg.2
  clear h hg
  go_enter Try.func40, Try.ntmps40
  go_wp2_with fail
  refine (below_any _ HR).mono ?_
  rintro e x1 ⟨ii, q1, rfl, ii0, -, ii2, R_, b_⟩
  replace HS : Hid (Beside r w x1) := HS.out.trans b_
  replace HR : Hid (Rd x1 r s n c q1) := R_
  clear R_ b_
  have ii3 : ii < (m : Int) := by omega
  obtain ⟨i, hi⟩ : ∃ i : Nat, ii = (i : Int) := ⟨ii.toNat, by omega⟩
  subst hi
  have im : i < m := by omega
  obtain ⟨si, t, k, cc, e0, e1, hK, k1, k2, k3⟩ := HF.out.2 i im
  have CA : Hid (w.cell? ⟨g, i * 2, none⟩ = some (.int .i64 si)) := by have := HF.out.cell (i := i * 2) (by omega); rw [e0] at this; exact this
  have CB : Hid (w.cell? ⟨g, i * 2 + 1, none⟩ = some (.slice t k cc)) := by have := HF.out.cell (i := i * 2 + 1) (by omega); rw [e1] at this; exact this
  obtain ⟨gk, cur, rfl, gk0, gk1, gk2, gk3⟩ := hK
  have kz : gk < w.heap.size := (Array.getElem?_eq_some_iff.1 gk1).1
  have HP : Hid (∀ j, j < k * 2 → ∃ y, w.cell? ⟨gk, j, none⟩ = some (.int .i64 y)) := fun j hj => by
    obtain ⟨y, hy⟩ := gk3 j hj
    exact ⟨y, by simp only [World.cell?, gk1]; exact hy⟩
  have kr : gk ≠ r := by omega
  clear e0 e1 gk0 gk1 gk2 gk3 ii0 ii2 HF
  have ca : x1.cell? ⟨g, i * 2, none⟩ = some (.int .i64 si) := (HS.out.cell (p := ⟨g, i * 2, none⟩) gz gr).trans CA.out
  go_upto_region 3 with fail
  clear ca CA
  go_wp2_with fail
  refine (once_any 2 (by omega) (by omega) HR).mono ?_
  rintro e x2 ⟨fl, q2, rfl, R_, b_⟩
  replace HS : Hid (Beside r w x2) := HS.out.trans b_
  replace HR : Hid (Rd x2 r s n c q2) := R_
  clear R_ b_
  cases fl
  case false =>
    have cb : x2.cell? ⟨g, i * 2 + 1, none⟩ = some (.slice (some ⟨gk, 0, none⟩) k cc) := (HS.out.cell (p := ⟨g, i * 2 + 1, none⟩) gz gr).trans CB.out
    go_upto_region 6 with fail
    clear cb CB
    go_wp2_with fail
    refine (below_any _ HR).mono ?_
    rintro e x11 ⟨kk, q5, rfl, kk0, -, kk2, R_, b_⟩
    replace HS : Hid (Beside r w x11) := HS.out.trans b_
    replace HR : Hid (Rd x11 r s n c q5) := R_
    clear R_ b_
    have kk3 : kk < (k : Int) := by omega
    obtain ⟨j, hj⟩ : ∃ j : Nat, kk = (j : Int) := ⟨kk.toNat, by omega⟩
    subst hj
    have jk : j < k := by omega
    clear kk0 kk2
    go_wp2_with fail
    refine (once_any 3 (by omega) (by omega) HR).mono ?_
    rintro e x12 ⟨f2, q6, rfl, R_, b_⟩
    replace HS : Hid (Beside r w x12) := HS.out.trans b_
    replace HR : Hid (Rd x12 r s n c q6) := R_
    clear R_ b_
    cases f2
    case true =>
      obtain ⟨y, hy⟩ := HP.out (j * 2) (by omega)
      have cy : x12.cell? ⟨gk, j * 2, none⟩ = some (.int .i64 y) := (HS.out.cell (p := ⟨gk, j * 2, none⟩) kz kr).trans hy
      have kzz : gk < x12.heap.size := Nat.lt_of_lt_of_le kz HS.out.2.2.2.1
      have HS9 := HS.out
      have HR9 := HR.out
      have hb9 : ∀ q, Beside r w (x12.drewN q) := fun q => HS9.trans (Beside.of (bDrewN (Below.refl _ _) _))
      have hr9 : ∀ q, Rd (x12.drewN q) r s n c q6 := fun q => HR9.below (bDrewN (Below.refl _ _) _)
      have hb8 : Beside r w x12.drew := HS9.trans (Beside.of (Below.drew (Below.refl _ _)))
      have hr8 : Rd x12.drew r s n c q6 := HR9.below (Below.drew (Below.refl _ _))
      clear hy HP HR HS C0 CL HX
      go_upto_region 8 with fail
      go_region
      all_goals
        go_wp2
        refine bodyPost_ret (v := .tuple #[.int .i64 si, .int .i64 y]) (by simp [results, Try.results40, go_sem]) rfl ?_
        first | exact ⟨si, y, q6, rfl, hr8, hb8⟩ | exact ⟨si, y, q6, rfl, hr9 _, hb9 _⟩
    case false =>
      obtain ⟨y0, hy0⟩ := HP.out 0 (by omega)
      obtain ⟨jl, hjl⟩ : ∃ jl, k = jl + 1 := ⟨k - 1, by omega⟩
      obtain ⟨yl, hyl⟩ := HP.out (jl * 2) (by omega)
      have Y0 : Hid (w.cell? ⟨gk, 0, none⟩ = some (.int .i64 y0)) := hy0
      have YL : Hid (w.cell? ⟨gk, jl * 2, none⟩ = some (.int .i64 yl)) := hyl
      have hkj : (k : Int) - 1 = (jl : Int) := by omega
      have hjlk : (jl : Int) < (k : Int) := by omega
      have jl61 : (jl : Int) ≤ 60 := by omega
      have kp : (0 : Int) < (k : Int) := by omega
      have c0 : x12.cell? ⟨gk, 0, none⟩ = some (.int .i64 y0) := (HS.out.cell (p := ⟨gk, 0, none⟩) kz kr).trans hy0
      have cl : x12.cell? ⟨gk, jl * 2, none⟩ = some (.int .i64 yl) := (HS.out.cell (p := ⟨gk, jl * 2, none⟩) kz kr).trans hyl
      clear hy0 hyl hjl HP C0 CL HX
      go_upto_region 9 with fail
      refine wp_region_held_drew (S := fun w' => w'.cell? ⟨gk, 0, none⟩ = some (.int .i64 y0) ∧ w'.cell? ⟨gk, jl * 2, none⟩ = some (.int .i64 yl)) (by kernel_rfl) ?_ (fun hHeld => ?_)
      · exact ⟨by simpa [go_sem] using c0, by simpa [go_sem] using cl⟩
      obtain ⟨z0_, hv0⟩ : ∃ z, z = x12.drew := ⟨_, rfl⟩
      try rw [← hv0] at hHeld
      rw [← hv0]
      have bv0 : Below x12.heap.size x12 z0_ := by rw [hv0]; exact Below.drew (Below.refl _ _)
      clear hv0
      replace HS : Hid (Beside r w z0_) := HS.out.trans (Beside.of bv0)
      replace HR : Hid (Rd z0_ r s n c q6) := HR.out.below bv0
      clear bv0 c0 cl
      refine wpAnyH_take (i := 0) (v := .int .i64 si) rfl (by kernel_rfl) (by kernel_rfl) (by kernel_rfl) (fun _ _ _ h => h) (Or.inl ⟨by kernel_rfl, ?_⟩) hHeld ?_
      · intro w' hSw
        obtain ⟨s0_, s1_⟩ := hSw
        first | (go_simp; done) | (go_simp; with_reducible rfl) | (go_simp; rw [IntKind.wrap_i64]; omega) | (go_simp; omega)
      simp only [Act.put, List.setIfInBounds_toArray, List.set_cons_zero, List.set_cons_succ]
      refine wpAnyH_take (i := 1) (v := .pointer (some ⟨r, 0, none⟩)) rfl (by kernel_rfl) (by kernel_rfl) (by kernel_rfl) (fun _ _ _ h => h) (Or.inl ⟨by kernel_rfl, ?_⟩) hHeld ?_
      · intro w' hSw
        obtain ⟨s0_, s1_⟩ := hSw
        first | (go_simp; done) | (go_simp; with_reducible rfl) | (go_simp; rw [IntKind.wrap_i64]; omega) | (go_simp; omega)
      simp only [Act.put, List.setIfInBounds_toArray, List.set_cons_zero, List.set_cons_succ]
      refine wpAnyH_take (i := 2) (v := .slice (some ⟨gk, 0, none⟩) k cc) rfl (by kernel_rfl) (by kernel_rfl) (by kernel_rfl) (fun _ _ _ h => h) (Or.inl ⟨by kernel_rfl, ?_⟩) hHeld ?_
      · intro w' hSw
        obtain ⟨s0_, s1_⟩ := hSw
        first | (go_simp; done) | (go_simp; with_reducible rfl) | (go_simp; rw [IntKind.wrap_i64]; omega) | (go_simp; omega)
      simp only [Act.put, List.setIfInBounds_toArray, List.set_cons_zero, List.set_cons_succ]
      refine wpAnyH_take (i := 3) (v := .pointer (some ⟨gk, 0, none⟩)) rfl (by kernel_rfl) (by kernel_rfl) (by kernel_rfl) (fun _ _ _ h => h) (Or.inl ⟨by kernel_rfl, ?_⟩) hHeld ?_
      · intro w' hSw
        obtain ⟨s0_, s1_⟩ := hSw
        first | (go_simp; done) | (go_simp; with_reducible rfl) | (go_simp; rw [IntKind.wrap_i64]; omega) | (go_simp; omega)
      simp only [Act.put, List.setIfInBounds_toArray, List.set_cons_zero, List.set_cons_succ]
      refine wpAnyH_take (i := 4) (v := .pointer (some ⟨gk, 0, none⟩)) rfl (by kernel_rfl) (by kernel_rfl) (by kernel_rfl) (fun _ _ _ h => h) (Or.inl ⟨by kernel_rfl, ?_⟩) hHeld ?_
      · intro w' hSw
        obtain ⟨s0_, s1_⟩ := hSw
        first | (go_simp; done) | (go_simp; with_reducible rfl) | (go_simp; rw [IntKind.wrap_i64]; omega) | (go_simp; omega)
      simp only [Act.put, List.setIfInBounds_toArray, List.set_cons_zero, List.set_cons_succ]
      refine wpAnyH_take (i := 5) (v := .int .i64 y0) rfl (by kernel_rfl) (by kernel_rfl) (by kernel_rfl) (fun _ _ _ h => h) (Or.inl ⟨by kernel_rfl, ?_⟩) hHeld ?_
      · intro w' hSw
        obtain ⟨s0_, s1_⟩ := hSw
        first | (go_simp; done) | (go_simp; with_reducible rfl) | (go_simp; rw [IntKind.wrap_i64]; omega) | (go_simp; omega)
      simp only [Act.put, List.setIfInBounds_toArray, List.set_cons_zero, List.set_cons_succ]
      refine wpAnyH_take (i := 6) (v := .slice (some ⟨gk, 0, none⟩) k cc) rfl (by kernel_rfl) (by kernel_rfl) (by kernel_rfl) (fun _ _ _ h => h) (Or.inl ⟨by kernel_rfl, ?_⟩) hHeld ?_
      · intro w' hSw
        obtain ⟨s0_, s1_⟩ := hSw
        first | (go_simp; done) | (go_simp; with_reducible rfl) | (go_simp; rw [IntKind.wrap_i64]; omega) | (go_simp; omega)
      simp only [Act.put, List.setIfInBounds_toArray, List.set_cons_zero, List.set_cons_succ]
      refine wpAnyH_take (i := 7) (v := .slice (some ⟨gk, 0, none⟩) k cc) rfl (by kernel_rfl) (by kernel_rfl) (by kernel_rfl) (fun _ _ _ h => h) (Or.inl ⟨by kernel_rfl, ?_⟩) hHeld ?_
      · intro w' hSw
        obtain ⟨s0_, s1_⟩ := hSw
        first | (go_simp; done) | (go_simp; with_reducible rfl) | (go_simp; rw [IntKind.wrap_i64]; omega) | (go_simp; omega)
      simp only [Act.put, List.setIfInBounds_toArray, List.set_cons_zero, List.set_cons_succ]
      refine wpAnyH_take (i := 8) (v := .int .i64 (k : Int)) rfl (by kernel_rfl) (by kernel_rfl) (by kernel_rfl) (fun _ _ _ h => h) (Or.inl ⟨by kernel_rfl, ?_⟩) hHeld ?_
      · intro w' hSw
        obtain ⟨s0_, s1_⟩ := hSw
        first | (go_simp; done) | (go_simp; with_reducible rfl) | (go_simp; rw [IntKind.wrap_i64]; omega) | (go_simp; omega)
      simp only [Act.put, List.setIfInBounds_toArray, List.set_cons_zero, List.set_cons_succ]
      refine wpAnyH_take (i := 9) (v := .int .i64 (jl : Int)) rfl (by kernel_rfl) (by kernel_rfl) (by kernel_rfl) (fun _ _ _ h => h) (Or.inl ⟨by kernel_rfl, ?_⟩) hHeld ?_
      · intro w' hSw
        obtain ⟨s0_, s1_⟩ := hSw
        first | (go_simp; done) | (go_simp; with_reducible rfl) | (go_simp; rw [IntKind.wrap_i64]; omega) | (go_simp; omega)
      simp only [Act.put, List.setIfInBounds_toArray, List.set_cons_zero, List.set_cons_succ]
      refine wpAnyH_take (i := 10) (v := .pointer (some ⟨gk, jl * 2, none⟩)) rfl (by kernel_rfl) (by kernel_rfl) (by kernel_rfl) (fun _ _ _ h => h) (Or.inl ⟨by kernel_rfl, ?_⟩) hHeld ?_
      · intro w' hSw
        obtain ⟨s0_, s1_⟩ := hSw
        first | (go_simp; done) | (go_simp; with_reducible rfl) | (go_simp; rw [IntKind.wrap_i64]; omega) | (go_simp; omega)
      simp only [Act.put, List.setIfInBounds_toArray, List.set_cons_zero, List.set_cons_succ]
      refine wpAnyH_take (i := 11) (v := .pointer (some ⟨gk, jl * 2, none⟩)) rfl (by kernel_rfl) (by kernel_rfl) (by kernel_rfl) (fun _ _ _ h => h) (Or.inl ⟨by kernel_rfl, ?_⟩) hHeld ?_
      · intro w' hSw
        obtain ⟨s0_, s1_⟩ := hSw
        first | (go_simp; done) | (go_simp; with_reducible rfl) | (go_simp; rw [IntKind.wrap_i64]; omega) | (go_simp; omega)
      simp only [Act.put, List.setIfInBounds_toArray, List.set_cons_zero, List.set_cons_succ]
      refine wpAnyH_take (i := 12) (v := .int .i64 yl) rfl (by kernel_rfl) (by kernel_rfl) (by kernel_rfl) (fun _ _ _ h => h) (Or.inl ⟨by kernel_rfl, ?_⟩) hHeld ?_
      · intro w' hSw
        obtain ⟨s0_, s1_⟩ := hSw
        first | (go_simp; done) | (go_simp; with_reducible rfl) | (go_simp; rw [IntKind.wrap_i64]; omega) | (go_simp; omega)
      simp only [Act.put, List.setIfInBounds_toArray, List.set_cons_zero, List.set_cons_succ]
      refine wpAnyH_ready (rs := [13]) (by kernel_rfl) (by simp) ?_
      refine (AllReadyH.cons rfl (fun KK hK => ?_) AllReadyH.nil)
      go_simp
      go_wp2_with (first | (go_at_call 56; refine (off_all _ _ HR).mono ?_; rintro e z0__1 ⟨yy, q9, rfl, R_, b_⟩; replace HS : Hid (Beside r w z0__1) := HS.out.trans b_; replace HR : Hid (Rd z0__1 r s n c q9) := R_; clear R_ b_))
      refine hK.out _ _ (⟨(HS.out.cell (p := ⟨gk, 0, none⟩) kz kr).trans Y0.out, (HS.out.cell (p := ⟨gk, jl * 2, none⟩) kz kr).trans YL.out⟩) (fun hHeld => ?_)
      clear hK KK
      refine wpAnyH_take (i := 14) (v := .int .i64 si) rfl (by kernel_rfl) (by kernel_rfl) (by kernel_rfl) (fun _ _ _ h => h) (Or.inl ⟨by kernel_rfl, ?_⟩) hHeld ?_
      · intro w' hSw
        obtain ⟨s0_, s1_⟩ := hSw
        first | (go_simp; done) | (go_simp; with_reducible rfl) | (go_simp; rw [IntKind.wrap_i64]; omega) | (go_simp; omega)
      simp only [Act.put, List.setIfInBounds_toArray, List.set_cons_zero, List.set_cons_succ]
      refine wpAnyH_ready (rs := [15]) (by kernel_rfl) (by simp) ?_
      refine AllReadyH.cons rfl (fun KK hK => ?_) AllReadyH.nil
      go_simp
      refine hK.out _ _ hHeld (fun hHeld => ?_)
      clear hK KK
      refine wpAnyH_done (by kernel_rfl) ?_ _
      clear hHeld
      have HS9 := HS.out
      have HR9 := HR.out
      go_wp2
      refine bodyPost_ret (v := .tuple #[.int .i64 si, .int .i64 yy]) (by simp [results, Try.results40, go_sem]) rfl ?_
      exact ⟨si, yy, q9, rfl, HR9, HS9⟩
  case true =>
    have c0 : x2.cell? ⟨g, 0, none⟩ = some (.int .i64 s0) := (HS.out.cell (p := ⟨g, 0, none⟩) gz gr).trans C0.out
    have cl : x2.cell? ⟨g, ml * 2, none⟩ = some (.int .i64 sl) := (HS.out.cell (p := ⟨g, ml * 2, none⟩) gz gr).trans CL.out
    go_upto_region 4 with fail
    refine wp_region_held_drew (S := fun w' => w'.cell? ⟨g, 0, none⟩ = some (.int .i64 s0) ∧ w'.cell? ⟨g, ml * 2, none⟩ = some (.int .i64 sl)) (by kernel_rfl) ?_ (fun hHeld => ?_)
    · exact ⟨by simpa [go_sem] using c0, by simpa [go_sem] using cl⟩
    obtain ⟨v0, hv0⟩ : ∃ z, z = x2.drew := ⟨_, rfl⟩
    try rw [← hv0] at hHeld
    rw [← hv0]
    have bv0 : Below x2.heap.size x2 v0 := by rw [hv0]; exact Below.drew (Below.refl _ _)
    clear hv0
    replace HS : Hid (Beside r w v0) := HS.out.trans (Beside.of bv0)
    replace HR : Hid (Rd v0 r s n c q2) := HR.out.below bv0
    clear bv0 c0 cl
    refine wpAnyH_take (i := 0) (v := .pointer (some ⟨r, 0, none⟩)) rfl (by kernel_rfl) (by kernel_rfl) (by kernel_rfl) (fun _ _ _ h => h) (Or.inl ⟨by kernel_rfl, ?_⟩) hHeld ?_
    · intro w' hSw
      obtain ⟨s0_, s1_⟩ := hSw
      first | (go_simp; done) | (go_simp; with_reducible rfl) | (go_simp; rw [IntKind.wrap_i64]; omega) | (go_simp; omega)
    simp only [Act.put, List.setIfInBounds_toArray, List.set_cons_zero, List.set_cons_succ]
    refine wpAnyH_take (i := 1) (v := .slice (some ⟨g, 0, none⟩) m cm) rfl (by kernel_rfl) (by kernel_rfl) (by kernel_rfl) (fun _ _ _ h => h) (Or.inl ⟨by kernel_rfl, ?_⟩) hHeld ?_
    · intro w' hSw
      obtain ⟨s0_, s1_⟩ := hSw
      first | (go_simp; done) | (go_simp; with_reducible rfl) | (go_simp; rw [IntKind.wrap_i64]; omega) | (go_simp; omega)
    simp only [Act.put, List.setIfInBounds_toArray, List.set_cons_zero, List.set_cons_succ]
    refine wpAnyH_take (i := 2) (v := .pointer (some ⟨g, 0, none⟩)) rfl (by kernel_rfl) (by kernel_rfl) (by kernel_rfl) (fun _ _ _ h => h) (Or.inl ⟨by kernel_rfl, ?_⟩) hHeld ?_
    · intro w' hSw
      obtain ⟨s0_, s1_⟩ := hSw
      first | (go_simp; done) | (go_simp; with_reducible rfl) | (go_simp; rw [IntKind.wrap_i64]; omega) | (go_simp; omega)
    simp only [Act.put, List.setIfInBounds_toArray, List.set_cons_zero, List.set_cons_succ]
    refine wpAnyH_take (i := 3) (v := .pointer (some ⟨g, 0, none⟩)) rfl (by kernel_rfl) (by kernel_rfl) (by kernel_rfl) (fun _ _ _ h => h) (Or.inl ⟨by kernel_rfl, ?_⟩) hHeld ?_
    · intro w' hSw
      obtain ⟨s0_, s1_⟩ := hSw
      first | (go_simp; done) | (go_simp; with_reducible rfl) | (go_simp; rw [IntKind.wrap_i64]; omega) | (go_simp; omega)
    simp only [Act.put, List.setIfInBounds_toArray, List.set_cons_zero, List.set_cons_succ]
    refine wpAnyH_take (i := 4) (v := .int .i64 s0) rfl (by kernel_rfl) (by kernel_rfl) (by kernel_rfl) (fun _ _ _ h => h) (Or.inl ⟨by kernel_rfl, ?_⟩) hHeld ?_
    · intro w' hSw
      obtain ⟨s0_, s1_⟩ := hSw
      first | (go_simp; done) | (go_simp; with_reducible rfl) | (go_simp; rw [IntKind.wrap_i64]; omega) | (go_simp; omega)
    simp only [Act.put, List.setIfInBounds_toArray, List.set_cons_zero, List.set_cons_succ]
    refine wpAnyH_take (i := 5) (v := .slice (some ⟨g, 0, none⟩) m cm) rfl (by kernel_rfl) (by kernel_rfl) (by kernel_rfl) (fun _ _ _ h => h) (Or.inl ⟨by kernel_rfl, ?_⟩) hHeld ?_
    · intro w' hSw
      obtain ⟨s0_, s1_⟩ := hSw
      first | (go_simp; done) | (go_simp; with_reducible rfl) | (go_simp; rw [IntKind.wrap_i64]; omega) | (go_simp; omega)
    simp only [Act.put, List.setIfInBounds_toArray, List.set_cons_zero, List.set_cons_succ]
    refine wpAnyH_take (i := 6) (v := .pointer (some ⟨g, 0, none⟩)) rfl (by kernel_rfl) (by kernel_rfl) (by kernel_rfl) (fun _ _ _ h => h) (Or.inl ⟨by kernel_rfl, ?_⟩) hHeld ?_
    · intro w' hSw
      obtain ⟨s0_, s1_⟩ := hSw
      first | (go_simp; done) | (go_simp; with_reducible rfl) | (go_simp; rw [IntKind.wrap_i64]; omega) | (go_simp; omega)
    simp only [Act.put, List.setIfInBounds_toArray, List.set_cons_zero, List.set_cons_succ]
    refine wpAnyH_take (i := 7) (v := .pointer (some ⟨g, 0, none⟩)) rfl (by kernel_rfl) (by kernel_rfl) (by kernel_rfl) (fun _ _ _ h => h) (Or.inl ⟨by kernel_rfl, ?_⟩) hHeld ?_
    · intro w' hSw
      obtain ⟨s0_, s1_⟩ := hSw
      first | (go_simp; done) | (go_simp; with_reducible rfl) | (go_simp; rw [IntKind.wrap_i64]; omega) | (go_simp; omega)
    simp only [Act.put, List.setIfInBounds_toArray, List.set_cons_zero, List.set_cons_succ]
    refine wpAnyH_take (i := 8) (v := .int .i64 s0) rfl (by kernel_rfl) (by kernel_rfl) (by kernel_rfl) (fun _ _ _ h => h) (Or.inl ⟨by kernel_rfl, ?_⟩) hHeld ?_
    · intro w' hSw
      obtain ⟨s0_, s1_⟩ := hSw
      first | (go_simp; done) | (go_simp; with_reducible rfl) | (go_simp; rw [IntKind.wrap_i64]; omega) | (go_simp; omega)
    simp only [Act.put, List.setIfInBounds_toArray, List.set_cons_zero, List.set_cons_succ]
    refine wpAnyH_take (i := 9) (v := .slice (some ⟨g, 0, none⟩) m cm) rfl (by kernel_rfl) (by kernel_rfl) (by kernel_rfl) (fun _ _ _ h => h) (Or.inl ⟨by kernel_rfl, ?_⟩) hHeld ?_
    · intro w' hSw
      obtain ⟨s0_, s1_⟩ := hSw
      first | (go_simp; done) | (go_simp; with_reducible rfl) | (go_simp; rw [IntKind.wrap_i64]; omega) | (go_simp; omega)
    simp only [Act.put, List.setIfInBounds_toArray, List.set_cons_zero, List.set_cons_succ]
    refine wpAnyH_take (i := 10) (v := .slice (some ⟨g, 0, none⟩) m cm) rfl (by kernel_rfl) (by kernel_rfl) (by kernel_rfl) (fun _ _ _ h => h) (Or.inl ⟨by kernel_rfl, ?_⟩) hHeld ?_
    · intro w' hSw
      obtain ⟨s0_, s1_⟩ := hSw
      first | (go_simp; done) | (go_simp; with_reducible rfl) | (go_simp; rw [IntKind.wrap_i64]; omega) | (go_simp; omega)
    simp only [Act.put, List.setIfInBounds_toArray, List.set_cons_zero, List.set_cons_succ]
    refine wpAnyH_take (i := 11) (v := .int .i64 (m : Int)) rfl (by kernel_rfl) (by kernel_rfl) (by kernel_rfl) (fun _ _ _ h => h) (Or.inl ⟨by kernel_rfl, ?_⟩) hHeld ?_
    · intro w' hSw
      obtain ⟨s0_, s1_⟩ := hSw
      first | (go_simp; done) | (go_simp; with_reducible rfl) | (go_simp; rw [IntKind.wrap_i64]; omega) | (go_simp; omega)
    simp only [Act.put, List.setIfInBounds_toArray, List.set_cons_zero, List.set_cons_succ]
    refine wpAnyH_take (i := 12) (v := .int .i64 (ml : Int)) rfl (by kernel_rfl) (by kernel_rfl) (by kernel_rfl) (fun _ _ _ h => h) (Or.inl ⟨by kernel_rfl, ?_⟩) hHeld ?_
    · intro w' hSw
      obtain ⟨s0_, s1_⟩ := hSw
      first | (go_simp; done) | (go_simp; with_reducible rfl) | (go_simp; rw [IntKind.wrap_i64]; omega) | (go_simp; omega)
    simp only [Act.put, List.setIfInBounds_toArray, List.set_cons_zero, List.set_cons_succ]
    refine wpAnyH_take (i := 13) (v := .pointer (some ⟨g, ml * 2, none⟩)) rfl (by kernel_rfl) (by kernel_rfl) (by kernel_rfl) (fun _ _ _ h => h) (Or.inl ⟨by kernel_rfl, ?_⟩) hHeld ?_
    · intro w' hSw
      obtain ⟨s0_, s1_⟩ := hSw
      first | (go_simp; done) | (go_simp; with_reducible rfl) | (go_simp; rw [IntKind.wrap_i64]; omega) | (go_simp; omega)
    simp only [Act.put, List.setIfInBounds_toArray, List.set_cons_zero, List.set_cons_succ]
    refine wpAnyH_take (i := 14) (v := .pointer (some ⟨g, ml * 2, none⟩)) rfl (by kernel_rfl) (by kernel_rfl) (by kernel_rfl) (fun _ _ _ h => h) (Or.inl ⟨by kernel_rfl, ?_⟩) hHeld ?_
    · intro w' hSw
      obtain ⟨s0_, s1_⟩ := hSw
      first | (go_simp; done) | (go_simp; with_reducible rfl) | (go_simp; rw [IntKind.wrap_i64]; omega) | (go_simp; omega)
    simp only [Act.put, List.setIfInBounds_toArray, List.set_cons_zero, List.set_cons_succ]
    refine wpAnyH_take (i := 15) (v := .int .i64 sl) rfl (by kernel_rfl) (by kernel_rfl) (by kernel_rfl) (fun _ _ _ h => h) (Or.inl ⟨by kernel_rfl, ?_⟩) hHeld ?_
    · intro w' hSw
      obtain ⟨s0_, s1_⟩ := hSw
      first | (go_simp; done) | (go_simp; with_reducible rfl) | (go_simp; rw [IntKind.wrap_i64]; omega) | (go_simp; omega)
    simp only [Act.put, List.setIfInBounds_toArray, List.set_cons_zero, List.set_cons_succ]
    refine wpAnyH_take (i := 16) (v := .int .i64 mx) rfl (by kernel_rfl) (by kernel_rfl) (by kernel_rfl) (fun _ _ _ h => h) (Or.inl ⟨by kernel_rfl, ?_⟩) hHeld ?_
    · intro w' hSw
      obtain ⟨s0_, s1_⟩ := hSw
      (rw [← HX.out]; first | kernel_rfl | (go_simp; done) | (go_simp; split <;> rfl) | (split <;> go_simp))
    simp only [Act.put, List.setIfInBounds_toArray, List.set_cons_zero, List.set_cons_succ]
    refine wpAnyH_ready (rs := [17]) (by kernel_rfl) (by simp) ?_
    refine (AllReadyH.cons rfl (fun KK hK => ?_) AllReadyH.nil)
    go_simp
    go_wp2_with (first | (go_at_call 56; refine (off_all _ _ HR).mono ?_; rintro e v0_1 ⟨xx, q4, rfl, R_, b_⟩; replace HS : Hid (Beside r w v0_1) := HS.out.trans b_; replace HR : Hid (Rd v0_1 r s n c q4) := R_; clear R_ b_))
    refine hK.out _ _ (⟨(HS.out.cell (p := ⟨g, 0, none⟩) gz gr).trans C0.out, (HS.out.cell (p := ⟨g, ml * 2, none⟩) gz gr).trans CL.out⟩) (fun hHeld => ?_)
    clear hK KK
    refine wpAnyH_ready (rs := [18]) (by kernel_rfl) (by simp) ?_
    refine AllReadyH.cons rfl (fun KK hK => ?_) AllReadyH.nil
    go_simp
    refine hK.out _ _ hHeld (fun hHeld => ?_)
    clear hK KK
    refine wpAnyH_done (by kernel_rfl) ?_ _
    clear hHeld
    have cb : v0_1.cell? ⟨g, i * 2 + 1, none⟩ = some (.slice (some ⟨gk, 0, none⟩) k cc) := (HS.out.cell (p := ⟨g, i * 2 + 1, none⟩) gz gr).trans CB.out
    go_upto_region 6 with fail
    clear cb CB
    go_wp2_with fail
    refine (below_any _ HR).mono ?_
    rintro e x21 ⟨kk, q5, rfl, kk0, -, kk2, R_, b_⟩
    replace HS : Hid (Beside r w x21) := HS.out.trans b_
    replace HR : Hid (Rd x21 r s n c q5) := R_
    clear R_ b_
    have kk3 : kk < (k : Int) := by omega
    obtain ⟨j, hj⟩ : ∃ j : Nat, kk = (j : Int) := ⟨kk.toNat, by omega⟩
    subst hj
    have jk : j < k := by omega
    clear kk0 kk2
    go_wp2_with fail
    refine (once_any 3 (by omega) (by omega) HR).mono ?_
    rintro e x22 ⟨f2, q6, rfl, R_, b_⟩
    replace HS : Hid (Beside r w x22) := HS.out.trans b_
    replace HR : Hid (Rd x22 r s n c q6) := R_
    clear R_ b_
    cases f2
    case true =>
      obtain ⟨y, hy⟩ := HP.out (j * 2) (by omega)
      have cy : x22.cell? ⟨gk, j * 2, none⟩ = some (.int .i64 y) := (HS.out.cell (p := ⟨gk, j * 2, none⟩) kz kr).trans hy
      have kzz : gk < x22.heap.size := Nat.lt_of_lt_of_le kz HS.out.2.2.2.1
      have HS9 := HS.out
      have HR9 := HR.out
      have hb9 : ∀ q, Beside r w (x22.drewN q) := fun q => HS9.trans (Beside.of (bDrewN (Below.refl _ _) _))
      have hr9 : ∀ q, Rd (x22.drewN q) r s n c q6 := fun q => HR9.below (bDrewN (Below.refl _ _) _)
      have hb8 : Beside r w x22.drew := HS9.trans (Beside.of (Below.drew (Below.refl _ _)))
      have hr8 : Rd x22.drew r s n c q6 := HR9.below (Below.drew (Below.refl _ _))
      clear hy HP HR HS C0 CL HX
      go_upto_region 8 with fail
      go_region
      all_goals
        go_wp2
        refine bodyPost_ret (v := .tuple #[.int .i64 xx, .int .i64 y]) (by simp [results, Try.results40, go_sem]) rfl ?_
        first | exact ⟨xx, y, q6, rfl, hr8, hb8⟩ | exact ⟨xx, y, q6, rfl, hr9 _, hb9 _⟩
    case false =>
      obtain ⟨y0, hy0⟩ := HP.out 0 (by omega)
      obtain ⟨jl, hjl⟩ : ∃ jl, k = jl + 1 := ⟨k - 1, by omega⟩
      obtain ⟨yl, hyl⟩ := HP.out (jl * 2) (by omega)
      have Y0 : Hid (w.cell? ⟨gk, 0, none⟩ = some (.int .i64 y0)) := hy0
      have YL : Hid (w.cell? ⟨gk, jl * 2, none⟩ = some (.int .i64 yl)) := hyl
      have hkj : (k : Int) - 1 = (jl : Int) := by omega
      have hjlk : (jl : Int) < (k : Int) := by omega
      have jl61 : (jl : Int) ≤ 60 := by omega
      have kp : (0 : Int) < (k : Int) := by omega
      have c0 : x22.cell? ⟨gk, 0, none⟩ = some (.int .i64 y0) := (HS.out.cell (p := ⟨gk, 0, none⟩) kz kr).trans hy0
      have cl : x22.cell? ⟨gk, jl * 2, none⟩ = some (.int .i64 yl) := (HS.out.cell (p := ⟨gk, jl * 2, none⟩) kz kr).trans hyl
      clear hy0 hyl hjl HP C0 CL HX
      go_upto_region 9 with fail
      refine wp_region_held_drew (S := fun w' => w'.cell? ⟨gk, 0, none⟩ = some (.int .i64 y0) ∧ w'.cell? ⟨gk, jl * 2, none⟩ = some (.int .i64 yl)) (by kernel_rfl) ?_ (fun hHeld => ?_)
      · exact ⟨by simpa [go_sem] using c0, by simpa [go_sem] using cl⟩
      obtain ⟨y0_, hv0⟩ : ∃ z, z = x22.drew := ⟨_, rfl⟩
      try rw [← hv0] at hHeld
      rw [← hv0]
      have bv0 : Below x22.heap.size x22 y0_ := by rw [hv0]; exact Below.drew (Below.refl _ _)
      clear hv0
      replace HS : Hid (Beside r w y0_) := HS.out.trans (Beside.of bv0)
      replace HR : Hid (Rd y0_ r s n c q6) := HR.out.below bv0
      clear bv0 c0 cl
      refine wpAnyH_take (i := 0) (v := .int .i64 xx) rfl (by kernel_rfl) (by kernel_rfl) (by kernel_rfl) (fun _ _ _ h => h) (Or.inl ⟨by kernel_rfl, ?_⟩) hHeld ?_
      · intro w' hSw
        obtain ⟨s0_, s1_⟩ := hSw
        first | (go_simp; done) | (go_simp; with_reducible rfl) | (go_simp; rw [IntKind.wrap_i64]; omega) | (go_simp; omega)
      simp only [Act.put, List.setIfInBounds_toArray, List.set_cons_zero, List.set_cons_succ]
      refine wpAnyH_take (i := 1) (v := .pointer (some ⟨r, 0, none⟩)) rfl (by kernel_rfl) (by kernel_rfl) (by kernel_rfl) (fun _ _ _ h => h) (Or.inl ⟨by kernel_rfl, ?_⟩) hHeld ?_
      · intro w' hSw
        obtain ⟨s0_, s1_⟩ := hSw
        first | (go_simp; done) | (go_simp; with_reducible rfl) | (go_simp; rw [IntKind.wrap_i64]; omega) | (go_simp; omega)
      simp only [Act.put, List.setIfInBounds_toArray, List.set_cons_zero, List.set_cons_succ]
      refine wpAnyH_take (i := 2) (v := .slice (some ⟨gk, 0, none⟩) k cc) rfl (by kernel_rfl) (by kernel_rfl) (by kernel_rfl) (fun _ _ _ h => h) (Or.inl ⟨by kernel_rfl, ?_⟩) hHeld ?_
      · intro w' hSw
        obtain ⟨s0_, s1_⟩ := hSw
        first | (go_simp; done) | (go_simp; with_reducible rfl) | (go_simp; rw [IntKind.wrap_i64]; omega) | (go_simp; omega)
      simp only [Act.put, List.setIfInBounds_toArray, List.set_cons_zero, List.set_cons_succ]
      refine wpAnyH_take (i := 3) (v := .pointer (some ⟨gk, 0, none⟩)) rfl (by kernel_rfl) (by kernel_rfl) (by kernel_rfl) (fun _ _ _ h => h) (Or.inl ⟨by kernel_rfl, ?_⟩) hHeld ?_
      · intro w' hSw
        obtain ⟨s0_, s1_⟩ := hSw
        first | (go_simp; done) | (go_simp; with_reducible rfl) | (go_simp; rw [IntKind.wrap_i64]; omega) | (go_simp; omega)
      simp only [Act.put, List.setIfInBounds_toArray, List.set_cons_zero, List.set_cons_succ]
      refine wpAnyH_take (i := 4) (v := .pointer (some ⟨gk, 0, none⟩)) rfl (by kernel_rfl) (by kernel_rfl) (by kernel_rfl) (fun _ _ _ h => h) (Or.inl ⟨by kernel_rfl, ?_⟩) hHeld ?_
      · intro w' hSw
        obtain ⟨s0_, s1_⟩ := hSw
        first | (go_simp; done) | (go_simp; with_reducible rfl) | (go_simp; rw [IntKind.wrap_i64]; omega) | (go_simp; omega)
      simp only [Act.put, List.setIfInBounds_toArray, List.set_cons_zero, List.set_cons_succ]
      refine wpAnyH_take (i := 5) (v := .int .i64 y0) rfl (by kernel_rfl) (by kernel_rfl) (by kernel_rfl) (fun _ _ _ h => h) (Or.inl ⟨by kernel_rfl, ?_⟩) hHeld ?_
      · intro w' hSw
        obtain ⟨s0_, s1_⟩ := hSw
        first | (go_simp; done) | (go_simp; with_reducible rfl) | (go_simp; rw [IntKind.wrap_i64]; omega) | (go_simp; omega)
      simp only [Act.put, List.setIfInBounds_toArray, List.set_cons_zero, List.set_cons_succ]
      refine wpAnyH_take (i := 6) (v := .slice (some ⟨gk, 0, none⟩) k cc) rfl (by kernel_rfl) (by kernel_rfl) (by kernel_rfl) (fun _ _ _ h => h) (Or.inl ⟨by kernel_rfl, ?_⟩) hHeld ?_
      · intro w' hSw
        obtain ⟨s0_, s1_⟩ := hSw
        first | (go_simp; done) | (go_simp; with_reducible rfl) | (go_simp; rw [IntKind.wrap_i64]; omega) | (go_simp; omega)
      simp only [Act.put, List.setIfInBounds_toArray, List.set_cons_zero, List.set_cons_succ]
      refine wpAnyH_take (i := 7) (v := .slice (some ⟨gk, 0, none⟩) k cc) rfl (by kernel_rfl) (by kernel_rfl) (by kernel_rfl) (fun _ _ _ h => h) (Or.inl ⟨by kernel_rfl, ?_⟩) hHeld ?_
      · intro w' hSw
        obtain ⟨s0_, s1_⟩ := hSw
        first | (go_simp; done) | (go_simp; with_reducible rfl) | (go_simp; rw [IntKind.wrap_i64]; omega) | (go_simp; omega)
      simp only [Act.put, List.setIfInBounds_toArray, List.set_cons_zero, List.set_cons_succ]
      refine wpAnyH_take (i := 8) (v := .int .i64 (k : Int)) rfl (by kernel_rfl) (by kernel_rfl) (by kernel_rfl) (fun _ _ _ h => h) (Or.inl ⟨by kernel_rfl, ?_⟩) hHeld ?_
      · intro w' hSw
        obtain ⟨s0_, s1_⟩ := hSw
        first | (go_simp; done) | (go_simp; with_reducible rfl) | (go_simp; rw [IntKind.wrap_i64]; omega) | (go_simp; omega)
      simp only [Act.put, List.setIfInBounds_toArray, List.set_cons_zero, List.set_cons_succ]
      refine wpAnyH_take (i := 9) (v := .int .i64 (jl : Int)) rfl (by kernel_rfl) (by kernel_rfl) (by kernel_rfl) (fun _ _ _ h => h) (Or.inl ⟨by kernel_rfl, ?_⟩) hHeld ?_
      · intro w' hSw
        obtain ⟨s0_, s1_⟩ := hSw
        first | (go_simp; done) | (go_simp; with_reducible rfl) | (go_simp; rw [IntKind.wrap_i64]; omega) | (go_simp; omega)
      simp only [Act.put, List.setIfInBounds_toArray, List.set_cons_zero, List.set_cons_succ]
      refine wpAnyH_take (i := 10) (v := .pointer (some ⟨gk, jl * 2, none⟩)) rfl (by kernel_rfl) (by kernel_rfl) (by kernel_rfl) (fun _ _ _ h => h) (Or.inl ⟨by kernel_rfl, ?_⟩) hHeld ?_
      · intro w' hSw
        obtain ⟨s0_, s1_⟩ := hSw
        first | (go_simp; done) | (go_simp; with_reducible rfl) | (go_simp; rw [IntKind.wrap_i64]; omega) | (go_simp; omega)
      simp only [Act.put, List.setIfInBounds_toArray, List.set_cons_zero, List.set_cons_succ]
      refine wpAnyH_take (i := 11) (v := .pointer (some ⟨gk, jl * 2, none⟩)) rfl (by kernel_rfl) (by kernel_rfl) (by kernel_rfl) (fun _ _ _ h => h) (Or.inl ⟨by kernel_rfl, ?_⟩) hHeld ?_
      · intro w' hSw
        obtain ⟨s0_, s1_⟩ := hSw
        first | (go_simp; done) | (go_simp; with_reducible rfl) | (go_simp; rw [IntKind.wrap_i64]; omega) | (go_simp; omega)
      simp only [Act.put, List.setIfInBounds_toArray, List.set_cons_zero, List.set_cons_succ]
      refine wpAnyH_take (i := 12) (v := .int .i64 yl) rfl (by kernel_rfl) (by kernel_rfl) (by kernel_rfl) (fun _ _ _ h => h) (Or.inl ⟨by kernel_rfl, ?_⟩) hHeld ?_
      · intro w' hSw
        obtain ⟨s0_, s1_⟩ := hSw
        first | (go_simp; done) | (go_simp; with_reducible rfl) | (go_simp; rw [IntKind.wrap_i64]; omega) | (go_simp; omega)
      simp only [Act.put, List.setIfInBounds_toArray, List.set_cons_zero, List.set_cons_succ]
      refine wpAnyH_ready (rs := [13]) (by kernel_rfl) (by simp) ?_
      refine (AllReadyH.cons rfl (fun KK hK => ?_) AllReadyH.nil)
      go_simp
      go_wp2_with (first | (go_at_call 56; refine (off_all _ _ HR).mono ?_; rintro e y0__1 ⟨yy, q9, rfl, R_, b_⟩; replace HS : Hid (Beside r w y0__1) := HS.out.trans b_; replace HR : Hid (Rd y0__1 r s n c q9) := R_; clear R_ b_))
      refine hK.out _ _ (⟨(HS.out.cell (p := ⟨gk, 0, none⟩) kz kr).trans Y0.out, (HS.out.cell (p := ⟨gk, jl * 2, none⟩) kz kr).trans YL.out⟩) (fun hHeld => ?_)
      clear hK KK
      refine wpAnyH_take (i := 14) (v := .int .i64 xx) rfl (by kernel_rfl) (by kernel_rfl) (by kernel_rfl) (fun _ _ _ h => h) (Or.inl ⟨by kernel_rfl, ?_⟩) hHeld ?_
      · intro w' hSw
        obtain ⟨s0_, s1_⟩ := hSw
        first | (go_simp; done) | (go_simp; with_reducible rfl) | (go_simp; rw [IntKind.wrap_i64]; omega) | (go_simp; omega)
      simp only [Act.put, List.setIfInBounds_toArray, List.set_cons_zero, List.set_cons_succ]
      refine wpAnyH_ready (rs := [15]) (by kernel_rfl) (by simp) ?_
      refine AllReadyH.cons rfl (fun KK hK => ?_) AllReadyH.nil
      go_simp
      refine hK.out _ _ hHeld (fun hHeld => ?_)
      clear hK KK
      refine wpAnyH_done (by kernel_rfl) ?_ _
      clear hHeld
      have HS9 := HS.out
      have HR9 := HR.out
      go_wp2
      refine bodyPost_ret (v := .tuple #[.int .i64 xx, .int .i64 yy]) (by simp [results, Try.results40, go_sem]) rfl ?_
      exact ⟨xx, yy, q9, rfl, HR9, HS9⟩
end Go.Proofs.Ytbabedfbadlhjaa
