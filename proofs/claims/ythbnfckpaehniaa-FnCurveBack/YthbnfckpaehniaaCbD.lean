/-
What is proved: a curve and a height that are drawn from a code: the same code gives the same curve.
-/
import Derived.Test.YthbnfckpaehniaaCuE
import Derived.Deep.RegionHeldLaw
import Derived.BigQuiet
namespace Go.Proofs.Ythbnfckpaehniaa
set_option maxRecDepth 40000
open Go.ChangeShapes Go.WideShapes Go.ChangeAt Go.RowKit
set_option linter.unusedVariables false
set_option linter.unusedSimpArgs false

/-- A code whose bytes are D. -/
def CodeD (w : World) (s : Option Addr) (n : Nat) (D : Nat → Int) : Prop :=
  n ≤ 1048576 ∧ ∀ i, i < n → ∃ g o, s = some ⟨g, o, none⟩ ∧ g < w.heap.size ∧ w.cell? ⟨g, o + i, none⟩ = some (.int .u8 (D i)) ∧ 0 ≤ D i ∧ D i < 256
theorem CodeD.below {w w' : World} {s : Option Addr} {n : Nat} {D : Nat → Int} (h : CodeD w s n D) (hb : Below w.heap.size w w') : CodeD w' s n D :=
  ⟨h.1, fun i hi => by
    obtain ⟨g, o, e, hg, hc, hk⟩ := h.2 i hi
    exact ⟨g, o, e, Nat.lt_of_lt_of_le hg hb.size, (hb.cell (p := ⟨g, o + i, none⟩) hg).trans hc, hk⟩⟩
theorem CodeD.plain {w : World} {s : Option Addr} {n : Nat} {D : Nat → Int} (h : CodeD w s n D) : Code8 w s n := ⟨h.1, fun i hi => by obtain ⟨g, o, e, r⟩ := h.2 i hi; exact ⟨g, o, D i, e, r⟩⟩
theorem Code8.told {w : World} {s : Option Addr} {n : Nat} (h : Code8 w s n) : ∃ D, CodeD w s n D := by
  have key : ∀ i, ∃ k : Int, i < n → ∃ g o, s = some ⟨g, o, none⟩ ∧ g < w.heap.size ∧ w.cell? ⟨g, o + i, none⟩ = some (.int .u8 k) ∧ 0 ≤ k ∧ k < 256 := fun i => by
    by_cases hi : i < n
    · obtain ⟨g, o, k, r⟩ := h.2 i hi
      exact ⟨k, fun _ => ⟨g, o, r⟩⟩
    · exact ⟨0, fun q => (hi q).elim⟩
  exact ⟨fun i => Classical.choose (key i), h.1, fun i hi => Classical.choose_spec (key i) hi⟩
def BakPost (D : Nat → Int) (n : Nat) (w : World) (e : Ending) (w' : World) : Prop := ∃ (t : Option Addr) (m cap : Nat) (U : Nat → Int) (y : Int), e = .returned (.tuple #[.slice t m cap, .int .i64 y]) ∧ 1 ≤ m ∧ m ≤ 14 ∧ RowI w' t (m * 2) U ∧ CuR D n (!onB D n 10 0) (beP n 10 0) m U ∧ Below w.heap.size w w'
set_option maxRecDepth 20000 in
set_option maxHeartbeats 4000000 in
theorem drawBack_d {s : Option Addr} {n c : Nat} {D : Nat → Int} {w : World} (h : Hid (CodeD w s n D)) :
    Calls Try.prog 8 #[.slice s n c] w fun e w' => BakPost D n w e w' := by
  go_enter Try.func8, Try.ntmps8
  go_wp2_with fail
  refine (open_any (h.out.plain.below (by repeat (first | with_reducible exact Below.refl _ _ | with_reducible refine Below.setCell ?_ (by first | omega | (simp; done) | (simp; omega)) _ | with_reducible refine bDrewN ?_ _ | with_reducible refine Below.drew ?_ | with_reducible refine Below.alloc ?_ (by first | omega | (simp; done) | (simp; omega)) _)))).mono ?_
  rintro e w1 ⟨rfl, R_, b_⟩
  have HR : Hid (RdD w1 w.heap.size s n c 0 D) := by
    show RdD _ _ _ _ _ _ _
    obtain ⟨h1, h2, h3, h4, h5, h6, -⟩ := R_
    exact ⟨h1, h2, h3, h4, h5, h6, fun i hi => by
      obtain ⟨g, o, e, hg, hc, hk⟩ := h.out.2 i hi
      exact ⟨g, o, e, hg, (b_.cell (p := ⟨g, o + i, none⟩) hg).trans hc, hk⟩⟩
  have HB : Hid (Below w.heap.size w w1) := b_
  obtain ⟨r, hr⟩ : ∃ r, r = w.heap.size := ⟨_, rfl⟩
  rw [← hr] at HR ⊢
  have zr : w.heap.size ≤ r := by omega
  clear R_ b_ h hr
  go_wp2_with fail
  refine (once_d 10 (by omega) (by omega) HR).mono ?_
  rintro e w2 ⟨f1, p1, rfl, q1, hR, bS⟩
  have z1 : r < w1.heap.size := HR.out.1
  replace HR : Hid (RdD w2 r s n c p1 D) := hR
  replace HB : Hid (Below w.heap.size w w2) := HB.out.trans (bS.below (by omega) HB.out.size)
  have Q1 : Hid (onB D n 10 0 = f1 ∧ beP n 10 0 = p1) := q1
  clear hR bS z1 q1
  have HCV : Hid (Calls Try.prog 19 #[.pointer (some ⟨r, 0, none⟩), .bool (!f1)] w2 fun e w' => CurPost2 D (!f1) p1 r s n c w2 e w') := by
    cases f1
    · exact curve_true HR
    · exact curve_false HR
  obtain ⟨nf, hnf⟩ : ∃ z, (!f1) = z := ⟨_, rfl⟩
  have HNF : Hid ((!f1) = nf) := hnf
  rw [hnf] at HCV
  go_wp2_with fail
  try rw [hnf]
  clear hnf
  refine HCV.out.mono ?_
  rintro e w3 hC
  unfold CurPost2 at hC
  obtain ⟨t, m, cap, U, p2, rfl, m1, m14, hO, hCR, hR, bS⟩ := hC
  have z2 : r < w2.heap.size := HR.out.1
  have zw2 : w.heap.size ≤ w2.heap.size := HB.out.size
  replace HR : Hid (RdD w3 r s n c p2 D) := hR
  replace HB : Hid (Below w.heap.size w w3) := HB.out.trans (bS.below (by omega) HB.out.size)
  have HCR : Hid (CuR D n (!onB D n 10 0) (beP n 10 0) m U) := by show CuR _ _ _ _ _ _; rw [Q1.out.1, Q1.out.2, HNF.out]; exact hCR
  have HO : Hid (OwnI (r + 1) w3 t (m * 2) U) := fun j hj => by obtain ⟨b, e, hB, q⟩ := hO j hj; exact ⟨b, e, by omega, q⟩
  clear hO hCR hR bS z2 HCV Q1 HNF
  obtain ⟨g, rfl, gb, gz, -, -⟩ := HO.out 0 (by omega)
  obtain ⟨ml, hml⟩ : ∃ ml, m = ml + 1 := ⟨m - 1, by omega⟩
  have Y0 : Hid (w3.cell? ⟨g, 1, none⟩ = some (.int .i64 (U 1))) := by obtain ⟨b, e, _, _, hc, _⟩ := HO.out 1 (by omega); cases e; exact hc
  have YL : Hid (w3.cell? ⟨g, ml * 2 + 1, none⟩ = some (.int .i64 (U (ml * 2 + 1)))) := by obtain ⟨b, e, _, _, hc, _⟩ := HO.out (ml * 2 + 1) (by omega); cases e; exact hc
  obtain ⟨y0, hy0⟩ : ∃ z, U 1 = z := ⟨_, rfl⟩
  obtain ⟨yl, hyl⟩ : ∃ z, U (ml * 2 + 1) = z := ⟨_, rfl⟩
  rw [hy0] at Y0
  rw [hyl] at YL
  have hki : (m : Int) - 1 = (ml : Int) := by omega
  have hlm : (ml : Int) < (m : Int) := by omega
  have hml5 : (ml : Int) ≤ 14 := by omega
  have mp : (0 : Int) < (m : Int) := by omega
  have gr : g ≠ r := by omega
  have HRow : Hid (∀ W, Beside r w3 W → RowI W (some ⟨g, 0, none⟩) (m * 2) U) := fun W hb => (ownB_beside HO.out hb (by omega)).row
  have c0 := Y0.out
  have cl := YL.out
  have HS : Hid (Beside r w3 w3) := Beside.of (Below.refl _ _)
  have HRp : Hid (Rd w3 r s n c p2) := HR.out.plain
  have zr3 : r < w3.heap.size := HR.out.1
  clear hy0 hyl hml HO HR
  go_upto_region 3 with fail
  refine wp_region_held_drew (S := fun w' => w'.cell? ⟨g, 1, none⟩ = some (.int .i64 y0) ∧ w'.cell? ⟨g, ml * 2 + 1, none⟩ = some (.int .i64 yl)) (by kernel_rfl) ?_ (fun hHeld => ?_)
  · exact ⟨by simpa [go_sem] using c0, by simpa [go_sem] using cl⟩
  obtain ⟨v0, hv0⟩ : ∃ z, z = w3.drew := ⟨_, rfl⟩
  try rw [← hv0] at hHeld
  rw [← hv0]
  have bv0 : Below w3.heap.size w3 v0 := by rw [hv0]; exact Below.drew (Below.refl _ _)
  clear hv0
  replace HS : Hid (Beside r w3 v0) := HS.out.trans (Beside.of bv0)
  replace HRp : Hid (Rd v0 r s n c p2) := HRp.out.below bv0
  clear bv0 c0 cl
  refine wpAnyH_take (i := 0) (v := .slice (some ⟨g, 0, none⟩) m cap) rfl (by kernel_rfl) (by kernel_rfl) (by kernel_rfl) (fun _ _ _ h => h) (Or.inl ⟨by kernel_rfl, ?_⟩) hHeld ?_
  · intro w' hSw
    obtain ⟨s0_, s1_⟩ := hSw
    first | (go_simp; done) | (go_simp; with_reducible rfl) | (go_simp; rw [IntKind.wrap_i64]; omega) | (go_simp; omega)
  simp only [Act.put, List.setIfInBounds_toArray, List.set_cons_zero, List.set_cons_succ]
  refine wpAnyH_take (i := 1) (v := .pointer (some ⟨r, 0, none⟩)) rfl (by kernel_rfl) (by kernel_rfl) (by kernel_rfl) (fun _ _ _ h => h) (Or.inl ⟨by kernel_rfl, ?_⟩) hHeld ?_
  · intro w' hSw
    obtain ⟨s0_, s1_⟩ := hSw
    first | (go_simp; done) | (go_simp; with_reducible rfl) | (go_simp; rw [IntKind.wrap_i64]; omega) | (go_simp; omega)
  simp only [Act.put, List.setIfInBounds_toArray, List.set_cons_zero, List.set_cons_succ]
  refine wpAnyH_take (i := 2) (v := .slice (some ⟨g, 0, none⟩) m cap) rfl (by kernel_rfl) (by kernel_rfl) (by kernel_rfl) (fun _ _ _ h => h) (Or.inl ⟨by kernel_rfl, ?_⟩) hHeld ?_
  · intro w' hSw
    obtain ⟨s0_, s1_⟩ := hSw
    first | (go_simp; done) | (go_simp; with_reducible rfl) | (go_simp; rw [IntKind.wrap_i64]; omega) | (go_simp; omega)
  simp only [Act.put, List.setIfInBounds_toArray, List.set_cons_zero, List.set_cons_succ]
  refine wpAnyH_take (i := 3) (v := .pointer (some ⟨g, 0, none⟩)) rfl (by kernel_rfl) (by kernel_rfl) (by kernel_rfl) (fun _ _ _ h => h) (Or.inl ⟨by kernel_rfl, ?_⟩) hHeld ?_
  · intro w' hSw
    obtain ⟨s0_, s1_⟩ := hSw
    first | (go_simp; done) | (go_simp; with_reducible rfl) | (go_simp; rw [IntKind.wrap_i64]; omega) | (go_simp; omega)
  simp only [Act.put, List.setIfInBounds_toArray, List.set_cons_zero, List.set_cons_succ]
  refine wpAnyH_take (i := 4) (v := .pointer (some ⟨g, 1, none⟩)) rfl (by kernel_rfl) (by kernel_rfl) (by kernel_rfl) (fun _ _ _ h => h) (Or.inl ⟨by kernel_rfl, ?_⟩) hHeld ?_
  · intro w' hSw
    obtain ⟨s0_, s1_⟩ := hSw
    first | (go_simp; done) | (go_simp; with_reducible rfl) | (go_simp; rw [IntKind.wrap_i64]; omega) | (go_simp; omega)
  simp only [Act.put, List.setIfInBounds_toArray, List.set_cons_zero, List.set_cons_succ]
  refine wpAnyH_take (i := 5) (v := .int .i64 y0) rfl (by kernel_rfl) (by kernel_rfl) (by kernel_rfl) (fun _ _ _ h => h) (Or.inl ⟨by kernel_rfl, ?_⟩) hHeld ?_
  · intro w' hSw
    obtain ⟨s0_, s1_⟩ := hSw
    first | (go_simp; done) | (go_simp; with_reducible rfl) | (go_simp; rw [IntKind.wrap_i64]; omega) | (go_simp; omega)
  simp only [Act.put, List.setIfInBounds_toArray, List.set_cons_zero, List.set_cons_succ]
  refine wpAnyH_take (i := 6) (v := .slice (some ⟨g, 0, none⟩) m cap) rfl (by kernel_rfl) (by kernel_rfl) (by kernel_rfl) (fun _ _ _ h => h) (Or.inl ⟨by kernel_rfl, ?_⟩) hHeld ?_
  · intro w' hSw
    obtain ⟨s0_, s1_⟩ := hSw
    first | (go_simp; done) | (go_simp; with_reducible rfl) | (go_simp; rw [IntKind.wrap_i64]; omega) | (go_simp; omega)
  simp only [Act.put, List.setIfInBounds_toArray, List.set_cons_zero, List.set_cons_succ]
  refine wpAnyH_take (i := 7) (v := .slice (some ⟨g, 0, none⟩) m cap) rfl (by kernel_rfl) (by kernel_rfl) (by kernel_rfl) (fun _ _ _ h => h) (Or.inl ⟨by kernel_rfl, ?_⟩) hHeld ?_
  · intro w' hSw
    obtain ⟨s0_, s1_⟩ := hSw
    first | (go_simp; done) | (go_simp; with_reducible rfl) | (go_simp; rw [IntKind.wrap_i64]; omega) | (go_simp; omega)
  simp only [Act.put, List.setIfInBounds_toArray, List.set_cons_zero, List.set_cons_succ]
  refine wpAnyH_take (i := 8) (v := .int .i64 (m : Int)) rfl (by kernel_rfl) (by kernel_rfl) (by kernel_rfl) (fun _ _ _ h => h) (Or.inl ⟨by kernel_rfl, ?_⟩) hHeld ?_
  · intro w' hSw
    obtain ⟨s0_, s1_⟩ := hSw
    first | (go_simp; done) | (go_simp; with_reducible rfl) | (go_simp; rw [IntKind.wrap_i64]; omega) | (go_simp; omega)
  simp only [Act.put, List.setIfInBounds_toArray, List.set_cons_zero, List.set_cons_succ]
  refine wpAnyH_take (i := 9) (v := .int .i64 (ml : Int)) rfl (by kernel_rfl) (by kernel_rfl) (by kernel_rfl) (fun _ _ _ h => h) (Or.inl ⟨by kernel_rfl, ?_⟩) hHeld ?_
  · intro w' hSw
    obtain ⟨s0_, s1_⟩ := hSw
    first | (go_simp; done) | (go_simp; with_reducible rfl) | (go_simp; rw [IntKind.wrap_i64]; omega) | (go_simp; omega)
  simp only [Act.put, List.setIfInBounds_toArray, List.set_cons_zero, List.set_cons_succ]
  refine wpAnyH_take (i := 10) (v := .pointer (some ⟨g, ml * 2, none⟩)) rfl (by kernel_rfl) (by kernel_rfl) (by kernel_rfl) (fun _ _ _ h => h) (Or.inl ⟨by kernel_rfl, ?_⟩) hHeld ?_
  · intro w' hSw
    obtain ⟨s0_, s1_⟩ := hSw
    first | (go_simp; done) | (go_simp; with_reducible rfl) | (go_simp; rw [IntKind.wrap_i64]; omega) | (go_simp; omega)
  simp only [Act.put, List.setIfInBounds_toArray, List.set_cons_zero, List.set_cons_succ]
  refine wpAnyH_take (i := 11) (v := .pointer (some ⟨g, ml * 2 + 1, none⟩)) rfl (by kernel_rfl) (by kernel_rfl) (by kernel_rfl) (fun _ _ _ h => h) (Or.inl ⟨by kernel_rfl, ?_⟩) hHeld ?_
  · intro w' hSw
    obtain ⟨s0_, s1_⟩ := hSw
    first | (go_simp; done) | (go_simp; with_reducible rfl) | (go_simp; rw [IntKind.wrap_i64]; omega) | (go_simp; omega)
  simp only [Act.put, List.setIfInBounds_toArray, List.set_cons_zero, List.set_cons_succ]
  refine wpAnyH_take (i := 12) (v := .int .i64 yl) rfl (by kernel_rfl) (by kernel_rfl) (by kernel_rfl) (fun _ _ _ h => h) (Or.inl ⟨by kernel_rfl, ?_⟩) hHeld ?_
  · intro w' hSw
    obtain ⟨s0_, s1_⟩ := hSw
    first | (go_simp; done) | (go_simp; with_reducible rfl) | (go_simp; rw [IntKind.wrap_i64]; omega) | (go_simp; omega)
  simp only [Act.put, List.setIfInBounds_toArray, List.set_cons_zero, List.set_cons_succ]
  refine wpAnyH_ready (rs := [13]) (by kernel_rfl) (by simp) ?_
  refine (AllReadyH.cons rfl (fun KK hK => ?_) AllReadyH.nil)
  go_simp
  go_wp2_with (first | (go_at_call 21; refine (off_all _ _ HRp).mono ?_; rintro e v0_1 ⟨yy, q9, rfl, R_, b_⟩; replace HS : Hid (Beside r w3 v0_1) := HS.out.trans b_; replace HRp : Hid (Rd v0_1 r s n c q9) := R_; clear R_ b_))
  refine hK.out _ _ (⟨(HS.out.cell (p := ⟨g, 1, none⟩) gz gr).trans Y0.out, (HS.out.cell (p := ⟨g, ml * 2 + 1, none⟩) gz gr).trans YL.out⟩) (fun hHeld => ?_)
  clear hK KK
  refine wpAnyH_take (i := 14) (v := .slice (some ⟨g, 0, none⟩) m cap) rfl (by kernel_rfl) (by kernel_rfl) (by kernel_rfl) (fun _ _ _ h => h) (Or.inl ⟨by kernel_rfl, ?_⟩) hHeld ?_
  · intro w' hSw
    obtain ⟨s0_, s1_⟩ := hSw
    first | (go_simp; done) | (go_simp; with_reducible rfl) | (go_simp; rw [IntKind.wrap_i64]; omega) | (go_simp; omega)
  simp only [Act.put, List.setIfInBounds_toArray, List.set_cons_zero, List.set_cons_succ]
  refine wpAnyH_ready (rs := [15]) (by kernel_rfl) (by simp) ?_
  refine AllReadyH.cons rfl (fun KK hK => ?_) AllReadyH.nil
  go_simp
  refine hK.out _ _ hHeld (fun hHeld => ?_)
  clear hK KK
  refine wpAnyH_done (by kernel_rfl) ?_ _
  clear hHeld
  have RF := HRow.out v0_1 HS.out
  have BF : Below w.heap.size w v0_1 := HB.out.trans (HS.out.below (by omega) HB.out.size)
  have CF := HCR.out
  clear HRow HS HB HCR
  go_wp2
  refine bodyPost_ret (v := .tuple #[.slice (some ⟨g, 0, none⟩) m cap, .int .i64 yy]) (by simp [results, Try.results8, go_sem]) rfl ?_
  exact ⟨_, m, cap, U, yy, rfl, m1, m14, RF, CF, BF⟩
end Go.Proofs.Ythbnfckpaehniaa
