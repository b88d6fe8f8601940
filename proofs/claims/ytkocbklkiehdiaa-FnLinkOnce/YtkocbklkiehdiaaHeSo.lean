/-
What is proved: what a link hears, as the specification tells it.
-/
import Derived.Test.YtkocbklkiehdiaaHe
import Derived.Test.YtkocbklkiehdiaaLkYo
import Derived.Test.YtkocbklkiehdiaaRfSo
namespace Go.Proofs.Ytkocbklkiehdiaa
set_option maxRecDepth 40000
open Go.RowKit
set_option linter.unusedVariables false
set_option linter.unusedSimpArgs false

theorem alloc_cellS {w : World} {o : Obj} {p i : Nat} (h : p < w.heap.size) : (w.alloc o).cell? ⟨p, i, none⟩ = w.cell? ⟨p, i, none⟩ := (below0 w o).cell (p := ⟨p, i, none⟩) h
theorem alloc_frozenS {w : World} {o : Obj} {p i : Nat} (h : p < w.heap.size) : (w.alloc o).frozen? ⟨p, i, none⟩ = w.frozen? ⟨p, i, none⟩ := (below0 w o).frozen (p := ⟨p, i, none⟩) h
set_option maxRecDepth 20000 in
set_option maxHeartbeats 8000000 in
theorem specHearO (t : Int) (h : Bool) (q a l : Int) (ad : Option Addr) (n c : Nat) (V : Nat → Int) (sy : Option Addr) (n2 cp : Nat) (V2 : Nat → Int) (w : World) (hn : (n : Int) ≤ 1048576) (hn2 : (n2 : Int) ≤ 1048576) (hcap : n2 ≤ cp) (hS : sy = none ∨ ∃ b, sy = some ⟨b, 0, none⟩) (hV2 : Hid (∀ j, j < n2 → 0 ≤ V2 j ∧ V2 j < 256)) (HR : Hid (RowI w ad n V)) (HY : Hid (RowY w sy n2 V2)) :
    Calls Try.prog 10 #[.agg #[.int .i64 t, .bool h, .int .i64 q, .int .i64 a, .int .i64 l, .slice ad n c], .slice sy n2 cp] w fun e w' => HePost w (heV t h q a l n V n2 V2) e w' := by
  have sto := store_sl
  have R0 : Hid (RowI ((w.alloc (.cells #[.int .i64 t, .bool h, .int .i64 q, .int .i64 a, .int .i64 l, .slice ad n c] 26)).alloc (.cells #[.int .i64 0, .bool false, .int .i64 0, .int .i64 0, .int .i64 0, .slice none 0 0] 26)) ad n V) := HR.out.below (by repeat (first | with_reducible exact Below.refl _ _ | with_reducible refine Below.setCell ?_ (by first | omega | (simp; done) | (simp; omega)) _ | with_reducible refine bDrewN ?_ _ | with_reducible refine Below.drew ?_ | with_reducible refine Below.alloc ?_ (by first | omega | (simp; done) | (simp; omega)) _))
  go_enter Try.func10, Try.ntmps10
  go_wp2_with fail
  refine (l13Link_any t h q a l ad n c V _ R0.out).mono ?_
  rintro e w1 ⟨rfl, h1⟩
  obtain ⟨hc, hf⟩ := bcell h1
  have q0 := hc w.heap.size 0 (by first | omega | (simp; done) | (simp; omega))
  have q1 := hc w.heap.size 1 (by first | omega | (simp; done) | (simp; omega))
  have q2 := hc w.heap.size 2 (by first | omega | (simp; done) | (simp; omega))
  have q3 := hc w.heap.size 3 (by first | omega | (simp; done) | (simp; omega))
  have q4 := hc w.heap.size 4 (by first | omega | (simp; done) | (simp; omega))
  have q5 := hc w.heap.size 5 (by first | omega | (simp; done) | (simp; omega))
  have r0 := hc (w.heap.size + 1) 0 (by first | omega | (simp; done) | (simp; omega))
  have r1 := hc (w.heap.size + 1) 1 (by first | omega | (simp; done) | (simp; omega))
  have r2 := hc (w.heap.size + 1) 2 (by first | omega | (simp; done) | (simp; omega))
  have r3 := hc (w.heap.size + 1) 3 (by first | omega | (simp; done) | (simp; omega))
  have r4 := hc (w.heap.size + 1) 4 (by first | omega | (simp; done) | (simp; omega))
  have r5 := hc (w.heap.size + 1) 5 (by first | omega | (simp; done) | (simp; omega))
  have f0 := hf (w.heap.size + 1) 0 (by first | omega | (simp; done) | (simp; omega))
  have f1 := hf (w.heap.size + 1) 1 (by first | omega | (simp; done) | (simp; omega))
  have f2 := hf (w.heap.size + 1) 2 (by first | omega | (simp; done) | (simp; omega))
  have f3 := hf (w.heap.size + 1) 3 (by first | omega | (simp; done) | (simp; omega))
  have f4 := hf (w.heap.size + 1) 4 (by first | omega | (simp; done) | (simp; omega))
  have f5 := hf (w.heap.size + 1) 5 (by first | omega | (simp; done) | (simp; omega))
  simp [go_sem] at q0 q1 q2 q3 q4 q5 r0 r1 r2 r3 r4 r5 f0 f1 f2 f3 f4 f5
  have z1 : w.heap.size + 1 + 1 ≤ w1.heap.size := by have := h1.size; simp at this; exact this
  have B1 : Below w.heap.size w w1 := Below.trans (by repeat (first | with_reducible exact Below.refl _ _ | with_reducible refine Below.setCell ?_ (by first | omega | (simp; done) | (simp; omega)) _ | with_reducible refine bDrewN ?_ _ | with_reducible refine Below.drew ?_ | with_reducible refine Below.alloc ?_ (by first | omega | (simp; done) | (simp; omega)) _)) (h1.mono (by first | omega | (simp; done) | (simp; omega)))
  clear hc hf h1
  cases k0 : linkB t h q a l n V
  · have HE : Hid (heV t h q a l n V n2 V2 = ⟨8, 0, false, 0, 0, 0, 0, V⟩) := he8 k0
    go_wp2
    exact bodyPost_ret (v := .tuple #[.agg #[.int .i64 0, .bool false, .int .i64 0, .int .i64 0, .int .i64 0, .slice none 0 0], .int .i64 8]) (by simp [results, Try.results10, go_sem, r0, r1, r2, r3, r4, r5]) rfl (he_post HE.out ⟨none, 0, rfl, fun j hj => absurd hj (Nat.not_lt_zero j), (by repeat (first | with_reducible exact Below.refl _ _ | with_reducible exact B1 | with_reducible refine Below.setCell ?_ (by first | omega | (simp; done) | (simp; omega)) _ | with_reducible refine bDrewN ?_ _ | with_reducible refine Below.drew ?_ | with_reducible refine Below.alloc ?_ (by first | omega | (simp; done) | (simp; omega)) _))⟩)
  obtain ⟨⟨q1', q2'⟩, _, ⟨l1, l2⟩, hl0, _⟩ := link_parts k0
  obtain ⟨x1, x2⟩ := rdQ_lt hV2.out
  go_wp2_with fail
  refine (specReadO sy n2 cp V2 w1 hn2 hcap hS hV2 (HY.out.below B1)).mono ?_
  rintro e w2 ⟨s2, c2, rfl, O2, h2⟩
  replace q0 := (h2.cell (p := ⟨w.heap.size, 0, none⟩) (by show w.heap.size < _; omega)).trans q0
  replace q1 := (h2.cell (p := ⟨w.heap.size, 1, none⟩) (by show w.heap.size < _; omega)).trans q1
  replace q2 := (h2.cell (p := ⟨w.heap.size, 2, none⟩) (by show w.heap.size < _; omega)).trans q2
  replace q3 := (h2.cell (p := ⟨w.heap.size, 3, none⟩) (by show w.heap.size < _; omega)).trans q3
  replace q4 := (h2.cell (p := ⟨w.heap.size, 4, none⟩) (by show w.heap.size < _; omega)).trans q4
  replace q5 := (h2.cell (p := ⟨w.heap.size, 5, none⟩) (by show w.heap.size < _; omega)).trans q5
  replace r0 := (h2.cell (p := ⟨w.heap.size + 1, 0, none⟩) (by show w.heap.size + 1 < _; omega)).trans r0
  replace r1 := (h2.cell (p := ⟨w.heap.size + 1, 1, none⟩) (by show w.heap.size + 1 < _; omega)).trans r1
  replace r2 := (h2.cell (p := ⟨w.heap.size + 1, 2, none⟩) (by show w.heap.size + 1 < _; omega)).trans r2
  replace r3 := (h2.cell (p := ⟨w.heap.size + 1, 3, none⟩) (by show w.heap.size + 1 < _; omega)).trans r3
  replace r4 := (h2.cell (p := ⟨w.heap.size + 1, 4, none⟩) (by show w.heap.size + 1 < _; omega)).trans r4
  replace r5 := (h2.cell (p := ⟨w.heap.size + 1, 5, none⟩) (by show w.heap.size + 1 < _; omega)).trans r5
  replace f0 := (h2.frozen (p := ⟨w.heap.size + 1, 0, none⟩) (by show w.heap.size + 1 < _; omega)).trans f0
  replace f1 := (h2.frozen (p := ⟨w.heap.size + 1, 1, none⟩) (by show w.heap.size + 1 < _; omega)).trans f1
  replace f2 := (h2.frozen (p := ⟨w.heap.size + 1, 2, none⟩) (by show w.heap.size + 1 < _; omega)).trans f2
  replace f3 := (h2.frozen (p := ⟨w.heap.size + 1, 3, none⟩) (by show w.heap.size + 1 < _; omega)).trans f3
  replace f4 := (h2.frozen (p := ⟨w.heap.size + 1, 4, none⟩) (by show w.heap.size + 1 < _; omega)).trans f4
  replace f5 := (h2.frozen (p := ⟨w.heap.size + 1, 5, none⟩) (by show w.heap.size + 1 < _; omega)).trans f5
  have z2 : w.heap.size + 1 + 1 ≤ w2.heap.size := Nat.le_trans z1 h2.size
  have y0 : w.heap.size < w2.heap.size := by omega
  have y1 : w.heap.size + 1 < w2.heap.size := by omega
  have y2 : w.heap.size < w2.heap.size + 1 := by omega
  have y3 : w.heap.size + 1 < w2.heap.size + 1 := by omega
  have m1 : ¬ w.heap.size + 1 = w2.heap.size := by omega
  have m2 : ¬ w.heap.size + 1 = w2.heap.size + 1 := by omega
  have m3 : ¬ w.heap.size = w2.heap.size := by omega
  have m4 : ¬ w.heap.size = w2.heap.size + 1 := by omega
  have B2 : Below w.heap.size w w2 := B1.trans (h2.mono B1.size)
  have R2 : Hid (RowI w2 ad n V) := HR.out.below B2
  have HO2 : Hid (OwnI (w.heap.size + 1 + 1) w2 s2 (rdN n2 V2) (rdU V2)) := O2.mono z1
  clear h2 O2
  by_cases k1 : faultV n2 V2 = 0
  case neg =>
    have fb1 : (faultV n2 V2 == 0) = false := by simp [k1]
    have fb2 : (faultV n2 V2 != 0) = true := by simp [k1]
    have HE : Hid (heV t h q a l n V n2 V2 = ⟨faultV n2 V2, t, h, q, a, l, n, V⟩) := heF k0 k1
    go_wp2_with fail
    refine (l13CopyO t h q a l ad n c V _ hn (R2.out.below (by repeat (first | with_reducible exact Below.refl _ _ | with_reducible refine Below.setCell ?_ (by first | omega | (simp; done) | (simp; omega)) _ | with_reducible refine bDrewN ?_ _ | with_reducible refine Below.drew ?_ | with_reducible refine Below.alloc ?_ (by first | omega | (simp; done) | (simp; omega)) _)))).mono ?_
    rintro e w3 ⟨s3, c3, rfl, O3, h3⟩
    obtain ⟨hc, hf⟩ := bcell h3
    have g0 := hc (w.heap.size + 1) 0 (by first | omega | (simp; done) | (simp; omega))
    have g1 := hc (w.heap.size + 1) 1 (by first | omega | (simp; done) | (simp; omega))
    have g2 := hc (w.heap.size + 1) 2 (by first | omega | (simp; done) | (simp; omega))
    have g3 := hc (w.heap.size + 1) 3 (by first | omega | (simp; done) | (simp; omega))
    have g4 := hc (w.heap.size + 1) 4 (by first | omega | (simp; done) | (simp; omega))
    have g5 := hc (w.heap.size + 1) 5 (by first | omega | (simp; done) | (simp; omega))
    have e0 := hf (w.heap.size + 1) 0 (by first | omega | (simp; done) | (simp; omega))
    have e1 := hf (w.heap.size + 1) 1 (by first | omega | (simp; done) | (simp; omega))
    have e2 := hf (w.heap.size + 1) 2 (by first | omega | (simp; done) | (simp; omega))
    have e3 := hf (w.heap.size + 1) 3 (by first | omega | (simp; done) | (simp; omega))
    have e4 := hf (w.heap.size + 1) 4 (by first | omega | (simp; done) | (simp; omega))
    have e5 := hf (w.heap.size + 1) 5 (by first | omega | (simp; done) | (simp; omega))
    rw [alloc_cellS (by omega), r0] at g0
    rw [alloc_frozenS (by omega), f0] at e0
    rw [alloc_cellS (by omega), r1] at g1
    rw [alloc_frozenS (by omega), f1] at e1
    rw [alloc_cellS (by omega), r2] at g2
    rw [alloc_frozenS (by omega), f2] at e2
    rw [alloc_cellS (by omega), r3] at g3
    rw [alloc_frozenS (by omega), f3] at e3
    rw [alloc_cellS (by omega), r4] at g4
    rw [alloc_frozenS (by omega), f4] at e4
    rw [alloc_cellS (by omega), r5] at g5
    rw [alloc_frozenS (by omega), f5] at e5
    have z3 : w.heap.size + 1 + 1 ≤ w3.heap.size := by have := h3.size; simp at this; omega
    have B3 : Below w.heap.size w w3 := Below.trans (by repeat (first | with_reducible exact Below.refl _ _ | with_reducible exact B2 | with_reducible refine Below.setCell ?_ (by first | omega | (simp; done) | (simp; omega)) _ | with_reducible refine bDrewN ?_ _ | with_reducible refine Below.drew ?_ | with_reducible refine Below.alloc ?_ (by first | omega | (simp; done) | (simp; omega)) _)) (h3.mono (by first | omega | (simp; done) | (simp; omega)))
    have HO3 : Hid (OwnI (w.heap.size + 1 + 1) w3 s3 n V) := O3.mono (by first | omega | (simp; done) | (simp; omega))
    clear hc hf h3 O3
    go_wp2
    exact bodyPost_ret (v := .tuple #[.agg #[.int .i64 t, .bool h, .int .i64 q, .int .i64 a, .int .i64 l, .slice s3 n c3], .int .i64 (faultV n2 V2)]) (by simp [results, Try.results10, go_sem, g0, g1, g2, g3, g4, g5]) rfl (he_post HE.out ⟨s3, c3, rfl, (by refine OwnI.mono (base := w.heap.size + 1 + 1) ?_ (by omega); repeat (first | with_reducible exact HO3.out | with_reducible refine OwnI.set ?_ (by omega) | with_reducible refine own_alloc ?_)), (by repeat (first | with_reducible exact Below.refl _ _ | with_reducible exact B3 | with_reducible refine Below.setCell ?_ (by first | omega | (simp; done) | (simp; omega)) _ | with_reducible refine bDrewN ?_ _ | with_reducible refine Below.drew ?_ | with_reducible refine Below.alloc ?_ (by first | omega | (simp; done) | (simp; omega)) _))⟩)
  rw [k1]
  by_cases t0 : rdT n2 V2 = t
  case neg =>
    have tb : (rdT n2 V2 != t) = true := by simp [t0]
    have HE : Hid (heV t h q a l n V n2 V2 = ⟨6, t, h, q, a, l, n, V⟩) := he6 k0 k1 t0
    go_wp2_with fail
    refine (l13CopyO t h q a l ad n c V _ hn (R2.out.below (by repeat (first | with_reducible exact Below.refl _ _ | with_reducible refine Below.setCell ?_ (by first | omega | (simp; done) | (simp; omega)) _ | with_reducible refine bDrewN ?_ _ | with_reducible refine Below.drew ?_ | with_reducible refine Below.alloc ?_ (by first | omega | (simp; done) | (simp; omega)) _)))).mono ?_
    rintro e w3 ⟨s3, c3, rfl, O3, h3⟩
    obtain ⟨hc, hf⟩ := bcell h3
    have g0 := hc (w.heap.size + 1) 0 (by first | omega | (simp; done) | (simp; omega))
    have g1 := hc (w.heap.size + 1) 1 (by first | omega | (simp; done) | (simp; omega))
    have g2 := hc (w.heap.size + 1) 2 (by first | omega | (simp; done) | (simp; omega))
    have g3 := hc (w.heap.size + 1) 3 (by first | omega | (simp; done) | (simp; omega))
    have g4 := hc (w.heap.size + 1) 4 (by first | omega | (simp; done) | (simp; omega))
    have g5 := hc (w.heap.size + 1) 5 (by first | omega | (simp; done) | (simp; omega))
    have e0 := hf (w.heap.size + 1) 0 (by first | omega | (simp; done) | (simp; omega))
    have e1 := hf (w.heap.size + 1) 1 (by first | omega | (simp; done) | (simp; omega))
    have e2 := hf (w.heap.size + 1) 2 (by first | omega | (simp; done) | (simp; omega))
    have e3 := hf (w.heap.size + 1) 3 (by first | omega | (simp; done) | (simp; omega))
    have e4 := hf (w.heap.size + 1) 4 (by first | omega | (simp; done) | (simp; omega))
    have e5 := hf (w.heap.size + 1) 5 (by first | omega | (simp; done) | (simp; omega))
    rw [alloc_cellS (by omega), r0] at g0
    rw [alloc_frozenS (by omega), f0] at e0
    rw [alloc_cellS (by omega), r1] at g1
    rw [alloc_frozenS (by omega), f1] at e1
    rw [alloc_cellS (by omega), r2] at g2
    rw [alloc_frozenS (by omega), f2] at e2
    rw [alloc_cellS (by omega), r3] at g3
    rw [alloc_frozenS (by omega), f3] at e3
    rw [alloc_cellS (by omega), r4] at g4
    rw [alloc_frozenS (by omega), f4] at e4
    rw [alloc_cellS (by omega), r5] at g5
    rw [alloc_frozenS (by omega), f5] at e5
    have z3 : w.heap.size + 1 + 1 ≤ w3.heap.size := by have := h3.size; simp at this; omega
    have B3 : Below w.heap.size w w3 := Below.trans (by repeat (first | with_reducible exact Below.refl _ _ | with_reducible exact B2 | with_reducible refine Below.setCell ?_ (by first | omega | (simp; done) | (simp; omega)) _ | with_reducible refine bDrewN ?_ _ | with_reducible refine Below.drew ?_ | with_reducible refine Below.alloc ?_ (by first | omega | (simp; done) | (simp; omega)) _)) (h3.mono (by first | omega | (simp; done) | (simp; omega)))
    have HO3 : Hid (OwnI (w.heap.size + 1 + 1) w3 s3 n V) := O3.mono (by first | omega | (simp; done) | (simp; omega))
    clear hc hf h3 O3
    go_wp2
    exact bodyPost_ret (v := .tuple #[.agg #[.int .i64 t, .bool h, .int .i64 q, .int .i64 a, .int .i64 l, .slice s3 n c3], .int .i64 (6)]) (by simp [results, Try.results10, go_sem, g0, g1, g2, g3, g4, g5]) rfl (he_post HE.out ⟨s3, c3, rfl, (by refine OwnI.mono (base := w.heap.size + 1 + 1) ?_ (by omega); repeat (first | with_reducible exact HO3.out | with_reducible refine OwnI.set ?_ (by omega) | with_reducible refine own_alloc ?_)), (by repeat (first | with_reducible exact Below.refl _ _ | with_reducible exact B3 | with_reducible refine Below.setCell ?_ (by first | omega | (simp; done) | (simp; omega)) _ | with_reducible refine bDrewN ?_ _ | with_reducible refine Below.drew ?_ | with_reducible refine Below.alloc ?_ (by first | omega | (simp; done) | (simp; omega)) _))⟩)
  have tb : (rdT n2 V2 != t) = false := by simp [t0]
  obtain ⟨F, hF⟩ : ∃ F, (rdQ n2 V2 - q + 65536) % 65536 = F := ⟨_, rfl⟩
  have fF : farV (rdQ n2 V2) q = F := hF
  have F1 : 0 ≤ F := by omega
  have F2 : F < 65536 := by omega
  cases h
  · have e := hl0 rfl
    subst e
    have HE : Hid (heV t false q a 0 n V n2 V2 = ⟨0, t, true, rdQ n2 V2, 0, 0, rdN n2 V2, rdU V2⟩) := he0 k0 k1 t0 (by simp)
    clear k0 fF hl0
    go_wp2
    exact bodyPost_ret (v := .tuple #[.agg #[.int .i64 t, .bool true, .int .i64 (rdQ n2 V2), .int .i64 0, .int .i64 0, .slice s2 (rdN n2 V2) c2], .int .i64 0]) (by simp [results, Try.results10, go_sem, r0, r1, r2, r3, r4, r5, m1, m2, alloc_cellS, y1, y3]) rfl (he_post HE.out ⟨s2, c2, rfl, (by refine OwnI.mono (base := w.heap.size + 1 + 1) ?_ (by omega); repeat (first | with_reducible exact HO2.out | with_reducible refine OwnI.set ?_ (by omega) | with_reducible refine own_alloc ?_)), (by repeat (first | with_reducible exact Below.refl _ _ | with_reducible exact B2 | with_reducible refine Below.setCell ?_ (by first | omega | (simp; done) | (simp; omega)) _ | with_reducible refine bDrewN ?_ _ | with_reducible refine Below.drew ?_ | with_reducible refine Below.alloc ?_ (by first | omega | (simp; done) | (simp; omega)) _))⟩)
  by_cases g0 : F = 0
  · have gb : (F == 0) = true := by simp [g0]
    have HE : Hid (heV t true q a l n V n2 V2 = ⟨7, t, true, q, a, l, n, V⟩) := he7 k0 k1 t0 ⟨rfl, .inl (by rw [fF, g0])⟩
    go_wp2_with fail
    refine (l13CopyO t true q a l ad n c V _ hn (R2.out.below (by repeat (first | with_reducible exact Below.refl _ _ | with_reducible refine Below.setCell ?_ (by first | omega | (simp; done) | (simp; omega)) _ | with_reducible refine bDrewN ?_ _ | with_reducible refine Below.drew ?_ | with_reducible refine Below.alloc ?_ (by first | omega | (simp; done) | (simp; omega)) _)))).mono ?_
    rintro e w3 ⟨s3, c3, rfl, O3, h3⟩
    obtain ⟨hc, hf⟩ := bcell h3
    have g0 := hc (w.heap.size + 1) 0 (by first | omega | (simp; done) | (simp; omega))
    have g1 := hc (w.heap.size + 1) 1 (by first | omega | (simp; done) | (simp; omega))
    have g2 := hc (w.heap.size + 1) 2 (by first | omega | (simp; done) | (simp; omega))
    have g3 := hc (w.heap.size + 1) 3 (by first | omega | (simp; done) | (simp; omega))
    have g4 := hc (w.heap.size + 1) 4 (by first | omega | (simp; done) | (simp; omega))
    have g5 := hc (w.heap.size + 1) 5 (by first | omega | (simp; done) | (simp; omega))
    have e0 := hf (w.heap.size + 1) 0 (by first | omega | (simp; done) | (simp; omega))
    have e1 := hf (w.heap.size + 1) 1 (by first | omega | (simp; done) | (simp; omega))
    have e2 := hf (w.heap.size + 1) 2 (by first | omega | (simp; done) | (simp; omega))
    have e3 := hf (w.heap.size + 1) 3 (by first | omega | (simp; done) | (simp; omega))
    have e4 := hf (w.heap.size + 1) 4 (by first | omega | (simp; done) | (simp; omega))
    have e5 := hf (w.heap.size + 1) 5 (by first | omega | (simp; done) | (simp; omega))
    rw [alloc_cellS (by omega), r0] at g0
    rw [alloc_frozenS (by omega), f0] at e0
    rw [alloc_cellS (by omega), r1] at g1
    rw [alloc_frozenS (by omega), f1] at e1
    rw [alloc_cellS (by omega), r2] at g2
    rw [alloc_frozenS (by omega), f2] at e2
    rw [alloc_cellS (by omega), r3] at g3
    rw [alloc_frozenS (by omega), f3] at e3
    rw [alloc_cellS (by omega), r4] at g4
    rw [alloc_frozenS (by omega), f4] at e4
    rw [alloc_cellS (by omega), r5] at g5
    rw [alloc_frozenS (by omega), f5] at e5
    have z3 : w.heap.size + 1 + 1 ≤ w3.heap.size := by have := h3.size; simp at this; omega
    have B3 : Below w.heap.size w w3 := Below.trans (by repeat (first | with_reducible exact Below.refl _ _ | with_reducible exact B2 | with_reducible refine Below.setCell ?_ (by first | omega | (simp; done) | (simp; omega)) _ | with_reducible refine bDrewN ?_ _ | with_reducible refine Below.drew ?_ | with_reducible refine Below.alloc ?_ (by first | omega | (simp; done) | (simp; omega)) _)) (h3.mono (by first | omega | (simp; done) | (simp; omega)))
    have HO3 : Hid (OwnI (w.heap.size + 1 + 1) w3 s3 n V) := O3.mono (by first | omega | (simp; done) | (simp; omega))
    clear hc hf h3 O3
    go_wp2
    exact bodyPost_ret (v := .tuple #[.agg #[.int .i64 t, .bool true, .int .i64 q, .int .i64 a, .int .i64 l, .slice s3 n c3], .int .i64 (7)]) (by simp [results, Try.results10, go_sem, g0, g1, g2, g3, g4, g5]) rfl (he_post HE.out ⟨s3, c3, rfl, (by refine OwnI.mono (base := w.heap.size + 1 + 1) ?_ (by omega); repeat (first | with_reducible exact HO3.out | with_reducible refine OwnI.set ?_ (by omega) | with_reducible refine own_alloc ?_)), (by repeat (first | with_reducible exact Below.refl _ _ | with_reducible exact B3 | with_reducible refine Below.setCell ?_ (by first | omega | (simp; done) | (simp; omega)) _ | with_reducible refine bDrewN ?_ _ | with_reducible refine Below.drew ?_ | with_reducible refine Below.alloc ?_ (by first | omega | (simp; done) | (simp; omega)) _))⟩)
  have gb : (F == 0) = false := by simp [g0]
  by_cases g1 : 32767 < F
  · have HE : Hid (heV t true q a l n V n2 V2 = ⟨7, t, true, q, a, l, n, V⟩) := he7 k0 k1 t0 ⟨rfl, .inr (by rw [fF]; exact g1)⟩
    go_wp2_with fail
    refine (l13CopyO t true q a l ad n c V _ hn (R2.out.below (by repeat (first | with_reducible exact Below.refl _ _ | with_reducible refine Below.setCell ?_ (by first | omega | (simp; done) | (simp; omega)) _ | with_reducible refine bDrewN ?_ _ | with_reducible refine Below.drew ?_ | with_reducible refine Below.alloc ?_ (by first | omega | (simp; done) | (simp; omega)) _)))).mono ?_
    rintro e w3 ⟨s3, c3, rfl, O3, h3⟩
    obtain ⟨hc, hf⟩ := bcell h3
    have g0 := hc (w.heap.size + 1) 0 (by first | omega | (simp; done) | (simp; omega))
    have g1 := hc (w.heap.size + 1) 1 (by first | omega | (simp; done) | (simp; omega))
    have g2 := hc (w.heap.size + 1) 2 (by first | omega | (simp; done) | (simp; omega))
    have g3 := hc (w.heap.size + 1) 3 (by first | omega | (simp; done) | (simp; omega))
    have g4 := hc (w.heap.size + 1) 4 (by first | omega | (simp; done) | (simp; omega))
    have g5 := hc (w.heap.size + 1) 5 (by first | omega | (simp; done) | (simp; omega))
    have e0 := hf (w.heap.size + 1) 0 (by first | omega | (simp; done) | (simp; omega))
    have e1 := hf (w.heap.size + 1) 1 (by first | omega | (simp; done) | (simp; omega))
    have e2 := hf (w.heap.size + 1) 2 (by first | omega | (simp; done) | (simp; omega))
    have e3 := hf (w.heap.size + 1) 3 (by first | omega | (simp; done) | (simp; omega))
    have e4 := hf (w.heap.size + 1) 4 (by first | omega | (simp; done) | (simp; omega))
    have e5 := hf (w.heap.size + 1) 5 (by first | omega | (simp; done) | (simp; omega))
    rw [alloc_cellS (by omega), r0] at g0
    rw [alloc_frozenS (by omega), f0] at e0
    rw [alloc_cellS (by omega), r1] at g1
    rw [alloc_frozenS (by omega), f1] at e1
    rw [alloc_cellS (by omega), r2] at g2
    rw [alloc_frozenS (by omega), f2] at e2
    rw [alloc_cellS (by omega), r3] at g3
    rw [alloc_frozenS (by omega), f3] at e3
    rw [alloc_cellS (by omega), r4] at g4
    rw [alloc_frozenS (by omega), f4] at e4
    rw [alloc_cellS (by omega), r5] at g5
    rw [alloc_frozenS (by omega), f5] at e5
    have z3 : w.heap.size + 1 + 1 ≤ w3.heap.size := by have := h3.size; simp at this; omega
    have B3 : Below w.heap.size w w3 := Below.trans (by repeat (first | with_reducible exact Below.refl _ _ | with_reducible exact B2 | with_reducible refine Below.setCell ?_ (by first | omega | (simp; done) | (simp; omega)) _ | with_reducible refine bDrewN ?_ _ | with_reducible refine Below.drew ?_ | with_reducible refine Below.alloc ?_ (by first | omega | (simp; done) | (simp; omega)) _)) (h3.mono (by first | omega | (simp; done) | (simp; omega)))
    have HO3 : Hid (OwnI (w.heap.size + 1 + 1) w3 s3 n V) := O3.mono (by first | omega | (simp; done) | (simp; omega))
    clear hc hf h3 O3
    go_wp2
    exact bodyPost_ret (v := .tuple #[.agg #[.int .i64 t, .bool true, .int .i64 q, .int .i64 a, .int .i64 l, .slice s3 n c3], .int .i64 (7)]) (by simp [results, Try.results10, go_sem, g0, g1, g2, g3, g4, g5]) rfl (he_post HE.out ⟨s3, c3, rfl, (by refine OwnI.mono (base := w.heap.size + 1 + 1) ?_ (by omega); repeat (first | with_reducible exact HO3.out | with_reducible refine OwnI.set ?_ (by omega) | with_reducible refine own_alloc ?_)), (by repeat (first | with_reducible exact Below.refl _ _ | with_reducible exact B3 | with_reducible refine Below.setCell ?_ (by first | omega | (simp; done) | (simp; omega)) _ | with_reducible refine bDrewN ?_ _ | with_reducible refine Below.drew ?_ | with_reducible refine Below.alloc ?_ (by first | omega | (simp; done) | (simp; omega)) _))⟩)
  have HE : Hid (heV t true q a l n V n2 V2 = ⟨0, t, true, rdQ n2 V2, 0, min (l + F - 1) 1000000000, rdN n2 V2, rdU V2⟩) := by have := he0 (V2 := V2) (n2 := n2) k0 k1 t0 (by rw [fF]; omega); rw [fF] at this; exact this
  clear k0 fF hl0
  obtain ⟨G, hG⟩ : ∃ G, min (l + F - 1) 1000000000 = G := ⟨_, rfl⟩
  rw [hG] at HE
  by_cases hm : l + F - 1 ≤ 1000000000
  · have hg : l + F - 1 = G := by omega
    have hm2 : ¬ 1000000000 < l + F - 1 := by omega
    clear hG
    go_wp2
    all_goals exact bodyPost_ret (v := .tuple #[.agg #[.int .i64 t, .bool true, .int .i64 (rdQ n2 V2), .int .i64 0, .int .i64 G, .slice s2 (rdN n2 V2) c2], .int .i64 0]) (by simp [results, Try.results10, go_sem, r0, r1, r2, r3, r4, r5, m1, m2, alloc_cellS, y1, y3, hg] <;> omega) rfl (he_post HE.out ⟨s2, c2, rfl, (by refine OwnI.mono (base := w.heap.size + 1 + 1) ?_ (by omega); repeat (first | with_reducible exact HO2.out | with_reducible refine OwnI.set ?_ (by omega) | with_reducible refine own_alloc ?_)), (by repeat (first | with_reducible exact Below.refl _ _ | with_reducible exact B2 | with_reducible refine Below.setCell ?_ (by first | omega | (simp; done) | (simp; omega)) _ | with_reducible refine bDrewN ?_ _ | with_reducible refine Below.drew ?_ | with_reducible refine Below.alloc ?_ (by first | omega | (simp; done) | (simp; omega)) _))⟩)
  · have hg : 1000000000 = G := by omega
    have hm2 : ¬ l + F - 1 < 1000000000 := by omega
    have hm3 : 1000000000 < l + F - 1 := by omega
    clear hG
    subst hg
    go_wp2
    all_goals exact bodyPost_ret (v := .tuple #[.agg #[.int .i64 t, .bool true, .int .i64 (rdQ n2 V2), .int .i64 0, .int .i64 1000000000, .slice s2 (rdN n2 V2) c2], .int .i64 0]) (by simp [results, Try.results10, go_sem, r0, r1, r2, r3, r4, r5, m1, m2, alloc_cellS, y1, y3]) rfl (he_post HE.out ⟨s2, c2, rfl, (by refine OwnI.mono (base := w.heap.size + 1 + 1) ?_ (by omega); repeat (first | with_reducible exact HO2.out | with_reducible refine OwnI.set ?_ (by omega) | with_reducible refine own_alloc ?_)), (by repeat (first | with_reducible exact Below.refl _ _ | with_reducible exact B2 | with_reducible refine Below.setCell ?_ (by first | omega | (simp; done) | (simp; omega)) _ | with_reducible refine bDrewN ?_ _ | with_reducible refine Below.drew ?_ | with_reducible refine Below.alloc ?_ (by first | omega | (simp; done) | (simp; omega)) _))⟩)
end Go.Proofs.Ytkocbklkiehdiaa
