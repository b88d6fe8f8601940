/-
What is proved: what a link hears, as the program tells it.
-/
import Derived.Test.YtkocbklkiehdiaaHeK
import Derived.Test.YtkocbklkiehdiaaLkYo
import Derived.Test.YtkocbklkiehdiaaRfJo
namespace Go.Proofs.Ytkocbklkiehdiaa
set_option maxRecDepth 40000
open Go.RowKit
set_option linter.unusedVariables false
set_option linter.unusedSimpArgs false

theorem alloc_cell {w : World} {o : Obj} {p i : Nat} (h : p < w.heap.size) : (w.alloc o).cell? ⟨p, i, none⟩ = w.cell? ⟨p, i, none⟩ := (below0 w o).cell (p := ⟨p, i, none⟩) h
theorem alloc_frozen {w : World} {o : Obj} {p i : Nat} (h : p < w.heap.size) : (w.alloc o).frozen? ⟨p, i, none⟩ = w.frozen? ⟨p, i, none⟩ := (below0 w o).frozen (p := ⟨p, i, none⟩) h
set_option maxRecDepth 20000 in
set_option maxHeartbeats 8000000 in
theorem implHearO (t : Int) (h : Bool) (q a l : Int) (ad : Option Addr) (n c : Nat) (V : Nat → Int) (sy : Option Addr) (n2 cp : Nat) (V2 : Nat → Int) (w : World) (hn : (n : Int) ≤ 1048576) (hn2 : (n2 : Int) ≤ 1048576) (hcap : n2 ≤ cp) (hS : sy = none ∨ ∃ b, sy = some ⟨b, 0, none⟩) (hV2 : Hid (∀ j, j < n2 → 0 ≤ V2 j ∧ V2 j < 256)) (HR : Hid (RowI w ad n V)) (HY : Hid (RowY w sy n2 V2)) :
    Calls Try.prog 11 #[.agg #[.int .i64 t, .bool h, .int .i64 q, .int .i64 a, .int .i64 l, .slice ad n c], .slice sy n2 cp] w fun e w' => HePost w (heV t h q a l n V n2 V2) e w' := by
  have sto := store_sl
  have R0 : Hid (RowI ((w.alloc (.cells #[.int .i64 t, .bool h, .int .i64 q, .int .i64 a, .int .i64 l, .slice ad n c] 26)).alloc (.cells #[.int .i64 0, .bool false, .int .i64 0, .int .i64 0, .int .i64 0, .slice none 0 0] 26)) ad n V) := HR.out.below (by repeat (first | with_reducible exact Below.refl _ _ | with_reducible refine Below.setCell ?_ (by first | omega | (simp; done) | (simp; omega)) _ | with_reducible refine bDrewN ?_ _ | with_reducible refine Below.drew ?_ | with_reducible refine Below.alloc ?_ (by first | omega | (simp; done) | (simp; omega)) _))
  go_enter Try.func11, Try.ntmps11
  go_wp2_with fail
  refine (linkRight_any t h q a l ad n c V _ hn R0.out).mono ?_
  rintro e w1 ⟨rfl, h1⟩
  obtain ⟨hc, hf⟩ := bcell h1
  have q0 := hc w.heap.size 0 (by first | omega | (simp; done) | (simp; omega))
  have q1 := hc w.heap.size 1 (by first | omega | (simp; done) | (simp; omega))
  have q2 := hc w.heap.size 2 (by first | omega | (simp; done) | (simp; omega))
  have q3 := hc w.heap.size 3 (by first | omega | (simp; done) | (simp; omega))
  have q4 := hc w.heap.size 4 (by first | omega | (simp; done) | (simp; omega))
  have q5 := hc w.heap.size 5 (by first | omega | (simp; done) | (simp; omega))
  have r0 := hc (w.heap.size + 1) 0 (by first | omega | (simp; done) | (simp; omega))
  have r1 := hc (w.heap.size + 1) 1 (by first | omega | (simp; done) | (simp; omega))
  have r2 := hc (w.heap.size + 1) 2 (by first | omega | (simp; done) | (simp; omega))
  have r3 := hc (w.heap.size + 1) 3 (by first | omega | (simp; done) | (simp; omega))
  have r4 := hc (w.heap.size + 1) 4 (by first | omega | (simp; done) | (simp; omega))
  have r5 := hc (w.heap.size + 1) 5 (by first | omega | (simp; done) | (simp; omega))
  have f0 := hf (w.heap.size + 1) 0 (by first | omega | (simp; done) | (simp; omega))
  have f1 := hf (w.heap.size + 1) 1 (by first | omega | (simp; done) | (simp; omega))
  have f2 := hf (w.heap.size + 1) 2 (by first | omega | (simp; done) | (simp; omega))
  have f3 := hf (w.heap.size + 1) 3 (by first | omega | (simp; done) | (simp; omega))
  have f4 := hf (w.heap.size + 1) 4 (by first | omega | (simp; done) | (simp; omega))
  have f5 := hf (w.heap.size + 1) 5 (by first | omega | (simp; done) | (simp; omega))
  simp [go_sem] at q0 q1 q2 q3 q4 q5 r0 r1 r2 r3 r4 r5 f0 f1 f2 f3 f4 f5
  have z1 : w.heap.size + 1 + 1 ≤ w1.heap.size := by have := h1.size; simp at this; exact this
  have B1 : Below w.heap.size w w1 := Below.trans (by repeat (first | with_reducible exact Below.refl _ _ | with_reducible refine Below.setCell ?_ (by first | omega | (simp; done) | (simp; omega)) _ | with_reducible refine bDrewN ?_ _ | with_reducible refine Below.drew ?_ | with_reducible refine Below.alloc ?_ (by first | omega | (simp; done) | (simp; omega)) _)) (h1.mono (by first | omega | (simp; done) | (simp; omega)))
  clear hc hf h1
  cases k0 : linkB t h q a l n V
  · have HE : Hid (heV t h q a l n V n2 V2 = ⟨8, 0, false, 0, 0, 0, 0, V⟩) := he8 k0
    go_wp2
    exact bodyPost_ret (v := .tuple #[.agg #[.int .i64 0, .bool false, .int .i64 0, .int .i64 0, .int .i64 0, .slice none 0 0], .int .i64 8]) (by simp [results, Try.results11, go_sem, r0, r1, r2, r3, r4, r5]) rfl (he_post HE.out ⟨none, 0, rfl, fun j hj => absurd hj (Nat.not_lt_zero j), (by repeat (first | with_reducible exact Below.refl _ _ | with_reducible exact B1 | with_reducible refine Below.setCell ?_ (by first | omega | (simp; done) | (simp; omega)) _ | with_reducible refine bDrewN ?_ _ | with_reducible refine Below.drew ?_ | with_reducible refine Below.alloc ?_ (by first | omega | (simp; done) | (simp; omega)) _))⟩)
  obtain ⟨⟨q1', q2'⟩, _, ⟨l1, l2⟩, hl0, _⟩ := link_parts k0
  obtain ⟨x1, x2⟩ := rdQ_lt hV2.out
  go_wp2_with fail
  refine (implReadO sy n2 cp V2 w1 hn2 hcap hS hV2 (HY.out.below B1)).mono ?_
  rintro e w2 ⟨s2, c2, rfl, O2, h2⟩
  replace q0 := (h2.cell (p := ⟨w.heap.size, 0, none⟩) (by show w.heap.size < _; omega)).trans q0
  replace q1 := (h2.cell (p := ⟨w.heap.size, 1, none⟩) (by show w.heap.size < _; omega)).trans q1
  replace q2 := (h2.cell (p := ⟨w.heap.size, 2, none⟩) (by show w.heap.size < _; omega)).trans q2
  replace q3 := (h2.cell (p := ⟨w.heap.size, 3, none⟩) (by show w.heap.size < _; omega)).trans q3
  replace q4 := (h2.cell (p := ⟨w.heap.size, 4, none⟩) (by show w.heap.size < _; omega)).trans q4
  replace q5 := (h2.cell (p := ⟨w.heap.size, 5, none⟩) (by show w.heap.size < _; omega)).trans q5
  replace r0 := (h2.cell (p := ⟨w.heap.size + 1, 0, none⟩) (by show w.heap.size + 1 < _; omega)).trans r0
  replace r1 := (h2.cell (p := ⟨w.heap.size + 1, 1, none⟩) (by show w.heap.size + 1 < _; omega)).trans r1
  replace r2 := (h2.cell (p := ⟨w.heap.size + 1, 2, none⟩) (by show w.heap.size + 1 < _; omega)).trans r2
  replace r3 := (h2.cell (p := ⟨w.heap.size + 1, 3, none⟩) (by show w.heap.size + 1 < _; omega)).trans r3
  replace r4 := (h2.cell (p := ⟨w.heap.size + 1, 4, none⟩) (by show w.heap.size + 1 < _; omega)).trans r4
  replace r5 := (h2.cell (p := ⟨w.heap.size + 1, 5, none⟩) (by show w.heap.size + 1 < _; omega)).trans r5
  replace f0 := (h2.frozen (p := ⟨w.heap.size + 1, 0, none⟩) (by show w.heap.size + 1 < _; omega)).trans f0
  replace f1 := (h2.frozen (p := ⟨w.heap.size + 1, 1, none⟩) (by show w.heap.size + 1 < _; omega)).trans f1
  replace f2 := (h2.frozen (p := ⟨w.heap.size + 1, 2, none⟩) (by show w.heap.size + 1 < _; omega)).trans f2
  replace f3 := (h2.frozen (p := ⟨w.heap.size + 1, 3, none⟩) (by show w.heap.size + 1 < _; omega)).trans f3
  replace f4 := (h2.frozen (p := ⟨w.heap.size + 1, 4, none⟩) (by show w.heap.size + 1 < _; omega)).trans f4
  replace f5 := (h2.frozen (p := ⟨w.heap.size + 1, 5, none⟩) (by show w.heap.size + 1 < _; omega)).trans f5
  have z2 : w.heap.size + 1 + 1 ≤ w2.heap.size := Nat.le_trans z1 h2.size
  have y0 : w.heap.size < w2.heap.size := by omega
  have y1 : w.heap.size + 1 < w2.heap.size := by omega
  have y2 : w.heap.size < w2.heap.size + 1 := by omega
  have y3 : w.heap.size + 1 < w2.heap.size + 1 := by omega
  have m1 : ¬ w.heap.size + 1 = w2.heap.size := by omega
  have m2 : ¬ w.heap.size + 1 = w2.heap.size + 1 := by omega
  have m3 : ¬ w.heap.size = w2.heap.size := by omega
  have m4 : ¬ w.heap.size = w2.heap.size + 1 := by omega
  have B2 : Below w.heap.size w w2 := B1.trans (h2.mono B1.size)
  have R2 : Hid (RowI w2 ad n V) := HR.out.below B2
  have HO2 : Hid (OwnI (w.heap.size + 1 + 1) w2 s2 (rdN n2 V2) (rdU V2)) := O2.mono z1
  clear h2 O2
  have RX := R2
  have BX := B2
  have zX := z2
  go_upto_region 4 with fail
  obtain ⟨wx, hwx⟩ : ∃ wx, wx = w2.alloc (.cells #[.int .i64 (rdT n2 V2), .int .i64 (rdQ n2 V2), .slice s2 (rdN n2 V2) c2] 32) := ⟨_, rfl⟩
  obtain ⟨P, hP⟩ : ∃ P, P = w2.heap.size := ⟨_, rfl⟩
  rw [← hwx, ← hP]
  have hbx : Below w2.heap.size w2 wx := by rw [hwx]; exact below0 _ _
  have p0 : wx.cell? ⟨P, 0, none⟩ = some (.int .i64 (rdT n2 V2)) := by rw [hwx, hP]; simp [go_sem]
  have p1 : wx.cell? ⟨P, 1, none⟩ = some (.int .i64 (rdQ n2 V2)) := by rw [hwx, hP]; simp [go_sem]
  have p2 : wx.cell? ⟨P, 2, none⟩ = some (.slice s2 (rdN n2 V2) c2) := by rw [hwx, hP]; simp [go_sem]
  have zP : P < wx.heap.size := by rw [hwx, hP]; simp
  replace q0 := (hbx.cell (p := ⟨w.heap.size, 0, none⟩) (by show w.heap.size < _; omega)).trans q0
  replace q1 := (hbx.cell (p := ⟨w.heap.size, 1, none⟩) (by show w.heap.size < _; omega)).trans q1
  replace q2 := (hbx.cell (p := ⟨w.heap.size, 2, none⟩) (by show w.heap.size < _; omega)).trans q2
  replace q3 := (hbx.cell (p := ⟨w.heap.size, 3, none⟩) (by show w.heap.size < _; omega)).trans q3
  replace q4 := (hbx.cell (p := ⟨w.heap.size, 4, none⟩) (by show w.heap.size < _; omega)).trans q4
  replace q5 := (hbx.cell (p := ⟨w.heap.size, 5, none⟩) (by show w.heap.size < _; omega)).trans q5
  replace r0 := (hbx.cell (p := ⟨w.heap.size + 1, 0, none⟩) (by show w.heap.size + 1 < _; omega)).trans r0
  replace r1 := (hbx.cell (p := ⟨w.heap.size + 1, 1, none⟩) (by show w.heap.size + 1 < _; omega)).trans r1
  replace r2 := (hbx.cell (p := ⟨w.heap.size + 1, 2, none⟩) (by show w.heap.size + 1 < _; omega)).trans r2
  replace r3 := (hbx.cell (p := ⟨w.heap.size + 1, 3, none⟩) (by show w.heap.size + 1 < _; omega)).trans r3
  replace r4 := (hbx.cell (p := ⟨w.heap.size + 1, 4, none⟩) (by show w.heap.size + 1 < _; omega)).trans r4
  replace r5 := (hbx.cell (p := ⟨w.heap.size + 1, 5, none⟩) (by show w.heap.size + 1 < _; omega)).trans r5
  replace f0 := (hbx.frozen (p := ⟨w.heap.size + 1, 0, none⟩) (by show w.heap.size + 1 < _; omega)).trans f0
  replace f1 := (hbx.frozen (p := ⟨w.heap.size + 1, 1, none⟩) (by show w.heap.size + 1 < _; omega)).trans f1
  replace f2 := (hbx.frozen (p := ⟨w.heap.size + 1, 2, none⟩) (by show w.heap.size + 1 < _; omega)).trans f2
  replace f3 := (hbx.frozen (p := ⟨w.heap.size + 1, 3, none⟩) (by show w.heap.size + 1 < _; omega)).trans f3
  replace f4 := (hbx.frozen (p := ⟨w.heap.size + 1, 4, none⟩) (by show w.heap.size + 1 < _; omega)).trans f4
  replace f5 := (hbx.frozen (p := ⟨w.heap.size + 1, 5, none⟩) (by show w.heap.size + 1 < _; omega)).trans f5
  replace RX : Hid (RowI wx ad n V) := RX.out.below hbx
  replace HO2 : Hid (OwnI (w.heap.size + 1 + 1) wx s2 (rdN n2 V2) (rdU V2)) := HO2.out.below hbx
  replace zX : w.heap.size + 1 + 1 ≤ wx.heap.size := Nat.le_trans zX hbx.size
  replace BX : Below w.heap.size w wx := BX.trans (hbx.mono BX.size)
  clear hbx hwx hP R2 B2 z2 y0 y1 y2 y3 m1 m2 m3 m4
  by_cases k1 : faultV n2 V2 = 0
  case neg =>
    have fb2 : (faultV n2 V2 != 0) = true := by simp [k1]
    have HE : Hid (heV t h q a l n V n2 V2 = ⟨faultV n2 V2, t, h, q, a, l, n, V⟩) := heF k0 k1
    go_wp2_with fail
    refine (copiedO t h q a l ad n c V _ hn RX.out).mono ?_
    rintro e w9 ⟨s9, c9, rfl, O9, h9⟩
    have g0 := (h9.cell (p := ⟨w.heap.size + 1, 0, none⟩) (by show w.heap.size + 1 < _; omega)).trans r0
    have e0 := (h9.frozen (p := ⟨w.heap.size + 1, 0, none⟩) (by show w.heap.size + 1 < _; omega)).trans f0
    have g1 := (h9.cell (p := ⟨w.heap.size + 1, 1, none⟩) (by show w.heap.size + 1 < _; omega)).trans r1
    have e1 := (h9.frozen (p := ⟨w.heap.size + 1, 1, none⟩) (by show w.heap.size + 1 < _; omega)).trans f1
    have g2 := (h9.cell (p := ⟨w.heap.size + 1, 2, none⟩) (by show w.heap.size + 1 < _; omega)).trans r2
    have e2 := (h9.frozen (p := ⟨w.heap.size + 1, 2, none⟩) (by show w.heap.size + 1 < _; omega)).trans f2
    have g3 := (h9.cell (p := ⟨w.heap.size + 1, 3, none⟩) (by show w.heap.size + 1 < _; omega)).trans r3
    have e3 := (h9.frozen (p := ⟨w.heap.size + 1, 3, none⟩) (by show w.heap.size + 1 < _; omega)).trans f3
    have g4 := (h9.cell (p := ⟨w.heap.size + 1, 4, none⟩) (by show w.heap.size + 1 < _; omega)).trans r4
    have e4 := (h9.frozen (p := ⟨w.heap.size + 1, 4, none⟩) (by show w.heap.size + 1 < _; omega)).trans f4
    have g5 := (h9.cell (p := ⟨w.heap.size + 1, 5, none⟩) (by show w.heap.size + 1 < _; omega)).trans r5
    have e5 := (h9.frozen (p := ⟨w.heap.size + 1, 5, none⟩) (by show w.heap.size + 1 < _; omega)).trans f5
    have B9 : Below w.heap.size w w9 := BX.trans (h9.mono BX.size)
    have HO9 : Hid (OwnI (w.heap.size + 1 + 1) w9 s9 n V) := O9.mono zX
    clear h9 O9
    go_wp2
    exact bodyPost_ret (v := .tuple #[.agg #[.int .i64 t, .bool h, .int .i64 q, .int .i64 a, .int .i64 l, .slice s9 n c9], .int .i64 (faultV n2 V2)]) (by simp [results, Try.results11, go_sem, g0, g1, g2, g3, g4, g5]) rfl (he_post HE.out ⟨s9, c9, rfl, (by refine OwnI.mono (base := w.heap.size + 1 + 1) ?_ (by omega); repeat (first | with_reducible exact HO9.out | with_reducible refine OwnI.set ?_ (by omega) | with_reducible refine own_alloc ?_)), (by repeat (first | with_reducible exact Below.refl _ _ | with_reducible exact B9 | with_reducible refine Below.setCell ?_ (by first | omega | (simp; done) | (simp; omega)) _ | with_reducible refine bDrewN ?_ _ | with_reducible refine Below.drew ?_ | with_reducible refine Below.alloc ?_ (by first | omega | (simp; done) | (simp; omega)) _))⟩)
  rw [k1]
  by_cases t0 : rdT n2 V2 = t
  case neg =>
    have tb : (rdT n2 V2 != t) = true := by simp [t0]
    have HE : Hid (heV t h q a l n V n2 V2 = ⟨6, t, h, q, a, l, n, V⟩) := he6 k0 k1 t0
    go_wp2_with fail
    refine (copiedO t h q a l ad n c V _ hn RX.out).mono ?_
    rintro e w9 ⟨s9, c9, rfl, O9, h9⟩
    have g0 := (h9.cell (p := ⟨w.heap.size + 1, 0, none⟩) (by show w.heap.size + 1 < _; omega)).trans r0
    have e0 := (h9.frozen (p := ⟨w.heap.size + 1, 0, none⟩) (by show w.heap.size + 1 < _; omega)).trans f0
    have g1 := (h9.cell (p := ⟨w.heap.size + 1, 1, none⟩) (by show w.heap.size + 1 < _; omega)).trans r1
    have e1 := (h9.frozen (p := ⟨w.heap.size + 1, 1, none⟩) (by show w.heap.size + 1 < _; omega)).trans f1
    have g2 := (h9.cell (p := ⟨w.heap.size + 1, 2, none⟩) (by show w.heap.size + 1 < _; omega)).trans r2
    have e2 := (h9.frozen (p := ⟨w.heap.size + 1, 2, none⟩) (by show w.heap.size + 1 < _; omega)).trans f2
    have g3 := (h9.cell (p := ⟨w.heap.size + 1, 3, none⟩) (by show w.heap.size + 1 < _; omega)).trans r3
    have e3 := (h9.frozen (p := ⟨w.heap.size + 1, 3, none⟩) (by show w.heap.size + 1 < _; omega)).trans f3
    have g4 := (h9.cell (p := ⟨w.heap.size + 1, 4, none⟩) (by show w.heap.size + 1 < _; omega)).trans r4
    have e4 := (h9.frozen (p := ⟨w.heap.size + 1, 4, none⟩) (by show w.heap.size + 1 < _; omega)).trans f4
    have g5 := (h9.cell (p := ⟨w.heap.size + 1, 5, none⟩) (by show w.heap.size + 1 < _; omega)).trans r5
    have e5 := (h9.frozen (p := ⟨w.heap.size + 1, 5, none⟩) (by show w.heap.size + 1 < _; omega)).trans f5
    have B9 : Below w.heap.size w w9 := BX.trans (h9.mono BX.size)
    have HO9 : Hid (OwnI (w.heap.size + 1 + 1) w9 s9 n V) := O9.mono zX
    clear h9 O9
    go_wp2
    exact bodyPost_ret (v := .tuple #[.agg #[.int .i64 t, .bool h, .int .i64 q, .int .i64 a, .int .i64 l, .slice s9 n c9], .int .i64 (6)]) (by simp [results, Try.results11, go_sem, g0, g1, g2, g3, g4, g5]) rfl (he_post HE.out ⟨s9, c9, rfl, (by refine OwnI.mono (base := w.heap.size + 1 + 1) ?_ (by omega); repeat (first | with_reducible exact HO9.out | with_reducible refine OwnI.set ?_ (by omega) | with_reducible refine own_alloc ?_)), (by repeat (first | with_reducible exact Below.refl _ _ | with_reducible exact B9 | with_reducible refine Below.setCell ?_ (by first | omega | (simp; done) | (simp; omega)) _ | with_reducible refine bDrewN ?_ _ | with_reducible refine Below.drew ?_ | with_reducible refine Below.alloc ?_ (by first | omega | (simp; done) | (simp; omega)) _))⟩)
  have tb : (rdT n2 V2 != t) = false := by simp [t0]
  cases h
  · have e := hl0 rfl
    subst e
    clear hl0
    have HE : Hid (heV t false q a 0 n V n2 V2 = ⟨0, t, true, rdQ n2 V2, 0, lostV false 0 (farV (rdQ n2 V2) q), rdN n2 V2, rdU V2⟩) := he0 k0 k1 t0 (by simp)
    go_wp2_with fail
    refine (took_any t false q a 0 ad n c _ (rdQ n2 V2) s2 (rdN n2 V2) c2 _ q1' q2' x1 x2 l1 l2).mono ?_
    rintro e w9 ⟨rfl, h9⟩
    have g0 := (h9.cell (p := ⟨w.heap.size + 1, 0, none⟩) (by show w.heap.size + 1 < _; omega)).trans r0
    have e0 := (h9.frozen (p := ⟨w.heap.size + 1, 0, none⟩) (by show w.heap.size + 1 < _; omega)).trans f0
    have g1 := (h9.cell (p := ⟨w.heap.size + 1, 1, none⟩) (by show w.heap.size + 1 < _; omega)).trans r1
    have e1 := (h9.frozen (p := ⟨w.heap.size + 1, 1, none⟩) (by show w.heap.size + 1 < _; omega)).trans f1
    have g2 := (h9.cell (p := ⟨w.heap.size + 1, 2, none⟩) (by show w.heap.size + 1 < _; omega)).trans r2
    have e2 := (h9.frozen (p := ⟨w.heap.size + 1, 2, none⟩) (by show w.heap.size + 1 < _; omega)).trans f2
    have g3 := (h9.cell (p := ⟨w.heap.size + 1, 3, none⟩) (by show w.heap.size + 1 < _; omega)).trans r3
    have e3 := (h9.frozen (p := ⟨w.heap.size + 1, 3, none⟩) (by show w.heap.size + 1 < _; omega)).trans f3
    have g4 := (h9.cell (p := ⟨w.heap.size + 1, 4, none⟩) (by show w.heap.size + 1 < _; omega)).trans r4
    have e4 := (h9.frozen (p := ⟨w.heap.size + 1, 4, none⟩) (by show w.heap.size + 1 < _; omega)).trans f4
    have g5 := (h9.cell (p := ⟨w.heap.size + 1, 5, none⟩) (by show w.heap.size + 1 < _; omega)).trans r5
    have e5 := (h9.frozen (p := ⟨w.heap.size + 1, 5, none⟩) (by show w.heap.size + 1 < _; omega)).trans f5
    have B9 : Below w.heap.size w w9 := BX.trans (h9.mono BX.size)
    have HO9 : Hid (OwnI (w.heap.size + 1 + 1) w9 s2 (rdN n2 V2) (rdU V2)) := HO2.out.below h9
    clear h9
    go_wp2
    exact bodyPost_ret (v := .tuple #[.agg #[.int .i64 t, .bool true, .int .i64 (rdQ n2 V2), .int .i64 0, .int .i64 (lostV false 0 (farV (rdQ n2 V2) q)), .slice s2 (rdN n2 V2) c2], .int .i64 0]) (by simp [results, Try.results11, go_sem, g0, g1, g2, g3, g4, g5]) rfl (he_post HE.out ⟨s2, c2, rfl, (by refine OwnI.mono (base := w.heap.size + 1 + 1) ?_ (by omega); repeat (first | with_reducible exact HO9.out | with_reducible refine OwnI.set ?_ (by omega) | with_reducible refine own_alloc ?_)), (by repeat (first | with_reducible exact Below.refl _ _ | with_reducible exact B9 | with_reducible refine Below.setCell ?_ (by first | omega | (simp; done) | (simp; omega)) _ | with_reducible refine bDrewN ?_ _ | with_reducible refine Below.drew ?_ | with_reducible refine Below.alloc ?_ (by first | omega | (simp; done) | (simp; omega)) _))⟩)
  clear hl0
  go_wp2_with fail
  refine (stepsTo_any t true q a l ad n c (rdQ n2 V2) _ q1' q2' x1 x2).mono ?_
  rintro e w3 ⟨rfl, h3⟩
  replace q0 := (h3.cell (p := ⟨w.heap.size, 0, none⟩) (by show w.heap.size < _; omega)).trans q0
  replace q1 := (h3.cell (p := ⟨w.heap.size, 1, none⟩) (by show w.heap.size < _; omega)).trans q1
  replace q2 := (h3.cell (p := ⟨w.heap.size, 2, none⟩) (by show w.heap.size < _; omega)).trans q2
  replace q3 := (h3.cell (p := ⟨w.heap.size, 3, none⟩) (by show w.heap.size < _; omega)).trans q3
  replace q4 := (h3.cell (p := ⟨w.heap.size, 4, none⟩) (by show w.heap.size < _; omega)).trans q4
  replace q5 := (h3.cell (p := ⟨w.heap.size, 5, none⟩) (by show w.heap.size < _; omega)).trans q5
  replace r0 := (h3.cell (p := ⟨w.heap.size + 1, 0, none⟩) (by show w.heap.size + 1 < _; omega)).trans r0
  replace r1 := (h3.cell (p := ⟨w.heap.size + 1, 1, none⟩) (by show w.heap.size + 1 < _; omega)).trans r1
  replace r2 := (h3.cell (p := ⟨w.heap.size + 1, 2, none⟩) (by show w.heap.size + 1 < _; omega)).trans r2
  replace r3 := (h3.cell (p := ⟨w.heap.size + 1, 3, none⟩) (by show w.heap.size + 1 < _; omega)).trans r3
  replace r4 := (h3.cell (p := ⟨w.heap.size + 1, 4, none⟩) (by show w.heap.size + 1 < _; omega)).trans r4
  replace r5 := (h3.cell (p := ⟨w.heap.size + 1, 5, none⟩) (by show w.heap.size + 1 < _; omega)).trans r5
  replace f0 := (h3.frozen (p := ⟨w.heap.size + 1, 0, none⟩) (by show w.heap.size + 1 < _; omega)).trans f0
  replace f1 := (h3.frozen (p := ⟨w.heap.size + 1, 1, none⟩) (by show w.heap.size + 1 < _; omega)).trans f1
  replace f2 := (h3.frozen (p := ⟨w.heap.size + 1, 2, none⟩) (by show w.heap.size + 1 < _; omega)).trans f2
  replace f3 := (h3.frozen (p := ⟨w.heap.size + 1, 3, none⟩) (by show w.heap.size + 1 < _; omega)).trans f3
  replace f4 := (h3.frozen (p := ⟨w.heap.size + 1, 4, none⟩) (by show w.heap.size + 1 < _; omega)).trans f4
  replace f5 := (h3.frozen (p := ⟨w.heap.size + 1, 5, none⟩) (by show w.heap.size + 1 < _; omega)).trans f5
  replace p0 := (h3.cell (p := ⟨P, 0, none⟩) zP).trans p0
  replace p1 := (h3.cell (p := ⟨P, 1, none⟩) zP).trans p1
  replace p2 := (h3.cell (p := ⟨P, 2, none⟩) zP).trans p2
  replace zP : P < w3.heap.size := Nat.lt_of_lt_of_le zP h3.size
  replace RX : Hid (RowI w3 ad n V) := RX.out.below h3
  replace HO2 : Hid (OwnI (w.heap.size + 1 + 1) w3 s2 (rdN n2 V2) (rdU V2)) := HO2.out.below h3
  replace zX : w.heap.size + 1 + 1 ≤ w3.heap.size := Nat.le_trans zX h3.size
  replace BX : Below w.heap.size w w3 := BX.trans (h3.mono BX.size)
  clear h3
  go_wp2_with fail
  refine (within_is _ _ _ _).mono ?_
  rintro e w3 ⟨rfl, rfl⟩
  cases g0 : inB 1 32767 (farV (rdQ n2 V2) q)
  · have ff : 0 ≤ farV (rdQ n2 V2) q := by unfold farV; omega
    have HE : Hid (heV t true q a l n V n2 V2 = ⟨7, t, true, q, a, l, n, V⟩) := he7 k0 k1 t0 ⟨rfl, by have := inB_no g0; omega⟩
    go_wp2_with fail
    refine (copiedO t true q a l ad n c V _ hn RX.out).mono ?_
    rintro e w9 ⟨s9, c9, rfl, O9, h9⟩
    have g0 := (h9.cell (p := ⟨w.heap.size + 1, 0, none⟩) (by show w.heap.size + 1 < _; omega)).trans r0
    have e0 := (h9.frozen (p := ⟨w.heap.size + 1, 0, none⟩) (by show w.heap.size + 1 < _; omega)).trans f0
    have g1 := (h9.cell (p := ⟨w.heap.size + 1, 1, none⟩) (by show w.heap.size + 1 < _; omega)).trans r1
    have e1 := (h9.frozen (p := ⟨w.heap.size + 1, 1, none⟩) (by show w.heap.size + 1 < _; omega)).trans f1
    have g2 := (h9.cell (p := ⟨w.heap.size + 1, 2, none⟩) (by show w.heap.size + 1 < _; omega)).trans r2
    have e2 := (h9.frozen (p := ⟨w.heap.size + 1, 2, none⟩) (by show w.heap.size + 1 < _; omega)).trans f2
    have g3 := (h9.cell (p := ⟨w.heap.size + 1, 3, none⟩) (by show w.heap.size + 1 < _; omega)).trans r3
    have e3 := (h9.frozen (p := ⟨w.heap.size + 1, 3, none⟩) (by show w.heap.size + 1 < _; omega)).trans f3
    have g4 := (h9.cell (p := ⟨w.heap.size + 1, 4, none⟩) (by show w.heap.size + 1 < _; omega)).trans r4
    have e4 := (h9.frozen (p := ⟨w.heap.size + 1, 4, none⟩) (by show w.heap.size + 1 < _; omega)).trans f4
    have g5 := (h9.cell (p := ⟨w.heap.size + 1, 5, none⟩) (by show w.heap.size + 1 < _; omega)).trans r5
    have e5 := (h9.frozen (p := ⟨w.heap.size + 1, 5, none⟩) (by show w.heap.size + 1 < _; omega)).trans f5
    have B9 : Below w.heap.size w w9 := BX.trans (h9.mono BX.size)
    have HO9 : Hid (OwnI (w.heap.size + 1 + 1) w9 s9 n V) := O9.mono zX
    clear h9 O9
    go_wp2
    exact bodyPost_ret (v := .tuple #[.agg #[.int .i64 t, .bool true, .int .i64 q, .int .i64 a, .int .i64 l, .slice s9 n c9], .int .i64 (7)]) (by simp [results, Try.results11, go_sem, g0, g1, g2, g3, g4, g5]) rfl (he_post HE.out ⟨s9, c9, rfl, (by refine OwnI.mono (base := w.heap.size + 1 + 1) ?_ (by omega); repeat (first | with_reducible exact HO9.out | with_reducible refine OwnI.set ?_ (by omega) | with_reducible refine own_alloc ?_)), (by repeat (first | with_reducible exact Below.refl _ _ | with_reducible exact B9 | with_reducible refine Below.setCell ?_ (by first | omega | (simp; done) | (simp; omega)) _ | with_reducible refine bDrewN ?_ _ | with_reducible refine Below.drew ?_ | with_reducible refine Below.alloc ?_ (by first | omega | (simp; done) | (simp; omega)) _))⟩)
  · have HE : Hid (heV t true q a l n V n2 V2 = ⟨0, t, true, rdQ n2 V2, 0, lostV true l (farV (rdQ n2 V2) q), rdN n2 V2, rdU V2⟩) := he0 k0 k1 t0 (by have := inB_yes g0; omega)
    go_wp2_with fail
    refine (took_any t true q a l ad n c _ (rdQ n2 V2) s2 (rdN n2 V2) c2 _ q1' q2' x1 x2 l1 l2).mono ?_
    rintro e w9 ⟨rfl, h9⟩
    have g0 := (h9.cell (p := ⟨w.heap.size + 1, 0, none⟩) (by show w.heap.size + 1 < _; omega)).trans r0
    have e0 := (h9.frozen (p := ⟨w.heap.size + 1, 0, none⟩) (by show w.heap.size + 1 < _; omega)).trans f0
    have g1 := (h9.cell (p := ⟨w.heap.size + 1, 1, none⟩) (by show w.heap.size + 1 < _; omega)).trans r1
    have e1 := (h9.frozen (p := ⟨w.heap.size + 1, 1, none⟩) (by show w.heap.size + 1 < _; omega)).trans f1
    have g2 := (h9.cell (p := ⟨w.heap.size + 1, 2, none⟩) (by show w.heap.size + 1 < _; omega)).trans r2
    have e2 := (h9.frozen (p := ⟨w.heap.size + 1, 2, none⟩) (by show w.heap.size + 1 < _; omega)).trans f2
    have g3 := (h9.cell (p := ⟨w.heap.size + 1, 3, none⟩) (by show w.heap.size + 1 < _; omega)).trans r3
    have e3 := (h9.frozen (p := ⟨w.heap.size + 1, 3, none⟩) (by show w.heap.size + 1 < _; omega)).trans f3
    have g4 := (h9.cell (p := ⟨w.heap.size + 1, 4, none⟩) (by show w.heap.size + 1 < _; omega)).trans r4
    have e4 := (h9.frozen (p := ⟨w.heap.size + 1, 4, none⟩) (by show w.heap.size + 1 < _; omega)).trans f4
    have g5 := (h9.cell (p := ⟨w.heap.size + 1, 5, none⟩) (by show w.heap.size + 1 < _; omega)).trans r5
    have e5 := (h9.frozen (p := ⟨w.heap.size + 1, 5, none⟩) (by show w.heap.size + 1 < _; omega)).trans f5
    have B9 : Below w.heap.size w w9 := BX.trans (h9.mono BX.size)
    have HO9 : Hid (OwnI (w.heap.size + 1 + 1) w9 s2 (rdN n2 V2) (rdU V2)) := HO2.out.below h9
    clear h9
    go_wp2
    exact bodyPost_ret (v := .tuple #[.agg #[.int .i64 t, .bool true, .int .i64 (rdQ n2 V2), .int .i64 0, .int .i64 (lostV true l (farV (rdQ n2 V2) q)), .slice s2 (rdN n2 V2) c2], .int .i64 0]) (by simp [results, Try.results11, go_sem, g0, g1, g2, g3, g4, g5]) rfl (he_post HE.out ⟨s2, c2, rfl, (by refine OwnI.mono (base := w.heap.size + 1 + 1) ?_ (by omega); repeat (first | with_reducible exact HO9.out | with_reducible refine OwnI.set ?_ (by omega) | with_reducible refine own_alloc ?_)), (by repeat (first | with_reducible exact Below.refl _ _ | with_reducible exact B9 | with_reducible refine Below.setCell ?_ (by first | omega | (simp; done) | (simp; omega)) _ | with_reducible refine bDrewN ?_ _ | with_reducible refine Below.drew ?_ | with_reducible refine Below.alloc ?_ (by first | omega | (simp; done) | (simp; omega)) _))⟩)
end Go.Proofs.Ytkocbklkiehdiaa
