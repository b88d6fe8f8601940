/-
What is proved: FnPhases: three pairs that are drawn, with parts of at most 300, come back from their sequences within a millionth; no condition.
-/
import Derived.Test.YtjahjhddokaopaaPhB
import Derived.Test.YtjahjhddokaopaaPhD
import Derived.Test.YtjahjhddokaopaaISeqK
import Derived.Test.YtjahjhddokaopaaIUnsK
import Derived.Test.YtjahjhddokaopaaOpen8
import Derived.Deep.RegionHeldLaw
namespace Go.Proofs.Ytjahjhddokaopaa
set_option maxRecDepth 40000
open Go.ChangeShapes Go.WideShapes Go.ChangeAt Go.RowKit
set_option linter.unusedVariables false
set_option linter.unusedSimpArgs false

set_option maxHeartbeats 400000 in
theorem phases_far (w : World) (s : Option Addr) (n c : Nat) (h : (1048576 : Int) < n) :
    Calls Try.prog 3 #[.slice s n c] w fun e w' => e = .returned (.bool true) ∧ Below w.heap.size w w' := by
  go_enter Try.func3, Try.ntmps3
  go_wp2_with fail
  refine (big_yes _ _ _ _ h).mono ?_
  rintro e w1 ⟨rfl, rfl⟩
  go_wp2
  go_ret
  exact ⟨rfl, Below.refl _ _⟩
theorem quo_fl {o : Option Nat} {r : Nat} (h : thirdO o = some r) : Fl r (some r) := by
  unfold thirdO at h
  cases o with
  | none => cases h
  | some q =>
    have := fRun_fin (f := .quo) rfl (x := q) (y := 4613937818241073152) h
    exact ⟨this.2, .inl ⟨this.1, rfl⟩⟩
theorem six_cells {w : World} {base b : Nat} {x0 x1 x2 x3 x4 x5 : Nat} (h : OwnF base w (some ⟨b, 0, none⟩) 6 (six (some x0) (some x1) (some x2) (some x3) (some x4) (some x5))) : w.cell? ⟨b, 0, none⟩ = some (.float .f64 x0) ∧ w.cell? ⟨b, 1, none⟩ = some (.float .f64 x1) ∧ w.cell? ⟨b, 2, none⟩ = some (.float .f64 x2) ∧ w.cell? ⟨b, 3, none⟩ = some (.float .f64 x3) ∧ w.cell? ⟨b, 4, none⟩ = some (.float .f64 x4) ∧ w.cell? ⟨b, 5, none⟩ = some (.float .f64 x5) := by
  have k : ∀ j y, j < 6 → six (some x0) (some x1) (some x2) (some x3) (some x4) (some x5) j = some y → w.cell? ⟨b, j, none⟩ = some (.float .f64 y) := fun j y hj hy => by
    obtain ⟨b', x, e1, _, _, e4, e5, _⟩ := h j hj
    cases e1
    rw [hy] at e5
    rw [e4, fl_is e5]
  exact ⟨k 0 _ (by decide) rfl, k 1 _ (by decide) rfl, k 2 _ (by decide) rfl, k 3 _ (by decide) rfl, k 4 _ (by decide) rfl, k 5 _ (by decide) rfl⟩
set_option maxRecDepth 20000 in
set_option maxHeartbeats 16000000 in
theorem phases_near (w : World) (s : Option Addr) (n c : Nat) (hn : (n : Int) ≤ 1048576) (HC8 : Hid (Code8 w s n)) :
    Calls Try.prog 3 #[.slice s n c] w fun e w' => e = .returned (.bool true) ∧ Below w.heap.size w w' := by
  go_enter Try.func3, Try.ntmps3
  go_wp2_with fail
  refine (big_no _ _ _ _ hn).mono ?_
  rintro e w1 ⟨rfl, rfl⟩
  rename World => w
  go_wp2_with fail
  refine (drawSequence_any HC8).mono ?_
  rintro e w2 ⟨x, y, z, u, v, t, rfl, ⟨lx, ly, lz, lu, lv, lt⟩, B2⟩
  go_wp2_with fail
  obtain ⟨wz, hwz⟩ : ∃ q, q = ((w2.alloc (.cells #[.float .f64 0, .float .f64 0] 26)).alloc (.cells #[.float .f64 0, .float .f64 0] 26)).alloc (.cells #[.float .f64 0, .float .f64 0] 26) := ⟨_, rfl⟩
  obtain ⟨ga, hga⟩ : ∃ g, g = w2.heap.size := ⟨_, rfl⟩
  obtain ⟨gb, hgb⟩ : ∃ g, g = w2.heap.size + 1 := ⟨_, rfl⟩
  obtain ⟨gc, hgc⟩ : ∃ g, g = w2.heap.size + 1 + 1 := ⟨_, rfl⟩
  rw [← hwz, ← hgc, ← hgb, ← hga]
  have Ha : Blk wz ga [.float .f64 0, .float .f64 0] := by
    rw [hwz, hga]; exact ((Blk.new w2 #[.float .f64 0, .float .f64 0] 26).below (below0 _ _)).below (below0 _ _)
  have Hb : Blk wz gb [.float .f64 0, .float .f64 0] := by
    have q := (Blk.new (w2.alloc (.cells #[.float .f64 0, .float .f64 0] 26)) #[.float .f64 0, .float .f64 0] 26).below (below0 (_) (.cells #[.float .f64 0, .float .f64 0] 26))
    rw [hwz, hgb]; simpa using q
  have Hc : Blk wz gc [.float .f64 0, .float .f64 0] := by
    have q := Blk.new ((w2.alloc (.cells #[.float .f64 0, .float .f64 0] 26)).alloc (.cells #[.float .f64 0, .float .f64 0] 26)) #[.float .f64 0, .float .f64 0] 26
    rw [hwz, hgc]; simpa using q
  have Bz : Below w.heap.size w wz := by rw [hwz]; exact B2.trans (Below.mono (show Below w2.heap.size w2 _ from (by repeat (first | with_reducible exact Below.refl _ _ | with_reducible refine Below.setCell ?_ (by first | omega | (simp; done) | (simp; omega)) _ | with_reducible refine bDrewN ?_ _ | with_reducible refine Below.drew ?_ | with_reducible refine Below.alloc ?_ (by first | omega | (simp; done) | (simp; omega)) _))) B2.size)
  have l2 := B2.size
  have nab : ga ≠ gb := by omega
  have nac : ga ≠ gc := by omega
  have nbc : gb ≠ gc := by omega
  have la : w.heap.size ≤ ga := by omega
  have lb : w.heap.size ≤ gb := by omega
  have lc : w.heap.size ≤ gc := by omega
  clear hwz hga hgb hgc B2 l2
  have HHa : Hid (Blk wz ga [.float .f64 0, .float .f64 0]) := Ha
  have HHb : Hid (Blk wz gb [.float .f64 0, .float .f64 0]) := Hb
  have HHc : Hid (Blk wz gc [.float .f64 0, .float .f64 0]) := Hc
  have p0 : wz.cell? ⟨ga, 0, none⟩ = some (.float .f64 0) := Ha.2.2 0 _ rfl
  have p1 : wz.cell? ⟨ga, 1, none⟩ = some (.float .f64 0) := Ha.2.2 1 _ rfl
  have p2 : wz.cell? ⟨gb, 0, none⟩ = some (.float .f64 0) := Hb.2.2 0 _ rfl
  have p3 : wz.cell? ⟨gb, 1, none⟩ = some (.float .f64 0) := Hb.2.2 1 _ rfl
  have p4 : wz.cell? ⟨gc, 0, none⟩ = some (.float .f64 0) := Hc.2.2 0 _ rfl
  have p5 : wz.cell? ⟨gc, 1, none⟩ = some (.float .f64 0) := Hc.2.2 1 _ rfl
  have g0 := Ha.2.1 0
  have g1 := Ha.2.1 1
  have g2 := Hb.2.1 0
  have g3 := Hb.2.1 1
  have g4 := Hc.2.1 0
  have g5 := Hc.2.1 1
  clear Ha Hb Hc
  have hst := store_fp
  go_simp
  go_upto_region 4 with fail
  obtain ⟨wa, hwa⟩ : ∃ q, q = (((((wz.setCell ⟨ga, 0, none⟩ (.float .f64 x)).setCell ⟨ga, 1, none⟩ (.float .f64 y)).setCell ⟨gb, 0, none⟩ (.float .f64 z)).setCell ⟨gb, 1, none⟩ (.float .f64 u)).setCell ⟨gc, 0, none⟩ (.float .f64 v)).setCell ⟨gc, 1, none⟩ (.float .f64 t) := ⟨_, rfl⟩
  rw [← hwa]
  have nba := nab.symm
  have nca := nac.symm
  have ncb := nbc.symm
  have a0 : wa.cell? ⟨ga, 0, none⟩ = some (.float .f64 x) := by rw [hwa]; simp [go_sem, p0, p1, p2, p3, p4, p5, nab, nac, nbc, nba, nca, ncb]
  have a1 : wa.cell? ⟨ga, 1, none⟩ = some (.float .f64 y) := by rw [hwa]; simp [go_sem, p0, p1, p2, p3, p4, p5, nab, nac, nbc, nba, nca, ncb]
  have b0 : wa.cell? ⟨gb, 0, none⟩ = some (.float .f64 z) := by rw [hwa]; simp [go_sem, p0, p1, p2, p3, p4, p5, nab, nac, nbc, nba, nca, ncb]
  have b1 : wa.cell? ⟨gb, 1, none⟩ = some (.float .f64 u) := by rw [hwa]; simp [go_sem, p0, p1, p2, p3, p4, p5, nab, nac, nbc, nba, nca, ncb]
  have c0 : wa.cell? ⟨gc, 0, none⟩ = some (.float .f64 v) := by rw [hwa]; simp [go_sem, p0, p1, p2, p3, p4, p5, nab, nac, nbc, nba, nca, ncb]
  have c1 : wa.cell? ⟨gc, 1, none⟩ = some (.float .f64 t) := by rw [hwa]; simp [go_sem, p0, p1, p2, p3, p4, p5, nab, nac, nbc, nba, nca, ncb]
  have za : ga < wa.heap.size := by rw [hwa]; simpa using HHa.out.1
  have zb : gb < wa.heap.size := by rw [hwa]; simpa using HHb.out.1
  have zc : gc < wa.heap.size := by rw [hwa]; simpa using HHc.out.1
  have B0 : Below w.heap.size w wa := by rw [hwa]; exact (by repeat (first | with_reducible exact Below.refl _ _ | with_reducible exact Bz | with_reducible refine Below.setCell ?_ (by first | omega | (simp; done) | (simp; omega)) _ | with_reducible refine bDrewN ?_ _ | with_reducible refine Below.drew ?_ | with_reducible refine Below.alloc ?_ (by first | omega | (simp; done) | (simp; omega)) _))
  clear hst hwa p0 p1 p2 p3 p4 p5 g0 g1 g2 g3 g4 g5 HHa HHb HHc Bz nab nac nbc nba nca ncb la lb lc
  go_wp2_with fail
  refine (small_any x y lx ly _).mono ?_
  rintro e ws0 ⟨q0, rfl, I0, hh⟩
  replace a0 := (hh.cell (p := ⟨ga, 0, none⟩) za).trans a0
  replace a1 := (hh.cell (p := ⟨ga, 1, none⟩) za).trans a1
  replace b0 := (hh.cell (p := ⟨gb, 0, none⟩) zb).trans b0
  replace b1 := (hh.cell (p := ⟨gb, 1, none⟩) zb).trans b1
  replace c0 := (hh.cell (p := ⟨gc, 0, none⟩) zc).trans c0
  replace c1 := (hh.cell (p := ⟨gc, 1, none⟩) zc).trans c1
  replace za := Nat.lt_of_lt_of_le za hh.size
  replace zb := Nat.lt_of_lt_of_le zb hh.size
  replace zc := Nat.lt_of_lt_of_le zc hh.size
  replace B0 : Below w.heap.size w ws0 := B0.trans (hh.mono B0.size)
  clear hh
  cases q0
  case false =>
    go_wp2
    go_ret
    exact ⟨rfl, B0⟩
  have J0 : Hid (In3 x ∧ In3 y) := I0 rfl
  clear I0
  go_wp2_with fail
  refine (small_any z u lz lu _).mono ?_
  rintro e ws1 ⟨q1, rfl, I1, hh⟩
  replace a0 := (hh.cell (p := ⟨ga, 0, none⟩) za).trans a0
  replace a1 := (hh.cell (p := ⟨ga, 1, none⟩) za).trans a1
  replace b0 := (hh.cell (p := ⟨gb, 0, none⟩) zb).trans b0
  replace b1 := (hh.cell (p := ⟨gb, 1, none⟩) zb).trans b1
  replace c0 := (hh.cell (p := ⟨gc, 0, none⟩) zc).trans c0
  replace c1 := (hh.cell (p := ⟨gc, 1, none⟩) zc).trans c1
  replace za := Nat.lt_of_lt_of_le za hh.size
  replace zb := Nat.lt_of_lt_of_le zb hh.size
  replace zc := Nat.lt_of_lt_of_le zc hh.size
  replace B0 : Below w.heap.size w ws1 := B0.trans (hh.mono B0.size)
  clear hh
  cases q1
  case false =>
    go_wp2
    go_ret
    exact ⟨rfl, B0⟩
  have J1 : Hid (In3 z ∧ In3 u) := I1 rfl
  clear I1
  go_wp2_with fail
  refine (small_any v t lv lt _).mono ?_
  rintro e ws2 ⟨q2, rfl, I2, hh⟩
  replace a0 := (hh.cell (p := ⟨ga, 0, none⟩) za).trans a0
  replace a1 := (hh.cell (p := ⟨ga, 1, none⟩) za).trans a1
  replace b0 := (hh.cell (p := ⟨gb, 0, none⟩) zb).trans b0
  replace b1 := (hh.cell (p := ⟨gb, 1, none⟩) zb).trans b1
  replace c0 := (hh.cell (p := ⟨gc, 0, none⟩) zc).trans c0
  replace c1 := (hh.cell (p := ⟨gc, 1, none⟩) zc).trans c1
  replace za := Nat.lt_of_lt_of_le za hh.size
  replace zb := Nat.lt_of_lt_of_le zb hh.size
  replace zc := Nat.lt_of_lt_of_le zc hh.size
  replace B0 : Below w.heap.size w ws2 := B0.trans (hh.mono B0.size)
  clear hh
  cases q2
  case false =>
    go_wp2
    go_ret
    exact ⟨rfl, B0⟩
  have J2 : Hid (In3 v ∧ In3 t) := I2 rfl
  clear I2
  obtain ⟨X1, X2, Y1, Y2, Z1, Z2, r0, r1, r2, r3, r4, r5, e0, e1, e2, e3, e4, e5, q0, q1, q2, q3, q4, q5, k0, k1, k2, k3, k4, k5⟩ := phases_num J0.out.1 J0.out.2 J1.out.1 J1.out.2 J2.out.1 J2.out.2
  have E : Hid (thirdO (opO .add (opO .add (some x) (some z)) (some v)) = some X1 ∧ thirdO (opO .add (opO .add (some y) (some u)) (some t)) = some X2 ∧ thirdO (sumRe (some x) T1 T2 (some z) (some u) T1 U2 (some v) (some t)) = some Y1 ∧ thirdO (sumIm (some y) T1 T2 (some z) (some u) T1 U2 (some v) (some t)) = some Y2 ∧ thirdO (sumRe (some x) T1 U2 (some z) (some u) T1 T2 (some v) (some t)) = some Z1 ∧ thirdO (sumIm (some y) T1 U2 (some z) (some u) T1 T2 (some v) (some t)) = some Z2) := ⟨e0, e1, e2, e3, e4, e5⟩
  have Q : Hid (opO .add (opO .add (some X1) (some Y1)) (some Z1) = some r0 ∧ opO .add (opO .add (some X2) (some Y2)) (some Z2) = some r1 ∧ sumRe (some X1) T1 U2 (some Y1) (some Y2) T1 T2 (some Z1) (some Z2) = some r2 ∧ sumIm (some X2) T1 U2 (some Y1) (some Y2) T1 T2 (some Z1) (some Z2) = some r3 ∧ sumRe (some X1) T1 T2 (some Y1) (some Y2) T1 U2 (some Z1) (some Z2) = some r4 ∧ sumIm (some X2) T1 T2 (some Y1) (some Y2) T1 U2 (some Z1) (some Z2) = some r5) := ⟨q0, q1, q2, q3, q4, q5⟩
  have K0 : Hid (Close r0 x) := k0
  have K1 : Hid (Close r1 y) := k1
  have K2 : Hid (Close r2 z) := k2
  have K3 : Hid (Close r3 u) := k3
  have K4 : Hid (Close r4 v) := k4
  have K5 : Hid (Close r5 t) := k5
  clear e0 e1 e2 e3 e4 e5 q0 q1 q2 q3 q4 q5 k0 k1 k2 k3 k4 k5
  go_wp2_with fail
  refine (implSequence_any (fin_fl J0.out.1.1) (fin_fl J0.out.2.1) (fin_fl J1.out.1.1) (fin_fl J1.out.2.1) (fin_fl J2.out.1.1) (fin_fl J2.out.2.1) _).mono ?_
  rintro e w5 ⟨b, rfl, -, zs, ow, hh⟩
  rw [E.out.1, E.out.2.1, E.out.2.2.1, E.out.2.2.2.1, E.out.2.2.2.2.1, E.out.2.2.2.2.2] at ow
  obtain ⟨s0, s1, s2, s3, s4, s5⟩ := six_cells ow
  replace a0 := (hh.cell (p := ⟨ga, 0, none⟩) za).trans a0
  replace a1 := (hh.cell (p := ⟨ga, 1, none⟩) za).trans a1
  replace b0 := (hh.cell (p := ⟨gb, 0, none⟩) zb).trans b0
  replace b1 := (hh.cell (p := ⟨gb, 1, none⟩) zb).trans b1
  replace c0 := (hh.cell (p := ⟨gc, 0, none⟩) zc).trans c0
  replace c1 := (hh.cell (p := ⟨gc, 1, none⟩) zc).trans c1
  replace za := Nat.lt_of_lt_of_le za hh.size
  replace zb := Nat.lt_of_lt_of_le zb hh.size
  replace zc := Nat.lt_of_lt_of_le zc hh.size
  replace B0 : Below w.heap.size w w5 := B0.trans (hh.mono B0.size)
  clear hh
  clear ow
  go_upto_region 9 with fail
  have FX : Hid (Fl X1 (some X1) ∧ Fl X2 (some X2) ∧ Fl Y1 (some Y1) ∧ Fl Y2 (some Y2) ∧ Fl Z1 (some Z1) ∧ Fl Z2 (some Z2)) := ⟨quo_fl E.out.1, quo_fl E.out.2.1, quo_fl E.out.2.2.1, quo_fl E.out.2.2.2.1, quo_fl E.out.2.2.2.2.1, quo_fl E.out.2.2.2.2.2⟩
  refine wp_region_held_drew (S := fun w' => w'.cell? ⟨b, 0, none⟩ = some (.float .f64 X1) ∧ w'.cell? ⟨b, 1, none⟩ = some (.float .f64 X2) ∧ w'.cell? ⟨b, 2, none⟩ = some (.float .f64 Y1) ∧ w'.cell? ⟨b, 3, none⟩ = some (.float .f64 Y2) ∧ w'.cell? ⟨b, 4, none⟩ = some (.float .f64 Z1) ∧ w'.cell? ⟨b, 5, none⟩ = some (.float .f64 Z2)) (by kernel_rfl) ?_ (fun hHeld => ?_)
  · exact ⟨by simpa [go_sem] using s0, by simpa [go_sem] using s1, by simpa [go_sem] using s2, by simpa [go_sem] using s3, by simpa [go_sem] using s4, by simpa [go_sem] using s5⟩
  obtain ⟨v0, hv0⟩ : ∃ z, z = w5.drew := ⟨_, rfl⟩
  try rw [← hv0] at hHeld
  rw [← hv0]
  have bv0 : Below w5.heap.size w5 v0 := by rw [hv0]; exact Below.drew (Below.refl _ _)
  clear hv0
  have HB9 : Hid (Below w5.heap.size w5 v0) := bv0
  clear bv0
  refine wpAnyH_take (i := 0) (v := .slice (some ⟨b, 0, none⟩) 3 3) rfl (by kernel_rfl) (by kernel_rfl) (by kernel_rfl) (fun _ _ _ h => h) (Or.inl ⟨by kernel_rfl, ?_⟩) hHeld ?_
  · intro w' hSw
    obtain ⟨s0_, s1_, s2_, s3_, s4_, s5_⟩ := hSw
    first | (go_simp; done) | (go_simp; with_reducible rfl) | (go_simp; rw [IntKind.wrap_i64]; omega) | (go_simp; omega)
  simp only [Act.put, List.setIfInBounds_toArray, List.set_cons_zero, List.set_cons_succ]
  refine wpAnyH_take (i := 1) (v := .pointer (some ⟨b, 0, none⟩)) rfl (by kernel_rfl) (by kernel_rfl) (by kernel_rfl) (fun _ _ _ h => h) (Or.inl ⟨by kernel_rfl, ?_⟩) hHeld ?_
  · intro w' hSw
    obtain ⟨s0_, s1_, s2_, s3_, s4_, s5_⟩ := hSw
    first | (go_simp; done) | (go_simp; with_reducible rfl) | (go_simp; rw [IntKind.wrap_i64]; omega) | (go_simp; omega)
  simp only [Act.put, List.setIfInBounds_toArray, List.set_cons_zero, List.set_cons_succ]
  refine wpAnyH_take (i := 2) (v := .agg #[.float .f64 X1, .float .f64 X2]) rfl (by kernel_rfl) (by kernel_rfl) (by kernel_rfl) (fun _ _ _ h => h) (Or.inl ⟨by kernel_rfl, ?_⟩) hHeld ?_
  · intro w' hSw
    obtain ⟨s0_, s1_, s2_, s3_, s4_, s5_⟩ := hSw
    first | (go_simp; done) | (go_simp; with_reducible rfl) | (go_simp; rw [IntKind.wrap_i64]; omega) | (go_simp; omega)
  simp only [Act.put, List.setIfInBounds_toArray, List.set_cons_zero, List.set_cons_succ]
  refine wpAnyH_take (i := 3) (v := .slice (some ⟨b, 0, none⟩) 3 3) rfl (by kernel_rfl) (by kernel_rfl) (by kernel_rfl) (fun _ _ _ h => h) (Or.inl ⟨by kernel_rfl, ?_⟩) hHeld ?_
  · intro w' hSw
    obtain ⟨s0_, s1_, s2_, s3_, s4_, s5_⟩ := hSw
    first | (go_simp; done) | (go_simp; with_reducible rfl) | (go_simp; rw [IntKind.wrap_i64]; omega) | (go_simp; omega)
  simp only [Act.put, List.setIfInBounds_toArray, List.set_cons_zero, List.set_cons_succ]
  refine wpAnyH_take (i := 4) (v := .pointer (some ⟨b, 2, none⟩)) rfl (by kernel_rfl) (by kernel_rfl) (by kernel_rfl) (fun _ _ _ h => h) (Or.inl ⟨by kernel_rfl, ?_⟩) hHeld ?_
  · intro w' hSw
    obtain ⟨s0_, s1_, s2_, s3_, s4_, s5_⟩ := hSw
    first | (go_simp; done) | (go_simp; with_reducible rfl) | (go_simp; rw [IntKind.wrap_i64]; omega) | (go_simp; omega)
  simp only [Act.put, List.setIfInBounds_toArray, List.set_cons_zero, List.set_cons_succ]
  refine wpAnyH_take (i := 5) (v := .agg #[.float .f64 Y1, .float .f64 Y2]) rfl (by kernel_rfl) (by kernel_rfl) (by kernel_rfl) (fun _ _ _ h => h) (Or.inl ⟨by kernel_rfl, ?_⟩) hHeld ?_
  · intro w' hSw
    obtain ⟨s0_, s1_, s2_, s3_, s4_, s5_⟩ := hSw
    first | (go_simp; done) | (go_simp; with_reducible rfl) | (go_simp; rw [IntKind.wrap_i64]; omega) | (go_simp; omega)
  simp only [Act.put, List.setIfInBounds_toArray, List.set_cons_zero, List.set_cons_succ]
  refine wpAnyH_take (i := 6) (v := .slice (some ⟨b, 0, none⟩) 3 3) rfl (by kernel_rfl) (by kernel_rfl) (by kernel_rfl) (fun _ _ _ h => h) (Or.inl ⟨by kernel_rfl, ?_⟩) hHeld ?_
  · intro w' hSw
    obtain ⟨s0_, s1_, s2_, s3_, s4_, s5_⟩ := hSw
    first | (go_simp; done) | (go_simp; with_reducible rfl) | (go_simp; rw [IntKind.wrap_i64]; omega) | (go_simp; omega)
  simp only [Act.put, List.setIfInBounds_toArray, List.set_cons_zero, List.set_cons_succ]
  refine wpAnyH_take (i := 7) (v := .pointer (some ⟨b, 4, none⟩)) rfl (by kernel_rfl) (by kernel_rfl) (by kernel_rfl) (fun _ _ _ h => h) (Or.inl ⟨by kernel_rfl, ?_⟩) hHeld ?_
  · intro w' hSw
    obtain ⟨s0_, s1_, s2_, s3_, s4_, s5_⟩ := hSw
    first | (go_simp; done) | (go_simp; with_reducible rfl) | (go_simp; rw [IntKind.wrap_i64]; omega) | (go_simp; omega)
  simp only [Act.put, List.setIfInBounds_toArray, List.set_cons_zero, List.set_cons_succ]
  refine wpAnyH_take (i := 8) (v := .agg #[.float .f64 Z1, .float .f64 Z2]) rfl (by kernel_rfl) (by kernel_rfl) (by kernel_rfl) (fun _ _ _ h => h) (Or.inl ⟨by kernel_rfl, ?_⟩) hHeld ?_
  · intro w' hSw
    obtain ⟨s0_, s1_, s2_, s3_, s4_, s5_⟩ := hSw
    first | (go_simp; done) | (go_simp; with_reducible rfl) | (go_simp; rw [IntKind.wrap_i64]; omega) | (go_simp; omega)
  simp only [Act.put, List.setIfInBounds_toArray, List.set_cons_zero, List.set_cons_succ]
  refine wpAnyH_ready (rs := [9]) (by kernel_rfl) (by simp) ?_
  refine (AllReadyH.cons rfl (fun KK hK => ?_) AllReadyH.nil)
  go_simp
  go_wp2_with (first | (go_at_call 10; refine (implUnsequence_any FX.out.1 FX.out.2.1 FX.out.2.2.1 FX.out.2.2.2.1 FX.out.2.2.2.2.1 FX.out.2.2.2.2.2 _).mono ?_; rintro e v0_1 ⟨b2, rfl, -, zs2, ow, b9⟩))
  rw [Q.out.1, Q.out.2.1, Q.out.2.2.1, Q.out.2.2.2.1, Q.out.2.2.2.2.1, Q.out.2.2.2.2.2] at ow
  obtain ⟨t0, t1, t2, t3, t4, t5⟩ := six_cells ow
  replace HB9 : Hid (Below w5.heap.size w5 v0_1) := HB9.out.trans (b9.mono HB9.out.size)
  clear b9 ow
  refine hK.out _ _ (⟨(HB9.out.cell (p := ⟨b, 0, none⟩) zs).trans s0, (HB9.out.cell (p := ⟨b, 1, none⟩) zs).trans s1, (HB9.out.cell (p := ⟨b, 2, none⟩) zs).trans s2, (HB9.out.cell (p := ⟨b, 3, none⟩) zs).trans s3, (HB9.out.cell (p := ⟨b, 4, none⟩) zs).trans s4, (HB9.out.cell (p := ⟨b, 5, none⟩) zs).trans s5⟩) (fun hHeld => ?_)
  clear hK KK
  refine wpAnyH_ready (rs := [10]) (by kernel_rfl) (by simp) ?_
  refine AllReadyH.cons rfl (fun KK hK => ?_) AllReadyH.nil
  go_simp
  refine hK.out _ _ hHeld (fun hHeld => ?_)
  clear hK KK
  refine wpAnyH_done (by kernel_rfl) ?_ _
  clear hHeld
  have hh := HB9.out
  clear HB9 s0 s1 s2 s3 s4 s5
  replace a0 := (hh.cell (p := ⟨ga, 0, none⟩) za).trans a0
  replace a1 := (hh.cell (p := ⟨ga, 1, none⟩) za).trans a1
  replace b0 := (hh.cell (p := ⟨gb, 0, none⟩) zb).trans b0
  replace b1 := (hh.cell (p := ⟨gb, 1, none⟩) zb).trans b1
  replace c0 := (hh.cell (p := ⟨gc, 0, none⟩) zc).trans c0
  replace c1 := (hh.cell (p := ⟨gc, 1, none⟩) zc).trans c1
  replace za := Nat.lt_of_lt_of_le za hh.size
  replace zb := Nat.lt_of_lt_of_le zb hh.size
  replace zc := Nat.lt_of_lt_of_le zc hh.size
  replace B0 : Below w.heap.size w v0_1 := B0.trans (hh.mono B0.size)
  clear hh
  have FA : Hid (Fin x ∧ Fin y ∧ Fin z ∧ Fin u ∧ Fin v ∧ Fin t) := ⟨J0.out.1.1, J0.out.2.1, J1.out.1.1, J1.out.2.1, J2.out.1.1, J2.out.2.1⟩
  go_upto_region 10 with fail
  refine wp_region_held_drew (S := fun w' => w'.cell? ⟨b2, 0, none⟩ = some (.float .f64 r0) ∧ w'.cell? ⟨b2, 1, none⟩ = some (.float .f64 r1) ∧ w'.cell? ⟨b2, 2, none⟩ = some (.float .f64 r2) ∧ w'.cell? ⟨b2, 3, none⟩ = some (.float .f64 r3) ∧ w'.cell? ⟨b2, 4, none⟩ = some (.float .f64 r4) ∧ w'.cell? ⟨b2, 5, none⟩ = some (.float .f64 r5) ∧ w'.cell? ⟨ga, 0, none⟩ = some (.float .f64 x) ∧ w'.cell? ⟨ga, 1, none⟩ = some (.float .f64 y) ∧ w'.cell? ⟨gb, 0, none⟩ = some (.float .f64 z) ∧ w'.cell? ⟨gb, 1, none⟩ = some (.float .f64 u) ∧ w'.cell? ⟨gc, 0, none⟩ = some (.float .f64 v) ∧ w'.cell? ⟨gc, 1, none⟩ = some (.float .f64 t)) (by kernel_rfl) ?_ (fun hHeld => ?_)
  · exact ⟨by simpa [go_sem] using t0, by simpa [go_sem] using t1, by simpa [go_sem] using t2, by simpa [go_sem] using t3, by simpa [go_sem] using t4, by simpa [go_sem] using t5, by simpa [go_sem] using a0, by simpa [go_sem] using a1, by simpa [go_sem] using b0, by simpa [go_sem] using b1, by simpa [go_sem] using c0, by simpa [go_sem] using c1⟩
  obtain ⟨y0_, hv0⟩ : ∃ z, z = v0_1.drew := ⟨_, rfl⟩
  try rw [← hv0] at hHeld
  rw [← hv0]
  have bv0 : Below v0_1.heap.size v0_1 y0_ := by rw [hv0]; exact Below.drew (Below.refl _ _)
  clear hv0
  have HB9 : Hid (Below v0_1.heap.size v0_1 y0_) := bv0
  clear bv0
  refine wpAnyH_take (i := 0) (v := .slice (some ⟨b2, 0, none⟩) 3 3) rfl (by kernel_rfl) (by kernel_rfl) (by kernel_rfl) (fun _ _ _ h => h) (Or.inl ⟨by kernel_rfl, ?_⟩) hHeld ?_
  · intro w' hSw
    obtain ⟨s0_, s1_, s2_, s3_, s4_, s5_, s6_, s7_, s8_, s9_, s10_, s11_⟩ := hSw
    first | (go_simp; done) | (go_simp; with_reducible rfl) | (go_simp; rw [IntKind.wrap_i64]; omega) | (go_simp; omega)
  simp only [Act.put, List.setIfInBounds_toArray, List.set_cons_zero, List.set_cons_succ]
  refine wpAnyH_take (i := 1) (v := .int .i64 3) rfl (by kernel_rfl) (by kernel_rfl) (by kernel_rfl) (fun _ _ _ h => h) (Or.inl ⟨by kernel_rfl, ?_⟩) hHeld ?_
  · intro w' hSw
    obtain ⟨s0_, s1_, s2_, s3_, s4_, s5_, s6_, s7_, s8_, s9_, s10_, s11_⟩ := hSw
    first | (go_simp; done) | (go_simp; with_reducible rfl) | (go_simp; rw [IntKind.wrap_i64]; omega) | (go_simp; omega)
  simp only [Act.put, List.setIfInBounds_toArray, List.set_cons_zero, List.set_cons_succ]
  refine wpAnyH_take (i := 2) (v := .bool true) rfl (by kernel_rfl) (by kernel_rfl) (by kernel_rfl) (fun _ _ _ h => h) (Or.inl ⟨by kernel_rfl, ?_⟩) hHeld ?_
  · intro w' hSw
    obtain ⟨s0_, s1_, s2_, s3_, s4_, s5_, s6_, s7_, s8_, s9_, s10_, s11_⟩ := hSw
    first | (go_simp; done) | (go_simp; with_reducible rfl) | (go_simp; rw [IntKind.wrap_i64]; omega) | (go_simp; omega)
  simp only [Act.put, List.setIfInBounds_toArray, List.set_cons_zero, List.set_cons_succ]
  refine wpAnyH_take (i := 3) (v := .bool true) rfl (by kernel_rfl) (by kernel_rfl) (by kernel_rfl) (fun _ _ _ h => h) (Or.inl ⟨by kernel_rfl, ?_⟩) hHeld ?_
  · intro w' hSw
    obtain ⟨s0_, s1_, s2_, s3_, s4_, s5_, s6_, s7_, s8_, s9_, s10_, s11_⟩ := hSw
    first | (go_simp; done) | (go_simp; with_reducible rfl) | (go_simp; rw [IntKind.wrap_i64]; omega) | (go_simp; omega)
  simp only [Act.put, List.setIfInBounds_toArray, List.set_cons_zero, List.set_cons_succ]
  refine wpAnyH_take (i := 4) (v := .slice (some ⟨b2, 0, none⟩) 3 3) rfl (by kernel_rfl) (by kernel_rfl) (by kernel_rfl) (fun _ _ _ h => h) (Or.inl ⟨by kernel_rfl, ?_⟩) hHeld ?_
  · intro w' hSw
    obtain ⟨s0_, s1_, s2_, s3_, s4_, s5_, s6_, s7_, s8_, s9_, s10_, s11_⟩ := hSw
    first | (go_simp; done) | (go_simp; with_reducible rfl) | (go_simp; rw [IntKind.wrap_i64]; omega) | (go_simp; omega)
  simp only [Act.put, List.setIfInBounds_toArray, List.set_cons_zero, List.set_cons_succ]
  refine wpAnyH_take (i := 5) (v := .pointer (some ⟨b2, 0, none⟩)) rfl (by kernel_rfl) (by kernel_rfl) (by kernel_rfl) (fun _ _ _ h => h) (Or.inl ⟨by kernel_rfl, ?_⟩) hHeld ?_
  · intro w' hSw
    obtain ⟨s0_, s1_, s2_, s3_, s4_, s5_, s6_, s7_, s8_, s9_, s10_, s11_⟩ := hSw
    first | (go_simp; done) | (go_simp; with_reducible rfl) | (go_simp; rw [IntKind.wrap_i64]; omega) | (go_simp; omega)
  simp only [Act.put, List.setIfInBounds_toArray, List.set_cons_zero, List.set_cons_succ]
  refine wpAnyH_take (i := 6) (v := .agg #[.float .f64 r0, .float .f64 r1]) rfl (by kernel_rfl) (by kernel_rfl) (by kernel_rfl) (fun _ _ _ h => h) (Or.inl ⟨by kernel_rfl, ?_⟩) hHeld ?_
  · intro w' hSw
    obtain ⟨s0_, s1_, s2_, s3_, s4_, s5_, s6_, s7_, s8_, s9_, s10_, s11_⟩ := hSw
    first | (go_simp; done) | (go_simp; with_reducible rfl) | (go_simp; rw [IntKind.wrap_i64]; omega) | (go_simp; omega)
  simp only [Act.put, List.setIfInBounds_toArray, List.set_cons_zero, List.set_cons_succ]
  refine wpAnyH_take (i := 7) (v := .agg #[.float .f64 x, .float .f64 y]) rfl (by kernel_rfl) (by kernel_rfl) (by kernel_rfl) (fun _ _ _ h => h) (Or.inl ⟨by kernel_rfl, ?_⟩) hHeld ?_
  · intro w' hSw
    obtain ⟨s0_, s1_, s2_, s3_, s4_, s5_, s6_, s7_, s8_, s9_, s10_, s11_⟩ := hSw
    first | (go_simp; done) | (go_simp; with_reducible rfl) | (go_simp; rw [IntKind.wrap_i64]; omega) | (go_simp; omega)
  simp only [Act.put, List.setIfInBounds_toArray, List.set_cons_zero, List.set_cons_succ]
  refine wpAnyH_ready (rs := [8]) (by kernel_rfl) (by simp) ?_
  refine (AllReadyH.cons rfl (fun KK hK => ?_) AllReadyH.nil)
  go_simp
  go_wp2_with (first | (go_at_call 11; refine (near_pair r0 r1 x y K0 K1 FA.out.1 FA.out.2.1 _).mono ?_; rintro e y0__1 ⟨rfl, b9⟩; replace HB9 : Hid (Below v0_1.heap.size v0_1 y0__1) := HB9.out.trans (b9.mono HB9.out.size); clear b9))
  refine hK.out _ _ (⟨(HB9.out.cell (p := ⟨b2, 0, none⟩) zs2).trans t0, (HB9.out.cell (p := ⟨b2, 1, none⟩) zs2).trans t1, (HB9.out.cell (p := ⟨b2, 2, none⟩) zs2).trans t2, (HB9.out.cell (p := ⟨b2, 3, none⟩) zs2).trans t3, (HB9.out.cell (p := ⟨b2, 4, none⟩) zs2).trans t4, (HB9.out.cell (p := ⟨b2, 5, none⟩) zs2).trans t5, (HB9.out.cell (p := ⟨ga, 0, none⟩) za).trans a0, (HB9.out.cell (p := ⟨ga, 1, none⟩) za).trans a1, (HB9.out.cell (p := ⟨gb, 0, none⟩) zb).trans b0, (HB9.out.cell (p := ⟨gb, 1, none⟩) zb).trans b1, (HB9.out.cell (p := ⟨gc, 0, none⟩) zc).trans c0, (HB9.out.cell (p := ⟨gc, 1, none⟩) zc).trans c1⟩) (fun hHeld => ?_)
  clear hK KK
  refine wpAnyH_take (i := 9) (v := .bool true) rfl (by kernel_rfl) (by kernel_rfl) (by kernel_rfl) (fun _ _ _ h => h) (Or.inl ⟨by kernel_rfl, ?_⟩) hHeld ?_
  · intro w' hSw
    obtain ⟨s0_, s1_, s2_, s3_, s4_, s5_, s6_, s7_, s8_, s9_, s10_, s11_⟩ := hSw
    first | (go_simp; done) | (go_simp; with_reducible rfl) | (go_simp; rw [IntKind.wrap_i64]; omega) | (go_simp; omega)
  simp only [Act.put, List.setIfInBounds_toArray, List.set_cons_zero, List.set_cons_succ]
  refine wpAnyH_take (i := 10) (v := .bool true) rfl (by kernel_rfl) (by kernel_rfl) (by kernel_rfl) (fun _ _ _ h => h) (Or.inl ⟨by kernel_rfl, ?_⟩) hHeld ?_
  · intro w' hSw
    obtain ⟨s0_, s1_, s2_, s3_, s4_, s5_, s6_, s7_, s8_, s9_, s10_, s11_⟩ := hSw
    first | (go_simp; done) | (go_simp; with_reducible rfl) | (go_simp; rw [IntKind.wrap_i64]; omega) | (go_simp; omega)
  simp only [Act.put, List.setIfInBounds_toArray, List.set_cons_zero, List.set_cons_succ]
  refine wpAnyH_take (i := 11) (v := .slice (some ⟨b2, 0, none⟩) 3 3) rfl (by kernel_rfl) (by kernel_rfl) (by kernel_rfl) (fun _ _ _ h => h) (Or.inl ⟨by kernel_rfl, ?_⟩) hHeld ?_
  · intro w' hSw
    obtain ⟨s0_, s1_, s2_, s3_, s4_, s5_, s6_, s7_, s8_, s9_, s10_, s11_⟩ := hSw
    first | (go_simp; done) | (go_simp; with_reducible rfl) | (go_simp; rw [IntKind.wrap_i64]; omega) | (go_simp; omega)
  simp only [Act.put, List.setIfInBounds_toArray, List.set_cons_zero, List.set_cons_succ]
  refine wpAnyH_take (i := 12) (v := .pointer (some ⟨b2, 2, none⟩)) rfl (by kernel_rfl) (by kernel_rfl) (by kernel_rfl) (fun _ _ _ h => h) (Or.inl ⟨by kernel_rfl, ?_⟩) hHeld ?_
  · intro w' hSw
    obtain ⟨s0_, s1_, s2_, s3_, s4_, s5_, s6_, s7_, s8_, s9_, s10_, s11_⟩ := hSw
    first | (go_simp; done) | (go_simp; with_reducible rfl) | (go_simp; rw [IntKind.wrap_i64]; omega) | (go_simp; omega)
  simp only [Act.put, List.setIfInBounds_toArray, List.set_cons_zero, List.set_cons_succ]
  refine wpAnyH_take (i := 13) (v := .agg #[.float .f64 r2, .float .f64 r3]) rfl (by kernel_rfl) (by kernel_rfl) (by kernel_rfl) (fun _ _ _ h => h) (Or.inl ⟨by kernel_rfl, ?_⟩) hHeld ?_
  · intro w' hSw
    obtain ⟨s0_, s1_, s2_, s3_, s4_, s5_, s6_, s7_, s8_, s9_, s10_, s11_⟩ := hSw
    first | (go_simp; done) | (go_simp; with_reducible rfl) | (go_simp; rw [IntKind.wrap_i64]; omega) | (go_simp; omega)
  simp only [Act.put, List.setIfInBounds_toArray, List.set_cons_zero, List.set_cons_succ]
  refine wpAnyH_take (i := 14) (v := .agg #[.float .f64 z, .float .f64 u]) rfl (by kernel_rfl) (by kernel_rfl) (by kernel_rfl) (fun _ _ _ h => h) (Or.inl ⟨by kernel_rfl, ?_⟩) hHeld ?_
  · intro w' hSw
    obtain ⟨s0_, s1_, s2_, s3_, s4_, s5_, s6_, s7_, s8_, s9_, s10_, s11_⟩ := hSw
    first | (go_simp; done) | (go_simp; with_reducible rfl) | (go_simp; rw [IntKind.wrap_i64]; omega) | (go_simp; omega)
  simp only [Act.put, List.setIfInBounds_toArray, List.set_cons_zero, List.set_cons_succ]
  refine wpAnyH_ready (rs := [15]) (by kernel_rfl) (by simp) ?_
  refine (AllReadyH.cons rfl (fun KK hK => ?_) AllReadyH.nil)
  go_simp
  go_wp2_with (first | (go_at_call 11; refine (near_pair r2 r3 z u K2 K3 FA.out.2.2.1 FA.out.2.2.2.1 _).mono ?_; rintro e y0__2 ⟨rfl, b9⟩; replace HB9 : Hid (Below v0_1.heap.size v0_1 y0__2) := HB9.out.trans (b9.mono HB9.out.size); clear b9))
  refine hK.out _ _ (⟨(HB9.out.cell (p := ⟨b2, 0, none⟩) zs2).trans t0, (HB9.out.cell (p := ⟨b2, 1, none⟩) zs2).trans t1, (HB9.out.cell (p := ⟨b2, 2, none⟩) zs2).trans t2, (HB9.out.cell (p := ⟨b2, 3, none⟩) zs2).trans t3, (HB9.out.cell (p := ⟨b2, 4, none⟩) zs2).trans t4, (HB9.out.cell (p := ⟨b2, 5, none⟩) zs2).trans t5, (HB9.out.cell (p := ⟨ga, 0, none⟩) za).trans a0, (HB9.out.cell (p := ⟨ga, 1, none⟩) za).trans a1, (HB9.out.cell (p := ⟨gb, 0, none⟩) zb).trans b0, (HB9.out.cell (p := ⟨gb, 1, none⟩) zb).trans b1, (HB9.out.cell (p := ⟨gc, 0, none⟩) zc).trans c0, (HB9.out.cell (p := ⟨gc, 1, none⟩) zc).trans c1⟩) (fun hHeld => ?_)
  clear hK KK
  refine wpAnyH_take (i := 16) (v := .bool true) rfl (by kernel_rfl) (by kernel_rfl) (by kernel_rfl) (fun _ _ _ h => h) (Or.inl ⟨by kernel_rfl, ?_⟩) hHeld ?_
  · intro w' hSw
    obtain ⟨s0_, s1_, s2_, s3_, s4_, s5_, s6_, s7_, s8_, s9_, s10_, s11_⟩ := hSw
    first | (go_simp; done) | (go_simp; with_reducible rfl) | (go_simp; rw [IntKind.wrap_i64]; omega) | (go_simp; omega)
  simp only [Act.put, List.setIfInBounds_toArray, List.set_cons_zero, List.set_cons_succ]
  refine wpAnyH_take (i := 17) (v := .bool true) rfl (by kernel_rfl) (by kernel_rfl) (by kernel_rfl) (fun _ _ _ h => h) (Or.inl ⟨by kernel_rfl, ?_⟩) hHeld ?_
  · intro w' hSw
    obtain ⟨s0_, s1_, s2_, s3_, s4_, s5_, s6_, s7_, s8_, s9_, s10_, s11_⟩ := hSw
    first | (go_simp; done) | (go_simp; with_reducible rfl) | (go_simp; rw [IntKind.wrap_i64]; omega) | (go_simp; omega)
  simp only [Act.put, List.setIfInBounds_toArray, List.set_cons_zero, List.set_cons_succ]
  refine wpAnyH_take (i := 18) (v := .slice (some ⟨b2, 0, none⟩) 3 3) rfl (by kernel_rfl) (by kernel_rfl) (by kernel_rfl) (fun _ _ _ h => h) (Or.inl ⟨by kernel_rfl, ?_⟩) hHeld ?_
  · intro w' hSw
    obtain ⟨s0_, s1_, s2_, s3_, s4_, s5_, s6_, s7_, s8_, s9_, s10_, s11_⟩ := hSw
    first | (go_simp; done) | (go_simp; with_reducible rfl) | (go_simp; rw [IntKind.wrap_i64]; omega) | (go_simp; omega)
  simp only [Act.put, List.setIfInBounds_toArray, List.set_cons_zero, List.set_cons_succ]
  refine wpAnyH_take (i := 19) (v := .pointer (some ⟨b2, 4, none⟩)) rfl (by kernel_rfl) (by kernel_rfl) (by kernel_rfl) (fun _ _ _ h => h) (Or.inl ⟨by kernel_rfl, ?_⟩) hHeld ?_
  · intro w' hSw
    obtain ⟨s0_, s1_, s2_, s3_, s4_, s5_, s6_, s7_, s8_, s9_, s10_, s11_⟩ := hSw
    first | (go_simp; done) | (go_simp; with_reducible rfl) | (go_simp; rw [IntKind.wrap_i64]; omega) | (go_simp; omega)
  simp only [Act.put, List.setIfInBounds_toArray, List.set_cons_zero, List.set_cons_succ]
  refine wpAnyH_take (i := 20) (v := .agg #[.float .f64 r4, .float .f64 r5]) rfl (by kernel_rfl) (by kernel_rfl) (by kernel_rfl) (fun _ _ _ h => h) (Or.inl ⟨by kernel_rfl, ?_⟩) hHeld ?_
  · intro w' hSw
    obtain ⟨s0_, s1_, s2_, s3_, s4_, s5_, s6_, s7_, s8_, s9_, s10_, s11_⟩ := hSw
    first | (go_simp; done) | (go_simp; with_reducible rfl) | (go_simp; rw [IntKind.wrap_i64]; omega) | (go_simp; omega)
  simp only [Act.put, List.setIfInBounds_toArray, List.set_cons_zero, List.set_cons_succ]
  refine wpAnyH_take (i := 21) (v := .agg #[.float .f64 v, .float .f64 t]) rfl (by kernel_rfl) (by kernel_rfl) (by kernel_rfl) (fun _ _ _ h => h) (Or.inl ⟨by kernel_rfl, ?_⟩) hHeld ?_
  · intro w' hSw
    obtain ⟨s0_, s1_, s2_, s3_, s4_, s5_, s6_, s7_, s8_, s9_, s10_, s11_⟩ := hSw
    first | (go_simp; done) | (go_simp; with_reducible rfl) | (go_simp; rw [IntKind.wrap_i64]; omega) | (go_simp; omega)
  simp only [Act.put, List.setIfInBounds_toArray, List.set_cons_zero, List.set_cons_succ]
  refine wpAnyH_ready (rs := [22]) (by kernel_rfl) (by simp) ?_
  refine (AllReadyH.cons rfl (fun KK hK => ?_) AllReadyH.nil)
  go_simp
  go_wp2_with (first | (go_at_call 11; refine (near_pair r4 r5 v t K4 K5 FA.out.2.2.2.2.1 FA.out.2.2.2.2.2 _).mono ?_; rintro e y0__3 ⟨rfl, b9⟩; replace HB9 : Hid (Below v0_1.heap.size v0_1 y0__3) := HB9.out.trans (b9.mono HB9.out.size); clear b9))
  refine hK.out _ _ (⟨(HB9.out.cell (p := ⟨b2, 0, none⟩) zs2).trans t0, (HB9.out.cell (p := ⟨b2, 1, none⟩) zs2).trans t1, (HB9.out.cell (p := ⟨b2, 2, none⟩) zs2).trans t2, (HB9.out.cell (p := ⟨b2, 3, none⟩) zs2).trans t3, (HB9.out.cell (p := ⟨b2, 4, none⟩) zs2).trans t4, (HB9.out.cell (p := ⟨b2, 5, none⟩) zs2).trans t5, (HB9.out.cell (p := ⟨ga, 0, none⟩) za).trans a0, (HB9.out.cell (p := ⟨ga, 1, none⟩) za).trans a1, (HB9.out.cell (p := ⟨gb, 0, none⟩) zb).trans b0, (HB9.out.cell (p := ⟨gb, 1, none⟩) zb).trans b1, (HB9.out.cell (p := ⟨gc, 0, none⟩) zc).trans c0, (HB9.out.cell (p := ⟨gc, 1, none⟩) zc).trans c1⟩) (fun hHeld => ?_)
  clear hK KK
  refine wpAnyH_take (i := 23) (v := .bool true) rfl (by kernel_rfl) (by kernel_rfl) (by kernel_rfl) (fun _ _ _ h => h) (Or.inl ⟨by kernel_rfl, ?_⟩) hHeld ?_
  · intro w' hSw
    obtain ⟨s0_, s1_, s2_, s3_, s4_, s5_, s6_, s7_, s8_, s9_, s10_, s11_⟩ := hSw
    first | (go_simp; done) | (go_simp; with_reducible rfl) | (go_simp; rw [IntKind.wrap_i64]; omega) | (go_simp; omega)
  simp only [Act.put, List.setIfInBounds_toArray, List.set_cons_zero, List.set_cons_succ]
  refine wpAnyH_ready (rs := [24]) (by kernel_rfl) (by simp) ?_
  refine AllReadyH.cons rfl (fun KK hK => ?_) AllReadyH.nil
  go_simp
  refine hK.out _ _ hHeld (fun hHeld => ?_)
  clear hK KK
  refine wpAnyH_done (by kernel_rfl) ?_ _
  clear hHeld
  have BF : Below w.heap.size w y0__3 := B0.trans (HB9.out.mono B0.size)
  clear HB9
  go_wp2
  go_ret
  exact ⟨rfl, BF⟩
theorem fnPhases_walk (w : World) (s : Option Addr) (n c : Nat) (hn : n ≤ 9223372036854775807) (R : Bytes w s n) :
    Calls Try.prog 3 #[.slice s n c] w fun e w' => e = .returned (.bool true) ∧ Below w.heap.size w w' := by
  by_cases h : n ≤ 1048576
  · exact phases_near w s n c (by omega) (R.code h)
  · exact phases_far w s n c (by omega)

set_option maxRecDepth 100000 in
theorem fnPhases_lifted (os : Os) (started : os.Started) (H : Type) (enc : TypeId × Value → H) :
    ReturnsInHanded {} Try.checked os 3 .any (Rows.fnPhasesSpec.pre6 enc Try.prog Try.f3 Rows.fnPhasesRow.domain false) (Rows.fnPhasesSpec.post enc Try.prog Try.f3 false true false false) := by
  refine returnsInHanded_of_change (C := Try.checked) own started (by kernel_rfl) Try.func3
    (ChangeSpec.witness6 (enc := enc) (C := Try.checked) false ⟨#[], #[.slice none 0 0], []⟩ 8 (by kernel_rfl) (by kernel_rfl) (by kernel_rfl) (by kernel_rfl)) ?_
  intro W base args ds gs before hval0 hW hcnd _
  have hval : ∀ (j : Nat) t v, Try.f3.params[j]? = some t → args[j]? = some v → Value.okWide Try.prog W .any base t v := hval0
  have hW' := hW
  obtain ⟨p, q, hA0, hV, rfl, hfz, hnd⟩ := hW
  have hA : DataW.TrodAll enc Try.prog W 0 (fun _ => true) true Try.f3.params.toList args.toList ds p := hA0
  rw [Try.params3] at hA hval
  obtain ⟨v0, vs0, d0, ds0, p0, q0, hargs, rfl, rfl, h0, r0⟩ := trodAll_cons hA
  obtain ⟨rfl, rfl, rfl⟩ := trodAll_nil r0
  obtain rfl : args = #[v0] := by cases args; simp_all
  obtain ⟨rfl, rfl⟩ := trodVars_none hV
  have k0 := h0
  have lt0 : ∀ x ∈ p0, x.block < W.heap.size := by obtain ⟨m, hm⟩ := k0; exact DataW.trod_lt m _ _ _ hm
  obtain ⟨s0, n0, c0, rfl, m0, R0⟩ := open_code Try.underlying22 Try.underlying5 (by kernel_rfl) (hval 0 22 v0 rfl rfl) h0
  clear hA0 hval0
  refine (fnPhases_walk W s0 n0 c0 m0 R0).mono fun e W' ⟨he, bel⟩ => ?_
  subst he
  exact ⟨_, rfl, _, _, _, [], _, [], hW', trodAll_mk1 (shut_bool Try.underlying4 _), (trodAll_cons_mk (Below.trod laidOut (by kernel_rfl) (of_decide_eq_true (by kernel_rfl)) k0 bel lt0) trodAll_mk0), rfl, bel.frame _, fun h => by cases h⟩

theorem fnPhases_holds : Rows.FnPhasesSaid :=
  OpenClaim.holds_of_wide 3 Try.f3 rfl rfl rfl rfl rfl rfl rfl ⟨rfl, rfl, rfl, rfl, rfl⟩ rfl rfl rfl rfl rfl (by kernel_rfl) Try.func3 (by kernel_rfl)
    (of_decide_eq_true (by kernel_rfl)) (by unfold Func.isWrapper; first | (rw [if_pos (by decide +kernel)]; kernel_rfl) | (rw [if_neg (by decide +kernel)]; exact ⟨rfl, rfl⟩))
    (fun os started H enc _ => fnPhases_lifted os started H enc)
#print axioms fnPhases_holds
end Go.Proofs.Ytjahjhddokaopaa
