/-
What is proved: what is seen, drawn from a code.
-/
import Derived.Test.YtpnihekpokfooaaPgD
import Derived.Deep.RegionHeld3
import Derived.Deep.DeepCutAuto
namespace Go.Proofs.Ytpnihekpokfooaa
set_option maxRecDepth 40000
open Go.RowKit
set_option linter.unusedVariables false
set_option linter.unusedSimpArgs false

def InAt (w : World) (b : Nat) (u0 u1 u2 u3 u4 u5 : Bool) : Prop := b < w.heap.size ∧ (w.cell? ⟨b, 0, none⟩ = some (.bool u0) ∧ w.cell? ⟨b, 1, none⟩ = some (.bool u1) ∧ w.cell? ⟨b, 2, none⟩ = some (.bool u2) ∧ w.cell? ⟨b, 3, none⟩ = some (.bool u3) ∧ w.cell? ⟨b, 4, none⟩ = some (.bool u4) ∧ w.cell? ⟨b, 5, none⟩ = some (.bool u5)) ∧ w.frozen? ⟨b, 0, none⟩ = false ∧ w.frozen? ⟨b, 1, none⟩ = false ∧ w.frozen? ⟨b, 2, none⟩ = false ∧ w.frozen? ⟨b, 3, none⟩ = false ∧ w.frozen? ⟨b, 4, none⟩ = false ∧ w.frozen? ⟨b, 5, none⟩ = false
theorem inAt_new (w : World) (u0 u1 u2 u3 u4 u5 : Bool) (t : TypeId) : InAt (w.alloc (.cells #[.bool u0, .bool u1, .bool u2, .bool u3, .bool u4, .bool u5] t)) w.heap.size u0 u1 u2 u3 u4 u5 := by
  refine ⟨by simp, ⟨?_, ?_, ?_, ?_, ?_, ?_⟩, ?_, ?_, ?_, ?_, ?_, ?_⟩ <;> simp [go_sem]
theorem InAt.beside {w w' : World} {b r : Nat} {u0 u1 u2 u3 u4 u5 : Bool} (h : InAt w b u0 u1 u2 u3 u4 u5) (hb : Beside r w w') (hr : b ≠ r) : InAt w' b u0 u1 u2 u3 u4 u5 := by
  obtain ⟨hz, ⟨h0, h1, h2, h3, h4, h5⟩, f0, f1, f2, f3, f4, f5⟩ := h
  exact ⟨Nat.lt_of_lt_of_le hz hb.2.2.2.1, ⟨(hb.cell (p := ⟨b, 0, none⟩) hz hr).trans h0, (hb.cell (p := ⟨b, 1, none⟩) hz hr).trans h1, (hb.cell (p := ⟨b, 2, none⟩) hz hr).trans h2, (hb.cell (p := ⟨b, 3, none⟩) hz hr).trans h3, (hb.cell (p := ⟨b, 4, none⟩) hz hr).trans h4, (hb.cell (p := ⟨b, 5, none⟩) hz hr).trans h5⟩, (hb.frozen (p := ⟨b, 0, none⟩) hz hr).trans f0, (hb.frozen (p := ⟨b, 1, none⟩) hz hr).trans f1, (hb.frozen (p := ⟨b, 2, none⟩) hz hr).trans f2, (hb.frozen (p := ⟨b, 3, none⟩) hz hr).trans f3, (hb.frozen (p := ⟨b, 4, none⟩) hz hr).trans f4, (hb.frozen (p := ⟨b, 5, none⟩) hz hr).trans f5⟩
theorem InAt.below {w w' : World} {b : Nat} {u0 u1 u2 u3 u4 u5 : Bool} (h : InAt w b u0 u1 u2 u3 u4 u5) (hb : Below w.heap.size w w') : InAt w' b u0 u1 u2 u3 u4 u5 := by
  have := h.1
  exact h.beside (r := w.heap.size) (Beside.of hb) (by omega)
theorem InAt.s2 {w : World} {b : Nat} {u0 u1 u2 u3 u4 u5 v : Bool} (h : InAt w b u0 u1 u2 u3 u4 u5) : InAt (w.setCell ⟨b, 2, none⟩ (.bool v)) b u0 u1 v u3 u4 u5 := by
  obtain ⟨hz, ⟨h0, h1, h2, h3, h4, h5⟩, f0, f1, f2, f3, f4, f5⟩ := h
  refine ⟨by simpa using hz, ⟨?_, ?_, ?_, ?_, ?_, ?_⟩, ?_, ?_, ?_, ?_, ?_, ?_⟩ <;> simp [go_sem, h0, h1, h2, h3, h4, h5, f0, f1, f2, f3, f4, f5]
set_option maxRecDepth 20000 in
set_option maxHeartbeats 16000000 in
theorem seen_any {r : Nat} {s : Option Addr} {n c p : Nat} {w : World} (h : Hid (Rd w r s n c p)) (x y z : Int) :
    Calls Try.prog 49 #[.pointer (some ⟨r, 0, none⟩), .agg #[.int .i64 x, .int .i64 y, .int .i64 z]] w fun e w' => ∃ u0 u1 u2 u3 u4 u5 p', e = .returned (.agg #[.bool u0, .bool u1, .bool u2, .bool u3, .bool u4, .bool u5]) ∧ Rd w' r s n c p' ∧ Beside r w w' := by
  have zr : r < w.heap.size := h.out.1
  go_enter Try.func49, Try.ntmps49
  go_wp2_with fail
  refine (once_any 10 (by omega) (by omega) (Rd.below (Rd.below h.out (below0 _ _)) (below0 _ _))).mono ?_
  rintro e v1 ⟨na, _, rfl, RR, b2⟩
  have HB' : Hid (BurAt v1 w.heap.size (x, y, z)) := ((burAt_new w x y z _).below (below0 _ _)).beside b2 (by omega)
  have HZ' : Hid (InAt v1 (w.heap.size + 1) false false false false false false) := InAt.beside (by have := inAt_new (w.alloc (.cells #[.int .i64 x, .int .i64 y, .int .i64 z] 25)) false false false false false false 34; simpa using this) b2 (by omega)
  have HS' : Hid (Beside r w v1) := ((Beside.of (below0 _ _)).trans (Beside.of (below0 _ _))).trans b2
  have HR' : Hid (Rd v1 r s n c _) := RR
  clear  RR b2
  have HB := HB'
  clear HB'
  have HZ := HZ'
  clear HZ'
  have HS := HS'
  clear HS'
  have HR := HR'
  clear HR'
  obtain ⟨zP, ⟨p0, p1, p2⟩, -⟩ := HB.out
  go_wp2_with fail
  refine (once_any 10 (by omega) (by omega) HR.out).mono ?_
  rintro e v3 ⟨ng, _, rfl, RR, b4⟩
  have HB' : Hid (BurAt v3 w.heap.size (x, y, z)) := HB.out.beside b4 (by omega)
  have HZ' : Hid (InAt v3 (w.heap.size + 1) false false false false false false) := HZ.out.beside b4 (by omega)
  have HS' : Hid (Beside r w v3) := HS.out.trans b4
  have HR' : Hid (Rd v3 r s n c _) := RR
  clear zP p0 p1 p2
  clear HB HZ HS HR RR b4
  have HB := HB'
  clear HB'
  have HZ := HZ'
  clear HZ'
  have HS := HS'
  clear HS'
  have HR := HR'
  clear HR'
  obtain ⟨zP, ⟨p0, p1, p2⟩, -⟩ := HB.out
  go_wp2_with fail
  refine (once_any 2 (by omega) (by omega) HR.out).mono ?_
  rintro e v5 ⟨us, _, rfl, RR, b6⟩
  have HB' : Hid (BurAt v5 w.heap.size (x, y, z)) := HB.out.beside b6 (by omega)
  have HZ' : Hid (InAt v5 (w.heap.size + 1) false false false false false false) := HZ.out.beside b6 (by omega)
  have HS' : Hid (Beside r w v5) := HS.out.trans b6
  have HR' : Hid (Rd v5 r s n c _) := RR
  clear zP p0 p1 p2
  clear HB HZ HS HR RR b6
  have HB := HB'
  clear HB'
  have HZ := HZ'
  clear HZ'
  have HS := HS'
  clear HS'
  have HR := HR'
  clear HR'
  obtain ⟨zP, ⟨p0, p1, p2⟩, -⟩ := HB.out
  go_wp2_with fail
  refine (once_any 20 (by omega) (by omega) HR.out).mono ?_
  rintro e v7 ⟨ut, _, rfl, RR, b8⟩
  have HB' : Hid (BurAt v7 w.heap.size (x, y, z)) := HB.out.beside b8 (by omega)
  have HZ' : Hid (InAt v7 (w.heap.size + 1) false false false false false false) := HZ.out.beside b8 (by omega)
  have HS' : Hid (Beside r w v7) := HS.out.trans b8
  have HR' : Hid (Rd v7 r s n c _) := RR
  clear zP p0 p1 p2
  clear HB HZ HS HR RR b8
  have HB := HB'
  clear HB'
  have HZ := HZ'
  clear HZ'
  have HS := HS'
  clear HS'
  have HR := HR'
  clear HR'
  obtain ⟨zP, ⟨p0, p1, p2⟩, -⟩ := HB.out
  go_wp2_with fail
  refine (once_any 3 (by omega) (by omega) HR.out).mono ?_
  rintro e v9 ⟨ur, _, rfl, RR, b10⟩
  have HB' : Hid (BurAt v9 w.heap.size (x, y, z)) := HB.out.beside b10 (by omega)
  have HZ' : Hid (InAt v9 (w.heap.size + 1) false false false false false false) := HZ.out.beside b10 (by omega)
  have HS' : Hid (Beside r w v9) := HS.out.trans b10
  have HR' : Hid (Rd v9 r s n c _) := RR
  clear zP p0 p1 p2
  clear HB HZ HS HR RR b10
  have HB := HB'
  clear HB'
  have HZ := HZ'
  clear HZ'
  have HS := HS'
  clear HS'
  have HR := HR'
  clear HR'
  go_wp2_with fail
  refine (once_any 20 (by omega) (by omega) (Rd.below HR.out (below0 _ _))).mono ?_
  rintro e v11 ⟨uf, _, rfl, RR, b12⟩
  have HB' : Hid (BurAt v11 w.heap.size (x, y, z)) := (HB.out.below (below0 _ _)).beside b12 (by omega)
  have HZ' : Hid (InAt v11 (w.heap.size + 1) false false false false false false) := (HZ.out.below (below0 _ _)).beside b12 (by omega)
  have zI2 : w.heap.size + 1 < v9.heap.size := HZ.out.1
  have HI' : Hid (InAt v11 v9.heap.size (!na) (!ng) false us ut ur) := (inAt_new v9 (!na) (!ng) false us ut ur _).beside b12 (by have := HS.out.2.2.2.1; omega)
  have HS' : Hid (Beside r w v11) := (HS.out.trans (Beside.of (below0 _ _))).trans b12
  have HR' : Hid (Rd v11 r s n c _) := RR
  clear HB HZ HS HR RR b12
  have HB := HB'
  clear HB'
  have HZ := HZ'
  clear HZ'
  have HS := HS'
  clear HS'
  have HR := HR'
  clear HR'
  have HI := HI'
  clear HI'
  by_cases x3 : x = 3
  case pos =>
    subst x3
    obtain ⟨zP, ⟨p0, p1, p2⟩, -⟩ := HB.out
    obtain ⟨zI, ⟨i0, i1, i2, i3, i4, i5⟩, j0, j1, j2, j3, j4, j5⟩ := HI.out
    go_wp2_with fail
    refine (once_any 12 (by omega) (by omega) (Rd.below' HR.out (show Below (r + 1) v11 _ from (by repeat (first | with_reducible exact Below.refl _ _ | with_reducible refine Below.setCell ?_ (by first | omega | (simp; done) | (simp; omega)) _ | with_reducible refine bDrewN ?_ _ | with_reducible refine Below.drew ?_ | with_reducible refine Below.alloc ?_ (by first | omega | (simp; done) | (simp; omega)) _))))).mono ?_
    rintro e v13 ⟨f3, _, rfl, RR, b14⟩
    have HB' : Hid (BurAt v13 w.heap.size (3, y, z)) := (HB.out.beside (Beside.setCell (v9.heap.size) _ 2 (.bool uf)) (by omega)).beside b14 (by omega)
    have HZ' : Hid (InAt v13 (w.heap.size + 1) false false false false false false) := (HZ.out.beside (Beside.setCell (v9.heap.size) _ 2 (.bool uf)) (by omega)).beside b14 (by omega)
    have HI' : Hid (InAt v13 v9.heap.size (!na) (!ng) uf us ut ur) := (HI.out.s2 (v := uf)).beside b14 (by omega)
    have HS' : Hid (Beside r w v13) := (HS.out.on (show Below w.heap.size v11 (v11.setCell ⟨v9.heap.size, 2, none⟩ (.bool uf)) from (by repeat (first | with_reducible exact Below.refl _ _ | with_reducible refine Below.setCell ?_ (by first | omega | (simp; done) | (simp; omega)) _ | with_reducible refine bDrewN ?_ _ | with_reducible refine Below.drew ?_ | with_reducible refine Below.alloc ?_ (by first | omega | (simp; done) | (simp; omega)) _)))).trans b14
    have HR' : Hid (Rd v13 r s n c _) := RR
    clear zP p0 p1 p2
    clear zI i0 i1 i2 i3 i4 i5 j0 j1 j2 j3 j4 j5
    clear HB HZ HS HR HI RR b14
    have HB := HB'
    clear HB'
    have HZ := HZ'
    clear HZ'
    have HS := HS'
    clear HS'
    have HR := HR'
    clear HR'
    have HI := HI'
    clear HI'
    obtain ⟨zP, ⟨p0, p1, p2⟩, -⟩ := HB.out
    obtain ⟨zI, ⟨i0, i1, i2, i3, i4, i5⟩, j0, j1, j2, j3, j4, j5⟩ := HI.out
    obtain ⟨zZ, ⟨q0, q1, q2, q3, q4, q5⟩, g0, g1, g2, g3, g4, g5⟩ := HZ.out
    go_wp2
    exact bodyPost_ret (v := .agg #[.bool ((!na)), .bool ((!ng)), .bool ((!f3)), .bool us, .bool ut, .bool ur]) (by simp [results, Try.results49, go_sem, q0, q1, q2, q3, q4, q5]) rfl ⟨(!na), (!ng), (!f3), us, ut, ur, _, rfl, Rd.below' HR.out (show Below (r + 1) v13 _ from (by repeat (first | with_reducible exact Below.refl _ _ | with_reducible refine Below.setCell ?_ (by first | omega | (simp; done) | (simp; omega)) _ | with_reducible refine bDrewN ?_ _ | with_reducible refine Below.drew ?_ | with_reducible refine Below.alloc ?_ (by first | omega | (simp; done) | (simp; omega)) _))), HS.out.on (show Below w.heap.size v13 _ from (by repeat (first | with_reducible exact Below.refl _ _ | with_reducible refine Below.setCell ?_ (by first | omega | (simp; done) | (simp; omega)) _ | with_reducible refine bDrewN ?_ _ | with_reducible refine Below.drew ?_ | with_reducible refine Below.alloc ?_ (by first | omega | (simp; done) | (simp; omega)) _)))⟩
  have n3 : (x == 3) = false := by simpa using x3
  by_cases x2 : x = 2
  case pos =>
    subst x2
    obtain ⟨zP, ⟨p0, p1, p2⟩, -⟩ := HB.out
    obtain ⟨zI, ⟨i0, i1, i2, i3, i4, i5⟩, j0, j1, j2, j3, j4, j5⟩ := HI.out
    go_wp2_with fail
    refine (once_any 3 (by omega) (by omega) (Rd.below' HR.out (show Below (r + 1) v11 _ from (by repeat (first | with_reducible exact Below.refl _ _ | with_reducible refine Below.setCell ?_ (by first | omega | (simp; done) | (simp; omega)) _ | with_reducible refine bDrewN ?_ _ | with_reducible refine Below.drew ?_ | with_reducible refine Below.alloc ?_ (by first | omega | (simp; done) | (simp; omega)) _))))).mono ?_
    rintro e v15 ⟨f3, _, rfl, RR, b16⟩
    have HB' : Hid (BurAt v15 w.heap.size (2, y, z)) := (HB.out.beside (Beside.setCell (v9.heap.size) _ 2 (.bool uf)) (by omega)).beside b16 (by omega)
    have HZ' : Hid (InAt v15 (w.heap.size + 1) false false false false false false) := (HZ.out.beside (Beside.setCell (v9.heap.size) _ 2 (.bool uf)) (by omega)).beside b16 (by omega)
    have HI' : Hid (InAt v15 v9.heap.size (!na) (!ng) uf us ut ur) := (HI.out.s2 (v := uf)).beside b16 (by omega)
    have HS' : Hid (Beside r w v15) := (HS.out.on (show Below w.heap.size v11 (v11.setCell ⟨v9.heap.size, 2, none⟩ (.bool uf)) from (by repeat (first | with_reducible exact Below.refl _ _ | with_reducible refine Below.setCell ?_ (by first | omega | (simp; done) | (simp; omega)) _ | with_reducible refine bDrewN ?_ _ | with_reducible refine Below.drew ?_ | with_reducible refine Below.alloc ?_ (by first | omega | (simp; done) | (simp; omega)) _)))).trans b16
    have HR' : Hid (Rd v15 r s n c _) := RR
    clear zP p0 p1 p2
    clear zI i0 i1 i2 i3 i4 i5 j0 j1 j2 j3 j4 j5
    clear HB HZ HS HR HI RR b16
    have HB := HB'
    clear HB'
    have HZ := HZ'
    clear HZ'
    have HS := HS'
    clear HS'
    have HR := HR'
    clear HR'
    have HI := HI'
    clear HI'
    obtain ⟨zP, ⟨p0, p1, p2⟩, -⟩ := HB.out
    obtain ⟨zI, ⟨i0, i1, i2, i3, i4, i5⟩, j0, j1, j2, j3, j4, j5⟩ := HI.out
    obtain ⟨zZ, ⟨q0, q1, q2, q3, q4, q5⟩, g0, g1, g2, g3, g4, g5⟩ := HZ.out
    go_wp2
    exact bodyPost_ret (v := .agg #[.bool ((!na)), .bool ((!ng)), .bool f3, .bool us, .bool ut, .bool ur]) (by simp [results, Try.results49, go_sem, q0, q1, q2, q3, q4, q5]) rfl ⟨(!na), (!ng), f3, us, ut, ur, _, rfl, Rd.below' HR.out (show Below (r + 1) v15 _ from (by repeat (first | with_reducible exact Below.refl _ _ | with_reducible refine Below.setCell ?_ (by first | omega | (simp; done) | (simp; omega)) _ | with_reducible refine bDrewN ?_ _ | with_reducible refine Below.drew ?_ | with_reducible refine Below.alloc ?_ (by first | omega | (simp; done) | (simp; omega)) _))), HS.out.on (show Below w.heap.size v15 _ from (by repeat (first | with_reducible exact Below.refl _ _ | with_reducible refine Below.setCell ?_ (by first | omega | (simp; done) | (simp; omega)) _ | with_reducible refine bDrewN ?_ _ | with_reducible refine Below.drew ?_ | with_reducible refine Below.alloc ?_ (by first | omega | (simp; done) | (simp; omega)) _)))⟩
  have n2 : (x == 2) = false := by simpa using x2
  obtain ⟨zP, ⟨p0, p1, p2⟩, -⟩ := HB.out
  obtain ⟨zI, ⟨i0, i1, i2, i3, i4, i5⟩, j0, j1, j2, j3, j4, j5⟩ := HI.out
  obtain ⟨zZ, ⟨q0, q1, q2, q3, q4, q5⟩, g0, g1, g2, g3, g4, g5⟩ := HZ.out
  go_wp2
  exact bodyPost_ret (v := .agg #[.bool ((!na)), .bool ((!ng)), .bool uf, .bool us, .bool ut, .bool ur]) (by simp [results, Try.results49, go_sem, q0, q1, q2, q3, q4, q5]) rfl ⟨(!na), (!ng), uf, us, ut, ur, _, rfl, Rd.below' HR.out (show Below (r + 1) v11 _ from (by repeat (first | with_reducible exact Below.refl _ _ | with_reducible refine Below.setCell ?_ (by first | omega | (simp; done) | (simp; omega)) _ | with_reducible refine bDrewN ?_ _ | with_reducible refine Below.drew ?_ | with_reducible refine Below.alloc ?_ (by first | omega | (simp; done) | (simp; omega)) _))), HS.out.on (show Below w.heap.size v11 _ from (by repeat (first | with_reducible exact Below.refl _ _ | with_reducible refine Below.setCell ?_ (by first | omega | (simp; done) | (simp; omega)) _ | with_reducible refine bDrewN ?_ _ | with_reducible refine Below.drew ?_ | with_reducible refine Below.alloc ?_ (by first | omega | (simp; done) | (simp; omega)) _)))⟩
end Go.Proofs.Ytpnihekpokfooaa
