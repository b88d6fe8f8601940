/-
What is proved: a burner that is drawn from a code: any int64s.
-/
import Derived.Test.YtpnihekpokfooaaBrT
import Derived.Test.YtpnihekpokfooaaDrR
import Derived.Deep.RegionHeld3
import Derived.Deep.DeepCutAuto
namespace Go.Proofs.Ytpnihekpokfooaa
set_option maxRecDepth 40000
open Go.RowKit
set_option linter.unusedVariables false
set_option linter.unusedSimpArgs false

theorem burAt_new (w : World) (x y z : Int) (t : TypeId) : BurAt (w.alloc (.cells #[.int .i64 x, .int .i64 y, .int .i64 z] t)) w.heap.size (x, y, z) := by
  refine ⟨by simp, ⟨?_, ?_, ?_⟩, ?_, ?_, ?_⟩ <;> simp [go_sem]
theorem BurAt.s0 {w : World} {b : Nat} {x y z v : Int} (h : BurAt w b (x, y, z)) : BurAt (w.setCell ⟨b, 0, none⟩ (.int .i64 v)) b (v, y, z) := by
  obtain ⟨hz, ⟨h0, h1, h2⟩, f0, f1, f2⟩ := h
  refine ⟨by simpa using hz, ⟨?_, ?_, ?_⟩, ?_, ?_, ?_⟩ <;> simp [go_sem, h0, h1, h2, f0, f1, f2]
theorem BurAt.s1 {w : World} {b : Nat} {x y z v : Int} (h : BurAt w b (x, y, z)) : BurAt (w.setCell ⟨b, 1, none⟩ (.int .i64 v)) b (x, v, z) := by
  obtain ⟨hz, ⟨h0, h1, h2⟩, f0, f1, f2⟩ := h
  refine ⟨by simpa using hz, ⟨?_, ?_, ?_⟩, ?_, ?_, ?_⟩ <;> simp [go_sem, h0, h1, h2, f0, f1, f2]
theorem BurAt.s2 {w : World} {b : Nat} {x y z v : Int} (h : BurAt w b (x, y, z)) : BurAt (w.setCell ⟨b, 2, none⟩ (.int .i64 v)) b (x, y, v) := by
  obtain ⟨hz, ⟨h0, h1, h2⟩, f0, f1, f2⟩ := h
  refine ⟨by simpa using hz, ⟨?_, ?_, ?_⟩, ?_, ?_, ?_⟩ <;> simp [go_sem, h0, h1, h2, f0, f1, f2]
set_option maxRecDepth 20000 in
set_option maxHeartbeats 16000000 in
theorem burner_any {r : Nat} {s : Option Addr} {n c p : Nat} {w : World} (h : Hid (Rd w r s n c p)) :
    Calls Try.prog 46 #[.pointer (some ⟨r, 0, none⟩)] w fun e w' => ∃ x y z p', e = .returned (.agg #[.int .i64 x, .int .i64 y, .int .i64 z]) ∧ Rd w' r s n c p' ∧ Beside r w w' := by
  have zr : r < w.heap.size := h.out.1
  go_enter Try.func46, Try.ntmps46
  go_wp2_with fail
  refine (near_any 0 4 (by omega) (by omega) (by omega) (Rd.below h.out (below0 w _))).mono ?_
  rintro e w2 ⟨x, p2, rfl, xa, xb, R2, b2⟩
  have HR : Hid (Rd w2 r s n c p2) := R2
  have HZ : Hid (BurAt w2 w.heap.size (0, 0, 0)) := (burAt_new w 0 0 0 _).beside b2 (by omega)
  have HS : Hid (Beside r w w2) := (Beside.of (below0 w _)).trans b2
  have zB : w.heap.size < w2.heap.size := HZ.out.1
  clear R2 b2
  by_cases x1 : x = 1
  case pos =>
    subst x1
    go_wp2_with fail
    refine (near_any 0 4 (by omega) (by omega) (by omega) (Rd.below HR.out (below0 _ _))).mono ?_
    rintro e v1 ⟨y0, _, rfl, y0a, y0b, RR, b2⟩
    have HA' : Hid (BurAt v1 w2.heap.size (1, 0, 0)) := (burAt_new w2 1 0 0 _).beside b2 (by omega)
    have HZ' : Hid (BurAt v1 w.heap.size (0, 0, 0)) := (HZ.out.below (below0 _ _)).beside b2 (by omega)
    have HS' : Hid (Beside r w v1) := (HS.out.trans (Beside.of (below0 _ _))).trans b2
    have HR' : Hid (Rd v1 r s n c _) := RR
    clear HZ HS HR RR b2
    have HA := HA'
    clear HA'
    have HZ := HZ'
    clear HZ'
    have HS := HS'
    clear HS'
    have HR := HR'
    clear HR'
    obtain ⟨zA, ⟨a0, a1, a2⟩, f0, f1, f2⟩ := HA.out
    go_wp2_with fail
    refine (near_any 0 2 (by omega) (by omega) (by omega) (Rd.below' HR.out (show Below (r + 1) v1 _ from (by repeat (first | with_reducible exact Below.refl _ _ | with_reducible refine Below.setCell ?_ (by first | omega | (simp; done) | (simp; omega)) _ | with_reducible refine bDrewN ?_ _ | with_reducible refine Below.drew ?_ | with_reducible refine Below.alloc ?_ (by first | omega | (simp; done) | (simp; omega)) _))))).mono ?_
    rintro e v3 ⟨y1, _, rfl, y1a, y1b, RR, b4⟩
    have HA' : Hid (BurAt v3 w2.heap.size (1, y0, 0)) := (HA.out.s1 (v := y0)).beside b4 (by omega)
    have HZ' : Hid (BurAt v3 w.heap.size (0, 0, 0)) := (HZ.out.beside (Beside.setCell w2.heap.size _ 1 (.int .i64 y0)) (by omega)).beside b4 (by omega)
    have HS' : Hid (Beside r w v3) := (HS.out.on (show Below w.heap.size v1 (v1.setCell ⟨w2.heap.size, 1, none⟩ (.int .i64 y0)) from (by repeat (first | with_reducible exact Below.refl _ _ | with_reducible refine Below.setCell ?_ (by first | omega | (simp; done) | (simp; omega)) _ | with_reducible refine bDrewN ?_ _ | with_reducible refine Below.drew ?_ | with_reducible refine Below.alloc ?_ (by first | omega | (simp; done) | (simp; omega)) _)))).trans b4
    have HR' : Hid (Rd v3 r s n c _) := RR
    clear zA a0 a1 a2 f0 f1 f2
    clear HA HZ HS HR RR b4
    have HA := HA'
    clear HA'
    have HZ := HZ'
    clear HZ'
    have HS := HS'
    clear HS'
    have HR := HR'
    clear HR'
    obtain ⟨zA, ⟨a0, a1, a2⟩, f0, f1, f2⟩ := HA.out
    go_wp2_with fail
    refine (below_any 24 (Rd.below' HR.out (show Below (r + 1) v3 _ from (by repeat (first | with_reducible exact Below.refl _ _ | with_reducible refine Below.setCell ?_ (by first | omega | (simp; done) | (simp; omega)) _ | with_reducible refine bDrewN ?_ _ | with_reducible refine Below.drew ?_ | with_reducible refine Below.alloc ?_ (by first | omega | (simp; done) | (simp; omega)) _))))).mono ?_
    rintro e v5 ⟨kk, _, rfl, k0, k1, k2, RR, b6⟩
    have HA' : Hid (BurAt v5 w2.heap.size (1, y0, y1)) := (HA.out.s2 (v := y1)).beside b6 (by omega)
    have HZ' : Hid (BurAt v5 w.heap.size (0, 0, 0)) := (HZ.out.beside (Beside.setCell w2.heap.size _ 2 (.int .i64 y1)) (by omega)).beside b6 (by omega)
    have HS' : Hid (Beside r w v5) := (HS.out.on (show Below w.heap.size v3 (v3.setCell ⟨w2.heap.size, 2, none⟩ (.int .i64 y1)) from (by repeat (first | with_reducible exact Below.refl _ _ | with_reducible refine Below.setCell ?_ (by first | omega | (simp; done) | (simp; omega)) _ | with_reducible refine bDrewN ?_ _ | with_reducible refine Below.drew ?_ | with_reducible refine Below.alloc ?_ (by first | omega | (simp; done) | (simp; omega)) _)))).trans b6
    have HR' : Hid (Rd v5 r s n c _) := RR
    clear zA a0 a1 a2 f0 f1 f2
    clear HA HZ HS HR RR b6
    have HA := HA'
    clear HA'
    have HZ := HZ'
    clear HZ'
    have HS := HS'
    clear HS'
    have HR := HR'
    clear HR'
    by_cases e0 : kk = 0
    case pos =>
      subst e0
      obtain ⟨zA, ⟨a0, a1, a2⟩, f0, f1, f2⟩ := HA.out
      go_wp2_with fail
      refine (off_any 0 4 (by omega) (by omega) (by omega) HR.out).mono ?_
      rintro e v7 ⟨vv, _, rfl, wv, RR, b8⟩
      have HA' : Hid (BurAt v7 w2.heap.size (1, y0, y1)) := HA.out.beside b8 (by omega)
      have HZ' : Hid (BurAt v7 w.heap.size (0, 0, 0)) := HZ.out.beside b8 (by omega)
      have HS' : Hid (Beside r w v7) := HS.out.trans b8
      have HR' : Hid (Rd v7 r s n c _) := RR
      clear zA a0 a1 a2 f0 f1 f2
      clear HA HZ HS HR RR b8
      have HA := HA'
      clear HA'
      have HZ := HZ'
      clear HZ'
      have HS := HS'
      clear HS'
      have HR := HR'
      clear HR'
      obtain ⟨zA, ⟨a0, a1, a2⟩, f0, f1, f2⟩ := HA.out
      obtain ⟨zZ, ⟨q0, q1, q2⟩, g0, g1, g2⟩ := HZ.out
      go_wp2
      exact bodyPost_ret (v := .agg #[.int .i64 1, .int .i64 vv, .int .i64 y1]) (by simp [results, Try.results46, go_sem, q0, q1, q2, a0, a1, a2]) rfl ⟨1, vv, y1, _, rfl, Rd.below' HR.out (show Below (r + 1) v7 _ from (by repeat (first | with_reducible exact Below.refl _ _ | with_reducible refine Below.setCell ?_ (by first | omega | (simp; done) | (simp; omega)) _ | with_reducible refine bDrewN ?_ _ | with_reducible refine Below.drew ?_ | with_reducible refine Below.alloc ?_ (by first | omega | (simp; done) | (simp; omega)) _))), HS.out.on (show Below w.heap.size v7 _ from (by repeat (first | with_reducible exact Below.refl _ _ | with_reducible refine Below.setCell ?_ (by first | omega | (simp; done) | (simp; omega)) _ | with_reducible refine bDrewN ?_ _ | with_reducible refine Below.drew ?_ | with_reducible refine Below.alloc ?_ (by first | omega | (simp; done) | (simp; omega)) _)))⟩
    have n0 : (kk == 0) = false := by simpa using e0
    by_cases e1 : kk = 1
    case pos =>
      subst e1
      obtain ⟨zA, ⟨a0, a1, a2⟩, f0, f1, f2⟩ := HA.out
      go_wp2_with fail
      refine (off_any 0 3 (by omega) (by omega) (by omega) HR.out).mono ?_
      rintro e v9 ⟨vv, _, rfl, wv, RR, b10⟩
      have HA' : Hid (BurAt v9 w2.heap.size (1, y0, y1)) := HA.out.beside b10 (by omega)
      have HZ' : Hid (BurAt v9 w.heap.size (0, 0, 0)) := HZ.out.beside b10 (by omega)
      have HS' : Hid (Beside r w v9) := HS.out.trans b10
      have HR' : Hid (Rd v9 r s n c _) := RR
      clear zA a0 a1 a2 f0 f1 f2
      clear HA HZ HS HR RR b10
      have HA := HA'
      clear HA'
      have HZ := HZ'
      clear HZ'
      have HS := HS'
      clear HS'
      have HR := HR'
      clear HR'
      obtain ⟨zA, ⟨a0, a1, a2⟩, f0, f1, f2⟩ := HA.out
      obtain ⟨zZ, ⟨q0, q1, q2⟩, g0, g1, g2⟩ := HZ.out
      go_wp2
      exact bodyPost_ret (v := .agg #[.int .i64 1, .int .i64 y0, .int .i64 vv]) (by simp [results, Try.results46, go_sem, q0, q1, q2, a0, a1, a2]) rfl ⟨1, y0, vv, _, rfl, Rd.below' HR.out (show Below (r + 1) v9 _ from (by repeat (first | with_reducible exact Below.refl _ _ | with_reducible refine Below.setCell ?_ (by first | omega | (simp; done) | (simp; omega)) _ | with_reducible refine bDrewN ?_ _ | with_reducible refine Below.drew ?_ | with_reducible refine Below.alloc ?_ (by first | omega | (simp; done) | (simp; omega)) _))), HS.out.on (show Below w.heap.size v9 _ from (by repeat (first | with_reducible exact Below.refl _ _ | with_reducible refine Below.setCell ?_ (by first | omega | (simp; done) | (simp; omega)) _ | with_reducible refine bDrewN ?_ _ | with_reducible refine Below.drew ?_ | with_reducible refine Below.alloc ?_ (by first | omega | (simp; done) | (simp; omega)) _)))⟩
    have n1 : (kk == 1) = false := by simpa using e1
    by_cases e2 : kk = 2
    case pos =>
      subst e2
      obtain ⟨zA, ⟨a0, a1, a2⟩, f0, f1, f2⟩ := HA.out
      go_wp2_with fail
      refine (off_any 0 4 (by omega) (by omega) (by omega) HR.out).mono ?_
      rintro e v11 ⟨vv, _, rfl, wv, RR, b12⟩
      have HA' : Hid (BurAt v11 w2.heap.size (1, y0, y1)) := HA.out.beside b12 (by omega)
      have HZ' : Hid (BurAt v11 w.heap.size (0, 0, 0)) := HZ.out.beside b12 (by omega)
      have HS' : Hid (Beside r w v11) := HS.out.trans b12
      have HR' : Hid (Rd v11 r s n c _) := RR
      clear zA a0 a1 a2 f0 f1 f2
      clear HA HZ HS HR RR b12
      have HA := HA'
      clear HA'
      have HZ := HZ'
      clear HZ'
      have HS := HS'
      clear HS'
      have HR := HR'
      clear HR'
      obtain ⟨zA, ⟨a0, a1, a2⟩, f0, f1, f2⟩ := HA.out
      obtain ⟨zZ, ⟨q0, q1, q2⟩, g0, g1, g2⟩ := HZ.out
      go_wp2
      exact bodyPost_ret (v := .agg #[.int .i64 vv, .int .i64 y0, .int .i64 y1]) (by simp [results, Try.results46, go_sem, q0, q1, q2, a0, a1, a2]) rfl ⟨vv, y0, y1, _, rfl, Rd.below' HR.out (show Below (r + 1) v11 _ from (by repeat (first | with_reducible exact Below.refl _ _ | with_reducible refine Below.setCell ?_ (by first | omega | (simp; done) | (simp; omega)) _ | with_reducible refine bDrewN ?_ _ | with_reducible refine Below.drew ?_ | with_reducible refine Below.alloc ?_ (by first | omega | (simp; done) | (simp; omega)) _))), HS.out.on (show Below w.heap.size v11 _ from (by repeat (first | with_reducible exact Below.refl _ _ | with_reducible refine Below.setCell ?_ (by first | omega | (simp; done) | (simp; omega)) _ | with_reducible refine bDrewN ?_ _ | with_reducible refine Below.drew ?_ | with_reducible refine Below.alloc ?_ (by first | omega | (simp; done) | (simp; omega)) _)))⟩
    have n2 : (kk == 2) = false := by simpa using e2
    obtain ⟨zA, ⟨a0, a1, a2⟩, f0, f1, f2⟩ := HA.out
    obtain ⟨zZ, ⟨q0, q1, q2⟩, g0, g1, g2⟩ := HZ.out
    go_wp2
    exact bodyPost_ret (v := .agg #[.int .i64 1, .int .i64 y0, .int .i64 y1]) (by simp [results, Try.results46, go_sem, q0, q1, q2, a0, a1, a2]) rfl ⟨1, y0, y1, _, rfl, Rd.below' HR.out (show Below (r + 1) v5 _ from (by repeat (first | with_reducible exact Below.refl _ _ | with_reducible refine Below.setCell ?_ (by first | omega | (simp; done) | (simp; omega)) _ | with_reducible refine bDrewN ?_ _ | with_reducible refine Below.drew ?_ | with_reducible refine Below.alloc ?_ (by first | omega | (simp; done) | (simp; omega)) _))), HS.out.on (show Below w.heap.size v5 _ from (by repeat (first | with_reducible exact Below.refl _ _ | with_reducible refine Below.setCell ?_ (by first | omega | (simp; done) | (simp; omega)) _ | with_reducible refine bDrewN ?_ _ | with_reducible refine Below.drew ?_ | with_reducible refine Below.alloc ?_ (by first | omega | (simp; done) | (simp; omega)) _)))⟩
  have nx1 : (x == 1) = false := by simpa using x1
  by_cases x2 : x = 2
  case pos =>
    subst x2
    go_wp2_with fail
    refine (near_any 0 2 (by omega) (by omega) (by omega) (Rd.below HR.out (below0 _ _))).mono ?_
    rintro e v13 ⟨y0, _, rfl, y0a, y0b, RR, b14⟩
    have HA' : Hid (BurAt v13 w2.heap.size (2, 0, 0)) := (burAt_new w2 2 0 0 _).beside b14 (by omega)
    have HZ' : Hid (BurAt v13 w.heap.size (0, 0, 0)) := (HZ.out.below (below0 _ _)).beside b14 (by omega)
    have HS' : Hid (Beside r w v13) := (HS.out.trans (Beside.of (below0 _ _))).trans b14
    have HR' : Hid (Rd v13 r s n c _) := RR
    clear HZ HS HR RR b14
    have HA := HA'
    clear HA'
    have HZ := HZ'
    clear HZ'
    have HS := HS'
    clear HS'
    have HR := HR'
    clear HR'
    obtain ⟨zA, ⟨a0, a1, a2⟩, f0, f1, f2⟩ := HA.out
    go_wp2_with fail
    refine (near_any 0 2 (by omega) (by omega) (by omega) (Rd.below' HR.out (show Below (r + 1) v13 _ from (by repeat (first | with_reducible exact Below.refl _ _ | with_reducible refine Below.setCell ?_ (by first | omega | (simp; done) | (simp; omega)) _ | with_reducible refine bDrewN ?_ _ | with_reducible refine Below.drew ?_ | with_reducible refine Below.alloc ?_ (by first | omega | (simp; done) | (simp; omega)) _))))).mono ?_
    rintro e v15 ⟨y1, _, rfl, y1a, y1b, RR, b16⟩
    have HA' : Hid (BurAt v15 w2.heap.size (2, y0, 0)) := (HA.out.s1 (v := y0)).beside b16 (by omega)
    have HZ' : Hid (BurAt v15 w.heap.size (0, 0, 0)) := (HZ.out.beside (Beside.setCell w2.heap.size _ 1 (.int .i64 y0)) (by omega)).beside b16 (by omega)
    have HS' : Hid (Beside r w v15) := (HS.out.on (show Below w.heap.size v13 (v13.setCell ⟨w2.heap.size, 1, none⟩ (.int .i64 y0)) from (by repeat (first | with_reducible exact Below.refl _ _ | with_reducible refine Below.setCell ?_ (by first | omega | (simp; done) | (simp; omega)) _ | with_reducible refine bDrewN ?_ _ | with_reducible refine Below.drew ?_ | with_reducible refine Below.alloc ?_ (by first | omega | (simp; done) | (simp; omega)) _)))).trans b16
    have HR' : Hid (Rd v15 r s n c _) := RR
    clear zA a0 a1 a2 f0 f1 f2
    clear HA HZ HS HR RR b16
    have HA := HA'
    clear HA'
    have HZ := HZ'
    clear HZ'
    have HS := HS'
    clear HS'
    have HR := HR'
    clear HR'
    obtain ⟨zA, ⟨a0, a1, a2⟩, f0, f1, f2⟩ := HA.out
    go_wp2_with fail
    refine (below_any 24 (Rd.below' HR.out (show Below (r + 1) v15 _ from (by repeat (first | with_reducible exact Below.refl _ _ | with_reducible refine Below.setCell ?_ (by first | omega | (simp; done) | (simp; omega)) _ | with_reducible refine bDrewN ?_ _ | with_reducible refine Below.drew ?_ | with_reducible refine Below.alloc ?_ (by first | omega | (simp; done) | (simp; omega)) _))))).mono ?_
    rintro e v17 ⟨kk, _, rfl, k0, k1, k2, RR, b18⟩
    have HA' : Hid (BurAt v17 w2.heap.size (2, y0, y1)) := (HA.out.s2 (v := y1)).beside b18 (by omega)
    have HZ' : Hid (BurAt v17 w.heap.size (0, 0, 0)) := (HZ.out.beside (Beside.setCell w2.heap.size _ 2 (.int .i64 y1)) (by omega)).beside b18 (by omega)
    have HS' : Hid (Beside r w v17) := (HS.out.on (show Below w.heap.size v15 (v15.setCell ⟨w2.heap.size, 2, none⟩ (.int .i64 y1)) from (by repeat (first | with_reducible exact Below.refl _ _ | with_reducible refine Below.setCell ?_ (by first | omega | (simp; done) | (simp; omega)) _ | with_reducible refine bDrewN ?_ _ | with_reducible refine Below.drew ?_ | with_reducible refine Below.alloc ?_ (by first | omega | (simp; done) | (simp; omega)) _)))).trans b18
    have HR' : Hid (Rd v17 r s n c _) := RR
    clear zA a0 a1 a2 f0 f1 f2
    clear HA HZ HS HR RR b18
    have HA := HA'
    clear HA'
    have HZ := HZ'
    clear HZ'
    have HS := HS'
    clear HS'
    have HR := HR'
    clear HR'
    by_cases e0 : kk = 0
    case pos =>
      subst e0
      obtain ⟨zA, ⟨a0, a1, a2⟩, f0, f1, f2⟩ := HA.out
      go_wp2_with fail
      refine (off_any 0 4 (by omega) (by omega) (by omega) HR.out).mono ?_
      rintro e v19 ⟨vv, _, rfl, wv, RR, b20⟩
      have HA' : Hid (BurAt v19 w2.heap.size (2, y0, y1)) := HA.out.beside b20 (by omega)
      have HZ' : Hid (BurAt v19 w.heap.size (0, 0, 0)) := HZ.out.beside b20 (by omega)
      have HS' : Hid (Beside r w v19) := HS.out.trans b20
      have HR' : Hid (Rd v19 r s n c _) := RR
      clear zA a0 a1 a2 f0 f1 f2
      clear HA HZ HS HR RR b20
      have HA := HA'
      clear HA'
      have HZ := HZ'
      clear HZ'
      have HS := HS'
      clear HS'
      have HR := HR'
      clear HR'
      obtain ⟨zA, ⟨a0, a1, a2⟩, f0, f1, f2⟩ := HA.out
      obtain ⟨zZ, ⟨q0, q1, q2⟩, g0, g1, g2⟩ := HZ.out
      go_wp2
      exact bodyPost_ret (v := .agg #[.int .i64 2, .int .i64 vv, .int .i64 y1]) (by simp [results, Try.results46, go_sem, q0, q1, q2, a0, a1, a2]) rfl ⟨2, vv, y1, _, rfl, Rd.below' HR.out (show Below (r + 1) v19 _ from (by repeat (first | with_reducible exact Below.refl _ _ | with_reducible refine Below.setCell ?_ (by first | omega | (simp; done) | (simp; omega)) _ | with_reducible refine bDrewN ?_ _ | with_reducible refine Below.drew ?_ | with_reducible refine Below.alloc ?_ (by first | omega | (simp; done) | (simp; omega)) _))), HS.out.on (show Below w.heap.size v19 _ from (by repeat (first | with_reducible exact Below.refl _ _ | with_reducible refine Below.setCell ?_ (by first | omega | (simp; done) | (simp; omega)) _ | with_reducible refine bDrewN ?_ _ | with_reducible refine Below.drew ?_ | with_reducible refine Below.alloc ?_ (by first | omega | (simp; done) | (simp; omega)) _)))⟩
    have n0 : (kk == 0) = false := by simpa using e0
    by_cases e1 : kk = 1
    case pos =>
      subst e1
      obtain ⟨zA, ⟨a0, a1, a2⟩, f0, f1, f2⟩ := HA.out
      go_wp2_with fail
      refine (off_any 0 3 (by omega) (by omega) (by omega) HR.out).mono ?_
      rintro e v21 ⟨vv, _, rfl, wv, RR, b22⟩
      have HA' : Hid (BurAt v21 w2.heap.size (2, y0, y1)) := HA.out.beside b22 (by omega)
      have HZ' : Hid (BurAt v21 w.heap.size (0, 0, 0)) := HZ.out.beside b22 (by omega)
      have HS' : Hid (Beside r w v21) := HS.out.trans b22
      have HR' : Hid (Rd v21 r s n c _) := RR
      clear zA a0 a1 a2 f0 f1 f2
      clear HA HZ HS HR RR b22
      have HA := HA'
      clear HA'
      have HZ := HZ'
      clear HZ'
      have HS := HS'
      clear HS'
      have HR := HR'
      clear HR'
      obtain ⟨zA, ⟨a0, a1, a2⟩, f0, f1, f2⟩ := HA.out
      obtain ⟨zZ, ⟨q0, q1, q2⟩, g0, g1, g2⟩ := HZ.out
      go_wp2
      exact bodyPost_ret (v := .agg #[.int .i64 2, .int .i64 y0, .int .i64 vv]) (by simp [results, Try.results46, go_sem, q0, q1, q2, a0, a1, a2]) rfl ⟨2, y0, vv, _, rfl, Rd.below' HR.out (show Below (r + 1) v21 _ from (by repeat (first | with_reducible exact Below.refl _ _ | with_reducible refine Below.setCell ?_ (by first | omega | (simp; done) | (simp; omega)) _ | with_reducible refine bDrewN ?_ _ | with_reducible refine Below.drew ?_ | with_reducible refine Below.alloc ?_ (by first | omega | (simp; done) | (simp; omega)) _))), HS.out.on (show Below w.heap.size v21 _ from (by repeat (first | with_reducible exact Below.refl _ _ | with_reducible refine Below.setCell ?_ (by first | omega | (simp; done) | (simp; omega)) _ | with_reducible refine bDrewN ?_ _ | with_reducible refine Below.drew ?_ | with_reducible refine Below.alloc ?_ (by first | omega | (simp; done) | (simp; omega)) _)))⟩
    have n1 : (kk == 1) = false := by simpa using e1
    by_cases e2 : kk = 2
    case pos =>
      subst e2
      obtain ⟨zA, ⟨a0, a1, a2⟩, f0, f1, f2⟩ := HA.out
      go_wp2_with fail
      refine (off_any 0 4 (by omega) (by omega) (by omega) HR.out).mono ?_
      rintro e v23 ⟨vv, _, rfl, wv, RR, b24⟩
      have HA' : Hid (BurAt v23 w2.heap.size (2, y0, y1)) := HA.out.beside b24 (by omega)
      have HZ' : Hid (BurAt v23 w.heap.size (0, 0, 0)) := HZ.out.beside b24 (by omega)
      have HS' : Hid (Beside r w v23) := HS.out.trans b24
      have HR' : Hid (Rd v23 r s n c _) := RR
      clear zA a0 a1 a2 f0 f1 f2
      clear HA HZ HS HR RR b24
      have HA := HA'
      clear HA'
      have HZ := HZ'
      clear HZ'
      have HS := HS'
      clear HS'
      have HR := HR'
      clear HR'
      obtain ⟨zA, ⟨a0, a1, a2⟩, f0, f1, f2⟩ := HA.out
      obtain ⟨zZ, ⟨q0, q1, q2⟩, g0, g1, g2⟩ := HZ.out
      go_wp2
      exact bodyPost_ret (v := .agg #[.int .i64 vv, .int .i64 y0, .int .i64 y1]) (by simp [results, Try.results46, go_sem, q0, q1, q2, a0, a1, a2]) rfl ⟨vv, y0, y1, _, rfl, Rd.below' HR.out (show Below (r + 1) v23 _ from (by repeat (first | with_reducible exact Below.refl _ _ | with_reducible refine Below.setCell ?_ (by first | omega | (simp; done) | (simp; omega)) _ | with_reducible refine bDrewN ?_ _ | with_reducible refine Below.drew ?_ | with_reducible refine Below.alloc ?_ (by first | omega | (simp; done) | (simp; omega)) _))), HS.out.on (show Below w.heap.size v23 _ from (by repeat (first | with_reducible exact Below.refl _ _ | with_reducible refine Below.setCell ?_ (by first | omega | (simp; done) | (simp; omega)) _ | with_reducible refine bDrewN ?_ _ | with_reducible refine Below.drew ?_ | with_reducible refine Below.alloc ?_ (by first | omega | (simp; done) | (simp; omega)) _)))⟩
    have n2 : (kk == 2) = false := by simpa using e2
    obtain ⟨zA, ⟨a0, a1, a2⟩, f0, f1, f2⟩ := HA.out
    obtain ⟨zZ, ⟨q0, q1, q2⟩, g0, g1, g2⟩ := HZ.out
    go_wp2
    exact bodyPost_ret (v := .agg #[.int .i64 2, .int .i64 y0, .int .i64 y1]) (by simp [results, Try.results46, go_sem, q0, q1, q2, a0, a1, a2]) rfl ⟨2, y0, y1, _, rfl, Rd.below' HR.out (show Below (r + 1) v17 _ from (by repeat (first | with_reducible exact Below.refl _ _ | with_reducible refine Below.setCell ?_ (by first | omega | (simp; done) | (simp; omega)) _ | with_reducible refine bDrewN ?_ _ | with_reducible refine Below.drew ?_ | with_reducible refine Below.alloc ?_ (by first | omega | (simp; done) | (simp; omega)) _))), HS.out.on (show Below w.heap.size v17 _ from (by repeat (first | with_reducible exact Below.refl _ _ | with_reducible refine Below.setCell ?_ (by first | omega | (simp; done) | (simp; omega)) _ | with_reducible refine bDrewN ?_ _ | with_reducible refine Below.drew ?_ | with_reducible refine Below.alloc ?_ (by first | omega | (simp; done) | (simp; omega)) _)))⟩
  have nx2 : (x == 2) = false := by simpa using x2
  by_cases x4 : x = 4
  case pos =>
    subst x4
    go_wp2_with fail
    refine (near_any 0 3 (by omega) (by omega) (by omega) (Rd.below HR.out (below0 _ _))).mono ?_
    rintro e v25 ⟨y0, _, rfl, y0a, y0b, RR, b26⟩
    have HA' : Hid (BurAt v25 w2.heap.size (4, 0, 0)) := (burAt_new w2 4 0 0 _).beside b26 (by omega)
    have HZ' : Hid (BurAt v25 w.heap.size (0, 0, 0)) := (HZ.out.below (below0 _ _)).beside b26 (by omega)
    have HS' : Hid (Beside r w v25) := (HS.out.trans (Beside.of (below0 _ _))).trans b26
    have HR' : Hid (Rd v25 r s n c _) := RR
    clear HZ HS HR RR b26
    have HA := HA'
    clear HA'
    have HZ := HZ'
    clear HZ'
    have HS := HS'
    clear HS'
    have HR := HR'
    clear HR'
    obtain ⟨zA, ⟨a0, a1, a2⟩, f0, f1, f2⟩ := HA.out
    go_wp2_with fail
    refine (below_any 24 (Rd.below' HR.out (show Below (r + 1) v25 _ from (by repeat (first | with_reducible exact Below.refl _ _ | with_reducible refine Below.setCell ?_ (by first | omega | (simp; done) | (simp; omega)) _ | with_reducible refine bDrewN ?_ _ | with_reducible refine Below.drew ?_ | with_reducible refine Below.alloc ?_ (by first | omega | (simp; done) | (simp; omega)) _))))).mono ?_
    rintro e v27 ⟨kk, _, rfl, k0, k1, k2, RR, b28⟩
    have HA' : Hid (BurAt v27 w2.heap.size (4, 0, y0)) := (HA.out.s2 (v := y0)).beside b28 (by omega)
    have HZ' : Hid (BurAt v27 w.heap.size (0, 0, 0)) := (HZ.out.beside (Beside.setCell w2.heap.size _ 2 (.int .i64 y0)) (by omega)).beside b28 (by omega)
    have HS' : Hid (Beside r w v27) := (HS.out.on (show Below w.heap.size v25 (v25.setCell ⟨w2.heap.size, 2, none⟩ (.int .i64 y0)) from (by repeat (first | with_reducible exact Below.refl _ _ | with_reducible refine Below.setCell ?_ (by first | omega | (simp; done) | (simp; omega)) _ | with_reducible refine bDrewN ?_ _ | with_reducible refine Below.drew ?_ | with_reducible refine Below.alloc ?_ (by first | omega | (simp; done) | (simp; omega)) _)))).trans b28
    have HR' : Hid (Rd v27 r s n c _) := RR
    clear zA a0 a1 a2 f0 f1 f2
    clear HA HZ HS HR RR b28
    have HA := HA'
    clear HA'
    have HZ := HZ'
    clear HZ'
    have HS := HS'
    clear HS'
    have HR := HR'
    clear HR'
    by_cases e0 : kk = 0
    case pos =>
      subst e0
      obtain ⟨zA, ⟨a0, a1, a2⟩, f0, f1, f2⟩ := HA.out
      go_wp2_with fail
      refine (off_any 0 4 (by omega) (by omega) (by omega) HR.out).mono ?_
      rintro e v29 ⟨vv, _, rfl, wv, RR, b30⟩
      have HA' : Hid (BurAt v29 w2.heap.size (4, 0, y0)) := HA.out.beside b30 (by omega)
      have HZ' : Hid (BurAt v29 w.heap.size (0, 0, 0)) := HZ.out.beside b30 (by omega)
      have HS' : Hid (Beside r w v29) := HS.out.trans b30
      have HR' : Hid (Rd v29 r s n c _) := RR
      clear zA a0 a1 a2 f0 f1 f2
      clear HA HZ HS HR RR b30
      have HA := HA'
      clear HA'
      have HZ := HZ'
      clear HZ'
      have HS := HS'
      clear HS'
      have HR := HR'
      clear HR'
      obtain ⟨zA, ⟨a0, a1, a2⟩, f0, f1, f2⟩ := HA.out
      obtain ⟨zZ, ⟨q0, q1, q2⟩, g0, g1, g2⟩ := HZ.out
      go_wp2
      exact bodyPost_ret (v := .agg #[.int .i64 4, .int .i64 vv, .int .i64 y0]) (by simp [results, Try.results46, go_sem, q0, q1, q2, a0, a1, a2]) rfl ⟨4, vv, y0, _, rfl, Rd.below' HR.out (show Below (r + 1) v29 _ from (by repeat (first | with_reducible exact Below.refl _ _ | with_reducible refine Below.setCell ?_ (by first | omega | (simp; done) | (simp; omega)) _ | with_reducible refine bDrewN ?_ _ | with_reducible refine Below.drew ?_ | with_reducible refine Below.alloc ?_ (by first | omega | (simp; done) | (simp; omega)) _))), HS.out.on (show Below w.heap.size v29 _ from (by repeat (first | with_reducible exact Below.refl _ _ | with_reducible refine Below.setCell ?_ (by first | omega | (simp; done) | (simp; omega)) _ | with_reducible refine bDrewN ?_ _ | with_reducible refine Below.drew ?_ | with_reducible refine Below.alloc ?_ (by first | omega | (simp; done) | (simp; omega)) _)))⟩
    have n0 : (kk == 0) = false := by simpa using e0
    by_cases e1 : kk = 1
    case pos =>
      subst e1
      obtain ⟨zA, ⟨a0, a1, a2⟩, f0, f1, f2⟩ := HA.out
      go_wp2_with fail
      refine (off_any 0 3 (by omega) (by omega) (by omega) HR.out).mono ?_
      rintro e v31 ⟨vv, _, rfl, wv, RR, b32⟩
      have HA' : Hid (BurAt v31 w2.heap.size (4, 0, y0)) := HA.out.beside b32 (by omega)
      have HZ' : Hid (BurAt v31 w.heap.size (0, 0, 0)) := HZ.out.beside b32 (by omega)
      have HS' : Hid (Beside r w v31) := HS.out.trans b32
      have HR' : Hid (Rd v31 r s n c _) := RR
      clear zA a0 a1 a2 f0 f1 f2
      clear HA HZ HS HR RR b32
      have HA := HA'
      clear HA'
      have HZ := HZ'
      clear HZ'
      have HS := HS'
      clear HS'
      have HR := HR'
      clear HR'
      obtain ⟨zA, ⟨a0, a1, a2⟩, f0, f1, f2⟩ := HA.out
      obtain ⟨zZ, ⟨q0, q1, q2⟩, g0, g1, g2⟩ := HZ.out
      go_wp2
      exact bodyPost_ret (v := .agg #[.int .i64 4, .int .i64 0, .int .i64 vv]) (by simp [results, Try.results46, go_sem, q0, q1, q2, a0, a1, a2]) rfl ⟨4, 0, vv, _, rfl, Rd.below' HR.out (show Below (r + 1) v31 _ from (by repeat (first | with_reducible exact Below.refl _ _ | with_reducible refine Below.setCell ?_ (by first | omega | (simp; done) | (simp; omega)) _ | with_reducible refine bDrewN ?_ _ | with_reducible refine Below.drew ?_ | with_reducible refine Below.alloc ?_ (by first | omega | (simp; done) | (simp; omega)) _))), HS.out.on (show Below w.heap.size v31 _ from (by repeat (first | with_reducible exact Below.refl _ _ | with_reducible refine Below.setCell ?_ (by first | omega | (simp; done) | (simp; omega)) _ | with_reducible refine bDrewN ?_ _ | with_reducible refine Below.drew ?_ | with_reducible refine Below.alloc ?_ (by first | omega | (simp; done) | (simp; omega)) _)))⟩
    have n1 : (kk == 1) = false := by simpa using e1
    by_cases e2 : kk = 2
    case pos =>
      subst e2
      obtain ⟨zA, ⟨a0, a1, a2⟩, f0, f1, f2⟩ := HA.out
      go_wp2_with fail
      refine (off_any 0 4 (by omega) (by omega) (by omega) HR.out).mono ?_
      rintro e v33 ⟨vv, _, rfl, wv, RR, b34⟩
      have HA' : Hid (BurAt v33 w2.heap.size (4, 0, y0)) := HA.out.beside b34 (by omega)
      have HZ' : Hid (BurAt v33 w.heap.size (0, 0, 0)) := HZ.out.beside b34 (by omega)
      have HS' : Hid (Beside r w v33) := HS.out.trans b34
      have HR' : Hid (Rd v33 r s n c _) := RR
      clear zA a0 a1 a2 f0 f1 f2
      clear HA HZ HS HR RR b34
      have HA := HA'
      clear HA'
      have HZ := HZ'
      clear HZ'
      have HS := HS'
      clear HS'
      have HR := HR'
      clear HR'
      obtain ⟨zA, ⟨a0, a1, a2⟩, f0, f1, f2⟩ := HA.out
      obtain ⟨zZ, ⟨q0, q1, q2⟩, g0, g1, g2⟩ := HZ.out
      go_wp2
      exact bodyPost_ret (v := .agg #[.int .i64 vv, .int .i64 0, .int .i64 y0]) (by simp [results, Try.results46, go_sem, q0, q1, q2, a0, a1, a2]) rfl ⟨vv, 0, y0, _, rfl, Rd.below' HR.out (show Below (r + 1) v33 _ from (by repeat (first | with_reducible exact Below.refl _ _ | with_reducible refine Below.setCell ?_ (by first | omega | (simp; done) | (simp; omega)) _ | with_reducible refine bDrewN ?_ _ | with_reducible refine Below.drew ?_ | with_reducible refine Below.alloc ?_ (by first | omega | (simp; done) | (simp; omega)) _))), HS.out.on (show Below w.heap.size v33 _ from (by repeat (first | with_reducible exact Below.refl _ _ | with_reducible refine Below.setCell ?_ (by first | omega | (simp; done) | (simp; omega)) _ | with_reducible refine bDrewN ?_ _ | with_reducible refine Below.drew ?_ | with_reducible refine Below.alloc ?_ (by first | omega | (simp; done) | (simp; omega)) _)))⟩
    have n2 : (kk == 2) = false := by simpa using e2
    obtain ⟨zA, ⟨a0, a1, a2⟩, f0, f1, f2⟩ := HA.out
    obtain ⟨zZ, ⟨q0, q1, q2⟩, g0, g1, g2⟩ := HZ.out
    go_wp2
    exact bodyPost_ret (v := .agg #[.int .i64 4, .int .i64 0, .int .i64 y0]) (by simp [results, Try.results46, go_sem, q0, q1, q2, a0, a1, a2]) rfl ⟨4, 0, y0, _, rfl, Rd.below' HR.out (show Below (r + 1) v27 _ from (by repeat (first | with_reducible exact Below.refl _ _ | with_reducible refine Below.setCell ?_ (by first | omega | (simp; done) | (simp; omega)) _ | with_reducible refine bDrewN ?_ _ | with_reducible refine Below.drew ?_ | with_reducible refine Below.alloc ?_ (by first | omega | (simp; done) | (simp; omega)) _))), HS.out.on (show Below w.heap.size v27 _ from (by repeat (first | with_reducible exact Below.refl _ _ | with_reducible refine Below.setCell ?_ (by first | omega | (simp; done) | (simp; omega)) _ | with_reducible refine bDrewN ?_ _ | with_reducible refine Below.drew ?_ | with_reducible refine Below.alloc ?_ (by first | omega | (simp; done) | (simp; omega)) _)))⟩
  have nx4 : (x == 4) = false := by simpa using x4
  go_wp2_with fail
  refine (below_any 24 (Rd.below HR.out (below0 _ _))).mono ?_
  rintro e v35 ⟨kk, _, rfl, k0, k1, k2, RR, b36⟩
  have HA' : Hid (BurAt v35 w2.heap.size (x, 0, 0)) := (burAt_new w2 x 0 0 _).beside b36 (by omega)
  have HZ' : Hid (BurAt v35 w.heap.size (0, 0, 0)) := (HZ.out.below (below0 _ _)).beside b36 (by omega)
  have HS' : Hid (Beside r w v35) := (HS.out.trans (Beside.of (below0 _ _))).trans b36
  have HR' : Hid (Rd v35 r s n c _) := RR
  clear HZ HS HR RR b36
  have HA := HA'
  clear HA'
  have HZ := HZ'
  clear HZ'
  have HS := HS'
  clear HS'
  have HR := HR'
  clear HR'
  by_cases e0 : kk = 0
  case pos =>
    subst e0
    obtain ⟨zA, ⟨a0, a1, a2⟩, f0, f1, f2⟩ := HA.out
    go_wp2_with fail
    refine (off_any 0 4 (by omega) (by omega) (by omega) HR.out).mono ?_
    rintro e v37 ⟨vv, _, rfl, wv, RR, b38⟩
    have HA' : Hid (BurAt v37 w2.heap.size (x, 0, 0)) := HA.out.beside b38 (by omega)
    have HZ' : Hid (BurAt v37 w.heap.size (0, 0, 0)) := HZ.out.beside b38 (by omega)
    have HS' : Hid (Beside r w v37) := HS.out.trans b38
    have HR' : Hid (Rd v37 r s n c _) := RR
    clear zA a0 a1 a2 f0 f1 f2
    clear HA HZ HS HR RR b38
    have HA := HA'
    clear HA'
    have HZ := HZ'
    clear HZ'
    have HS := HS'
    clear HS'
    have HR := HR'
    clear HR'
    obtain ⟨zA, ⟨a0, a1, a2⟩, f0, f1, f2⟩ := HA.out
    obtain ⟨zZ, ⟨q0, q1, q2⟩, g0, g1, g2⟩ := HZ.out
    go_wp2
    exact bodyPost_ret (v := .agg #[.int .i64 x, .int .i64 vv, .int .i64 0]) (by simp [results, Try.results46, go_sem, q0, q1, q2, a0, a1, a2]) rfl ⟨x, vv, 0, _, rfl, Rd.below' HR.out (show Below (r + 1) v37 _ from (by repeat (first | with_reducible exact Below.refl _ _ | with_reducible refine Below.setCell ?_ (by first | omega | (simp; done) | (simp; omega)) _ | with_reducible refine bDrewN ?_ _ | with_reducible refine Below.drew ?_ | with_reducible refine Below.alloc ?_ (by first | omega | (simp; done) | (simp; omega)) _))), HS.out.on (show Below w.heap.size v37 _ from (by repeat (first | with_reducible exact Below.refl _ _ | with_reducible refine Below.setCell ?_ (by first | omega | (simp; done) | (simp; omega)) _ | with_reducible refine bDrewN ?_ _ | with_reducible refine Below.drew ?_ | with_reducible refine Below.alloc ?_ (by first | omega | (simp; done) | (simp; omega)) _)))⟩
  have n0 : (kk == 0) = false := by simpa using e0
  by_cases e1 : kk = 1
  case pos =>
    subst e1
    obtain ⟨zA, ⟨a0, a1, a2⟩, f0, f1, f2⟩ := HA.out
    go_wp2_with fail
    refine (off_any 0 3 (by omega) (by omega) (by omega) HR.out).mono ?_
    rintro e v39 ⟨vv, _, rfl, wv, RR, b40⟩
    have HA' : Hid (BurAt v39 w2.heap.size (x, 0, 0)) := HA.out.beside b40 (by omega)
    have HZ' : Hid (BurAt v39 w.heap.size (0, 0, 0)) := HZ.out.beside b40 (by omega)
    have HS' : Hid (Beside r w v39) := HS.out.trans b40
    have HR' : Hid (Rd v39 r s n c _) := RR
    clear zA a0 a1 a2 f0 f1 f2
    clear HA HZ HS HR RR b40
    have HA := HA'
    clear HA'
    have HZ := HZ'
    clear HZ'
    have HS := HS'
    clear HS'
    have HR := HR'
    clear HR'
    obtain ⟨zA, ⟨a0, a1, a2⟩, f0, f1, f2⟩ := HA.out
    obtain ⟨zZ, ⟨q0, q1, q2⟩, g0, g1, g2⟩ := HZ.out
    go_wp2
    exact bodyPost_ret (v := .agg #[.int .i64 x, .int .i64 0, .int .i64 vv]) (by simp [results, Try.results46, go_sem, q0, q1, q2, a0, a1, a2]) rfl ⟨x, 0, vv, _, rfl, Rd.below' HR.out (show Below (r + 1) v39 _ from (by repeat (first | with_reducible exact Below.refl _ _ | with_reducible refine Below.setCell ?_ (by first | omega | (simp; done) | (simp; omega)) _ | with_reducible refine bDrewN ?_ _ | with_reducible refine Below.drew ?_ | with_reducible refine Below.alloc ?_ (by first | omega | (simp; done) | (simp; omega)) _))), HS.out.on (show Below w.heap.size v39 _ from (by repeat (first | with_reducible exact Below.refl _ _ | with_reducible refine Below.setCell ?_ (by first | omega | (simp; done) | (simp; omega)) _ | with_reducible refine bDrewN ?_ _ | with_reducible refine Below.drew ?_ | with_reducible refine Below.alloc ?_ (by first | omega | (simp; done) | (simp; omega)) _)))⟩
  have n1 : (kk == 1) = false := by simpa using e1
  by_cases e2 : kk = 2
  case pos =>
    subst e2
    obtain ⟨zA, ⟨a0, a1, a2⟩, f0, f1, f2⟩ := HA.out
    go_wp2_with fail
    refine (off_any 0 4 (by omega) (by omega) (by omega) HR.out).mono ?_
    rintro e v41 ⟨vv, _, rfl, wv, RR, b42⟩
    have HA' : Hid (BurAt v41 w2.heap.size (x, 0, 0)) := HA.out.beside b42 (by omega)
    have HZ' : Hid (BurAt v41 w.heap.size (0, 0, 0)) := HZ.out.beside b42 (by omega)
    have HS' : Hid (Beside r w v41) := HS.out.trans b42
    have HR' : Hid (Rd v41 r s n c _) := RR
    clear zA a0 a1 a2 f0 f1 f2
    clear HA HZ HS HR RR b42
    have HA := HA'
    clear HA'
    have HZ := HZ'
    clear HZ'
    have HS := HS'
    clear HS'
    have HR := HR'
    clear HR'
    obtain ⟨zA, ⟨a0, a1, a2⟩, f0, f1, f2⟩ := HA.out
    obtain ⟨zZ, ⟨q0, q1, q2⟩, g0, g1, g2⟩ := HZ.out
    go_wp2
    exact bodyPost_ret (v := .agg #[.int .i64 vv, .int .i64 0, .int .i64 0]) (by simp [results, Try.results46, go_sem, q0, q1, q2, a0, a1, a2]) rfl ⟨vv, 0, 0, _, rfl, Rd.below' HR.out (show Below (r + 1) v41 _ from (by repeat (first | with_reducible exact Below.refl _ _ | with_reducible refine Below.setCell ?_ (by first | omega | (simp; done) | (simp; omega)) _ | with_reducible refine bDrewN ?_ _ | with_reducible refine Below.drew ?_ | with_reducible refine Below.alloc ?_ (by first | omega | (simp; done) | (simp; omega)) _))), HS.out.on (show Below w.heap.size v41 _ from (by repeat (first | with_reducible exact Below.refl _ _ | with_reducible refine Below.setCell ?_ (by first | omega | (simp; done) | (simp; omega)) _ | with_reducible refine bDrewN ?_ _ | with_reducible refine Below.drew ?_ | with_reducible refine Below.alloc ?_ (by first | omega | (simp; done) | (simp; omega)) _)))⟩
  have n2 : (kk == 2) = false := by simpa using e2
  obtain ⟨zA, ⟨a0, a1, a2⟩, f0, f1, f2⟩ := HA.out
  obtain ⟨zZ, ⟨q0, q1, q2⟩, g0, g1, g2⟩ := HZ.out
  go_wp2
  exact bodyPost_ret (v := .agg #[.int .i64 x, .int .i64 0, .int .i64 0]) (by simp [results, Try.results46, go_sem, q0, q1, q2, a0, a1, a2]) rfl ⟨x, 0, 0, _, rfl, Rd.below' HR.out (show Below (r + 1) v35 _ from (by repeat (first | with_reducible exact Below.refl _ _ | with_reducible refine Below.setCell ?_ (by first | omega | (simp; done) | (simp; omega)) _ | with_reducible refine bDrewN ?_ _ | with_reducible refine Below.drew ?_ | with_reducible refine Below.alloc ?_ (by first | omega | (simp; done) | (simp; omega)) _))), HS.out.on (show Below w.heap.size v35 _ from (by repeat (first | with_reducible exact Below.refl _ _ | with_reducible refine Below.setCell ?_ (by first | omega | (simp; done) | (simp; omega)) _ | with_reducible refine bDrewN ?_ _ | with_reducible refine Below.drew ?_ | with_reducible refine Below.alloc ?_ (by first | omega | (simp; done) | (simp; omega)) _)))⟩
end Go.Proofs.Ytpnihekpokfooaa
