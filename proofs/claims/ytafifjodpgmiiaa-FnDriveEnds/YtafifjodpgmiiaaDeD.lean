/-
What is proved: a drive and a step that are drawn from a code: any int64s.
-/
import Derived.Test.YtafifjodpgmiiaaDvP
import Derived.Test.YtafifjodpgmiiaaRdO
import Derived.Test.YtafifjodpgmiiaaRdC
import Derived.Test.YtafifjodpgmiiaaDrP
namespace Go.Proofs.Ytafifjodpgmiiaa
set_option maxRecDepth 40000
open Go.ChangeShapes Go.WideShapes Go.ChangeAt Go.RowKit
set_option linter.unusedVariables false
set_option linter.unusedSimpArgs false

set_option maxRecDepth 20000 in
set_option maxHeartbeats 8000000 in
theorem drive_any {r : Nat} {s : Option Addr} {n c p : Nat} {w : World} (h : Hid (Rd w r s n c p)) :
    Calls Try.prog 41 #[.pointer (some ⟨r, 0, none⟩)] w fun e w' => ∃ (P W T : Int) (F : Bool) (p' : Nat), e = .returned (.agg #[.int .i64 P, .int .i64 W, .int .i64 T, .bool F]) ∧ Rd w' r s n c p' ∧ Beside r w w' := by
  have zr : r < w.heap.size := h.out.1
  go_enter Try.func41, Try.ntmps41
  go_upto_region 1 with fail
  have HQ : Hid (DrvAt (w.alloc (.cells #[.int .i64 0, .int .i64 0, .int .i64 0, .bool false] 40)) w.heap.size 0 0 0 false) := ⟨by simp, fun o => by simp [go_sem], by simp [go_sem], by simp [go_sem], by simp [go_sem], by simp [go_sem]⟩
  have HS0 : Hid (Beside r w (w.alloc (.cells #[.int .i64 0, .int .i64 0, .int .i64 0, .bool false] 40))) := Beside.of (below0 w _)
  have HR0 : Hid (Rd (w.alloc (.cells #[.int .i64 0, .int .i64 0, .int .i64 0, .bool false] 40)) r s n c p) := Rd.below h.out (below0 w _)
  obtain ⟨wa, hwa⟩ : ∃ wa, wa = w.alloc (.cells #[.int .i64 0, .int .i64 0, .int .i64 0, .bool false] 40) := ⟨_, rfl⟩
  rw [← hwa] at HQ HS0 HR0 ⊢
  clear hwa
  go_wp2_with fail
  refine (near_any 0 100 (by omega) (by omega) (by omega) HR0.out).mono ?_
  rintro e w1 ⟨P, p1, rfl, P0, P1, R1, b1⟩
  replace HQ : Hid (DrvAt w1 w.heap.size 0 0 0 false) := HQ.out.beside b1 (by omega)
  have HS1 : Hid (Beside r w w1) := HS0.out.trans b1
  have HR1 : Hid (Rd w1 r s n c p1) := R1
  clear R1 b1 HS0 HR0
  go_wp2_with fail
  refine (near_any (-1) 1 (by omega) (by omega) (by omega) HR1.out).mono ?_
  rintro e w2 ⟨W, p2, rfl, W0, W1, R2, b2⟩
  replace HQ : Hid (DrvAt w2 w.heap.size 0 0 0 false) := HQ.out.beside b2 (by omega)
  have HS2 : Hid (Beside r w w2) := HS1.out.trans b2
  have HR2 : Hid (Rd w2 r s n c p2) := R2
  clear R2 b2 HS1 HR1
  go_wp2_with fail
  refine (once_any 6 (by omega) (by omega) HR2.out).mono ?_
  rintro e w3 ⟨F, p3, rfl, R3, b3⟩
  replace HQ : Hid (DrvAt w3 w.heap.size 0 0 0 false) := HQ.out.beside b3 (by omega)
  have HS3 : Hid (Beside r w w3) := HS2.out.trans b3
  have HR3 : Hid (Rd w3 r s n c p3) := R3
  clear R3 b3 HS2 HR2
  go_upto_region 2 with fail
  obtain ⟨gb, hgb⟩ : ∃ gb, gb = w3.heap.size := ⟨_, rfl⟩
  have hz3 : w.heap.size < w3.heap.size := HQ.out.1
  have HG : Hid (DrvAt (w3.alloc (.cells #[.int .i64 P, .int .i64 W, .int .i64 0, .bool F] 40)) w3.heap.size P W 0 F) := ⟨by simp, fun o => by simp [go_sem], by simp [go_sem], by simp [go_sem], by simp [go_sem], by simp [go_sem]⟩
  obtain ⟨w4, hw4⟩ : ∃ w4, w4 = w3.alloc (.cells #[.int .i64 P, .int .i64 W, .int .i64 0, .bool F] 40) := ⟨_, rfl⟩
  have b4 : Below w3.heap.size w3 w4 := by rw [hw4]; exact below0 _ _
  rw [← hw4] at HG ⊢
  clear hw4
  replace HQ : Hid (DrvAt w4 w.heap.size 0 0 0 false) := HQ.out.below b4
  have HSw4 : Hid (Beside r w w4) := HS3.out.trans (Beside.of b4)
  have HRw4 : Hid (Rd w4 r s n c p3) := HR3.out.below b4
  rw [← hgb] at HG hz3 ⊢
  clear b4 HS3 HR3 hgb
  by_cases ew : W = 0
  · subst ew
    have HRw5 : Hid (Rd w4 r s n c p3) := HRw4
    have HSw5 : Hid (Beside r w w4) := HSw4
    obtain ⟨zg, fg, g0, g1, g2, g3⟩ := HG.out
    obtain ⟨zq, fq, q0, q1, q2, q3⟩ := HQ.out
    clear zg fg zq fq
    go_wp2_with fail
    refine (below_any 24 HRw5.out).mono ?_
    rintro e w6 ⟨kk, p6, rfl, k0, k1, k2, Rw6, bw6⟩
    have HRw6 : Hid (Rd w6 r s n c p6) := Rw6
    replace HG : Hid (DrvAt w6 gb P 0 0 F) := HG.out.beside bw6 (by omega)
    replace HQ : Hid (DrvAt w6 w.heap.size 0 0 0 false) := HQ.out.beside bw6 (by omega)
    have HSw6 : Hid (Beside r w w6) := HSw5.out.trans bw6
    have szw6 := HSw6.out.2.2.2.1
    have gzw6 := HG.out.1
    clear Rw6 bw6
    by_cases e0 : kk = 0
    · subst e0
      obtain ⟨zg, fg, g0, g1, g2, g3⟩ := HG.out
      obtain ⟨zq, fq, q0, q1, q2, q3⟩ := HQ.out
      go_wp2_with fail
      refine (off_any 0 20 (by omega) (by omega) (by omega) HRw6.out).mono ?_
      rintro e w7 ⟨x, p7, rfl, x0, Rw7, bw7⟩
      clear g0 g1 g2 g3 q0 q1 q2 q3 zg fg zq fq
      have HRw7 : Hid (Rd w7 r s n c p7) := Rw7
      replace HG : Hid (DrvAt w7 gb P 0 0 F) := HG.out.beside bw7 (by omega)
      replace HQ : Hid (DrvAt w7 w.heap.size 0 0 0 false) := HQ.out.beside bw7 (by omega)
      have HSw7 : Hid (Beside r w w7) := HSw6.out.trans bw7
      have szw7 := HSw7.out.2.2.2.1
      have gzw7 := HG.out.1
      clear Rw7 bw7
      obtain ⟨zg, fg, g0, g1, g2, g3⟩ := HG.out
      obtain ⟨zq, fq, q0, q1, q2, q3⟩ := HQ.out
      go_wp2
      exact bodyPost_ret (v := .agg #[.int .i64 P, .int .i64 0, .int .i64 x, .bool F]) (by simp [results, Try.results41, go_sem, q0, q1, q2, q3, g0, g1, g2, g3]) rfl ⟨P, 0, x, F, p7, rfl, Rd.below' HRw7.out (show Below (r + 1) w7 _ from (by repeat (first | with_reducible exact Below.refl _ _ | with_reducible refine Below.setCell ?_ (by first | omega | (simp; done) | (simp; omega)) _ | with_reducible refine bDrewN ?_ _ | with_reducible refine Below.drew ?_ | with_reducible refine Below.alloc ?_ (by first | omega | (simp; done) | (simp; omega)) _))), HSw7.out.onD (show Below w.heap.size w7 _ from (by repeat (first | with_reducible exact Below.refl _ _ | with_reducible refine Below.setCell ?_ (by first | omega | (simp; done) | (simp; omega)) _ | with_reducible refine bDrewN ?_ _ | with_reducible refine Below.drew ?_ | with_reducible refine Below.alloc ?_ (by first | omega | (simp; done) | (simp; omega)) _)))⟩
    have n0 : (kk == 0) = false := by simpa using e0
    by_cases e1 : kk = 1
    · subst e1
      obtain ⟨zg, fg, g0, g1, g2, g3⟩ := HG.out
      obtain ⟨zq, fq, q0, q1, q2, q3⟩ := HQ.out
      go_wp2_with fail
      refine (off_any 0 100 (by omega) (by omega) (by omega) HRw6.out).mono ?_
      rintro e w7 ⟨x, p7, rfl, x0, Rw7, bw7⟩
      clear g0 g1 g2 g3 q0 q1 q2 q3 zg fg zq fq
      have HRw7 : Hid (Rd w7 r s n c p7) := Rw7
      replace HG : Hid (DrvAt w7 gb P 0 0 F) := HG.out.beside bw7 (by omega)
      replace HQ : Hid (DrvAt w7 w.heap.size 0 0 0 false) := HQ.out.beside bw7 (by omega)
      have HSw7 : Hid (Beside r w w7) := HSw6.out.trans bw7
      have szw7 := HSw7.out.2.2.2.1
      have gzw7 := HG.out.1
      clear Rw7 bw7
      obtain ⟨zg, fg, g0, g1, g2, g3⟩ := HG.out
      obtain ⟨zq, fq, q0, q1, q2, q3⟩ := HQ.out
      go_wp2
      exact bodyPost_ret (v := .agg #[.int .i64 x, .int .i64 0, .int .i64 0, .bool F]) (by simp [results, Try.results41, go_sem, q0, q1, q2, q3, g0, g1, g2, g3]) rfl ⟨x, 0, 0, F, p7, rfl, Rd.below' HRw7.out (show Below (r + 1) w7 _ from (by repeat (first | with_reducible exact Below.refl _ _ | with_reducible refine Below.setCell ?_ (by first | omega | (simp; done) | (simp; omega)) _ | with_reducible refine bDrewN ?_ _ | with_reducible refine Below.drew ?_ | with_reducible refine Below.alloc ?_ (by first | omega | (simp; done) | (simp; omega)) _))), HSw7.out.onD (show Below w.heap.size w7 _ from (by repeat (first | with_reducible exact Below.refl _ _ | with_reducible refine Below.setCell ?_ (by first | omega | (simp; done) | (simp; omega)) _ | with_reducible refine bDrewN ?_ _ | with_reducible refine Below.drew ?_ | with_reducible refine Below.alloc ?_ (by first | omega | (simp; done) | (simp; omega)) _)))⟩
    have n1 : (kk == 1) = false := by simpa using e1
    by_cases e2 : kk = 2
    · subst e2
      obtain ⟨zg, fg, g0, g1, g2, g3⟩ := HG.out
      obtain ⟨zq, fq, q0, q1, q2, q3⟩ := HQ.out
      go_wp2_with fail
      refine (off_any (-1) 1 (by omega) (by omega) (by omega) HRw6.out).mono ?_
      rintro e w7 ⟨x, p7, rfl, x0, Rw7, bw7⟩
      clear g0 g1 g2 g3 q0 q1 q2 q3 zg fg zq fq
      have HRw7 : Hid (Rd w7 r s n c p7) := Rw7
      replace HG : Hid (DrvAt w7 gb P 0 0 F) := HG.out.beside bw7 (by omega)
      replace HQ : Hid (DrvAt w7 w.heap.size 0 0 0 false) := HQ.out.beside bw7 (by omega)
      have HSw7 : Hid (Beside r w w7) := HSw6.out.trans bw7
      have szw7 := HSw7.out.2.2.2.1
      have gzw7 := HG.out.1
      clear Rw7 bw7
      obtain ⟨zg, fg, g0, g1, g2, g3⟩ := HG.out
      obtain ⟨zq, fq, q0, q1, q2, q3⟩ := HQ.out
      go_wp2
      exact bodyPost_ret (v := .agg #[.int .i64 P, .int .i64 x, .int .i64 0, .bool F]) (by simp [results, Try.results41, go_sem, q0, q1, q2, q3, g0, g1, g2, g3]) rfl ⟨P, x, 0, F, p7, rfl, Rd.below' HRw7.out (show Below (r + 1) w7 _ from (by repeat (first | with_reducible exact Below.refl _ _ | with_reducible refine Below.setCell ?_ (by first | omega | (simp; done) | (simp; omega)) _ | with_reducible refine bDrewN ?_ _ | with_reducible refine Below.drew ?_ | with_reducible refine Below.alloc ?_ (by first | omega | (simp; done) | (simp; omega)) _))), HSw7.out.onD (show Below w.heap.size w7 _ from (by repeat (first | with_reducible exact Below.refl _ _ | with_reducible refine Below.setCell ?_ (by first | omega | (simp; done) | (simp; omega)) _ | with_reducible refine bDrewN ?_ _ | with_reducible refine Below.drew ?_ | with_reducible refine Below.alloc ?_ (by first | omega | (simp; done) | (simp; omega)) _)))⟩
    have n2 : (kk == 2) = false := by simpa using e2
    obtain ⟨zg, fg, g0, g1, g2, g3⟩ := HG.out
    obtain ⟨zq, fq, q0, q1, q2, q3⟩ := HQ.out
    go_wp2
    exact bodyPost_ret (v := .agg #[.int .i64 P, .int .i64 0, .int .i64 0, .bool F]) (by simp [results, Try.results41, go_sem, q0, q1, q2, q3, g0, g1, g2, g3]) rfl ⟨P, 0, 0, F, p6, rfl, Rd.below' HRw6.out (show Below (r + 1) w6 _ from (by repeat (first | with_reducible exact Below.refl _ _ | with_reducible refine Below.setCell ?_ (by first | omega | (simp; done) | (simp; omega)) _ | with_reducible refine bDrewN ?_ _ | with_reducible refine Below.drew ?_ | with_reducible refine Below.alloc ?_ (by first | omega | (simp; done) | (simp; omega)) _))), HSw6.out.onD (show Below w.heap.size w6 _ from (by repeat (first | with_reducible exact Below.refl _ _ | with_reducible refine Below.setCell ?_ (by first | omega | (simp; done) | (simp; omega)) _ | with_reducible refine bDrewN ?_ _ | with_reducible refine Below.drew ?_ | with_reducible refine Below.alloc ?_ (by first | omega | (simp; done) | (simp; omega)) _)))⟩
  · have ew1 : (W != 0) = true := by simpa using ew
    have ew2 : (W == 0) = false := by simpa using ew
    obtain ⟨zg, fg, g0, g1, g2, g3⟩ := HG.out
    obtain ⟨zq, fq, q0, q1, q2, q3⟩ := HQ.out
    go_wp2_with fail
    refine (near_any 0 20 (by omega) (by omega) (by omega) HRw4.out).mono ?_
    rintro e w5 ⟨T, p5, rfl, T0, T1, Rw5, bw5⟩
    clear g0 g1 g2 g3 q0 q1 q2 q3 zg fg zq fq
    have HRw5 : Hid (Rd w5 r s n c p5) := Rw5
    replace HG : Hid (DrvAt w5 gb P W 0 F) := HG.out.beside bw5 (by omega)
    replace HQ : Hid (DrvAt w5 w.heap.size 0 0 0 false) := HQ.out.beside bw5 (by omega)
    have HSw5 : Hid (Beside r w w5) := HSw4.out.trans bw5
    have szw5 := HSw5.out.2.2.2.1
    have gzw5 := HG.out.1
    clear Rw5 bw5
    obtain ⟨zg, fg, g0, g1, g2, g3⟩ := HG.out
    obtain ⟨zq, fq, q0, q1, q2, q3⟩ := HQ.out
    go_upto_region 4 with fail
    obtain ⟨wb, hwb⟩ : ∃ wb, wb = w5.setCell ⟨gb, 2, none⟩ (.int .i64 T) := ⟨_, rfl⟩
    rw [← hwb]
    replace HG : Hid (DrvAt wb gb P W T F) := by show DrvAt _ _ _ _ _ _; rw [hwb]; exact HG.out.set2 T
    replace HQ : Hid (DrvAt wb w.heap.size 0 0 0 false) := by show DrvAt _ _ _ _ _ _; rw [hwb]; exact HQ.out.beside (Beside.setCell gb _ 2 _) (by omega)
    replace HRw5 : Hid (Rd wb r s n c p5) := by show Rd _ _ _ _ _ _; rw [hwb]; exact Rd.below' HRw5.out (show Below (r + 1) w5 _ from (by repeat (first | with_reducible exact Below.refl _ _ | with_reducible refine Below.setCell ?_ (by first | omega | (simp; done) | (simp; omega)) _ | with_reducible refine bDrewN ?_ _ | with_reducible refine Below.drew ?_ | with_reducible refine Below.alloc ?_ (by first | omega | (simp; done) | (simp; omega)) _)))
    replace HSw5 : Hid (Beside r w wb) := by show Beside _ _ _; rw [hwb]; exact HSw5.out.onD (show Below w.heap.size w5 _ from (by repeat (first | with_reducible exact Below.refl _ _ | with_reducible refine Below.setCell ?_ (by first | omega | (simp; done) | (simp; omega)) _ | with_reducible refine bDrewN ?_ _ | with_reducible refine Below.drew ?_ | with_reducible refine Below.alloc ?_ (by first | omega | (simp; done) | (simp; omega)) _)))
    clear hwb zg fg g0 g1 g2 g3 zq fq q0 q1 q2 q3
    obtain ⟨zg, fg, g0, g1, g2, g3⟩ := HG.out
    obtain ⟨zq, fq, q0, q1, q2, q3⟩ := HQ.out
    clear zg fg zq fq
    go_wp2_with fail
    refine (below_any 24 HRw5.out).mono ?_
    rintro e w6 ⟨kk, p6, rfl, k0, k1, k2, Rw6, bw6⟩
    have HRw6 : Hid (Rd w6 r s n c p6) := Rw6
    replace HG : Hid (DrvAt w6 gb P W T F) := HG.out.beside bw6 (by omega)
    replace HQ : Hid (DrvAt w6 w.heap.size 0 0 0 false) := HQ.out.beside bw6 (by omega)
    have HSw6 : Hid (Beside r w w6) := HSw5.out.trans bw6
    have szw6 := HSw6.out.2.2.2.1
    have gzw6 := HG.out.1
    clear Rw6 bw6
    by_cases e0 : kk = 0
    · subst e0
      obtain ⟨zg, fg, g0, g1, g2, g3⟩ := HG.out
      obtain ⟨zq, fq, q0, q1, q2, q3⟩ := HQ.out
      go_wp2_with fail
      refine (off_any 0 20 (by omega) (by omega) (by omega) HRw6.out).mono ?_
      rintro e w7 ⟨x, p7, rfl, x0, Rw7, bw7⟩
      clear g0 g1 g2 g3 q0 q1 q2 q3 zg fg zq fq
      have HRw7 : Hid (Rd w7 r s n c p7) := Rw7
      replace HG : Hid (DrvAt w7 gb P W T F) := HG.out.beside bw7 (by omega)
      replace HQ : Hid (DrvAt w7 w.heap.size 0 0 0 false) := HQ.out.beside bw7 (by omega)
      have HSw7 : Hid (Beside r w w7) := HSw6.out.trans bw7
      have szw7 := HSw7.out.2.2.2.1
      have gzw7 := HG.out.1
      clear Rw7 bw7
      obtain ⟨zg, fg, g0, g1, g2, g3⟩ := HG.out
      obtain ⟨zq, fq, q0, q1, q2, q3⟩ := HQ.out
      go_wp2
      exact bodyPost_ret (v := .agg #[.int .i64 P, .int .i64 W, .int .i64 x, .bool F]) (by simp [results, Try.results41, go_sem, q0, q1, q2, q3, g0, g1, g2, g3]) rfl ⟨P, W, x, F, p7, rfl, Rd.below' HRw7.out (show Below (r + 1) w7 _ from (by repeat (first | with_reducible exact Below.refl _ _ | with_reducible refine Below.setCell ?_ (by first | omega | (simp; done) | (simp; omega)) _ | with_reducible refine bDrewN ?_ _ | with_reducible refine Below.drew ?_ | with_reducible refine Below.alloc ?_ (by first | omega | (simp; done) | (simp; omega)) _))), HSw7.out.onD (show Below w.heap.size w7 _ from (by repeat (first | with_reducible exact Below.refl _ _ | with_reducible refine Below.setCell ?_ (by first | omega | (simp; done) | (simp; omega)) _ | with_reducible refine bDrewN ?_ _ | with_reducible refine Below.drew ?_ | with_reducible refine Below.alloc ?_ (by first | omega | (simp; done) | (simp; omega)) _)))⟩
    have n0 : (kk == 0) = false := by simpa using e0
    by_cases e1 : kk = 1
    · subst e1
      obtain ⟨zg, fg, g0, g1, g2, g3⟩ := HG.out
      obtain ⟨zq, fq, q0, q1, q2, q3⟩ := HQ.out
      go_wp2_with fail
      refine (off_any 0 100 (by omega) (by omega) (by omega) HRw6.out).mono ?_
      rintro e w7 ⟨x, p7, rfl, x0, Rw7, bw7⟩
      clear g0 g1 g2 g3 q0 q1 q2 q3 zg fg zq fq
      have HRw7 : Hid (Rd w7 r s n c p7) := Rw7
      replace HG : Hid (DrvAt w7 gb P W T F) := HG.out.beside bw7 (by omega)
      replace HQ : Hid (DrvAt w7 w.heap.size 0 0 0 false) := HQ.out.beside bw7 (by omega)
      have HSw7 : Hid (Beside r w w7) := HSw6.out.trans bw7
      have szw7 := HSw7.out.2.2.2.1
      have gzw7 := HG.out.1
      clear Rw7 bw7
      obtain ⟨zg, fg, g0, g1, g2, g3⟩ := HG.out
      obtain ⟨zq, fq, q0, q1, q2, q3⟩ := HQ.out
      go_wp2
      exact bodyPost_ret (v := .agg #[.int .i64 x, .int .i64 W, .int .i64 T, .bool F]) (by simp [results, Try.results41, go_sem, q0, q1, q2, q3, g0, g1, g2, g3]) rfl ⟨x, W, T, F, p7, rfl, Rd.below' HRw7.out (show Below (r + 1) w7 _ from (by repeat (first | with_reducible exact Below.refl _ _ | with_reducible refine Below.setCell ?_ (by first | omega | (simp; done) | (simp; omega)) _ | with_reducible refine bDrewN ?_ _ | with_reducible refine Below.drew ?_ | with_reducible refine Below.alloc ?_ (by first | omega | (simp; done) | (simp; omega)) _))), HSw7.out.onD (show Below w.heap.size w7 _ from (by repeat (first | with_reducible exact Below.refl _ _ | with_reducible refine Below.setCell ?_ (by first | omega | (simp; done) | (simp; omega)) _ | with_reducible refine bDrewN ?_ _ | with_reducible refine Below.drew ?_ | with_reducible refine Below.alloc ?_ (by first | omega | (simp; done) | (simp; omega)) _)))⟩
    have n1 : (kk == 1) = false := by simpa using e1
    by_cases e2 : kk = 2
    · subst e2
      obtain ⟨zg, fg, g0, g1, g2, g3⟩ := HG.out
      obtain ⟨zq, fq, q0, q1, q2, q3⟩ := HQ.out
      go_wp2_with fail
      refine (off_any (-1) 1 (by omega) (by omega) (by omega) HRw6.out).mono ?_
      rintro e w7 ⟨x, p7, rfl, x0, Rw7, bw7⟩
      clear g0 g1 g2 g3 q0 q1 q2 q3 zg fg zq fq
      have HRw7 : Hid (Rd w7 r s n c p7) := Rw7
      replace HG : Hid (DrvAt w7 gb P W T F) := HG.out.beside bw7 (by omega)
      replace HQ : Hid (DrvAt w7 w.heap.size 0 0 0 false) := HQ.out.beside bw7 (by omega)
      have HSw7 : Hid (Beside r w w7) := HSw6.out.trans bw7
      have szw7 := HSw7.out.2.2.2.1
      have gzw7 := HG.out.1
      clear Rw7 bw7
      obtain ⟨zg, fg, g0, g1, g2, g3⟩ := HG.out
      obtain ⟨zq, fq, q0, q1, q2, q3⟩ := HQ.out
      go_wp2
      exact bodyPost_ret (v := .agg #[.int .i64 P, .int .i64 x, .int .i64 T, .bool F]) (by simp [results, Try.results41, go_sem, q0, q1, q2, q3, g0, g1, g2, g3]) rfl ⟨P, x, T, F, p7, rfl, Rd.below' HRw7.out (show Below (r + 1) w7 _ from (by repeat (first | with_reducible exact Below.refl _ _ | with_reducible refine Below.setCell ?_ (by first | omega | (simp; done) | (simp; omega)) _ | with_reducible refine bDrewN ?_ _ | with_reducible refine Below.drew ?_ | with_reducible refine Below.alloc ?_ (by first | omega | (simp; done) | (simp; omega)) _))), HSw7.out.onD (show Below w.heap.size w7 _ from (by repeat (first | with_reducible exact Below.refl _ _ | with_reducible refine Below.setCell ?_ (by first | omega | (simp; done) | (simp; omega)) _ | with_reducible refine bDrewN ?_ _ | with_reducible refine Below.drew ?_ | with_reducible refine Below.alloc ?_ (by first | omega | (simp; done) | (simp; omega)) _)))⟩
    have n2 : (kk == 2) = false := by simpa using e2
    obtain ⟨zg, fg, g0, g1, g2, g3⟩ := HG.out
    obtain ⟨zq, fq, q0, q1, q2, q3⟩ := HQ.out
    go_wp2
    exact bodyPost_ret (v := .agg #[.int .i64 P, .int .i64 W, .int .i64 T, .bool F]) (by simp [results, Try.results41, go_sem, q0, q1, q2, q3, g0, g1, g2, g3]) rfl ⟨P, W, T, F, p6, rfl, Rd.below' HRw6.out (show Below (r + 1) w6 _ from (by repeat (first | with_reducible exact Below.refl _ _ | with_reducible refine Below.setCell ?_ (by first | omega | (simp; done) | (simp; omega)) _ | with_reducible refine bDrewN ?_ _ | with_reducible refine Below.drew ?_ | with_reducible refine Below.alloc ?_ (by first | omega | (simp; done) | (simp; omega)) _))), HSw6.out.onD (show Below w.heap.size w6 _ from (by repeat (first | with_reducible exact Below.refl _ _ | with_reducible refine Below.setCell ?_ (by first | omega | (simp; done) | (simp; omega)) _ | with_reducible refine bDrewN ?_ _ | with_reducible refine Below.drew ?_ | with_reducible refine Below.alloc ?_ (by first | omega | (simp; done) | (simp; omega)) _)))⟩
set_option maxRecDepth 20000 in
set_option maxHeartbeats 4000000 in
theorem drawDriveStep_any {s : Option Addr} {n c : Nat} {w : World} (h : Hid (Code8 w s n)) :
    Calls Try.prog 25 #[.slice s n c] w fun e w' => ∃ (P W T : Int) (F : Bool) (want sp : Int) (jam : Bool), e = .returned (.tuple #[.agg #[.int .i64 P, .int .i64 W, .int .i64 T, .bool F], .int .i64 want, .int .i64 sp, .bool jam]) ∧ Below w.heap.size w w' := by
  go_enter Try.func25, Try.ntmps25
  go_upto_region 1 with fail
  have HQ : Hid (DrvAt (w.alloc (.cells #[.int .i64 0, .int .i64 0, .int .i64 0, .bool false] 40)) w.heap.size 0 0 0 false) := ⟨by simp, fun o => by simp [go_sem], by simp [go_sem], by simp [go_sem], by simp [go_sem], by simp [go_sem]⟩
  have HB : Hid (Below w.heap.size w (w.alloc (.cells #[.int .i64 0, .int .i64 0, .int .i64 0, .bool false] 40))) := below0 w _
  obtain ⟨wa, hwa⟩ : ∃ wa, wa = w.alloc (.cells #[.int .i64 0, .int .i64 0, .int .i64 0, .bool false] 40) := ⟨_, rfl⟩
  rw [← hwa] at HQ HB ⊢
  clear hwa
  replace h : Hid (Code8 wa s n) := h.out.below HB.out
  go_wp2_with fail
  refine (open_any h).mono ?_
  rintro e w1 ⟨rfl, R1, b1⟩
  have za : w.heap.size < wa.heap.size := HQ.out.1
  replace HQ : Hid (DrvAt w1 w.heap.size 0 0 0 false) := HQ.out.below b1
  replace HB : Hid (Below w.heap.size w w1) := HB.out.trans (b1.mono HB.out.size)
  have HR1 : Hid (Rd w1 wa.heap.size s n c 0) := R1
  clear R1 b1 h
  go_wp2_with fail
  refine (drive_any HR1).mono ?_
  rintro e w2 ⟨P, W, T, F, p2, rfl, R2, b2⟩
  replace HQ : Hid (DrvAt w2 w.heap.size 0 0 0 false) := HQ.out.beside b2 (by omega)
  replace HB : Hid (Below w.heap.size w w2) := HB.out.trans (b2.below (by omega) HB.out.size)
  have HR2 : Hid (Rd w2 wa.heap.size s n c p2) := R2
  clear R2 b2 HR1
  go_wp2_with fail
  refine (off_any (-1) 1 (by omega) (by omega) (by omega) HR2.out).mono ?_
  rintro e w3 ⟨want, p3, rfl, x3, R3, b3⟩
  replace HQ : Hid (DrvAt w3 w.heap.size 0 0 0 false) := HQ.out.beside b3 (by omega)
  replace HB : Hid (Below w.heap.size w w3) := HB.out.trans (b3.below (by omega) HB.out.size)
  have HR3 : Hid (Rd w3 wa.heap.size s n c p3) := R3
  clear R3 b3 HR2
  go_wp2_with fail
  refine (off_any 1 100 (by omega) (by omega) (by omega) HR3.out).mono ?_
  rintro e w4 ⟨sp, p4, rfl, x4, R4, b4⟩
  replace HQ : Hid (DrvAt w4 w.heap.size 0 0 0 false) := HQ.out.beside b4 (by omega)
  replace HB : Hid (Below w.heap.size w w4) := HB.out.trans (b4.below (by omega) HB.out.size)
  have HR4 : Hid (Rd w4 wa.heap.size s n c p4) := R4
  clear R4 b4 HR3
  go_wp2_with fail
  refine (once_any 5 (by omega) (by omega) HR4.out).mono ?_
  rintro e w5 ⟨jam, p5, rfl, R5, b5⟩
  replace HQ : Hid (DrvAt w5 w.heap.size 0 0 0 false) := HQ.out.beside b5 (by omega)
  replace HB : Hid (Below w.heap.size w w5) := HB.out.trans (b5.below (by omega) HB.out.size)
  have HR5 : Hid (Rd w5 wa.heap.size s n c p5) := R5
  clear R5 b5 HR4
  obtain ⟨zq, fq, q0, q1, q2, q3⟩ := HQ.out
  have B := HB.out
  have sB := B.size
  go_wp2
  exact bodyPost_ret (v := .tuple #[.agg #[.int .i64 P, .int .i64 W, .int .i64 T, .bool F], .int .i64 want, .int .i64 sp, .bool jam]) (by simp [results, Try.results25, go_sem, q0, q1, q2, q3]) rfl ⟨P, W, T, F, want, sp, jam, rfl, (by repeat (first | with_reducible exact Below.refl _ _ | with_reducible exact B | with_reducible refine Below.setCell ?_ (by first | omega | (simp; done) | (simp; omega)) _ | with_reducible refine bDrewN ?_ _ | with_reducible refine Below.drew ?_ | with_reducible refine Below.alloc ?_ (by first | omega | (simp; done) | (simp; omega)) _))⟩
end Go.Proofs.Ytafifjodpgmiiaa
