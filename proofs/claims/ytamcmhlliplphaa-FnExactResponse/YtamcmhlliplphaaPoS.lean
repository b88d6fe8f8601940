/-
What is proved: a polynomial's value at a pair, as the specification works it out.
-/
import Derived.Test.YtamcmhlliplphaaPo
import Derived.Test.YtamcmhlliplphaaDivPairQ
import Derived.Deep.RegionHeld3
import Derived.Deep.DeepCutAuto
namespace Go.Proofs.Ytamcmhlliplphaa
set_option maxRecDepth 40000
open Go.RowKit
set_option linter.unusedVariables false
set_option linter.unusedSimpArgs false

set_option maxHeartbeats 1000000 in
theorem specPoly_no (s : Option Addr) (n c : Nat) (V : Nat → Int) (x y : Nat) (w : World) (hn : (n : Int) ≤ 1048576) (HR : Hid (RowI w s n V)) (hb : polyB n V = false) :
    Calls Try.prog 5 #[.slice s n c, .agg #[.float .f64 x, .float .f64 y]] w fun e w' => ∃ r i, e = .returned (.agg #[.float .f64 r, .float .f64 i]) ∧ Fl r none ∧ Fl i none ∧ Below w.heap.size w w' := by
  have st := store_fp
  go_enter Try.func5, Try.ntmps5
  go_wp2_with fail
  refine (l9Ok_any _ n _ V _ hn (HR.out.below (by repeat (first | with_reducible exact Below.refl _ _ | with_reducible refine Below.setCell ?_ (by first | omega | (simp; done) | (simp; omega)) _ | with_reducible refine bDrewN ?_ _ | with_reducible refine Below.drew ?_ | with_reducible refine Below.alloc ?_ (by first | omega | (simp; done) | (simp; omega)) _)))).mono ?_
  rintro e w1 ⟨rfl, rfl⟩
  rw [hb]
  go_wp2_with fail
  refine (l1None_any _).mono ?_
  rintro e w2 ⟨r, k, rfl, hr, rfl⟩
  go_wp2_with fail
  refine (l1None_any _).mono ?_
  rintro e w2 ⟨i, k', rfl, hi, rfl⟩
  go_wp2
  exact bodyPost_ret (v := .agg #[.float .f64 r, .float .f64 i]) (by simp [results, Try.results5, go_sem]) rfl ⟨r, i, rfl, hr, hi, (by repeat (first | with_reducible exact Below.refl _ _ | with_reducible refine Below.setCell ?_ (by first | omega | (simp; done) | (simp; omega)) _ | with_reducible refine bDrewN ?_ _ | with_reducible refine Below.drew ?_ | with_reducible refine Below.alloc ?_ (by first | omega | (simp; done) | (simp; omega)) _))⟩
set_option maxRecDepth 20000 in
set_option maxHeartbeats 4000000 in
theorem specPoly_yes (s : Option Addr) (n c : Nat) (V : Nat → Int) (x y : Nat) (a b : Option Nat) (w : World) (hx : Fl x a) (hy : Fl y b) (hn : (n : Int) ≤ 1048576) (HR : Hid (RowI w s n V)) (hb : polyB n V = true) :
    Calls Try.prog 5 #[.slice s n c, .agg #[.float .f64 x, .float .f64 y]] w fun e w' => ∃ r i, e = .returned (.agg #[.float .f64 r, .float .f64 i]) ∧ Fl r (horV V a b n n).1 ∧ Fl i (horV V a b n n).2 ∧ Below w.heap.size w w' := by
  have st := store_fp
  have cv := conv64
  go_enter Try.func5, Try.ntmps5
  go_wp2_with fail
  refine (l9Ok_any _ n _ V _ hn (HR.out.below (by repeat (first | with_reducible exact Below.refl _ _ | with_reducible refine Below.setCell ?_ (by first | omega | (simp; done) | (simp; omega)) _ | with_reducible refine bDrewN ?_ _ | with_reducible refine Below.drew ?_ | with_reducible refine Below.alloc ?_ (by first | omega | (simp; done) | (simp; omega)) _)))).mono ?_
  rintro e w1 ⟨rfl, rfl⟩
  rw [hb]
  clear hb
  go_upto_region 4 with fail
  obtain ⟨wd, hwd⟩ : ∃ wd, wd = ((w.alloc (.cells #[.float .f64 x, .float .f64 y] 26)).alloc (.cells #[.float .f64 0, .float .f64 0] 26)).alloc (.cells #[.float .f64 0, .float .f64 0] 26) := ⟨_, rfl⟩
  rw [← hwd]
  have PS : Hid (PrAt wd w.heap.size x y) := by rw [hwd]; refine ⟨by simp; omega, fun o => ?_, ?_, ?_⟩ <;> simp [go_sem]
  have PR : Hid (PrAt wd (w.heap.size + 1) 0 0) := by rw [hwd]; refine ⟨by simp, fun o => ?_, ?_, ?_⟩ <;> simp [go_sem]
  have PV : Hid (PrAt wd (w.heap.size + 1 + 1) 0 0) := by rw [hwd]; refine ⟨by simp, fun o => ?_, ?_, ?_⟩ <;> simp [go_sem]
  have B0 : Below w.heap.size w wd := by rw [hwd]; exact (by repeat (first | with_reducible exact Below.refl _ _ | with_reducible refine Below.setCell ?_ (by first | omega | (simp; done) | (simp; omega)) _ | with_reducible refine bDrewN ?_ _ | with_reducible refine Below.drew ?_ | with_reducible refine Below.alloc ?_ (by first | omega | (simp; done) | (simp; omega)) _))
  have HB0 : Hid (Below w.heap.size w wd) := B0
  clear hwd B0
  go_wp2_with fail
  go_loopw [6] (fun i wr => ∃ m r q : Nat, m ≤ n ∧ i = .int .i64 ((m : Int) - 1) ∧ Fl r (horV V a b n (n - m)).1 ∧ Fl q (horV V a b n (n - m)).2 ∧ Beside (w.heap.size + 1 + 1) wd wr ∧ PrAt wr (w.heap.size + 1 + 1) r q) (fun i _ => (intOf i + 1).toNat)
  case atStart => exact ⟨n, 0, 0, Nat.le_refl _, rfl, by rw [Nat.sub_self]; exact fl_zero, by rw [Nat.sub_self]; exact fl_zero, Beside.of (Below.refl _ _), PV.out⟩
  case round =>
    obtain ⟨m, r, q, hm, rfl, hr, hq, hS, hP⟩ := hrel
    obtain ⟨zp, fp, c0, c1⟩ := hP
    obtain ⟨zs, -, d0, d1⟩ := PS.out.beside hS (by omega)
    obtain ⟨zr, gf, t0, t1⟩ := PR.out.beside hS (by omega)
    have HS : Hid (Beside (w.heap.size + 1 + 1) wd wr) := hS
    match m, hm with
    | 0, _ =>
      have BW : Below w.heap.size w wr := HB0.out.trans (HS.out.below (by omega) HB0.out.size)
      have f0 := fp 0
      have f1 := fp 1
      have g0 := gf 0
      have g1 := gf 1
      go_wp2
      exact bodyPost_ret (v := .agg #[.float .f64 r, .float .f64 q]) (by simp [results, Try.results5, go_sem, t0, t1]) rfl ⟨r, q, rfl, by simpa using hr, by simpa using hq, (by repeat (first | with_reducible exact Below.refl _ _ | with_reducible exact BW | with_reducible refine Below.setCell ?_ (by first | omega | (simp; done) | (simp; omega)) _ | with_reducible refine bDrewN ?_ _ | with_reducible refine Below.drew ?_ | with_reducible refine Below.alloc ?_ (by first | omega | (simp; done) | (simp; omega)) _))⟩
    | j + 1, hj =>
      have ej : ((j + 1 : Nat) : Int) - 1 = (j : Int) := by omega
      rw [ej]
      have hjn : j < n := by omega
      obtain ⟨g, o, rfl, hg, e0⟩ := HR.out j hjn
      have zw := HB0.out.size
      have hgd : g < wd.heap.size := Nat.lt_of_lt_of_le hg zw
      have e1 : wr.cell? ⟨g, o + j, none⟩ = some (.int .i64 (V j)) := (hS.cell (p := ⟨g, o + j, none⟩) hgd (by show g ≠ _; omega)).trans ((HB0.out.cell (p := ⟨g, o + j, none⟩) hg).trans e0)
      have zg : g < wr.heap.size := Nat.lt_of_lt_of_le hgd hS.2.2.2.1
      have j1 : (j : Int) < (n : Int) := by omega
      have HP : Hid (PrAt wr (w.heap.size + 1 + 1) r q) := ⟨zp, fp, c0, c1⟩
      have HN : Hid (j < n) := hjn
      have hgw := hg
      clear hS e0 hg hgd t0 t1 gf zr fp
      go_wp2_with fail
      go_region_with (first
        | (go_at_call 16; refine (specMulPair_any hr hq hx hy _).mono ?_; rintro e w3 ⟨u, v, rfl, hu, hv, h3⟩; have B3 : Below wr.heap.size wr w3 := Below.trans (by repeat (first | with_reducible exact Below.refl _ _ | with_reducible refine Below.setCell ?_ (by first | omega | (simp; done) | (simp; omega)) _ | with_reducible refine bDrewN ?_ _ | with_reducible refine Below.drew ?_ | with_reducible refine Below.alloc ?_ (by first | omega | (simp; done) | (simp; omega)) _)) (h3.mono (by first | omega | (simp; done) | (simp; omega))); have s3 := B3.size; have e3 := (B3.cell (p := ⟨g, o + j, none⟩) zg).trans e1; have zg3 := Nat.lt_of_lt_of_le zg s3)
        | (go_at_call 15; refine (specAddPair_any hu hv (itf_fl (V j)) fl_zero _).mono ?_; rintro e w4 ⟨u', v', rfl, hu', hv', h4⟩; have B4 : Below wr.heap.size wr w4 := Below.trans (by repeat (first | with_reducible exact Below.refl _ _ | with_reducible exact B3 | with_reducible refine Below.setCell ?_ (by first | omega | (simp; done) | (simp; omega)) _ | with_reducible refine bDrewN ?_ _ | with_reducible refine Below.drew ?_ | with_reducible refine Below.alloc ?_ (by first | omega | (simp; done) | (simp; omega)) _)) (h4.mono (by first | omega | (simp; done) | (simp; omega))); have s4 := B4.size; obtain ⟨z4, f4, k0, k1⟩ := HP.out.below B4; have f40 := f4 0; have f41 := f4 1))
      all_goals
        have HP4 : Hid (PrAt w4 (w.heap.size + 1 + 1) r q) := ⟨z4, f4, k0, k1⟩
        have HB4 : Hid (Below wr.heap.size wr w4) := B4
        clear f4
        go_wp2
        go_roundw
        case rel =>
          have := hor_step (V := V) (a := a) (b := b) HN.out
          refine ⟨j, u', v', by have := HN.out; omega, by first | rfl | go_num | (congr 1; omega), by rw [this]; exact hu', by rw [this]; exact hv', ?_, ?_⟩
          · exact HS.out.trans ((Beside.of HB4.out).trans (set2_beside w4 _ u' v'))
          · exact HP4.out.set u' v'
        case measure => simp [intOf] <;> omega
theorem specPoly_any (s : Option Addr) (n c : Nat) (V : Nat → Int) (x y : Nat) (a b : Option Nat) (w : World) (hx : Fl x a) (hy : Fl y b) (hn : (n : Int) ≤ 1048576) (HR : RowI w s n V) :
    Calls Try.prog 5 #[.slice s n c, .agg #[.float .f64 x, .float .f64 y]] w fun e w' => ∃ r i, e = .returned (.agg #[.float .f64 r, .float .f64 i]) ∧ Fl r (polRe n V a b) ∧ Fl i (polIm n V a b) ∧ Below w.heap.size w w' := by
  unfold polRe polIm
  cases hb : polyB n V
  · exact specPoly_no s n c V x y w hn HR hb
  · exact specPoly_yes s n c V x y a b w hx hy hn HR hb
end Go.Proofs.Ytamcmhlliplphaa
