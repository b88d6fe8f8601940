/-
What is proved: a drive's run, as the program tells it.
-/
import Derived.Test.YtafifjodpgmiiaaDrP
import Derived.RegionTactic
namespace Go.Proofs.Ytafifjodpgmiiaa
set_option maxRecDepth 40000
open Go.ChangeShapes Go.WideShapes Go.ChangeAt Go.RowKit
set_option linter.unusedVariables false
set_option linter.unusedSimpArgs false

set_option maxRecDepth 20000 in
set_option maxHeartbeats 16000000 in
theorem implRun_near (P W T : Int) (F : Bool) (s : Option Addr) (n c : Nat) (S : Nat → Option Addr) (K C : Nat → Nat) (V : Nat → Nat → Int) (X : Nat → Int) (J : Nat → Bool) (w : World) (hn : (n : Int) ≤ 1000) (kd : drvB P W T = true) (HP : Hid (PshR w s n S K C V X J))
    (L : Nat) (v0 v1 v2 : Int) (v3 rb : Bool) (HT : Hid (allD (P, W, T, F) K V X J n = true → L = n ∧ stD (P, W, T, F) K V X J n = (v0, v1, v2, v3) ∧ rb = true)) (HF : Hid (allD (P, W, T, F) K V X J n = false → L = 0 ∧ v0 = 0 ∧ v1 = 0 ∧ v2 = 0 ∧ v3 = false ∧ rb = false)) :
    Calls Try.prog 18 #[.agg #[.int .i64 P, .int .i64 W, .int .i64 T, .bool F], .slice s n c] w fun e w' => ∃ s' c', e = .returned (.tuple #[.slice s' L c', .agg #[.int .i64 v0, .int .i64 v1, .int .i64 v2, .bool v3], .bool rb]) ∧ OwnI w.heap.size w' s' L (fun k => (stD (P, W, T, F) K V X J (k + 1)).1) ∧ Below w.heap.size w w' := by
  have hmk := make_plc n (by omega)
  have hmm := @run_makeMap Try.prog
  go_enter Try.func18, Try.ntmps18
  go_upto_region 1 with fail
  obtain ⟨wd, hwd⟩ : ∃ wd, wd = ((w.alloc (.cells #[.int .i64 P, .int .i64 W, .int .i64 T, .bool F] 40)).alloc (.cells #[.int .i64 0, .int .i64 0, .int .i64 0, .bool false] 40)) := ⟨_, rfl⟩
  rw [← hwd]
  have fz : ∀ o, wd.frozen? ⟨w.heap.size, o, none⟩ = false := fun o => by rw [hwd]; simp [go_sem]
  have fy : ∀ o, wd.frozen? ⟨w.heap.size + 1, o, none⟩ = false := fun o => by rw [hwd]; simp [go_sem]
  have c0 : wd.cell? ⟨w.heap.size, 0, none⟩ = some (.int .i64 P) := by rw [hwd]; simp [go_sem]
  have f0 : wd.frozen? ⟨w.heap.size, 0, none⟩ = false := by rw [hwd]; simp [go_sem]
  have c1 : wd.cell? ⟨w.heap.size, 1, none⟩ = some (.int .i64 W) := by rw [hwd]; simp [go_sem]
  have f1 : wd.frozen? ⟨w.heap.size, 1, none⟩ = false := by rw [hwd]; simp [go_sem]
  have c2 : wd.cell? ⟨w.heap.size, 2, none⟩ = some (.int .i64 T) := by rw [hwd]; simp [go_sem]
  have f2 : wd.frozen? ⟨w.heap.size, 2, none⟩ = false := by rw [hwd]; simp [go_sem]
  have c3 : wd.cell? ⟨w.heap.size, 3, none⟩ = some (.bool F) := by rw [hwd]; simp [go_sem]
  have f3 : wd.frozen? ⟨w.heap.size, 3, none⟩ = false := by rw [hwd]; simp [go_sem]
  have c4 : wd.cell? ⟨w.heap.size + 1, 0, none⟩ = some (.int .i64 0) := by rw [hwd]; simp [go_sem]
  have f4 : wd.frozen? ⟨w.heap.size + 1, 0, none⟩ = false := by rw [hwd]; simp [go_sem]
  have c5 : wd.cell? ⟨w.heap.size + 1, 1, none⟩ = some (.int .i64 0) := by rw [hwd]; simp [go_sem]
  have f5 : wd.frozen? ⟨w.heap.size + 1, 1, none⟩ = false := by rw [hwd]; simp [go_sem]
  have c6 : wd.cell? ⟨w.heap.size + 1, 2, none⟩ = some (.int .i64 0) := by rw [hwd]; simp [go_sem]
  have f6 : wd.frozen? ⟨w.heap.size + 1, 2, none⟩ = false := by rw [hwd]; simp [go_sem]
  have c7 : wd.cell? ⟨w.heap.size + 1, 3, none⟩ = some (.bool false) := by rw [hwd]; simp [go_sem]
  have f7 : wd.frozen? ⟨w.heap.size + 1, 3, none⟩ = false := by rw [hwd]; simp [go_sem]
  have z0 : w.heap.size < wd.heap.size := by rw [hwd]; (first | (simp; done) | (simp; omega))
  have z1 : w.heap.size + 1 < wd.heap.size := by rw [hwd]; (first | (simp; done) | (simp; omega))
  have B0 : Below w.heap.size w wd := by rw [hwd]; exact (by repeat (first | with_reducible exact Below.refl _ _ | with_reducible refine Below.setCell ?_ (by first | omega | (simp; done) | (simp; omega)) _ | with_reducible refine bDrewN ?_ _ | with_reducible refine Below.drew ?_ | with_reducible refine Below.alloc ?_ (by first | omega | (simp; done) | (simp; omega)) _))
  have s0 := B0.size
  clear hwd
  go_wp2_with fail
  refine (drvRight_any P W T F _).mono ?_
  rintro e w1 ⟨rfl, hw1⟩
  have h1 : Below wd.heap.size wd w1 := by rw [hw1]; exact (by repeat (first | with_reducible exact Below.refl _ _ | with_reducible refine Below.setCell ?_ (by first | omega | (simp; done) | (simp; omega)) _ | with_reducible refine bDrewN ?_ _ | with_reducible refine Below.drew ?_ | with_reducible refine Below.alloc ?_ (by first | omega | (simp; done) | (simp; omega)) _))
  clear hw1
  replace fz : ∀ o, w1.frozen? ⟨w.heap.size, o, none⟩ = false := fun o => (h1.frozen (p := ⟨w.heap.size, o, none⟩) z0).trans (fz o)
  replace fy : ∀ o, w1.frozen? ⟨w.heap.size + 1, o, none⟩ = false := fun o => (h1.frozen (p := ⟨w.heap.size + 1, o, none⟩) z1).trans (fy o)
  replace c0 := (h1.cell (p := ⟨w.heap.size, 0, none⟩) z0).trans c0
  replace f0 := (h1.frozen (p := ⟨w.heap.size, 0, none⟩) z0).trans f0
  replace c1 := (h1.cell (p := ⟨w.heap.size, 1, none⟩) z0).trans c1
  replace f1 := (h1.frozen (p := ⟨w.heap.size, 1, none⟩) z0).trans f1
  replace c2 := (h1.cell (p := ⟨w.heap.size, 2, none⟩) z0).trans c2
  replace f2 := (h1.frozen (p := ⟨w.heap.size, 2, none⟩) z0).trans f2
  replace c3 := (h1.cell (p := ⟨w.heap.size, 3, none⟩) z0).trans c3
  replace f3 := (h1.frozen (p := ⟨w.heap.size, 3, none⟩) z0).trans f3
  replace c4 := (h1.cell (p := ⟨w.heap.size + 1, 0, none⟩) z1).trans c4
  replace f4 := (h1.frozen (p := ⟨w.heap.size + 1, 0, none⟩) z1).trans f4
  replace c5 := (h1.cell (p := ⟨w.heap.size + 1, 1, none⟩) z1).trans c5
  replace f5 := (h1.frozen (p := ⟨w.heap.size + 1, 1, none⟩) z1).trans f5
  replace c6 := (h1.cell (p := ⟨w.heap.size + 1, 2, none⟩) z1).trans c6
  replace f6 := (h1.frozen (p := ⟨w.heap.size + 1, 2, none⟩) z1).trans f6
  replace c7 := (h1.cell (p := ⟨w.heap.size + 1, 3, none⟩) z1).trans c7
  replace f7 := (h1.frozen (p := ⟨w.heap.size + 1, 3, none⟩) z1).trans f7
  replace z0 := Nat.lt_of_lt_of_le z0 h1.size
  replace z1 := Nat.lt_of_lt_of_le z1 h1.size
  replace B0 : Below w.heap.size w w1 := B0.trans (h1.mono s0)
  replace s0 := B0.size
  clear h1
  rw [kd]
  have D0 : Hid (DrvAt w1 w.heap.size P W T F) := ⟨z0, fz, c0, c1, c2, c3⟩
  have R0 : Hid (DrvAt w1 (w.heap.size + 1) 0 0 0 false) := ⟨z1, fy, c4, c5, c6, c7⟩
  have HB0 : Hid (Below w.heap.size w w1) := B0
  clear fz fy c0 c1 c2 c3 c4 c5 c6 c7 f0 f1 f2 f3 f4 f5 f6 f7 B0 z0
  go_upto_region 3 with fail
  go_cut [7, 8] (fun a b wx => ∃ bm bs : Nat, a = .map (some bm) ∧ b = .slice (some ⟨bs, 0, none⟩) n n ∧ bm ≠ bs ∧ w1.heap.size ≤ bm ∧ w1.heap.size ≤ bs ∧ Hid (∀ U, BookAt wx bm U 0) ∧ Hid (PlcAt wx bs n 0 (fun k => (stD (P, W, T, F) K V X J (k + 1)).1)) ∧ Hid (Below w1.heap.size w1 wx))
  case first =>
    have hs1 : (w1.alloc (.map #[] 0)).heap.size = w1.heap.size + 1 := by simp
    have hs2 : (w1.alloc (.cells (madeCells #[.int .i64 0] n) 2)).heap.size = w1.heap.size + 1 := by simp
    go_region
    all_goals
      go_wp2_with fail
      go_meet
      case rel =>
        refine ⟨_, _, rfl, rfl, ?_, ?_, ?_, fun U => ?_, ?_, ?_⟩
        all_goals first
          | omega
          | (simp; done)
          | (simp; omega)
          | (show BookAt _ w1.heap.size U 0; exact (BookAt.new w1 U).below (show Below (w1.alloc (.map #[] 0)).heap.size (w1.alloc (.map #[] 0)) _ from (by repeat (first | with_reducible exact Below.refl _ _ | with_reducible refine Below.setCell ?_ (by first | omega | (simp; done) | (simp; omega)) _ | with_reducible refine bDrewN ?_ _ | with_reducible refine Below.drew ?_ | with_reducible refine Below.alloc ?_ (by first | omega | (simp; done) | (simp; omega)) _))))
          | (show BookAt _ (w1.heap.size + 1) U 0; rw [← hs2]; exact (BookAt.new (w1.alloc (.cells (madeCells #[.int .i64 0] n) 2)) U).below (show Below _ _ _ from (Below.refl _ _).drew))
          | (show PlcAt _ w1.heap.size n 0 _; exact (plc_new w1 n _ _).below (show Below (w1.alloc (.cells (madeCells #[.int .i64 0] n) 2)).heap.size (w1.alloc (.cells (madeCells #[.int .i64 0] n) 2)) _ from (by repeat (first | with_reducible exact Below.refl _ _ | with_reducible refine Below.setCell ?_ (by first | omega | (simp; done) | (simp; omega)) _ | with_reducible refine bDrewN ?_ _ | with_reducible refine Below.drew ?_ | with_reducible refine Below.alloc ?_ (by first | omega | (simp; done) | (simp; omega)) _))))
          | (show PlcAt _ (w1.heap.size + 1) n 0 _; rw [← hs1]; exact (plc_new (w1.alloc (.map #[] 0)) n _ _).below (show Below _ _ _ from (Below.refl _ _).drew))
          | (show Below _ _ _; exact (by repeat (first | with_reducible exact Below.refl _ _ | with_reducible refine Below.setCell ?_ (by first | omega | (simp; done) | (simp; omega)) _ | with_reducible refine bDrewN ?_ _ | with_reducible refine Below.drew ?_ | with_reducible refine Below.alloc ?_ (by first | omega | (simp; done) | (simp; omega)) _)))
          | skip
  case rest =>
    obtain ⟨bm, bs, rfl, rfl, nms, lm, ls, HK, HL, HBc⟩ := hcut
    rename World => w2
    have l1 : w.heap.size + 1 < w1.heap.size := z1
    clear z1
    replace D0 : Hid (DrvAt w2 w.heap.size P W T F) := D0.out.below HBc.out
    replace R0 : Hid (DrvAt w2 (w.heap.size + 1) 0 0 0 false) := R0.out.below HBc.out
    replace HB0 : Hid (Below w.heap.size w w2) := HB0.out.trans (HBc.out.mono HB0.out.size)
    clear HBc hmk hmm
    go_wp2_with fail
    go_loopw [28] (fun i wr => ∃ k : Nat, k ≤ n ∧ i = .int .i64 k ∧ Hid (allD (P, W, T, F) K V X J k = true) ∧ Hid (DrvAt wr w.heap.size (stD (P, W, T, F) K V X J k).1 (stD (P, W, T, F) K V X J k).2.1 (stD (P, W, T, F) K V X J k).2.2.1 (stD (P, W, T, F) K V X J k).2.2.2) ∧ Hid (DrvAt wr (w.heap.size + 1) 0 0 0 false) ∧ Hid (∀ U, BookAt wr bm U 0) ∧ Hid (PlcAt wr bs n k (fun k => (stD (P, W, T, F) K V X J (k + 1)).1)) ∧ Hid (Below w.heap.size w wr)) (fun i _ => n - (intOf i).toNat)
    case atStart => exact ⟨0, Nat.zero_le _, rfl, rfl, D0, R0, HK, HL, HB0⟩
    case round =>
      obtain ⟨k, hk, rfl, HA, HD, HR, HBk, HPl, HBw⟩ := hrel
      clear D0 R0 HK HL HB0
      by_cases h1 : k < n
      case neg =>
        obtain rfl : k = n := by omega
        obtain ⟨rfl, hv, rfl⟩ := HT.out HA.out
        rw [hv] at HD
        obtain ⟨z0, fz, c0, c1, c2, c3⟩ := HD.out
        obtain ⟨z1, fy, g0, g1, g2, g3⟩ := HR.out
        have HPL : Hid (PlcAt wr bs L L (fun k => (stD (P, W, T, F) K V X J (k + 1)).1)) := HPl
        clear HD HR hv HPl HT HF
        go_wp2_with fail
        go_region
        all_goals
          go_wp2
          refine bodyPost_ret (v := .tuple #[.slice (some ⟨bs, 0, none⟩) L L, .agg #[.int .i64 v0, .int .i64 v1, .int .i64 v2, .bool v3], .bool true]) (by simp [results, Try.results18, go_sem, c0, c1, c2, c3, g0, g1, g2, g3]) rfl ⟨some ⟨bs, 0, none⟩, L, rfl, ?_, (by have B := HBw.out; have sB := B.size; exact (by repeat (first | with_reducible exact Below.refl _ _ | with_reducible exact B | with_reducible refine Below.setCell ?_ (by first | omega | (simp; done) | (simp; omega)) _ | with_reducible refine bDrewN ?_ _ | with_reducible refine Below.drew ?_ | with_reducible refine Below.alloc ?_ (by first | omega | (simp; done) | (simp; omega)) _)))⟩
          refine PlcAt.own (HPL.out.beside (r := w.heap.size + 1) ?_ (by omega)) (by omega)
          first
            | exact ((((Beside.setCell (w.heap.size + 1) _ 0 _).trans (Beside.setCell (w.heap.size + 1) _ 1 _)).trans (Beside.setCell (w.heap.size + 1) _ 2 _)).trans (Beside.setCell (w.heap.size + 1) _ 3 _)).trans (Beside.of (by repeat (first | with_reducible exact Below.refl _ _ | with_reducible refine Below.setCell ?_ (by first | omega | (simp; done) | (simp; omega)) _ | with_reducible refine bDrewN ?_ _ | with_reducible refine Below.drew ?_ | with_reducible refine Below.alloc ?_ (by first | omega | (simp; done) | (simp; omega)) _)))
            | exact (Beside.of (show Below _ _ _ from (Below.refl _ _).drew)).trans (((((Beside.setCell (w.heap.size + 1) _ 0 _).trans (Beside.setCell (w.heap.size + 1) _ 1 _)).trans (Beside.setCell (w.heap.size + 1) _ 2 _)).trans (Beside.setCell (w.heap.size + 1) _ 3 _)))
      case pos =>
        obtain ⟨pb, po, rfl, pl, p0, p1, p2, HRo⟩ := HP.out k h1
        have pb2 : pb < w.heap.size := pl
        have d0 : wr.cell? ⟨pb, po + k * 3, none⟩ = some (.slice (S k) (K k) (C k)) := (HBw.out.cell (p := ⟨pb, po + k * 3, none⟩) pl).trans p0
        have d1 : wr.cell? ⟨pb, po + k * 3 + 1, none⟩ = some (.int .i64 (X k)) := (HBw.out.cell (p := ⟨pb, po + k * 3 + 1, none⟩) pl).trans p1
        have d2 : wr.cell? ⟨pb, po + k * 3 + 2, none⟩ = some (.bool (J k)) := (HBw.out.cell (p := ⟨pb, po + k * 3 + 2, none⟩) pl).trans p2
        have HRw : Hid (RowI wr (S k) (K k * 2) (V k) ∧ ∀ j, j < K k * 2 → ∀ g o, S k = some ⟨g, o, none⟩ → g < w.heap.size) := ⟨HRo.below HBw.out, fun j hj g o e => by
          obtain ⟨g', o', e', hl, _⟩ := HRo j hj
          rw [e] at e'
          cases e'
          exact hl⟩
        have k1 : (k : Int) < (n : Int) := by omega
        have zg : pb < wr.heap.size := Nat.lt_of_lt_of_le pl HBw.out.size
        have zw : w.heap.size + 1 < wr.heap.size := HR.out.1
        have zm : bm < wr.heap.size := (HBk.out (fun _ => 0)).lt
        clear p0 p1 p2 HRo pl
        obtain ⟨q0, q1, q2, q3, hst⟩ : ∃ q0 q1 q2 q3, stD (P, W, T, F) K V X J k = (q0, q1, q2, q3) := ⟨_, _, _, _, rfl⟩
        obtain ⟨dc, hdc⟩ : ∃ dc, decV (V k) (K k) = dc := ⟨_, rfl⟩
        obtain ⟨y0, y1, y2, y3, hyy⟩ : ∃ y0 y1 y2 y3, drvV q0 q1 q2 q3 dc (X k) (J k) = (y0, y1, y2, y3) := ⟨_, _, _, _, rfl⟩
        obtain ⟨ok, hok⟩ : ∃ ok, dstB q0 q1 q2 dc (X k) = ok := ⟨_, rfl⟩
        have HN : Hid (stD (P, W, T, F) K V X J (k + 1) = (y0, y1, y2, y3) ∧ okD (P, W, T, F) K V X J k = ok) := by
          refine ⟨?_, ?_⟩
          · show drvV _ _ _ _ _ _ _ = _
            rw [hst, hdc]
            exact hyy
          · show dstB _ _ _ _ _ = _
            rw [hst, hdc]
            exact hok
        rw [hst] at HD
        have HST : Hid (∀ w, Calls Try.prog 38 #[.agg #[.int .i64 q0, .int .i64 q1, .int .i64 q2, .bool q3], .int .i64 dc, .int .i64 (X k), .bool (J k)] w fun e w' => e = .returned (.tuple #[.agg #[.int .i64 y0, .int .i64 y1, .int .i64 y2, .bool y3], .bool ok]) ∧ Below w.heap.size w w') := fun w => by
          have := implDrive_any q0 q1 q2 q3 dc (X k) (J k) w
          rw [hyy, hok] at this
          exact this
        have HDC : Hid (∀ wp W, Below wr.heap.size wr wp → Beside bm wp W → (∀ U, BookAt W bm U 0) → Calls Try.prog 28 #[.map (some bm), .slice (S k) (K k) (C k)] W fun e w' => e = .returned (.int .i64 dc) ∧ (∀ U, BookAt w' bm U 0) ∧ Beside bm W w') := fun wp W b1 b2 hU => by
          have HW : RowI W (S k) (K k * 2) (V k) := fun j hj => by
            obtain ⟨g, o, e, hl, hc⟩ := (HRw.out.1.below b1) j hj
            have hg := HRw.out.2 j hj g o e
            exact ⟨g, o, e, Nat.lt_of_lt_of_le hl b2.2.2.2.1, (b2.cell (p := ⟨g, o + j, none⟩) hl (by simp only; omega)).trans hc⟩
          by_cases h50 : ((K k : Nat) : Int) ≤ 50
          · have := bookDecide_near bm (S k) (K k) (C k) (V k) W h50 (hU (V k)) HW (fun j hj g o e => by have := HRw.out.2 j hj g o e; omega)
            rw [hdc] at this
            exact this
          · have := bookDecide_far bm (S k) (K k) (C k) (V k) W (by omega)
            rw [hdc] at this
            exact this.mono fun e w' ⟨a, b⟩ => ⟨a, by rw [b]; exact hU, by rw [b]; exact Beside.of (Below.refl _ _)⟩
        clear HRw hst hdc hyy hok
        go_upto_region 7 with fail
        obtain ⟨wp, hwp⟩ : ∃ wp, wp = wr.alloc (.cells #[.slice (S k) (K k) (C k), .int .i64 (X k), .bool (J k)] 57) := ⟨_, rfl⟩
        rw [← hwp]
        have a0 : wp.cell? ⟨wr.heap.size, 0, none⟩ = some (.slice (S k) (K k) (C k)) := by rw [hwp]; simp [go_sem]
        have a1 : wp.cell? ⟨wr.heap.size, 1, none⟩ = some (.int .i64 (X k)) := by rw [hwp]; simp [go_sem]
        have a2 : wp.cell? ⟨wr.heap.size, 2, none⟩ = some (.bool (J k)) := by rw [hwp]; simp [go_sem]
        have zp : wr.heap.size < wp.heap.size := by rw [hwp]; simp
        have HBp : Hid (Below wr.heap.size wr wp) := by show Below _ _ _; rw [hwp]; exact below0 _ _
        clear hwp d0 d1 d2 zg
        replace HD : Hid (DrvAt wp w.heap.size q0 q1 q2 q3) := HD.out.below HBp.out
        replace HR : Hid (DrvAt wp (w.heap.size + 1) 0 0 0 false) := HR.out.below HBp.out
        replace HBk : Hid (∀ U, BookAt wp bm U 0) := fun U => (HBk.out U).below HBp.out
        replace HPl : Hid (PlcAt wp bs n k (fun k => (stD (P, W, T, F) K V X J (k + 1)).1)) := HPl.out.below HBp.out
        replace HBw : Hid (Below w.heap.size w wp) := HBw.out.trans (HBp.out.mono HBw.out.size)
        obtain ⟨zd, fd, b0, b1, b2, b3⟩ := HD.out
        clear fd
        go_cut [11, 12] (fun a b wx => ∃ g : Nat, a = .pointer (some ⟨g, 0, none⟩) ∧ b = .bool ok ∧ wp.heap.size ≤ g ∧ wx.cell? ⟨g, 0, none⟩ = some (.int .i64 y0) ∧ wx.cell? ⟨g, 1, none⟩ = some (.int .i64 y1) ∧ wx.cell? ⟨g, 2, none⟩ = some (.int .i64 y2) ∧ wx.cell? ⟨g, 3, none⟩ = some (.bool y3) ∧ g < wx.heap.size ∧ Hid (Beside bm wp wx) ∧ Hid (∀ U, BookAt wx bm U 0))
        case first =>
          go_region_held3 (fun w' => w'.cell? ⟨w.heap.size, 0, none⟩ = some (.int .i64 q0) ∧ w'.cell? ⟨w.heap.size, 1, none⟩ = some (.int .i64 q1) ∧ w'.cell? ⟨w.heap.size, 2, none⟩ = some (.int .i64 q2) ∧ w'.cell? ⟨w.heap.size, 3, none⟩ = some (.bool q3) ∧ w'.cell? ⟨wr.heap.size, 0, none⟩ = some (.slice (S k) (K k) (C k)) ∧ w'.cell? ⟨wr.heap.size, 1, none⟩ = some (.int .i64 (X k)) ∧ w'.cell? ⟨wr.heap.size, 2, none⟩ = some (.bool (J k))) (first | (refine keepD7 (r := bm) b0 b1 b2 b3 a0 a1 a2 zd zp (by omega) (by omega) ?_; first | exact BB4.onD (by repeat (first | with_reducible exact Below.refl _ _ | with_reducible refine Below.setCell ?_ (by first | omega | (simp; done) | (simp; omega)) _ | with_reducible refine bDrewN ?_ _ | with_reducible refine Below.drew ?_ | with_reducible refine Below.alloc ?_ (by first | omega | (simp; done) | (simp; omega)) _)) | exact BB3.onD (by repeat (first | with_reducible exact Below.refl _ _ | with_reducible refine Below.setCell ?_ (by first | omega | (simp; done) | (simp; omega)) _ | with_reducible refine bDrewN ?_ _ | with_reducible refine Below.drew ?_ | with_reducible refine Below.alloc ?_ (by first | omega | (simp; done) | (simp; omega)) _)) | exact Beside.of (by repeat (first | with_reducible exact Below.refl _ _ | with_reducible refine Below.setCell ?_ (by first | omega | (simp; done) | (simp; omega)) _ | with_reducible refine bDrewN ?_ _ | with_reducible refine Below.drew ?_ | with_reducible refine Below.alloc ?_ (by first | omega | (simp; done) | (simp; omega)) _)))) (first
            | (go_at_call 28; refine (HDC.out wp _ HBp.out (Beside.of (by repeat (first | with_reducible exact Below.refl _ _ | with_reducible refine Below.setCell ?_ (by first | omega | (simp; done) | (simp; omega)) _ | with_reducible refine bDrewN ?_ _ | with_reducible refine Below.drew ?_ | with_reducible refine Below.alloc ?_ (by first | omega | (simp; done) | (simp; omega)) _))) (fun U => (HBk.out U).below (by repeat (first | with_reducible exact Below.refl _ _ | with_reducible refine Below.setCell ?_ (by first | omega | (simp; done) | (simp; omega)) _ | with_reducible refine bDrewN ?_ _ | with_reducible refine Below.drew ?_ | with_reducible refine Below.alloc ?_ (by first | omega | (simp; done) | (simp; omega)) _)))).mono ?_; rintro e w3 ⟨rfl, hU3, h3⟩; have BB3 : Beside bm wp w3 := (Beside.of (by repeat (first | with_reducible exact Below.refl _ _ | with_reducible refine Below.setCell ?_ (by first | omega | (simp; done) | (simp; omega)) _ | with_reducible refine bDrewN ?_ _ | with_reducible refine Below.drew ?_ | with_reducible refine Below.alloc ?_ (by first | omega | (simp; done) | (simp; omega)) _))).trans h3; have HU3 : Hid (∀ U, BookAt w3 bm U 0) := hU3; have s3 := BB3.2.2.2.1; have s3b := h3.2.2.2.1; (try simp at s3b); (try (have n0 := h3.cell (p := ⟨wp.heap.size, 0, none⟩) (by first | omega | (simp; done) | (simp; omega)) (by simp only; omega); have n1 := h3.cell (p := ⟨wp.heap.size, 1, none⟩) (by first | omega | (simp; done) | (simp; omega)) (by simp only; omega); have n2 := h3.cell (p := ⟨wp.heap.size, 2, none⟩) (by first | omega | (simp; done) | (simp; omega)) (by simp only; omega); have n3 := h3.cell (p := ⟨wp.heap.size, 3, none⟩) (by first | omega | (simp; done) | (simp; omega)) (by simp only; omega); have nf0 := h3.frozen (p := ⟨wp.heap.size, 0, none⟩) (by first | omega | (simp; done) | (simp; omega)) (by simp only; omega); have nf1 := h3.frozen (p := ⟨wp.heap.size, 1, none⟩) (by first | omega | (simp; done) | (simp; omega)) (by simp only; omega); have nf2 := h3.frozen (p := ⟨wp.heap.size, 2, none⟩) (by first | omega | (simp; done) | (simp; omega)) (by simp only; omega); have nf3 := h3.frozen (p := ⟨wp.heap.size, 3, none⟩) (by first | omega | (simp; done) | (simp; omega)) (by simp only; omega); simp (maxDischargeDepth := 12) [go_sem, *] at n0 nf0 n1 nf1 n2 nf2 n3 nf3)); clear hU3 h3)
            | (go_at_call 38; refine (HST.out _).mono ?_; rintro e w4 ⟨rfl, h4⟩; have BB4 : Beside bm wp w4 := (BB3.onD (by repeat (first | with_reducible exact Below.refl _ _ | with_reducible refine Below.setCell ?_ (by first | omega | (simp; done) | (simp; omega)) _ | with_reducible refine bDrewN ?_ _ | with_reducible refine Below.drew ?_ | with_reducible refine Below.alloc ?_ (by first | omega | (simp; done) | (simp; omega)) _))).trans (Beside.of h4); have HU4 : Hid (∀ U, BookAt w4 bm U 0) := (fun U => ((HU3.out U).below (by repeat (first | with_reducible exact Below.refl _ _ | with_reducible refine Below.setCell ?_ (by first | omega | (simp; done) | (simp; omega)) _ | with_reducible refine bDrewN ?_ _ | with_reducible refine Below.drew ?_ | with_reducible refine Below.alloc ?_ (by first | omega | (simp; done) | (simp; omega)) _))).below h4); have s4 := BB4.2.2.2.1; have s4b := h4.size; (try simp at s4b); (try (have r0 := h4.cell (p := ⟨wp.heap.size, 0, none⟩) (by first | omega | (simp; done) | (simp; omega)); have r1 := h4.cell (p := ⟨wp.heap.size, 1, none⟩) (by first | omega | (simp; done) | (simp; omega)); have r2 := h4.cell (p := ⟨wp.heap.size, 2, none⟩) (by first | omega | (simp; done) | (simp; omega)); have r3 := h4.cell (p := ⟨wp.heap.size, 3, none⟩) (by first | omega | (simp; done) | (simp; omega)); have rf0 := h4.frozen (p := ⟨wp.heap.size, 0, none⟩) (by first | omega | (simp; done) | (simp; omega)); have rf1 := h4.frozen (p := ⟨wp.heap.size, 1, none⟩) (by first | omega | (simp; done) | (simp; omega)); have rf2 := h4.frozen (p := ⟨wp.heap.size, 2, none⟩) (by first | omega | (simp; done) | (simp; omega)); have rf3 := h4.frozen (p := ⟨wp.heap.size, 3, none⟩) (by first | omega | (simp; done) | (simp; omega)); simp (maxDischargeDepth := 12) [go_sem, *] at r0 rf0 r1 rf1 r2 rf2 r3 rf3)); (try (have t0 := h4.cell (p := ⟨w3.heap.size, 0, none⟩) (by first | omega | (simp; done) | (simp; omega)); have t1 := h4.cell (p := ⟨w3.heap.size, 1, none⟩) (by first | omega | (simp; done) | (simp; omega)); have t2 := h4.cell (p := ⟨w3.heap.size, 2, none⟩) (by first | omega | (simp; done) | (simp; omega)); have t3 := h4.cell (p := ⟨w3.heap.size, 3, none⟩) (by first | omega | (simp; done) | (simp; omega)); have tf0 := h4.frozen (p := ⟨w3.heap.size, 0, none⟩) (by first | omega | (simp; done) | (simp; omega)); have tf1 := h4.frozen (p := ⟨w3.heap.size, 1, none⟩) (by first | omega | (simp; done) | (simp; omega)); have tf2 := h4.frozen (p := ⟨w3.heap.size, 2, none⟩) (by first | omega | (simp; done) | (simp; omega)); have tf3 := h4.frozen (p := ⟨w3.heap.size, 3, none⟩) (by first | omega | (simp; done) | (simp; omega)); simp (maxDischargeDepth := 12) [go_sem, *] at t0 tf0 t1 tf1 t2 tf2 t3 tf3)); clear h4))
          all_goals
            go_wp2_with fail
            go_meet
            case rel =>
              refine ⟨_, rfl, rfl, ?_, ?_, ?_, ?_, ?_, ?_, (by show Beside _ _ _; exact BB4.onD (by repeat (first | with_reducible exact Below.refl _ _ | with_reducible refine Below.setCell ?_ (by first | omega | (simp; done) | (simp; omega)) _ | with_reducible refine bDrewN ?_ _ | with_reducible refine Below.drew ?_ | with_reducible refine Below.alloc ?_ (by first | omega | (simp; done) | (simp; omega)) _))), (fun U => (HU4.out U).belowB (B := wp.heap.size) (by repeat (first | with_reducible exact Below.refl _ _ | with_reducible refine Below.setCell ?_ (by first | omega | (simp; done) | (simp; omega)) _ | with_reducible refine bDrewN ?_ _ | with_reducible refine Below.drew ?_ | with_reducible refine Below.alloc ?_ (by first | omega | (simp; done) | (simp; omega)) _)) (by omega))⟩
              all_goals first | omega | (simp [go_sem, *]; done) | (simp [go_sem, *, Nat.add_assoc]; done) | (simp; omega) | (simp [*]; omega)
        case rest =>
          obtain ⟨g, rfl, rfl, lg, g0, g1, g2, g3, zg, HBx, HUx⟩ := hcut
          replace HR : Hid (DrvAt wc (w.heap.size + 1) 0 0 0 false) := HR.out.beside HBx.out (by omega)
          have zbs : bs < wp.heap.size := HPl.out.1
          replace HPl : Hid (PlcAt wc bs n k (fun k => (stD (P, W, T, F) K V X J (k + 1)).1)) := HPl.out.beside HBx.out (by omega)
          have HDx : Hid (DrvAt wc w.heap.size q0 q1 q2 q3) := HD.out.beside HBx.out (by omega)
          replace HBw : Hid (Below w.heap.size w wc) := HBw.out.trans (HBx.out.below (by omega) HBw.out.size)
          clear HD HBk HDC HST HBx a0 a1 a2 b0 b1 b2 b3 zd HBp
          cases ok
          · obtain ⟨rfl, rfl, rfl, rfl, rfl, rfl⟩ := HF.out (all_no h1 HN.out.2)
            obtain ⟨zr, fr, r0, r1, r2, r3⟩ := HR.out
            clear HR HDx HPl HT HF HN HUx
            go_wp2
            exact bodyPost_ret (v := .tuple #[.slice none 0 0, .agg #[.int .i64 0, .int .i64 0, .int .i64 0, .bool false], .bool false]) (by simp [results, Try.results18, go_sem, r0, r1, r2, r3]) rfl ⟨none, 0, rfl, fun j hj => by omega, (by have B := HBw.out; have sB := B.size; exact (by repeat (first | with_reducible exact Below.refl _ _ | with_reducible exact B | with_reducible refine Below.setCell ?_ (by first | omega | (simp; done) | (simp; omega)) _ | with_reducible refine bDrewN ?_ _ | with_reducible refine Below.drew ?_ | with_reducible refine Below.alloc ?_ (by first | omega | (simp; done) | (simp; omega)) _)))⟩
          · have HA2 : Hid (allD (P, W, T, F) K V X J (k + 1) = true) := by
              show (allD (P, W, T, F) K V X J k && okD (P, W, T, F) K V X J k) = true
              rw [HA.out, HN.out.2]
              rfl
            obtain ⟨zd, fd, c0, c1, c2, c3⟩ := HDx.out
            obtain ⟨zl, fl, cl⟩ := HPl.out
            have e0 := cl k h1
            have f0 := fl k
            have zr := HR.out.1
            have ngs : bs ≠ w.heap.size := by omega
            have ng1 : g ≠ w.heap.size := by omega
            have ng2 : g ≠ bs := by omega
            have HUk : Hid ((fun k => (stD (P, W, T, F) K V X J (k + 1)).1) k = y0) := by
              show (stD (P, W, T, F) K V X J (k + 1)).1 = y0
              rw [HN.out.1]
            clear cl fl HT HF
            go_wp2
            go_roundw
            case rel =>
              refine ⟨k + 1, by omega, by go_num, HA2, ?_, ?_, fun U => ?_, ?_, ?_⟩
              · rw [HN.out.1]
                exact ((((HDx.out.beside (Beside.setCell bs _ k _) (by omega)).set0 y0).set1 y1).set2 y2).set3 y3
              · exact (((((HR.out.beside (Beside.setCell bs _ k _) (by omega)).beside (Beside.setCell w.heap.size _ 0 _) (by omega)).beside (Beside.setCell w.heap.size _ 1 _) (by omega)).beside (Beside.setCell w.heap.size _ 2 _) (by omega)).beside (Beside.setCell w.heap.size _ 3 _) (by omega))
              · exact ((((((HUx.out U).besideD (Beside.setCell bs _ k _) (by omega)).besideD (Beside.setCell w.heap.size _ 0 _) (by omega)).besideD (Beside.setCell w.heap.size _ 1 _) (by omega)).besideD (Beside.setCell w.heap.size _ 2 _) (by omega)).besideD (Beside.setCell w.heap.size _ 3 _) (by omega))
              · have hp := HPl.out.putV HUk.out
                exact ((((hp.beside (Beside.setCell w.heap.size _ 0 _) (by omega)).beside (Beside.setCell w.heap.size _ 1 _) (by omega)).beside (Beside.setCell w.heap.size _ 2 _) (by omega)).beside (Beside.setCell w.heap.size _ 3 _) (by omega))
              · show Below _ _ _
                have B := HBw.out
                exact (by repeat (first | with_reducible exact Below.refl _ _ | with_reducible exact B | with_reducible refine Below.setCell ?_ (by first | omega | (simp; done) | (simp; omega)) _ | with_reducible refine bDrewN ?_ _ | with_reducible refine Below.drew ?_ | with_reducible refine Below.alloc ?_ (by first | omega | (simp; done) | (simp; omega)) _))
            case measure => simp [intOf]; omega
end Go.Proofs.Ytafifjodpgmiiaa
