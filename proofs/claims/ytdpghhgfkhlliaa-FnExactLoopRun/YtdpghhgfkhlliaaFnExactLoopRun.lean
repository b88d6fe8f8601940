/-
What is proved: at every loop, every hold and every two lists impl.LoopRun answers as the specification's LoopRun, leaves the lists alone, and its answer owns its memory; no condition.
-/
import Derived.Test.YtdpghhgfkhlliaaLrS
import Derived.Test.YtdpghhgfkhlliaaLrI
import Derived.Test.YtdpghhgfkhlliaaLrL
import Derived.Test.YtdpghhgfkhlliaaOpenI
import Derived.Deep.RegionHeld3
import Derived.Deep.DeepCutAuto
namespace Go.Proofs.Ytdpghhgfkhlliaa
set_option maxRecDepth 40000
open Go.ChangeShapes Go.WideShapes Go.ChangeAt Go.RowKit
set_option linter.unusedVariables false
set_option linter.unusedSimpArgs false

set_option maxRecDepth 20000 in
set_option maxHeartbeats 16000000 in
theorem loopRun_near (w : World) (P I D S L H B : Int) (on : Bool) (u v o : Int) (y0 : Bool) (y1 y2 y3 : Int) (s2 : Option Addr) (n2 c2 : Nat) (V2 : Nat → Int) (s3 : Option Addr) (n3 c3 : Nat) (V3 : Nat → Int) (hn2 : (n2 : Int) ≤ 1048576) (hn3 : (n3 : Int) ≤ 1048576) (HR2 : Hid (RowI w s2 n2 V2)) (HR3 : Hid (RowI w s3 n3 V3)) (m : Nat) (U : Nat → Int) (hm : (m : Int) ≤ 1048576) (r : Bool)
    (H1 : Hid (∀ s2 c2 s3 c3 w, RowI w s2 n2 V2 → RowI w s3 n3 V3 → Calls Try.prog 14 #[.agg #[.int .i64 P, .int .i64 I, .int .i64 D, .int .i64 S, .int .i64 L, .int .i64 H, .int .i64 B], .agg #[.bool on, .int .i64 u, .int .i64 v, .int .i64 o], .slice s2 n2 c2, .slice s3 n3 c3] w fun e w' => ∃ s' c', e = .returned (.tuple #[.slice s' m c', .agg #[.bool y0, .int .i64 y1, .int .i64 y2, .int .i64 y3], .bool r]) ∧ OwnI w.heap.size w' s' m U ∧ Below w.heap.size w w'))
    (H2 : Hid (∀ s2 c2 s3 c3 w, RowI w s2 n2 V2 → RowI w s3 n3 V3 → Calls Try.prog 16 #[.agg #[.int .i64 P, .int .i64 I, .int .i64 D, .int .i64 S, .int .i64 L, .int .i64 H, .int .i64 B], .agg #[.bool on, .int .i64 u, .int .i64 v, .int .i64 o], .slice s2 n2 c2, .slice s3 n3 c3] w fun e w' => ∃ s' c', e = .returned (.tuple #[.slice s' m c', .agg #[.bool y0, .int .i64 y1, .int .i64 y2, .int .i64 y3], .bool r]) ∧ OwnI w.heap.size w' s' m U ∧ Below w.heap.size w w')) :
    Calls Try.prog 5 #[.agg #[.int .i64 P, .int .i64 I, .int .i64 D, .int .i64 S, .int .i64 L, .int .i64 H, .int .i64 B], .agg #[.bool on, .int .i64 u, .int .i64 v, .int .i64 o], .slice s2 n2 c2, .slice s3 n3 c3] w fun e w' => e = .returned (.bool true) ∧ Below w.heap.size w w' := by
  go_enter Try.func5, Try.ntmps5
  go_upto_region 5 with fail
  obtain ⟨wd, hwd⟩ : ∃ wd, wd = ((w.alloc (.cells #[.int .i64 P, .int .i64 I, .int .i64 D, .int .i64 S, .int .i64 L, .int .i64 H, .int .i64 B] 23)).alloc (.cells #[.bool on, .int .i64 u, .int .i64 v, .int .i64 o] 25)) := ⟨_, rfl⟩
  rw [← hwd]
  have A0 : Hid (LoopAt wd w.heap.size P I D S L H B) := by rw [hwd]; refine ⟨(by first | omega | (simp; done) | (simp; omega)), ?_, ?_, ?_, ?_, ?_, ?_, ?_⟩ <;> simp [go_sem]
  have A1 : Hid (HoldAt wd (w.heap.size + 1) on u v o) := by rw [hwd]; refine ⟨(by first | omega | (simp; done) | (simp; omega)), fun o => ?_, ?_, ?_, ?_, ?_⟩ <;> simp [go_sem]
  have B0 : Below w.heap.size w wd := by rw [hwd]; exact (by repeat (first | with_reducible exact Below.refl _ _ | with_reducible refine Below.setCell ?_ (by first | omega | (simp; done) | (simp; omega)) _ | with_reducible refine bDrewN ?_ _ | with_reducible refine Below.drew ?_ | with_reducible refine Below.alloc ?_ (by first | omega | (simp; done) | (simp; omega)) _))
  clear hwd
  obtain ⟨z0, d0, d1, d2, d3, d4, d5, d6⟩ := A0.out
  obtain ⟨z1, -, d7, d8, d9, d10⟩ := A1.out
  go_cut [9, 10, 11] (fun s t q wx => ∃ sW cW g, s = .slice sW m cW ∧ t = .pointer (some ⟨g, 0, none⟩) ∧ q = .bool r ∧ wd.heap.size ≤ g ∧ g < wx.heap.size ∧ wx.cell? ⟨g, 0, none⟩ = some (.bool y0) ∧ wx.cell? ⟨g, 1, none⟩ = some (.int .i64 y1) ∧ wx.cell? ⟨g, 2, none⟩ = some (.int .i64 y2) ∧ wx.cell? ⟨g, 3, none⟩ = some (.int .i64 y3) ∧ (∀ o, wx.frozen? ⟨g, o, none⟩ = false) ∧ OwnI wd.heap.size wx sW m U ∧ Below wd.heap.size wd wx)
  case first =>
    go_region_held3 (fun w' => w'.cell? ⟨w.heap.size, 0, none⟩ = some (.int .i64 P) ∧ w'.cell? ⟨w.heap.size, 1, none⟩ = some (.int .i64 I) ∧ w'.cell? ⟨w.heap.size, 2, none⟩ = some (.int .i64 D) ∧ w'.cell? ⟨w.heap.size, 3, none⟩ = some (.int .i64 S) ∧ w'.cell? ⟨w.heap.size, 4, none⟩ = some (.int .i64 L) ∧ w'.cell? ⟨w.heap.size, 5, none⟩ = some (.int .i64 H) ∧ w'.cell? ⟨w.heap.size, 6, none⟩ = some (.int .i64 B) ∧ w'.cell? ⟨w.heap.size + 1, 0, none⟩ = some (.bool on) ∧ w'.cell? ⟨w.heap.size + 1, 1, none⟩ = some (.int .i64 u) ∧ w'.cell? ⟨w.heap.size + 1, 2, none⟩ = some (.int .i64 v) ∧ w'.cell? ⟨w.heap.size + 1, 3, none⟩ = some (.int .i64 o)) (first | (refine keepLH2 d0 d1 d2 d3 d4 d5 d6 d7 d8 d9 d10 z0 z1 ?_; exact (by repeat (first | with_reducible exact Below.refl _ _ | with_reducible exact Bwz | with_reducible exact Bwl | with_reducible exact Bwk | with_reducible refine Below.setCell ?_ (by first | omega | (simp; done) | (simp; omega)) _ | with_reducible refine bDrewN ?_ _ | with_reducible refine Below.drew ?_ | with_reducible refine Below.alloc ?_ (by first | omega | (simp; done) | (simp; omega)) _)))) (first
      | (go_at_call 8; refine (toLoop_is P I D S L H B _).mono ?_; rintro e wa ⟨rfl, rfl⟩)
      | (go_at_call 9; refine (toHold_is on u v o _).mono ?_; rintro e wb ⟨rfl, rfl⟩)
      | (go_at_call 15; have gg := Bwk; clear gg; refine (toI_b s3 n3 c3 V3 _ hn3 (HR3.out.below (Below.trans B0 (Below.mono (by repeat (first | with_reducible exact Below.refl _ _ | with_reducible exact Bwk | with_reducible refine Below.setCell ?_ (by first | omega | (simp; done) | (simp; omega)) _ | with_reducible refine bDrewN ?_ _ | with_reducible refine Below.drew ?_ | with_reducible refine Below.alloc ?_ (by first | omega | (simp; done) | (simp; omega)) _)) B0.size)))).mono ?_; rintro e wl ⟨bl, rfl, ll, ul, Ol, h⟩; have bwl : Below wk.heap.size wk wl := Below.trans (by repeat (first | with_reducible exact Below.refl _ _ | with_reducible refine Below.setCell ?_ (by first | omega | (simp; done) | (simp; omega)) _ | with_reducible refine bDrewN ?_ _ | with_reducible refine Below.drew ?_ | with_reducible refine Below.alloc ?_ (by first | omega | (simp; done) | (simp; omega)) _)) (h.mono (by first | omega | (simp; done) | (simp; omega))); have Bwl : Below wd.heap.size wd wl := Below.trans Bwk (bwl.mono swk); have swl := Bwl.size; have twl := bwl.size; have HK2 : Hid (RowI wl (some ⟨bk, 0, none⟩) n2 V2) := HK.out.below bwl; have HL : Hid (RowI wl (some ⟨bl, 0, none⟩) n3 V3) := Ol.row; (try (first | (have AYwl := HoldAt.below AYwk bwl) | (have AYwl : HoldAt wl (wk.heap.size) false 0 0 0 := holdAt_mk (by first | (simp [go_sem]; done) | fail) (by first | (simp; done) | (simp; omega) | fail) (by first | (simp [go_sem]; done) | fail) (by first | (simp [go_sem]; done) | fail) (by first | (simp [go_sem]; done) | fail) (fun o => (by first | (simp [go_sem]; done) | fail)) h))); clear Ol h)
      | (go_at_call 15; refine (toI_b s2 n2 c2 V2 _ hn2 (HR2.out.below (Below.trans B0 (Below.mono (by repeat (first | with_reducible exact Below.refl _ _ | with_reducible refine Below.setCell ?_ (by first | omega | (simp; done) | (simp; omega)) _ | with_reducible refine bDrewN ?_ _ | with_reducible refine Below.drew ?_ | with_reducible refine Below.alloc ?_ (by first | omega | (simp; done) | (simp; omega)) _)) B0.size)))).mono ?_; rintro e wk ⟨bk, rfl, lk, uk, Ok, h⟩; have Bwk : Below wd.heap.size wd wk := Below.trans (by repeat (first | with_reducible exact Below.refl _ _ | with_reducible refine Below.setCell ?_ (by first | omega | (simp; done) | (simp; omega)) _ | with_reducible refine bDrewN ?_ _ | with_reducible refine Below.drew ?_ | with_reducible refine Below.alloc ?_ (by first | omega | (simp; done) | (simp; omega)) _)) (h.mono (by first | omega | (simp; done) | (simp; omega))); have swk := Bwk.size; have HK : Hid (RowI wk (some ⟨bk, 0, none⟩) n2 V2) := Ok.row; (try (first | (have AYwk : HoldAt wk (wd.heap.size) false 0 0 0 := holdAt_mk (by first | (simp [go_sem]; done) | fail) (by first | (simp; done) | (simp; omega) | fail) (by first | (simp [go_sem]; done) | fail) (by first | (simp [go_sem]; done) | fail) (by first | (simp [go_sem]; done) | fail) (fun o => (by first | (simp [go_sem]; done) | fail)) h) | (have AYwk : HoldAt wk (wd.heap.size + 1 + 1 + 1) false 0 0 0 := holdAt_mk (by first | (simp [go_sem]; done) | fail) (by first | (simp; done) | (simp; omega) | fail) (by first | (simp [go_sem]; done) | fail) (by first | (simp [go_sem]; done) | fail) (by first | (simp [go_sem]; done) | fail) (fun o => (by first | (simp [go_sem]; done) | fail)) h) | (have AYwk : HoldAt wk (wd.heap.size + 1 + 1 + 1 + 1 + 1 + 1) false 0 0 0 := holdAt_mk (by first | (simp [go_sem]; done) | fail) (by first | (simp; done) | (simp; omega) | fail) (by first | (simp [go_sem]; done) | fail) (by first | (simp [go_sem]; done) | fail) (by first | (simp [go_sem]; done) | fail) (fun o => (by first | (simp [go_sem]; done) | fail)) h))); clear Ok h)
      | (go_at_call 14; refine (H1.out _ _ _ _ _ (HK2.out.below (by repeat (first | with_reducible exact Below.refl _ _ | with_reducible refine Below.setCell ?_ (by first | omega | (simp; done) | (simp; omega)) _ | with_reducible refine bDrewN ?_ _ | with_reducible refine Below.drew ?_ | with_reducible refine Below.alloc ?_ (by first | omega | (simp; done) | (simp; omega)) _))) (HL.out.below (by repeat (first | with_reducible exact Below.refl _ _ | with_reducible refine Below.setCell ?_ (by first | omega | (simp; done) | (simp; omega)) _ | with_reducible refine bDrewN ?_ _ | with_reducible refine Below.drew ?_ | with_reducible refine Below.alloc ?_ (by first | omega | (simp; done) | (simp; omega)) _)))).mono ?_; rintro e wz ⟨sW, cW, rfl, OW, h⟩; have bwz : Below wl.heap.size wl wz := Below.trans (by repeat (first | with_reducible exact Below.refl _ _ | with_reducible refine Below.setCell ?_ (by first | omega | (simp; done) | (simp; omega)) _ | with_reducible refine bDrewN ?_ _ | with_reducible refine Below.drew ?_ | with_reducible refine Below.alloc ?_ (by first | omega | (simp; done) | (simp; omega)) _)) (h.mono (by first | omega | (simp; done) | (simp; omega))); have Bwz : Below wd.heap.size wd wz := Below.trans Bwl (bwz.mono swl); have swz := Bwz.size; have HW : Hid (OwnI _ wz sW m U) := OW; (try (first | (have AYwz := HoldAt.below AYwl bwz) | (have AYwz : HoldAt wz (wl.heap.size) false 0 0 0 := holdAt_mk (by first | (simp [go_sem]; done) | fail) (by first | (simp; done) | (simp; omega) | fail) (by first | (simp [go_sem]; done) | fail) (by first | (simp [go_sem]; done) | fail) (by first | (simp [go_sem]; done) | fail) (fun o => (by first | (simp [go_sem]; done) | fail)) h))); (try (have azl := AYwl.1)); clear OW h; (try (obtain ⟨az, af, a0, a1, a2, a3⟩ := AYwz; have af0 := af 0; have af1 := af 1; have af2 := af 2; have af3 := af 3)); skip))
    all_goals
      go_wp2_with fail
      go_meet
      case rel =>
        refine ⟨_, _, _, rfl, rfl, rfl, ?_, ?_, ?_, ?_, ?_, ?_, ?_, ?_, (by repeat (first | with_reducible exact Below.refl _ _ | with_reducible exact Bwz | with_reducible refine Below.setCell ?_ (by first | omega | (simp; done) | (simp; omega)) _ | with_reducible refine bDrewN ?_ _ | with_reducible refine Below.drew ?_ | with_reducible refine Below.alloc ?_ (by first | omega | (simp; done) | (simp; omega)) _))⟩
        all_goals first | omega | (simp [go_sem, *]; done) | (simp [go_sem, *, Nat.add_assoc]; done) | (simp; omega) | (simp [*]; omega) | (intro o; have := af o; simpa [go_sem] using this) | (intro o; simp [go_sem]; done) | (refine OwnI.mono (OwnI.beside HW.out (set4_beside wz _ y0 y1 y2 y3) ?_) ?_ <;> first | omega | (simp; done) | (simp; omega)) | (refine OwnI.mono (OwnI.below HW.out ?_) ?_; (exact (by repeat (first | with_reducible exact Below.refl _ _ | with_reducible refine Below.setCell ?_ (by first | omega | (simp; done) | (simp; omega)) _ | with_reducible refine bDrewN ?_ _ | with_reducible refine Below.drew ?_ | with_reducible refine Below.alloc ?_ (by first | omega | (simp; done) | (simp; omega)) _))); (first | omega | (simp; done) | (simp; omega)))
  case rest =>
    obtain ⟨sW, cW, gW, rfl, rfl, rfl, glW, gz, v0, v1, v2, v3, vf, OW, h⟩ := hcut
    clear d0 d1 d2 d3 d4 d5 d6 d7 d8 d9 d10 z0 z1
    rename World => wcW
    have AHW : Hid (HoldAt wcW gW y0 y1 y2 y3) := ⟨gz, vf, v0, v1, v2, v3⟩
    have PHW : Hid (OwnI wd.heap.size wcW sW m U) := OW
    clear gz v0 v1 v2 v3 vf OW
    replace B0 : Below w.heap.size w wcW := B0.trans (h.mono B0.size)
    replace A0 : Hid (LoopAt wcW w.heap.size P I D S L H B) := A0.out.below h
    replace A1 : Hid (HoldAt wcW (w.heap.size + 1) on u v o) := A1.out.below h
    clear h glW
    have RW : Hid (RowI wcW sW m U) := PHW.out.row
    clear PHW
    have Bs : Below wcW.heap.size wcW wcW := Below.refl _ _
    have q1 : w.heap.size + 1 < wcW.heap.size := A1.out.1
    have q2 : gW < wcW.heap.size := AHW.out.1
    go_wp2_with fail
    refine (toI_b _ n2 _ V2 _ hn2 (HR2.out.below B0)).mono ?_
    rintro e w1 ⟨bx2, rfl, lx2, ux2, Ox2, h⟩
    replace B0 : Below w.heap.size w w1 := B0.trans (h.mono B0.size)
    replace Bs : Below wcW.heap.size wcW w1 := Bs.trans (h.mono Bs.size)
    replace A0 : Hid (LoopAt w1 w.heap.size P I D S L H B) := A0.out.below h
    replace A1 : Hid (HoldAt w1 (w.heap.size + 1) on u v o) := A1.out.below h
    replace AHW : Hid (HoldAt w1 gW y0 y1 y2 y3) := AHW.out.below h
    clear h
    have Px2 : Hid (OwnI bx2 w1 (some ⟨bx2, 0, none⟩) n2 V2) := Ox2
    clear Ox2
    have kx2 : bx2 + 1 ≤ w1.heap.size := ux2
    clear ux2
    go_wp2_with fail
    refine (toI_b _ n3 _ V3 _ hn3 (HR3.out.below B0)).mono ?_
    rintro e w2 ⟨bx3, rfl, lx3, ux3, Ox3, h⟩
    have q3 : bx2 < bx3 := by omega
    replace B0 : Below w.heap.size w w2 := B0.trans (h.mono B0.size)
    replace Bs : Below wcW.heap.size wcW w2 := Bs.trans (h.mono Bs.size)
    replace kx2 : bx2 + 1 ≤ w2.heap.size := Nat.le_trans kx2 h.size
    replace A0 : Hid (LoopAt w2 w.heap.size P I D S L H B) := A0.out.below h
    replace A1 : Hid (HoldAt w2 (w.heap.size + 1) on u v o) := A1.out.below h
    replace AHW : Hid (HoldAt w2 gW y0 y1 y2 y3) := AHW.out.below h
    replace Px2 : Hid (OwnI bx2 w2 (some ⟨bx2, 0, none⟩) n2 V2) := Px2.out.below h
    clear h
    have Px3 : Hid (OwnI bx3 w2 (some ⟨bx3, 0, none⟩) n3 V3) := Ox3
    clear Ox3
    have kx3 : bx3 + 1 ≤ w2.heap.size := ux3
    clear ux3
    have q4 : bx3 < w2.heap.size := kx3
    go_upto_region 8 with fail
    obtain ⟨z0, d0, d1, d2, d3, d4, d5, d6⟩ := A0.out
    obtain ⟨z1, -, d7, d8, d9, d10⟩ := A1.out
    go_cut [14, 15, 16] (fun s t q wx => ∃ sW cW g, s = .slice sW m cW ∧ t = .pointer (some ⟨g, 0, none⟩) ∧ q = .bool r ∧ w2.heap.size ≤ g ∧ g < wx.heap.size ∧ wx.cell? ⟨g, 0, none⟩ = some (.bool y0) ∧ wx.cell? ⟨g, 1, none⟩ = some (.int .i64 y1) ∧ wx.cell? ⟨g, 2, none⟩ = some (.int .i64 y2) ∧ wx.cell? ⟨g, 3, none⟩ = some (.int .i64 y3) ∧ (∀ o, wx.frozen? ⟨g, o, none⟩ = false) ∧ OwnI w2.heap.size wx sW m U ∧ Below w2.heap.size w2 wx)
    case first =>
      go_region_held3 (fun w' => w'.cell? ⟨w.heap.size, 0, none⟩ = some (.int .i64 P) ∧ w'.cell? ⟨w.heap.size, 1, none⟩ = some (.int .i64 I) ∧ w'.cell? ⟨w.heap.size, 2, none⟩ = some (.int .i64 D) ∧ w'.cell? ⟨w.heap.size, 3, none⟩ = some (.int .i64 S) ∧ w'.cell? ⟨w.heap.size, 4, none⟩ = some (.int .i64 L) ∧ w'.cell? ⟨w.heap.size, 5, none⟩ = some (.int .i64 H) ∧ w'.cell? ⟨w.heap.size, 6, none⟩ = some (.int .i64 B) ∧ w'.cell? ⟨w.heap.size + 1, 0, none⟩ = some (.bool on) ∧ w'.cell? ⟨w.heap.size + 1, 1, none⟩ = some (.int .i64 u) ∧ w'.cell? ⟨w.heap.size + 1, 2, none⟩ = some (.int .i64 v) ∧ w'.cell? ⟨w.heap.size + 1, 3, none⟩ = some (.int .i64 o)) (first | (refine keepLH2 d0 d1 d2 d3 d4 d5 d6 d7 d8 d9 d10 z0 z1 ?_; exact (by repeat (first | with_reducible exact Below.refl _ _ | with_reducible exact Bwz | with_reducible exact Bwl | with_reducible exact Bwk | with_reducible refine Below.setCell ?_ (by first | omega | (simp; done) | (simp; omega)) _ | with_reducible refine bDrewN ?_ _ | with_reducible refine Below.drew ?_ | with_reducible refine Below.alloc ?_ (by first | omega | (simp; done) | (simp; omega)) _)))) (first
        | (go_at_call 8; refine (toLoop_is P I D S L H B _).mono ?_; rintro e wa ⟨rfl, rfl⟩)
        | (go_at_call 9; refine (toHold_is on u v o _).mono ?_; rintro e wb ⟨rfl, rfl⟩)
        | (go_at_call 16; refine (H2.out _ _ _ _ _ (Px2.out.row.below (by repeat (first | with_reducible exact Below.refl _ _ | with_reducible refine Below.setCell ?_ (by first | omega | (simp; done) | (simp; omega)) _ | with_reducible refine bDrewN ?_ _ | with_reducible refine Below.drew ?_ | with_reducible refine Below.alloc ?_ (by first | omega | (simp; done) | (simp; omega)) _))) (Px3.out.row.below (by repeat (first | with_reducible exact Below.refl _ _ | with_reducible refine Below.setCell ?_ (by first | omega | (simp; done) | (simp; omega)) _ | with_reducible refine bDrewN ?_ _ | with_reducible refine Below.drew ?_ | with_reducible refine Below.alloc ?_ (by first | omega | (simp; done) | (simp; omega)) _)))).mono ?_; rintro e wz ⟨sW, cW, rfl, OW, h⟩; have Bwz : Below w2.heap.size w2 wz := Below.trans (by repeat (first | with_reducible exact Below.refl _ _ | with_reducible refine Below.setCell ?_ (by first | omega | (simp; done) | (simp; omega)) _ | with_reducible refine bDrewN ?_ _ | with_reducible refine Below.drew ?_ | with_reducible refine Below.alloc ?_ (by first | omega | (simp; done) | (simp; omega)) _)) (h.mono (by first | omega | (simp; done) | (simp; omega))); have swz := Bwz.size; have swy := h.size; (try simp at swy); have HW : Hid (OwnI _ wz sW m U) := OW; (try (first | (have AYwz : HoldAt wz (w2.heap.size) false 0 0 0 := holdAt_mk (by first | (simp [go_sem]; done) | fail) (by first | (simp; done) | (simp; omega) | fail) (by first | (simp [go_sem]; done) | fail) (by first | (simp [go_sem]; done) | fail) (by first | (simp [go_sem]; done) | fail) (fun o => (by first | (simp [go_sem]; done) | fail)) h) | (have AYwz : HoldAt wz (w2.heap.size + 1 + 1 + 1) false 0 0 0 := holdAt_mk (by first | (simp [go_sem]; done) | fail) (by first | (simp; done) | (simp; omega) | fail) (by first | (simp [go_sem]; done) | fail) (by first | (simp [go_sem]; done) | fail) (by first | (simp [go_sem]; done) | fail) (fun o => (by first | (simp [go_sem]; done) | fail)) h) | (have AYwz : HoldAt wz (w2.heap.size + 1 + 1 + 1 + 1 + 1 + 1) false 0 0 0 := holdAt_mk (by first | (simp [go_sem]; done) | fail) (by first | (simp; done) | (simp; omega) | fail) (by first | (simp [go_sem]; done) | fail) (by first | (simp [go_sem]; done) | fail) (by first | (simp [go_sem]; done) | fail) (fun o => (by first | (simp [go_sem]; done) | fail)) h))); clear OW h; (try (obtain ⟨az, af, a0, a1, a2, a3⟩ := AYwz; have af0 := af 0; have af1 := af 1; have af2 := af 2; have af3 := af 3)); skip))
      all_goals
        go_wp2_with fail
        go_meet
        case rel =>
          refine ⟨_, _, _, rfl, rfl, rfl, ?_, ?_, ?_, ?_, ?_, ?_, ?_, ?_, (by repeat (first | with_reducible exact Below.refl _ _ | with_reducible exact Bwz | with_reducible refine Below.setCell ?_ (by first | omega | (simp; done) | (simp; omega)) _ | with_reducible refine bDrewN ?_ _ | with_reducible refine Below.drew ?_ | with_reducible refine Below.alloc ?_ (by first | omega | (simp; done) | (simp; omega)) _))⟩
          all_goals first | omega | (simp [go_sem, *]; done) | (simp [go_sem, *, Nat.add_assoc]; done) | (simp; omega) | (simp [*]; omega) | (intro o; have := af o; simpa [go_sem] using this) | (intro o; simp [go_sem]; done) | (refine OwnI.mono (OwnI.beside HW.out (set4_beside wz _ y0 y1 y2 y3) ?_) ?_ <;> first | omega | (simp; done) | (simp; omega)) | (refine OwnI.mono (OwnI.below HW.out ?_) ?_; (exact (by repeat (first | with_reducible exact Below.refl _ _ | with_reducible refine Below.setCell ?_ (by first | omega | (simp; done) | (simp; omega)) _ | with_reducible refine bDrewN ?_ _ | with_reducible refine Below.drew ?_ | with_reducible refine Below.alloc ?_ (by first | omega | (simp; done) | (simp; omega)) _))); (first | omega | (simp; done) | (simp; omega)))
    case rest =>
      obtain ⟨sG, cG, gG, rfl, rfl, rfl, glG, gz, v0, v1, v2, v3, vf, OG, h⟩ := hcut
      clear d0 d1 d2 d3 d4 d5 d6 d7 d8 d9 d10 z0 z1
      rename World => wcG
      have AHG : Hid (HoldAt wcG gG y0 y1 y2 y3) := ⟨gz, vf, v0, v1, v2, v3⟩
      have PHG : Hid (OwnI w2.heap.size wcG sG m U) := OG
      clear gz v0 v1 v2 v3 vf OG
      replace B0 : Below w.heap.size w wcG := B0.trans (h.mono B0.size)
      replace Bs : Below wcW.heap.size wcW wcG := Bs.trans (h.mono Bs.size)
      replace kx2 : bx2 + 1 ≤ wcG.heap.size := Nat.le_trans kx2 h.size
      replace kx3 : bx3 + 1 ≤ wcG.heap.size := Nat.le_trans kx3 h.size
      replace A0 : Hid (LoopAt wcG w.heap.size P I D S L H B) := A0.out.below h
      replace A1 : Hid (HoldAt wcG (w.heap.size + 1) on u v o) := A1.out.below h
      replace AHW : Hid (HoldAt wcG gW y0 y1 y2 y3) := AHW.out.below h
      replace Px2 : Hid (OwnI bx2 wcG (some ⟨bx2, 0, none⟩) n2 V2) := Px2.out.below h
      replace Px3 : Hid (OwnI bx3 wcG (some ⟨bx3, 0, none⟩) n3 V3) := Px3.out.below h
      have kU : w2.heap.size ≤ wcG.heap.size := h.size
      have q5 : w2.heap.size ≤ gG := glG
      clear h glG
      go_wp2_with fail
      refine (eqInt64S_any _ _ m _ _ U _ hm PHG.out.row (RW.out.below Bs)).mono ?_
      rintro e w3 ⟨rfl, h⟩
      replace B0 : Below w.heap.size w w3 := B0.trans (h.mono B0.size)
      replace Bs : Below wcW.heap.size wcW w3 := Bs.trans (h.mono Bs.size)
      replace kx2 : bx2 + 1 ≤ w3.heap.size := Nat.le_trans kx2 h.size
      replace kx3 : bx3 + 1 ≤ w3.heap.size := Nat.le_trans kx3 h.size
      replace kU : w2.heap.size ≤ w3.heap.size := Nat.le_trans kU h.size
      replace A0 : Hid (LoopAt w3 w.heap.size P I D S L H B) := A0.out.below h
      replace A1 : Hid (HoldAt w3 (w.heap.size + 1) on u v o) := A1.out.below h
      replace AHW : Hid (HoldAt w3 gW y0 y1 y2 y3) := AHW.out.below h
      replace Px2 : Hid (OwnI bx2 w3 (some ⟨bx2, 0, none⟩) n2 V2) := Px2.out.below h
      replace Px3 : Hid (OwnI bx3 w3 (some ⟨bx3, 0, none⟩) n3 V3) := Px3.out.below h
      replace AHG : Hid (HoldAt w3 gG y0 y1 y2 y3) := AHG.out.below h
      replace PHG : Hid (OwnI w2.heap.size w3 sG m U) := PHG.out.below h
      clear h
      obtain ⟨z_AHG, -, AHG_0, AHG_1, AHG_2, AHG_3⟩ := AHG.out
      obtain ⟨z_AHW, -, AHW_0, AHW_1, AHW_2, AHW_3⟩ := AHW.out
      go_wp2_with fail
      refine (eqHold_any y0 y1 y2 y3 _).mono ?_
      rintro e w4 ⟨rfl, h⟩
      clear z_AHG AHG_0 AHG_1 AHG_2 AHG_3
      clear z_AHW AHW_0 AHW_1 AHW_2 AHW_3
      replace B0 : Below w.heap.size w w4 := B0.trans (h.mono B0.size)
      replace Bs : Below wcW.heap.size wcW w4 := Bs.trans (h.mono Bs.size)
      replace kx2 : bx2 + 1 ≤ w4.heap.size := Nat.le_trans kx2 h.size
      replace kx3 : bx3 + 1 ≤ w4.heap.size := Nat.le_trans kx3 h.size
      replace kU : w2.heap.size ≤ w4.heap.size := Nat.le_trans kU h.size
      replace A0 : Hid (LoopAt w4 w.heap.size P I D S L H B) := A0.out.below h
      replace A1 : Hid (HoldAt w4 (w.heap.size + 1) on u v o) := A1.out.below h
      replace AHW : Hid (HoldAt w4 gW y0 y1 y2 y3) := AHW.out.below h
      replace Px2 : Hid (OwnI bx2 w4 (some ⟨bx2, 0, none⟩) n2 V2) := Px2.out.below h
      replace Px3 : Hid (OwnI bx3 w4 (some ⟨bx3, 0, none⟩) n3 V3) := Px3.out.below h
      replace AHG : Hid (HoldAt w4 gG y0 y1 y2 y3) := AHG.out.below h
      replace PHG : Hid (OwnI w2.heap.size w4 sG m U) := PHG.out.below h
      clear h
      go_wp2_with fail
      refine (toI_b _ n2 _ V2 _ hn2 (HR2.out.below B0)).mono ?_
      rintro e w5 ⟨by2, rfl, ly2, uy2, Oy2, h⟩
      replace B0 : Below w.heap.size w w5 := B0.trans (h.mono B0.size)
      replace Bs : Below wcW.heap.size wcW w5 := Bs.trans (h.mono Bs.size)
      replace kx2 : bx2 + 1 ≤ w5.heap.size := Nat.le_trans kx2 h.size
      replace kx3 : bx3 + 1 ≤ w5.heap.size := Nat.le_trans kx3 h.size
      replace kU : w2.heap.size ≤ w5.heap.size := Nat.le_trans kU h.size
      replace A0 : Hid (LoopAt w5 w.heap.size P I D S L H B) := A0.out.below h
      replace A1 : Hid (HoldAt w5 (w.heap.size + 1) on u v o) := A1.out.below h
      replace AHW : Hid (HoldAt w5 gW y0 y1 y2 y3) := AHW.out.below h
      replace Px2 : Hid (OwnI bx2 w5 (some ⟨bx2, 0, none⟩) n2 V2) := Px2.out.below h
      replace Px3 : Hid (OwnI bx3 w5 (some ⟨bx3, 0, none⟩) n3 V3) := Px3.out.below h
      replace AHG : Hid (HoldAt w5 gG y0 y1 y2 y3) := AHG.out.below h
      replace PHG : Hid (OwnI w2.heap.size w5 sG m U) := PHG.out.below h
      clear h
      have Py2 : Hid (OwnI by2 w5 (some ⟨by2, 0, none⟩) n2 V2) := Oy2
      clear Oy2
      have ky2 : by2 + 1 ≤ w5.heap.size := uy2
      clear uy2
      go_wp2_with fail
      refine (eqInt64S_any _ _ n2 _ _ V2 _ hn2 Px2.out.row Py2.out.row).mono ?_
      rintro e w6 ⟨rfl, h⟩
      clear Py2
      clear ky2
      clear ly2
      replace B0 : Below w.heap.size w w6 := B0.trans (h.mono B0.size)
      replace Bs : Below wcW.heap.size wcW w6 := Bs.trans (h.mono Bs.size)
      replace kx2 : bx2 + 1 ≤ w6.heap.size := Nat.le_trans kx2 h.size
      replace kx3 : bx3 + 1 ≤ w6.heap.size := Nat.le_trans kx3 h.size
      replace kU : w2.heap.size ≤ w6.heap.size := Nat.le_trans kU h.size
      replace A0 : Hid (LoopAt w6 w.heap.size P I D S L H B) := A0.out.below h
      replace A1 : Hid (HoldAt w6 (w.heap.size + 1) on u v o) := A1.out.below h
      replace AHW : Hid (HoldAt w6 gW y0 y1 y2 y3) := AHW.out.below h
      replace Px2 : Hid (OwnI bx2 w6 (some ⟨bx2, 0, none⟩) n2 V2) := Px2.out.below h
      replace Px3 : Hid (OwnI bx3 w6 (some ⟨bx3, 0, none⟩) n3 V3) := Px3.out.below h
      replace AHG : Hid (HoldAt w6 gG y0 y1 y2 y3) := AHG.out.below h
      replace PHG : Hid (OwnI w2.heap.size w6 sG m U) := PHG.out.below h
      clear h
      go_wp2_with fail
      refine (toI_b _ n3 _ V3 _ hn3 (HR3.out.below B0)).mono ?_
      rintro e w7 ⟨by3, rfl, ly3, uy3, Oy3, h⟩
      replace B0 : Below w.heap.size w w7 := B0.trans (h.mono B0.size)
      replace Bs : Below wcW.heap.size wcW w7 := Bs.trans (h.mono Bs.size)
      replace kx2 : bx2 + 1 ≤ w7.heap.size := Nat.le_trans kx2 h.size
      replace kx3 : bx3 + 1 ≤ w7.heap.size := Nat.le_trans kx3 h.size
      replace kU : w2.heap.size ≤ w7.heap.size := Nat.le_trans kU h.size
      replace A0 : Hid (LoopAt w7 w.heap.size P I D S L H B) := A0.out.below h
      replace A1 : Hid (HoldAt w7 (w.heap.size + 1) on u v o) := A1.out.below h
      replace AHW : Hid (HoldAt w7 gW y0 y1 y2 y3) := AHW.out.below h
      replace Px2 : Hid (OwnI bx2 w7 (some ⟨bx2, 0, none⟩) n2 V2) := Px2.out.below h
      replace Px3 : Hid (OwnI bx3 w7 (some ⟨bx3, 0, none⟩) n3 V3) := Px3.out.below h
      replace AHG : Hid (HoldAt w7 gG y0 y1 y2 y3) := AHG.out.below h
      replace PHG : Hid (OwnI w2.heap.size w7 sG m U) := PHG.out.below h
      clear h
      have Py3 : Hid (OwnI by3 w7 (some ⟨by3, 0, none⟩) n3 V3) := Oy3
      clear Oy3
      have ky3 : by3 + 1 ≤ w7.heap.size := uy3
      clear uy3
      go_wp2_with fail
      refine (eqInt64S_any _ _ n3 _ _ V3 _ hn3 Px3.out.row Py3.out.row).mono ?_
      rintro e w8 ⟨rfl, h⟩
      clear Py3
      clear ky3
      clear ly3
      replace B0 : Below w.heap.size w w8 := B0.trans (h.mono B0.size)
      replace Bs : Below wcW.heap.size wcW w8 := Bs.trans (h.mono Bs.size)
      replace kx2 : bx2 + 1 ≤ w8.heap.size := Nat.le_trans kx2 h.size
      replace kx3 : bx3 + 1 ≤ w8.heap.size := Nat.le_trans kx3 h.size
      replace kU : w2.heap.size ≤ w8.heap.size := Nat.le_trans kU h.size
      replace A0 : Hid (LoopAt w8 w.heap.size P I D S L H B) := A0.out.below h
      replace A1 : Hid (HoldAt w8 (w.heap.size + 1) on u v o) := A1.out.below h
      replace AHW : Hid (HoldAt w8 gW y0 y1 y2 y3) := AHW.out.below h
      replace Px2 : Hid (OwnI bx2 w8 (some ⟨bx2, 0, none⟩) n2 V2) := Px2.out.below h
      replace Px3 : Hid (OwnI bx3 w8 (some ⟨bx3, 0, none⟩) n3 V3) := Px3.out.below h
      replace AHG : Hid (HoldAt w8 gG y0 y1 y2 y3) := AHG.out.below h
      replace PHG : Hid (OwnI w2.heap.size w8 sG m U) := PHG.out.below h
      clear h
      go_wp2_with fail
      refine (markInt64S_own bx2 _ n2 _ _ V2 _ hn2 (by omega) (by omega) (by omega) Px2.out).mono ?_
      rintro e w9 ⟨rfl, -, h, hs⟩
      have hs := hs _ rfl
      clear Px2
      replace B0 : Below w.heap.size w w9 := B0.trans (h.mono (by omega))
      replace Bs : Below wcW.heap.size wcW w9 := Bs.trans (h.mono (by omega))
      replace kx2 : bx2 + 1 ≤ w9.heap.size := Nat.le_trans kx2 h.size
      replace kx3 : bx3 + 1 ≤ w9.heap.size := Nat.le_trans kx3 h.size
      replace kU : w2.heap.size ≤ w9.heap.size := Nat.le_trans kU h.size
      replace A0 : Hid (LoopAt w9 w.heap.size P I D S L H B) := A0.out.beside hs (by omega)
      replace A1 : Hid (HoldAt w9 (w.heap.size + 1) on u v o) := A1.out.beside hs (by omega)
      replace AHW : Hid (HoldAt w9 gW y0 y1 y2 y3) := AHW.out.beside hs (by omega)
      replace Px3 : Hid (OwnI bx3 w9 (some ⟨bx3, 0, none⟩) n3 V3) := Px3.out.beside hs (by omega)
      replace AHG : Hid (HoldAt w9 gG y0 y1 y2 y3) := AHG.out.beside hs (by omega)
      replace PHG : Hid (OwnI w2.heap.size w9 sG m U) := PHG.out.beside hs (by omega)
      clear h hs
      go_wp2_with fail
      refine (markInt64S_own bx3 _ n3 _ _ V3 _ hn3 (by omega) (by omega) (by omega) Px3.out).mono ?_
      rintro e w10 ⟨rfl, -, h, hs⟩
      have hs := hs _ rfl
      clear Px3
      replace B0 : Below w.heap.size w w10 := B0.trans (h.mono (by omega))
      replace Bs : Below wcW.heap.size wcW w10 := Bs.trans (h.mono (by omega))
      replace kx2 : bx2 + 1 ≤ w10.heap.size := Nat.le_trans kx2 h.size
      replace kx3 : bx3 + 1 ≤ w10.heap.size := Nat.le_trans kx3 h.size
      replace kU : w2.heap.size ≤ w10.heap.size := Nat.le_trans kU h.size
      replace A0 : Hid (LoopAt w10 w.heap.size P I D S L H B) := A0.out.beside hs (by omega)
      replace A1 : Hid (HoldAt w10 (w.heap.size + 1) on u v o) := A1.out.beside hs (by omega)
      replace AHW : Hid (HoldAt w10 gW y0 y1 y2 y3) := AHW.out.beside hs (by omega)
      replace AHG : Hid (HoldAt w10 gG y0 y1 y2 y3) := AHG.out.beside hs (by omega)
      replace PHG : Hid (OwnI w2.heap.size w10 sG m U) := PHG.out.beside hs (by omega)
      clear h hs
      go_wp2_with fail
      refine (eqInt64S_any _ _ m _ _ U _ hm PHG.out.row (RW.out.below Bs)).mono ?_
      rintro e w11 ⟨rfl, h⟩
      replace B0 : Below w.heap.size w w11 := B0.trans (h.mono B0.size)
      replace Bs : Below wcW.heap.size wcW w11 := Bs.trans (h.mono Bs.size)
      replace kx2 : bx2 + 1 ≤ w11.heap.size := Nat.le_trans kx2 h.size
      replace kx3 : bx3 + 1 ≤ w11.heap.size := Nat.le_trans kx3 h.size
      replace kU : w2.heap.size ≤ w11.heap.size := Nat.le_trans kU h.size
      replace A0 : Hid (LoopAt w11 w.heap.size P I D S L H B) := A0.out.below h
      replace A1 : Hid (HoldAt w11 (w.heap.size + 1) on u v o) := A1.out.below h
      replace AHW : Hid (HoldAt w11 gW y0 y1 y2 y3) := AHW.out.below h
      replace AHG : Hid (HoldAt w11 gG y0 y1 y2 y3) := AHG.out.below h
      replace PHG : Hid (OwnI w2.heap.size w11 sG m U) := PHG.out.below h
      clear h
      obtain ⟨z_AHG, -, AHG_0, AHG_1, AHG_2, AHG_3⟩ := AHG.out
      obtain ⟨z_AHW, -, AHW_0, AHW_1, AHW_2, AHW_3⟩ := AHW.out
      go_wp2_with fail
      refine (eqHold_any y0 y1 y2 y3 _).mono ?_
      rintro e w12 ⟨rfl, h⟩
      clear z_AHG AHG_0 AHG_1 AHG_2 AHG_3
      clear z_AHW AHW_0 AHW_1 AHW_2 AHW_3
      replace B0 : Below w.heap.size w w12 := B0.trans (h.mono B0.size)
      replace Bs : Below wcW.heap.size wcW w12 := Bs.trans (h.mono Bs.size)
      replace kx2 : bx2 + 1 ≤ w12.heap.size := Nat.le_trans kx2 h.size
      replace kx3 : bx3 + 1 ≤ w12.heap.size := Nat.le_trans kx3 h.size
      replace kU : w2.heap.size ≤ w12.heap.size := Nat.le_trans kU h.size
      replace A0 : Hid (LoopAt w12 w.heap.size P I D S L H B) := A0.out.below h
      replace A1 : Hid (HoldAt w12 (w.heap.size + 1) on u v o) := A1.out.below h
      replace AHW : Hid (HoldAt w12 gW y0 y1 y2 y3) := AHW.out.below h
      replace AHG : Hid (HoldAt w12 gG y0 y1 y2 y3) := AHG.out.below h
      replace PHG : Hid (OwnI w2.heap.size w12 sG m U) := PHG.out.below h
      clear h
      clear AHG
      go_wp2_with fail
      refine (markInt64S_own w2.heap.size _ m _ _ U _ hm (by omega) (by omega) kU PHG.out).mono ?_
      rintro e w13 ⟨rfl, OG, h, -⟩
      clear PHG
      replace B0 : Below w.heap.size w w13 := B0.trans (h.mono (by omega))
      replace Bs : Below wcW.heap.size wcW w13 := Bs.trans (h.mono (by omega))
      clear kx2
      clear kx3
      clear kU
      replace A0 : Hid (LoopAt w13 w.heap.size P I D S L H B) := A0.out.low h (by omega)
      replace A1 : Hid (HoldAt w13 (w.heap.size + 1) on u v o) := A1.out.low h (by omega)
      replace AHW : Hid (HoldAt w13 gW y0 y1 y2 y3) := AHW.out.low h (by omega)
      clear h
      have PM : Hid (OwnI w2.heap.size w13 sG m (fun j => 1 + (j : Int))) := OG
      clear OG
      go_wp2_with fail
      refine (heldInt64S_any _ m _ 1 _ hm (by omega) (by omega) PM.out.row).mono ?_
      rintro e w13 ⟨rfl, rfl⟩
      go_upto_region 28 with fail
      obtain ⟨z0, d0, d1, d2, d3, d4, d5, d6⟩ := A0.out
      obtain ⟨z1, -, d7, d8, d9, d10⟩ := A1.out
      go_cut [20, 21, 22] (fun s t q wx => ∃ sW cW g, s = .slice sW m cW ∧ t = .pointer (some ⟨g, 0, none⟩) ∧ q = .bool r ∧ w13.heap.size ≤ g ∧ g < wx.heap.size ∧ wx.cell? ⟨g, 0, none⟩ = some (.bool y0) ∧ wx.cell? ⟨g, 1, none⟩ = some (.int .i64 y1) ∧ wx.cell? ⟨g, 2, none⟩ = some (.int .i64 y2) ∧ wx.cell? ⟨g, 3, none⟩ = some (.int .i64 y3) ∧ (∀ o, wx.frozen? ⟨g, o, none⟩ = false) ∧ OwnI w13.heap.size wx sW m U ∧ Below w13.heap.size w13 wx)
      case first =>
        go_region_held3 (fun w' => w'.cell? ⟨w.heap.size, 0, none⟩ = some (.int .i64 P) ∧ w'.cell? ⟨w.heap.size, 1, none⟩ = some (.int .i64 I) ∧ w'.cell? ⟨w.heap.size, 2, none⟩ = some (.int .i64 D) ∧ w'.cell? ⟨w.heap.size, 3, none⟩ = some (.int .i64 S) ∧ w'.cell? ⟨w.heap.size, 4, none⟩ = some (.int .i64 L) ∧ w'.cell? ⟨w.heap.size, 5, none⟩ = some (.int .i64 H) ∧ w'.cell? ⟨w.heap.size, 6, none⟩ = some (.int .i64 B) ∧ w'.cell? ⟨w.heap.size + 1, 0, none⟩ = some (.bool on) ∧ w'.cell? ⟨w.heap.size + 1, 1, none⟩ = some (.int .i64 u) ∧ w'.cell? ⟨w.heap.size + 1, 2, none⟩ = some (.int .i64 v) ∧ w'.cell? ⟨w.heap.size + 1, 3, none⟩ = some (.int .i64 o)) (first | (refine keepLH2 d0 d1 d2 d3 d4 d5 d6 d7 d8 d9 d10 z0 z1 ?_; exact (by repeat (first | with_reducible exact Below.refl _ _ | with_reducible exact Bwz | with_reducible exact Bwl | with_reducible exact Bwk | with_reducible refine Below.setCell ?_ (by first | omega | (simp; done) | (simp; omega)) _ | with_reducible refine bDrewN ?_ _ | with_reducible refine Below.drew ?_ | with_reducible refine Below.alloc ?_ (by first | omega | (simp; done) | (simp; omega)) _)))) (first
          | (go_at_call 8; refine (toLoop_is P I D S L H B _).mono ?_; rintro e wa ⟨rfl, rfl⟩)
          | (go_at_call 9; refine (toHold_is on u v o _).mono ?_; rintro e wb ⟨rfl, rfl⟩)
          | (go_at_call 15; have gg := Bwk; clear gg; refine (toI_b s3 n3 c3 V3 _ hn3 (HR3.out.below (Below.trans B0 (Below.mono (by repeat (first | with_reducible exact Below.refl _ _ | with_reducible exact Bwk | with_reducible refine Below.setCell ?_ (by first | omega | (simp; done) | (simp; omega)) _ | with_reducible refine bDrewN ?_ _ | with_reducible refine Below.drew ?_ | with_reducible refine Below.alloc ?_ (by first | omega | (simp; done) | (simp; omega)) _)) B0.size)))).mono ?_; rintro e wl ⟨bl, rfl, ll, ul, Ol, h⟩; have bwl : Below wk.heap.size wk wl := Below.trans (by repeat (first | with_reducible exact Below.refl _ _ | with_reducible refine Below.setCell ?_ (by first | omega | (simp; done) | (simp; omega)) _ | with_reducible refine bDrewN ?_ _ | with_reducible refine Below.drew ?_ | with_reducible refine Below.alloc ?_ (by first | omega | (simp; done) | (simp; omega)) _)) (h.mono (by first | omega | (simp; done) | (simp; omega))); have Bwl : Below w13.heap.size w13 wl := Below.trans Bwk (bwl.mono swk); have swl := Bwl.size; have twl := bwl.size; have HK2 : Hid (RowI wl (some ⟨bk, 0, none⟩) n2 V2) := HK.out.below bwl; have HL : Hid (RowI wl (some ⟨bl, 0, none⟩) n3 V3) := Ol.row; (try (first | (have AYwl := HoldAt.below AYwk bwl) | (have AYwl : HoldAt wl (wk.heap.size) false 0 0 0 := holdAt_mk (by first | (simp [go_sem]; done) | fail) (by first | (simp; done) | (simp; omega) | fail) (by first | (simp [go_sem]; done) | fail) (by first | (simp [go_sem]; done) | fail) (by first | (simp [go_sem]; done) | fail) (fun o => (by first | (simp [go_sem]; done) | fail)) h))); clear Ol h)
          | (go_at_call 15; refine (toI_b s2 n2 c2 V2 _ hn2 (HR2.out.below (Below.trans B0 (Below.mono (by repeat (first | with_reducible exact Below.refl _ _ | with_reducible refine Below.setCell ?_ (by first | omega | (simp; done) | (simp; omega)) _ | with_reducible refine bDrewN ?_ _ | with_reducible refine Below.drew ?_ | with_reducible refine Below.alloc ?_ (by first | omega | (simp; done) | (simp; omega)) _)) B0.size)))).mono ?_; rintro e wk ⟨bk, rfl, lk, uk, Ok, h⟩; have Bwk : Below w13.heap.size w13 wk := Below.trans (by repeat (first | with_reducible exact Below.refl _ _ | with_reducible refine Below.setCell ?_ (by first | omega | (simp; done) | (simp; omega)) _ | with_reducible refine bDrewN ?_ _ | with_reducible refine Below.drew ?_ | with_reducible refine Below.alloc ?_ (by first | omega | (simp; done) | (simp; omega)) _)) (h.mono (by first | omega | (simp; done) | (simp; omega))); have swk := Bwk.size; have HK : Hid (RowI wk (some ⟨bk, 0, none⟩) n2 V2) := Ok.row; (try (first | (have AYwk : HoldAt wk (w13.heap.size) false 0 0 0 := holdAt_mk (by first | (simp [go_sem]; done) | fail) (by first | (simp; done) | (simp; omega) | fail) (by first | (simp [go_sem]; done) | fail) (by first | (simp [go_sem]; done) | fail) (by first | (simp [go_sem]; done) | fail) (fun o => (by first | (simp [go_sem]; done) | fail)) h) | (have AYwk : HoldAt wk (w13.heap.size + 1 + 1 + 1) false 0 0 0 := holdAt_mk (by first | (simp [go_sem]; done) | fail) (by first | (simp; done) | (simp; omega) | fail) (by first | (simp [go_sem]; done) | fail) (by first | (simp [go_sem]; done) | fail) (by first | (simp [go_sem]; done) | fail) (fun o => (by first | (simp [go_sem]; done) | fail)) h) | (have AYwk : HoldAt wk (w13.heap.size + 1 + 1 + 1 + 1 + 1 + 1) false 0 0 0 := holdAt_mk (by first | (simp [go_sem]; done) | fail) (by first | (simp; done) | (simp; omega) | fail) (by first | (simp [go_sem]; done) | fail) (by first | (simp [go_sem]; done) | fail) (by first | (simp [go_sem]; done) | fail) (fun o => (by first | (simp [go_sem]; done) | fail)) h))); clear Ok h)
          | (go_at_call 16; refine (H2.out _ _ _ _ _ (HK2.out.below (by repeat (first | with_reducible exact Below.refl _ _ | with_reducible refine Below.setCell ?_ (by first | omega | (simp; done) | (simp; omega)) _ | with_reducible refine bDrewN ?_ _ | with_reducible refine Below.drew ?_ | with_reducible refine Below.alloc ?_ (by first | omega | (simp; done) | (simp; omega)) _))) (HL.out.below (by repeat (first | with_reducible exact Below.refl _ _ | with_reducible refine Below.setCell ?_ (by first | omega | (simp; done) | (simp; omega)) _ | with_reducible refine bDrewN ?_ _ | with_reducible refine Below.drew ?_ | with_reducible refine Below.alloc ?_ (by first | omega | (simp; done) | (simp; omega)) _)))).mono ?_; rintro e wz ⟨sW, cW, rfl, OW, h⟩; have bwz : Below wl.heap.size wl wz := Below.trans (by repeat (first | with_reducible exact Below.refl _ _ | with_reducible refine Below.setCell ?_ (by first | omega | (simp; done) | (simp; omega)) _ | with_reducible refine bDrewN ?_ _ | with_reducible refine Below.drew ?_ | with_reducible refine Below.alloc ?_ (by first | omega | (simp; done) | (simp; omega)) _)) (h.mono (by first | omega | (simp; done) | (simp; omega))); have Bwz : Below w13.heap.size w13 wz := Below.trans Bwl (bwz.mono swl); have swz := Bwz.size; have HW : Hid (OwnI _ wz sW m U) := OW; (try (first | (have AYwz := HoldAt.below AYwl bwz) | (have AYwz : HoldAt wz (wl.heap.size) false 0 0 0 := holdAt_mk (by first | (simp [go_sem]; done) | fail) (by first | (simp; done) | (simp; omega) | fail) (by first | (simp [go_sem]; done) | fail) (by first | (simp [go_sem]; done) | fail) (by first | (simp [go_sem]; done) | fail) (fun o => (by first | (simp [go_sem]; done) | fail)) h))); (try (have azl := AYwl.1)); clear OW h; (try (obtain ⟨az, af, a0, a1, a2, a3⟩ := AYwz; have af0 := af 0; have af1 := af 1; have af2 := af 2; have af3 := af 3)); skip))
        all_goals
          go_wp2_with fail
          go_meet
          case rel =>
            refine ⟨_, _, _, rfl, rfl, rfl, ?_, ?_, ?_, ?_, ?_, ?_, ?_, ?_, (by repeat (first | with_reducible exact Below.refl _ _ | with_reducible exact Bwz | with_reducible refine Below.setCell ?_ (by first | omega | (simp; done) | (simp; omega)) _ | with_reducible refine bDrewN ?_ _ | with_reducible refine Below.drew ?_ | with_reducible refine Below.alloc ?_ (by first | omega | (simp; done) | (simp; omega)) _))⟩
            all_goals first | omega | (simp [go_sem, *]; done) | (simp [go_sem, *, Nat.add_assoc]; done) | (simp; omega) | (simp [*]; omega) | (intro o; have := af o; simpa [go_sem] using this) | (intro o; simp [go_sem]; done) | (refine OwnI.mono (OwnI.beside HW.out (set4_beside wz _ y0 y1 y2 y3) ?_) ?_ <;> first | omega | (simp; done) | (simp; omega)) | (refine OwnI.mono (OwnI.below HW.out ?_) ?_; (exact (by repeat (first | with_reducible exact Below.refl _ _ | with_reducible refine Below.setCell ?_ (by first | omega | (simp; done) | (simp; omega)) _ | with_reducible refine bDrewN ?_ _ | with_reducible refine Below.drew ?_ | with_reducible refine Below.alloc ?_ (by first | omega | (simp; done) | (simp; omega)) _))); (first | omega | (simp; done) | (simp; omega)))
      case rest =>
        obtain ⟨sE, cE, gE, rfl, rfl, rfl, glE, gz, v0, v1, v2, v3, vf, OE, h⟩ := hcut
        clear d0 d1 d2 d3 d4 d5 d6 d7 d8 d9 d10 z0 z1
        rename World => wcE
        have AHE : Hid (HoldAt wcE gE y0 y1 y2 y3) := ⟨gz, vf, v0, v1, v2, v3⟩
        have PHE : Hid (OwnI w13.heap.size wcE sE m U) := OE
        clear gz v0 v1 v2 v3 vf OE
        replace B0 : Below w.heap.size w wcE := B0.trans (h.mono B0.size)
        replace Bs : Below wcW.heap.size wcW wcE := Bs.trans (h.mono Bs.size)
        replace A0 : Hid (LoopAt wcE w.heap.size P I D S L H B) := A0.out.below h
        replace A1 : Hid (HoldAt wcE (w.heap.size + 1) on u v o) := A1.out.below h
        replace AHW : Hid (HoldAt wcE gW y0 y1 y2 y3) := AHW.out.below h
        replace PM : Hid (OwnI w2.heap.size wcE sG m (fun j => 1 + (j : Int))) := PM.out.below h
        clear h
        go_wp2_with fail
        refine (eqInt64S_any _ _ m _ _ U _ hm PHE.out.row (RW.out.below Bs)).mono ?_
        rintro e w14 ⟨rfl, h⟩
        replace B0 : Below w.heap.size w w14 := B0.trans (h.mono B0.size)
        replace Bs : Below wcW.heap.size wcW w14 := Bs.trans (h.mono Bs.size)
        replace A0 : Hid (LoopAt w14 w.heap.size P I D S L H B) := A0.out.below h
        replace A1 : Hid (HoldAt w14 (w.heap.size + 1) on u v o) := A1.out.below h
        replace AHW : Hid (HoldAt w14 gW y0 y1 y2 y3) := AHW.out.below h
        replace PM : Hid (OwnI w2.heap.size w14 sG m (fun j => 1 + (j : Int))) := PM.out.below h
        replace AHE : Hid (HoldAt w14 gE y0 y1 y2 y3) := AHE.out.below h
        replace PHE : Hid (OwnI w13.heap.size w14 sE m U) := PHE.out.below h
        clear h
        obtain ⟨z_AHE, -, AHE_0, AHE_1, AHE_2, AHE_3⟩ := AHE.out
        obtain ⟨z_AHW, -, AHW_0, AHW_1, AHW_2, AHW_3⟩ := AHW.out
        go_wp2_with fail
        refine (eqHold_any y0 y1 y2 y3 _).mono ?_
        rintro e w15 ⟨rfl, h⟩
        clear z_AHE AHE_0 AHE_1 AHE_2 AHE_3
        clear z_AHW AHW_0 AHW_1 AHW_2 AHW_3
        replace B0 : Below w.heap.size w w15 := B0.trans (h.mono B0.size)
        replace Bs : Below wcW.heap.size wcW w15 := Bs.trans (h.mono Bs.size)
        replace A0 : Hid (LoopAt w15 w.heap.size P I D S L H B) := A0.out.below h
        replace A1 : Hid (HoldAt w15 (w.heap.size + 1) on u v o) := A1.out.below h
        replace AHW : Hid (HoldAt w15 gW y0 y1 y2 y3) := AHW.out.below h
        replace PM : Hid (OwnI w2.heap.size w15 sG m (fun j => 1 + (j : Int))) := PM.out.below h
        replace AHE : Hid (HoldAt w15 gE y0 y1 y2 y3) := AHE.out.below h
        replace PHE : Hid (OwnI w13.heap.size w15 sE m U) := PHE.out.below h
        clear h
        go_wp2_with fail
        refine (heldInt64S_any _ m _ 1 _ hm (by omega) (by omega) PM.out.row).mono ?_
        rintro e w15 ⟨rfl, rfl⟩
        go_wp2
        go_ret
        exact ⟨rfl, B0⟩
set_option maxHeartbeats 400000 in
theorem loopRun_far2 (w : World) (P I D S L H B : Int) (on : Bool) (u v o : Int) (s2 : Option Addr) (n2 c2 : Nat) (s3 : Option Addr) (n3 c3 : Nat) (h2 : (1048576 : Int) < n2) :
    Calls Try.prog 5 #[.agg #[.int .i64 P, .int .i64 I, .int .i64 D, .int .i64 S, .int .i64 L, .int .i64 H, .int .i64 B], .agg #[.bool on, .int .i64 u, .int .i64 v, .int .i64 o], .slice s2 n2 c2, .slice s3 n3 c3] w fun e w' => e = .returned (.bool true) ∧ Below w.heap.size w w' := by
  go_enter Try.func5, Try.ntmps5
  go_wp2
  go_ret
  exact ⟨rfl, (by repeat (first | with_reducible exact Below.refl _ _ | with_reducible refine Below.setCell ?_ (by first | omega | (simp; done) | (simp; omega)) _ | with_reducible refine bDrewN ?_ _ | with_reducible refine Below.drew ?_ | with_reducible refine Below.alloc ?_ (by first | omega | (simp; done) | (simp; omega)) _))⟩
set_option maxHeartbeats 400000 in
theorem loopRun_far3 (w : World) (P I D S L H B : Int) (on : Bool) (u v o : Int) (s2 : Option Addr) (n2 c2 : Nat) (s3 : Option Addr) (n3 c3 : Nat) (h2 : (n2 : Int) ≤ 1048576) (h3 : (1048576 : Int) < n3) :
    Calls Try.prog 5 #[.agg #[.int .i64 P, .int .i64 I, .int .i64 D, .int .i64 S, .int .i64 L, .int .i64 H, .int .i64 B], .agg #[.bool on, .int .i64 u, .int .i64 v, .int .i64 o], .slice s2 n2 c2, .slice s3 n3 c3] w fun e w' => e = .returned (.bool true) ∧ Below w.heap.size w w' := by
  go_enter Try.func5, Try.ntmps5
  go_wp2
  go_ret
  exact ⟨rfl, (by repeat (first | with_reducible exact Below.refl _ _ | with_reducible refine Below.setCell ?_ (by first | omega | (simp; done) | (simp; omega)) _ | with_reducible refine bDrewN ?_ _ | with_reducible refine Below.drew ?_ | with_reducible refine Below.alloc ?_ (by first | omega | (simp; done) | (simp; omega)) _))⟩

theorem fnExactLoopRun_walk (w : World) (P : Int) (wP : (Lit.int .i64 P).wf = true) (I : Int) (wI : (Lit.int .i64 I).wf = true) (D : Int) (wD : (Lit.int .i64 D).wf = true) (S : Int) (wS : (Lit.int .i64 S).wf = true) (L : Int) (wL : (Lit.int .i64 L).wf = true) (H : Int) (wH : (Lit.int .i64 H).wf = true) (B : Int) (wB : (Lit.int .i64 B).wf = true) (on : Bool) (u : Int) (wu : (Lit.int .i64 u).wf = true) (v : Int) (wv : (Lit.int .i64 v).wf = true) (o : Int) (wo : (Lit.int .i64 o).wf = true) (s2 : Option Addr) (n2 c2 : Nat) (V2 : Nat → Int) (hn2 : n2 ≤ 9223372036854775807) (R2 : RowI w s2 n2 V2) (hV2 : ∀ j, j < n2 → -9223372036854775808 ≤ V2 j ∧ V2 j ≤ 9223372036854775807) (s3 : Option Addr) (n3 c3 : Nat) (V3 : Nat → Int) (hn3 : n3 ≤ 9223372036854775807) (R3 : RowI w s3 n3 V3) (hV3 : ∀ j, j < n3 → -9223372036854775808 ≤ V3 j ∧ V3 j ≤ 9223372036854775807) :
    Calls Try.prog 5 #[.agg #[.int .i64 P, .int .i64 I, .int .i64 D, .int .i64 S, .int .i64 L, .int .i64 H, .int .i64 B], .agg #[.bool on, .int .i64 u, .int .i64 v, .int .i64 o], .slice s2 n2 c2, .slice s3 n3 c3] w fun e w' => e = .returned (.bool true) ∧ Below w.heap.size w w' := by
  by_cases h2 : n2 ≤ 1048576
  · by_cases h3 : n3 ≤ 1048576
    · obtain ⟨m, ⟨y0, y1, y2, y3⟩, b, hv, hm⟩ := runL_some P I D S L H B (on, u, v, o) n2 n3 V2 V3
      exact loopRun_near w P I D S L H B on u v o y0 y1 y2 y3 s2 n2 c2 V2 s3 n3 c3 V3 (by omega) (by omega) R2 R3 m (outK P I D S L H B (on, u, v, o) V2 V3) (by omega) b
        (fun s c t d w q q' => (specRun_any P I D S L H B on u v o s n2 c n3 V2 t d V3 w (by omega) (by omega) q q').mono fun e w' ⟨m', y', b', s', c', k1, k2, k3, k4⟩ => by obtain ⟨rfl, rfl, rfl⟩ := k1.one hv; exact ⟨s', c', k2, k3, k4⟩)
        (fun s c t d w q q' => (implRun_any P I D S L H B on u v o s n2 c n3 V2 t d V3 w (by omega) (by omega) q q').mono fun e w' ⟨m', y', b', s', c', k1, k2, k3, k4⟩ => by obtain ⟨rfl, rfl, rfl⟩ := k1.one hv; exact ⟨s', c', k2, k3, k4⟩)
    · exact loopRun_far3 w P I D S L H B on u v o s2 n2 c2 s3 n3 c3 (by omega) (by omega)
  · exact loopRun_far2 w P I D S L H B on u v o s2 n2 c2 s3 n3 c3 (by omega)

set_option maxRecDepth 100000 in
theorem fnExactLoopRun_lifted (os : Os) (started : os.Started) (H : Type) (enc : TypeId × Value → H) :
    ReturnsInHanded {} Try.checked os 5 .any (Rows.fnExactLoopRunSpec.pre6 enc Try.prog Try.f5 Rows.fnExactLoopRunRow.domain false) (Rows.fnExactLoopRunSpec.post enc Try.prog Try.f5 false true false false) := by
  refine returnsInHanded_of_change (C := Try.checked) own started (by kernel_rfl) Try.func5
    (ChangeSpec.witness6 (enc := enc) (C := Try.checked) false ⟨#[], #[.agg #[.int .i64 0, .int .i64 0, .int .i64 0, .int .i64 0, .int .i64 0, .int .i64 0, .int .i64 0], .agg #[.bool false, .int .i64 0, .int .i64 0, .int .i64 0], .slice none 0 0, .slice none 0 0], []⟩ 8 (by kernel_rfl) (by kernel_rfl) (by kernel_rfl) (by kernel_rfl)) ?_
  intro W base args ds gs before hval0 hW hcnd _
  have hval : ∀ (j : Nat) t v, Try.f5.params[j]? = some t → args[j]? = some v → Value.okWide Try.prog W .any base t v := hval0
  have hW' := hW
  obtain ⟨p, q, hA0, hV, rfl, hfz, hnd⟩ := hW
  have hA : DataW.TrodAll enc Try.prog W 0 (fun _ => true) true Try.f5.params.toList args.toList ds p := hA0
  rw [Try.params5] at hA hval
  obtain ⟨v0, vs0, d0, ds0, p0, q0, hargs, rfl, rfl, h0, r0⟩ := trodAll_cons hA
  obtain ⟨v1, vs1, d1, ds1, p1, q1, rfl, rfl, rfl, h1, r1⟩ := trodAll_cons r0
  obtain ⟨v2, vs2, d2, ds2, p2, q2, rfl, rfl, rfl, h2, r2⟩ := trodAll_cons r1
  obtain ⟨v3, vs3, d3, ds3, p3, q3, rfl, rfl, rfl, h3, r3⟩ := trodAll_cons r2
  obtain ⟨rfl, rfl, rfl⟩ := trodAll_nil r3
  obtain rfl : args = #[v0, v1, v2, v3] := by cases args; simp_all
  obtain ⟨rfl, rfl⟩ := trodVars_none hV
  have k0 := h0
  have lt0 : ∀ x ∈ p0, x.block < W.heap.size := by obtain ⟨m, hm⟩ := k0; exact DataW.trod_lt m _ _ _ hm
  have k1 := h1
  have lt1 : ∀ x ∈ p1, x.block < W.heap.size := by obtain ⟨m, hm⟩ := k1; exact DataW.trod_lt m _ _ _ hm
  have k2 := h2
  have lt2 : ∀ x ∈ p2, x.block < W.heap.size := by obtain ⟨m, hm⟩ := k2; exact DataW.trod_lt m _ _ _ hm
  have k3 := h3
  have lt3 : ∀ x ∈ p3, x.block < W.heap.size := by obtain ⟨m, hm⟩ := k3; exact DataW.trod_lt m _ _ _ hm
  obtain ⟨vs0, rfl, c0⟩ := open_cells Try.underlying23 (ts := [2, 2, 2, 2, 2, 2, 2]) (by kernel_rfl) (by kernel_rfl) (hval 0 23 v0 rfl rfl)
  obtain ⟨x0_0, r0_0, rfl, o0_0, c0_0⟩ := cellsOk_cons c0
  obtain ⟨a0_0, rfl, w0_0⟩ := cell_int Try.underlying2 o0_0
  obtain ⟨x0_1, r0_1, rfl, o0_1, c0_1⟩ := cellsOk_cons c0_0
  obtain ⟨a0_1, rfl, w0_1⟩ := cell_int Try.underlying2 o0_1
  obtain ⟨x0_2, r0_2, rfl, o0_2, c0_2⟩ := cellsOk_cons c0_1
  obtain ⟨a0_2, rfl, w0_2⟩ := cell_int Try.underlying2 o0_2
  obtain ⟨x0_3, r0_3, rfl, o0_3, c0_3⟩ := cellsOk_cons c0_2
  obtain ⟨a0_3, rfl, w0_3⟩ := cell_int Try.underlying2 o0_3
  obtain ⟨x0_4, r0_4, rfl, o0_4, c0_4⟩ := cellsOk_cons c0_3
  obtain ⟨a0_4, rfl, w0_4⟩ := cell_int Try.underlying2 o0_4
  obtain ⟨x0_5, r0_5, rfl, o0_5, c0_5⟩ := cellsOk_cons c0_4
  obtain ⟨a0_5, rfl, w0_5⟩ := cell_int Try.underlying2 o0_5
  obtain ⟨x0_6, r0_6, rfl, o0_6, c0_6⟩ := cellsOk_cons c0_5
  obtain ⟨a0_6, rfl, w0_6⟩ := cell_int Try.underlying2 o0_6
  obtain rfl := cellsOk_nil c0_6
  obtain ⟨vs1, rfl, c1⟩ := open_cells Try.underlying25 (ts := [4, 2, 2, 2]) (by kernel_rfl) (by kernel_rfl) (hval 1 25 v1 rfl rfl)
  obtain ⟨x1_0, r1_0, rfl, o1_0, c1_0⟩ := cellsOk_cons c1
  obtain ⟨a1_0, rfl⟩ := cell_bool Try.underlying4 o1_0
  obtain ⟨x1_1, r1_1, rfl, o1_1, c1_1⟩ := cellsOk_cons c1_0
  obtain ⟨a1_1, rfl, w1_1⟩ := cell_int Try.underlying2 o1_1
  obtain ⟨x1_2, r1_2, rfl, o1_2, c1_2⟩ := cellsOk_cons c1_1
  obtain ⟨a1_2, rfl, w1_2⟩ := cell_int Try.underlying2 o1_2
  obtain ⟨x1_3, r1_3, rfl, o1_3, c1_3⟩ := cellsOk_cons c1_2
  obtain ⟨a1_3, rfl, w1_3⟩ := cell_int Try.underlying2 o1_3
  obtain rfl := cellsOk_nil c1_3
  obtain ⟨s2, n2, c2, V2, rfl, m2, R2, w2⟩ := open_i64s Try.underlying36 Try.underlying2 (by kernel_rfl) (hval 2 36 v2 rfl rfl) h2
  obtain ⟨s3, n3, c3, V3, rfl, m3, R3, w3⟩ := open_i64s Try.underlying36 Try.underlying2 (by kernel_rfl) (hval 3 36 v3 rfl rfl) h3
  clear hA0 hval0
  refine (fnExactLoopRun_walk W a0_0 w0_0 a0_1 w0_1 a0_2 w0_2 a0_3 w0_3 a0_4 w0_4 a0_5 w0_5 a0_6 w0_6 a1_0 a1_1 w1_1 a1_2 w1_2 a1_3 w1_3 s2 n2 c2 V2 m2 R2 w2 s3 n3 c3 V3 m3 R3 w3).mono fun e W' ⟨he, bel⟩ => ?_
  subst he
  exact ⟨_, rfl, _, _, _, [], _, [], hW', trodAll_mk1 (shut_bool Try.underlying4 _), (trodAll_cons_mk (Below.trod laidOut (by kernel_rfl) (of_decide_eq_true (by kernel_rfl)) k0 bel lt0) (trodAll_cons_mk (Below.trod laidOut (by kernel_rfl) (of_decide_eq_true (by kernel_rfl)) k1 bel lt1) (trodAll_cons_mk (Below.trod laidOut (by kernel_rfl) (of_decide_eq_true (by kernel_rfl)) k2 bel lt2) (trodAll_cons_mk (Below.trod laidOut (by kernel_rfl) (of_decide_eq_true (by kernel_rfl)) k3 bel lt3) trodAll_mk0)))), rfl, bel.frame _, fun h => by cases h⟩

theorem fnExactLoopRun_holds : Rows.FnExactLoopRunSaid :=
  OpenClaim.holds_of_wide 5 Try.f5 rfl rfl rfl rfl rfl rfl rfl ⟨rfl, rfl, rfl, rfl, rfl⟩ rfl rfl rfl rfl rfl (by kernel_rfl) Try.func5 (by kernel_rfl)
    (of_decide_eq_true (by kernel_rfl)) (by unfold Func.isWrapper; first | (rw [if_pos (by decide +kernel)]; kernel_rfl) | (rw [if_neg (by decide +kernel)]; exact ⟨rfl, rfl⟩))
    (fun os started H enc _ => fnExactLoopRun_lifted os started H enc)
#print axioms fnExactLoopRun_holds
end Go.Proofs.Ytdpghhgfkhlliaa
