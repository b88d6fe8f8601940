/-
What is proved: a right drive that is drawn from every code and wanted one way in each of 100 cycles stands at that end, with nothing wanted; jammed for 20 cycles it has its Fault unless it is there; no condition.
-/
import Derived.Test.YtafifjodpgmiiaaDeR
import Derived.Test.YtafifjodpgmiiaaDeD
import Derived.Test.YtafifjodpgmiiaaDeU
import Derived.Test.YtafifjodpgmiiaaDvS
import Derived.Test.YtafifjodpgmiiaaOpen8
namespace Go.Proofs.Ytafifjodpgmiiaa
set_option maxRecDepth 40000
open Go.ChangeShapes Go.WideShapes Go.ChangeAt Go.RowKit
set_option linter.unusedVariables false
set_option linter.unusedSimpArgs false

set_option maxHeartbeats 400000 in
theorem dends_far (w : World) (s : Option Addr) (n c : Nat) (h : (1048576 : Int) < n) :
    Calls Try.prog 6 #[.slice s n c] w fun e w' => e = .returned (.bool true) ∧ Below w.heap.size w w' := by
  go_enter Try.func6, Try.ntmps6
  go_wp2_with fail
  refine (big_yes _ _ _ _ h).mono ?_
  rintro e w1 ⟨rfl, rfl⟩
  go_wp2
  go_ret
  exact ⟨rfl, Below.refl _ _⟩
set_option maxRecDepth 20000 in
set_option maxHeartbeats 16000000 in
theorem dends_near (w : World) (s : Option Addr) (n c : Nat) (h : (n : Int) ≤ 1048576) (HC : Hid (Code8 w s n)) :
    Calls Try.prog 6 #[.slice s n c] w fun e w' => e = .returned (.bool true) ∧ Below w.heap.size w w' := by
  go_enter Try.func6, Try.ntmps6
  go_wp2_with fail
  refine (big_no _ _ _ _ h).mono ?_
  rintro e w1 ⟨rfl, rfl⟩
  go_wp2_with fail
  refine (drawDriveStep_any HC).mono ?_
  rintro e w2 ⟨P, W, T, F, want, sp, jam, rfl, B2⟩
  have HB : Hid (Below w1.heap.size w1 w2) := B2
  clear B2 HC
  go_upto_region 4 with fail
  obtain ⟨wd, hwd⟩ : ∃ wd, wd = w2.alloc (.cells #[.int .i64 P, .int .i64 W, .int .i64 T, .bool F] 40) := ⟨_, rfl⟩
  rw [← hwd]
  have HD : Hid (DrvAt wd w2.heap.size P W T F) := by
    show DrvAt _ _ _ _ _ _
    rw [hwd]
    exact ⟨by simp, fun o => by simp [go_sem], by simp [go_sem], by simp [go_sem], by simp [go_sem], by simp [go_sem]⟩
  have b3 : Below w2.heap.size w2 wd := by rw [hwd]; exact (by repeat (first | with_reducible exact Below.refl _ _ | with_reducible refine Below.setCell ?_ (by first | omega | (simp; done) | (simp; omega)) _ | with_reducible refine bDrewN ?_ _ | with_reducible refine Below.drew ?_ | with_reducible refine Below.alloc ?_ (by first | omega | (simp; done) | (simp; omega)) _))
  replace HB : Hid (Below w1.heap.size w1 wd) := HB.out.trans (b3.mono HB.out.size)
  clear hwd b3
  obtain ⟨yd, fd, d0, d1, d2, d3⟩ := HD.out
  obtain ⟨ok, hok⟩ : ∃ ok, dstB P W T 0 sp = ok := ⟨_, rfl⟩
  have HS := specDrive_any P W T F 0 sp false wd
  rw [hok] at HS
  go_wp2_with fail
  refine HS.mono ?_
  rintro e w4 ⟨rfl, h4⟩
  clear fd d0 d1 d2 d3 HS yd
  replace HD : Hid (DrvAt w4 w2.heap.size P W T F) := HD.out.below h4
  replace HB : Hid (Below w1.heap.size w1 w4) := HB.out.trans (h4.mono HB.out.size)
  clear h4
  go_upto_region 5 with fail
  obtain ⟨w3, hw3⟩ : ∃ w3, w3 = w4.alloc (.cells #[.int .i64 (drvV P W T F 0 sp false).1, .int .i64 (drvV P W T F 0 sp false).2.1, .int .i64 (drvV P W T F 0 sp false).2.2.1, .bool (drvV P W T F 0 sp false).2.2.2] 40) := ⟨_, rfl⟩
  rw [← hw3]
  have b3 : Below w4.heap.size w4 w3 := by rw [hw3]; exact (by repeat (first | with_reducible exact Below.refl _ _ | with_reducible refine Below.setCell ?_ (by first | omega | (simp; done) | (simp; omega)) _ | with_reducible refine bDrewN ?_ _ | with_reducible refine Below.drew ?_ | with_reducible refine Below.alloc ?_ (by first | omega | (simp; done) | (simp; omega)) _))
  replace HD : Hid (DrvAt w3 w2.heap.size P W T F) := HD.out.below b3
  replace HB : Hid (Below w1.heap.size w1 w3) := HB.out.trans (b3.mono HB.out.size)
  have z23 : w2.heap.size < w3.heap.size := HD.out.1
  clear hw3 b3
  cases ok
  · have BF := HB.out
    go_wp2
    go_ret
    exact ⟨rfl, BF⟩
  have HK : Hid (drvB P W T = true ∧ inB 1 100 sp = true) := by
    show _ ∧ _
    unfold dstB at hok
    simp only [Bool.and_eq_true] at hok
    exact ⟨hok.1, hok.2.2⟩
  clear hok
  by_cases hp : (n : Int) % 2 = 1
  · have hp2 : ((n : Int) % 2 == 1) = true := by simpa using hp
    clear hp
    go_upto_region 11 with fail
    obtain ⟨wA, hwA⟩ : ∃ wA, wA = (w3.alloc (.cells #[.int .i64 1, .int .i64 (-1)] 33)).alloc (.cells #[.slice (some ⟨w3.heap.size, 0, none⟩) 1 1, .int .i64 sp, .bool false] 57) := ⟨_, rfl⟩
    rw [← hwA]
    have HOr : Hid (RowI wA (some ⟨w3.heap.size, 0, none⟩) (1 * 2) (fun j => if j = 0 then 1 else (-1))) := by
      show RowI _ _ _ _
      rw [hwA]
      intro j hj
      refine ⟨w3.heap.size, 0, rfl, by simp; omega, ?_⟩
      have : j = 0 ∨ j = 1 := by omega
      rcases this with rfl | rfl <;> simp [go_sem]
    have HPu : Hid (PusAt wA (w3.heap.size + 1) w3.heap.size sp false) := by
      show PusAt _ _ _ _ _
      rw [hwA]
      refine ⟨by simp, fun o => by simp [go_sem], ?_, ?_, ?_⟩ <;> simp [go_sem]
    have b4 : Below w3.heap.size w3 wA := by rw [hwA]; exact (by repeat (first | with_reducible exact Below.refl _ _ | with_reducible refine Below.setCell ?_ (by first | omega | (simp; done) | (simp; omega)) _ | with_reducible refine bDrewN ?_ _ | with_reducible refine Below.drew ?_ | with_reducible refine Below.alloc ?_ (by first | omega | (simp; done) | (simp; omega)) _))
    have z13 : w1.heap.size ≤ w3.heap.size := HB.out.size
    have zA : wA.heap.size = w3.heap.size + 1 + 1 := by rw [hwA]; simp
    clear hwA
    replace HD : Hid (DrvAt wA w2.heap.size P W T F) := HD.out.below b4
    replace HB : Hid (Below w1.heap.size w1 wA) := HB.out.trans (b4.mono HB.out.size)
    obtain ⟨ob, hob⟩ : ∃ ob, ob = w3.heap.size := ⟨_, rfl⟩
    have z1o : w1.heap.size ≤ ob := by rw [hob]; exact z13
    obtain ⟨db, hdb⟩ : ∃ db, db = w2.heap.size := ⟨_, rfl⟩
    have zd : db < wA.heap.size := by rw [hdb]; exact HD.out.1
    have zo : ob + 1 < wA.heap.size := by omega
    have zp : db ≠ ob + 1 := by have := z23; omega
    rw [← hob] at HOr HPu ⊢
    rw [← hdb] at HD ⊢
    clear hob hdb zA z23 b4 z13
    go_wp2_with fail
    go_loopw [11, 12] (fun v i wr => ∃ k : Nat, k ≤ 100 ∧ i = .int .i64 k ∧ Hid (MadeP wA.heap.size wA wr v k ob sp false)) (fun _ i _ => 100 - (intOf i).toNat)
    case atStart => exact ⟨0, by omega, rfl, madeP_lit wA (Nat.le_refl _)⟩
    case round =>
      obtain ⟨k, hk, rfl, HM⟩ := hrel
      have zM : wA.heap.size ≤ wr.heap.size := HM.out.2.size
      by_cases h1 : k < 100
      case pos =>
        have k1 : (k : Int) < 100 := by omega
        obtain ⟨zq, fq, q0, q1, q2⟩ := HPu.out.belowB HM.out.2 zo
        have O8 : Hid (wr.ownsRow wA.heap.size 57 3 u11 k (pshL ob sp false k)) := HM.out.1
        clear fq
        go_wp2_with (at_builtin; refine list_push wA.heap.size u11 k (pshL ob sp false k) (.tmp 53) (.tmp 55) (by rfl) (by rfl) (by rfl) (by rfl) O8.out (by omega) (by omega) ?_; intro g' cap' w9 hown9 hgrow9 hlt9)
        go_roundw
        case rel => exact ⟨k + 1, by omega, by go_num, madeP_on HM.out zM hown9 hgrow9⟩
        case measure => simp [intOf]; omega
      case neg =>
        obtain rfl : k = 100 := by omega
        have HMB : Hid (Below wA.heap.size wA wr) := HM.out.2
        obtain ⟨g, cap, rfl, PR⟩ := madeP_row HM.out (by omega) (HOr.out.below HM.out.2)
        have HR : Hid (PshR wr (some ⟨g, 0, none⟩) 100 (fun _ => some ⟨ob, 0, none⟩) (fun _ => 1) (fun _ => 1) (fun _ => fun j => if j = 0 then 1 else (-1)) (fun _ => sp) (fun _ => false)) := PR
        replace HD : Hid (DrvAt wr db P W T F) := HD.out.below HMB.out
        replace HPu : Hid (PusAt wr (ob + 1) ob sp false) := HPu.out.belowB HMB.out zo
        replace HOr : Hid (RowI wr (some ⟨ob, 0, none⟩) (1 * 2) (fun j => if j = 0 then 1 else (-1))) := HOr.out.below HMB.out
        replace HB : Hid (Below w1.heap.size w1 wr) := HB.out.trans (HMB.out.mono HB.out.size)
        replace zd : db < wr.heap.size := Nat.lt_of_lt_of_le zd zM
        replace zo : ob + 1 < wr.heap.size := Nat.lt_of_lt_of_le zo zM
        clear PR HM HMB zM h1 hk
        rename World => wa
        obtain ⟨yd, fd, d0, d1, d2, d3⟩ := HD.out
        go_wp2_with fail
        refine (endRun P W T sp (-1) F _ _ _ _ (fun j => if j = 0 then 1 else (-1)) _ HK.out.1 HK.out.2 (Or.inr rfl) rfl rfl HR.out).mono ?_
        rintro e w5 ⟨b5, c5, v2, v3, rfl, z5, e5, h5⟩
        clear yd fd d0 d1 d2 d3 HR
        replace HD : Hid (DrvAt w5 db P W T F) := HD.out.below h5
        replace HPu : Hid (PusAt w5 (ob + 1) ob sp false) := HPu.out.belowB h5 zo
        replace HOr : Hid (RowI w5 (some ⟨ob, 0, none⟩) (1 * 2) (fun j => if j = 0 then 1 else (-1))) := HOr.out.below h5
        replace HB : Hid (Below w1.heap.size w1 w5) := HB.out.trans (h5.mono HB.out.size)
        replace zd : db < w5.heap.size := Nat.lt_of_lt_of_le zd h5.size
        replace zo : ob + 1 < w5.heap.size := Nat.lt_of_lt_of_le zo h5.size
        have he : endV (-1) = 0 := rfl
        rw [he] at e5 ⊢
        clear h5 he
        go_upto_region 18 with fail
        obtain ⟨w6, hw6⟩ : ∃ w6, w6 = w5.alloc (.cells #[.int .i64 0, .int .i64 0, .int .i64 v2, .bool v3] 40) := ⟨_, rfl⟩
        rw [← hw6]
        have a0 : w6.cell? ⟨w5.heap.size, 0, none⟩ = some (.int .i64 0) := by rw [hw6]; simp [go_sem]
        have a1 : w6.cell? ⟨w5.heap.size, 1, none⟩ = some (.int .i64 0) := by rw [hw6]; simp [go_sem]
        have h6 : Below w5.heap.size w5 w6 := by rw [hw6]; exact (by repeat (first | with_reducible exact Below.refl _ _ | with_reducible refine Below.setCell ?_ (by first | omega | (simp; done) | (simp; omega)) _ | with_reducible refine bDrewN ?_ _ | with_reducible refine Below.drew ?_ | with_reducible refine Below.alloc ?_ (by first | omega | (simp; done) | (simp; omega)) _))
        clear hw6
        replace HD : Hid (DrvAt w6 db P W T F) := HD.out.below h6
        replace HPu : Hid (PusAt w6 (ob + 1) ob sp false) := HPu.out.belowB h6 zo
        replace HOr : Hid (RowI w6 (some ⟨ob, 0, none⟩) (1 * 2) (fun j => if j = 0 then 1 else (-1))) := HOr.out.below h6
        replace HB : Hid (Below w1.heap.size w1 w6) := HB.out.trans (h6.mono HB.out.size)
        replace zd : db < w6.heap.size := Nat.lt_of_lt_of_le zd h6.size
        replace zo : ob + 1 < w6.heap.size := Nat.lt_of_lt_of_le zo h6.size
        replace e5 := (h6.cell (p := ⟨b5, 99, none⟩) z5).trans e5
        clear h6
        go_upto_region 20 with fail
        clear e5 a0 a1
        obtain ⟨zq, fq, q0, q1, q2⟩ := HPu.out
        have fq2 := fq 2
        go_upto_region 21 with fail
        clear q0 q1 q2 fq2
        obtain ⟨wB, hwB⟩ : ∃ wB, wB = w6.setCell ⟨ob + 1, 2, none⟩ (.bool true) := ⟨_, rfl⟩
        rw [← hwB]
        have bs : Beside (ob + 1) w6 wB := by rw [hwB]; exact Beside.setCell (ob + 1) w6 2 _
        replace HPu : Hid (PusAt wB (ob + 1) ob sp true) := by show PusAt _ _ _ _ _; rw [hwB]; exact HPu.out.jam
        replace HB : Hid (Below w1.heap.size w1 wB) := by
          show Below _ _ _
          rw [hwB]
          have B := HB.out
          exact (by repeat (first | with_reducible exact Below.refl _ _ | with_reducible exact B | with_reducible refine Below.setCell ?_ (by first | omega | (simp; done) | (simp; omega)) _ | with_reducible refine bDrewN ?_ _ | with_reducible refine Below.drew ?_ | with_reducible refine Below.alloc ?_ (by first | omega | (simp; done) | (simp; omega)) _))
        clear hwB
        replace HD : Hid (DrvAt wB db P W T F) := HD.out.beside bs zp
        replace HOr : Hid (RowI wB (some ⟨ob, 0, none⟩) (1 * 2) (fun j => if j = 0 then 1 else (-1))) := fun j hj => by
          obtain ⟨b, o, e, hl, hc⟩ := HOr.out j hj
          cases e
          exact ⟨ob, 0, rfl, Nat.lt_of_lt_of_le hl bs.2.2.2.1, (bs.cell (p := ⟨ob, 0 + j, none⟩) hl (by simp only; omega)).trans hc⟩
        replace zd : db < wB.heap.size := HD.out.1
        replace zo : ob + 1 < wB.heap.size := HPu.out.1
        clear bs zq fq zp z5
        go_wp2_with fail
        go_loopw [17, 18] (fun v i wr => ∃ k : Nat, k ≤ 20 ∧ i = .int .i64 k ∧ Hid (MadeP wB.heap.size wB wr v k ob sp true)) (fun _ i _ => 20 - (intOf i).toNat)
        case atStart => exact ⟨0, by omega, rfl, madeP_lit wB (Nat.le_refl _)⟩
        case round =>
          obtain ⟨k, hk, rfl, HM⟩ := hrel
          have zM : wB.heap.size ≤ wr.heap.size := HM.out.2.size
          by_cases h1 : k < 20
          case pos =>
            have k1 : (k : Int) < 20 := by omega
            obtain ⟨zq, fq, q0, q1, q2⟩ := HPu.out.belowB HM.out.2 zo
            have O8 : Hid (wr.ownsRow wB.heap.size 57 3 u17 k (pshL ob sp true k)) := HM.out.1
            clear fq
            go_wp2_with (at_builtin; refine list_push wB.heap.size u17 k (pshL ob sp true k) (.tmp 98) (.tmp 100) (by rfl) (by rfl) (by rfl) (by rfl) O8.out (by omega) (by omega) ?_; intro g' cap' w9 hown9 hgrow9 hlt9)
            go_roundw
            case rel => exact ⟨k + 1, by omega, by go_num, madeP_on HM.out zM hown9 hgrow9⟩
            case measure => simp [intOf]; omega
          case neg =>
            obtain rfl : k = 20 := by omega
            have HMB : Hid (Below wB.heap.size wB wr) := HM.out.2
            obtain ⟨g2, cap2, rfl, PR⟩ := madeP_row HM.out (by omega) (HOr.out.below HM.out.2)
            have HR : Hid (PshR wr (some ⟨g2, 0, none⟩) 20 (fun _ => some ⟨ob, 0, none⟩) (fun _ => 1) (fun _ => 1) (fun _ => fun j => if j = 0 then 1 else (-1)) (fun _ => sp) (fun _ => true)) := PR
            replace HD : Hid (DrvAt wr db P W T F) := HD.out.below HMB.out
            replace HB : Hid (Below w1.heap.size w1 wr) := HB.out.trans (HMB.out.mono HB.out.size)
            clear PR HM HMB zM h1 hk HPu HOr zd zo
            rename World => wb
            obtain ⟨yd, fd, d0, d1, d2, d3⟩ := HD.out
            go_wp2_with fail
            refine (jamRun P W T sp (-1) F _ _ _ _ (fun j => if j = 0 then 1 else (-1)) _ HK.out.1 HK.out.2 (Or.inr rfl) rfl rfl HR.out).mono ?_
            rintro e w7 ⟨s7, c7, v1', v2', v3', rfl, hor, h7⟩
            have HOq : Hid (P = 0 ∨ v3' = true) := hor
            clear yd fd d0 d1 d2 d3 HR hor
            replace HD : Hid (DrvAt w7 db P W T F) := HD.out.below h7
            replace HB : Hid (Below w1.heap.size w1 w7) := HB.out.trans (h7.mono HB.out.size)
            clear h7
            obtain ⟨yd, fd, d0, d1, d2, d3⟩ := HD.out
            have BF := HB.out
            have sBF := BF.size
            clear fd
            by_cases hq : P = 0
            · subst hq
              go_wp2
              go_ret
              exact ⟨rfl, (by repeat (first | with_reducible exact Below.refl _ _ | with_reducible exact BF | with_reducible refine Below.setCell ?_ (by first | omega | (simp; done) | (simp; omega)) _ | with_reducible refine bDrewN ?_ _ | with_reducible refine Below.drew ?_ | with_reducible refine Below.alloc ?_ (by first | omega | (simp; done) | (simp; omega)) _))⟩
            · have hq2 : (P == 0) = false := by simpa using hq
              obtain rfl : v3' = true := HOq.out.resolve_left hq
              go_wp2
              go_ret
              exact ⟨rfl, (by repeat (first | with_reducible exact Below.refl _ _ | with_reducible exact BF | with_reducible refine Below.setCell ?_ (by first | omega | (simp; done) | (simp; omega)) _ | with_reducible refine bDrewN ?_ _ | with_reducible refine Below.drew ?_ | with_reducible refine Below.alloc ?_ (by first | omega | (simp; done) | (simp; omega)) _))⟩
  · have hp2 : ((n : Int) % 2 == 1) = false := by simpa using hp
    clear hp
    go_upto_region 11 with fail
    obtain ⟨wA, hwA⟩ : ∃ wA, wA = (w3.alloc (.cells #[.int .i64 1, .int .i64 1] 33)).alloc (.cells #[.slice (some ⟨w3.heap.size, 0, none⟩) 1 1, .int .i64 sp, .bool false] 57) := ⟨_, rfl⟩
    rw [← hwA]
    have HOr : Hid (RowI wA (some ⟨w3.heap.size, 0, none⟩) (1 * 2) (fun j => if j = 0 then 1 else 1)) := by
      show RowI _ _ _ _
      rw [hwA]
      intro j hj
      refine ⟨w3.heap.size, 0, rfl, by simp; omega, ?_⟩
      have : j = 0 ∨ j = 1 := by omega
      rcases this with rfl | rfl <;> simp [go_sem]
    have HPu : Hid (PusAt wA (w3.heap.size + 1) w3.heap.size sp false) := by
      show PusAt _ _ _ _ _
      rw [hwA]
      refine ⟨by simp, fun o => by simp [go_sem], ?_, ?_, ?_⟩ <;> simp [go_sem]
    have b4 : Below w3.heap.size w3 wA := by rw [hwA]; exact (by repeat (first | with_reducible exact Below.refl _ _ | with_reducible refine Below.setCell ?_ (by first | omega | (simp; done) | (simp; omega)) _ | with_reducible refine bDrewN ?_ _ | with_reducible refine Below.drew ?_ | with_reducible refine Below.alloc ?_ (by first | omega | (simp; done) | (simp; omega)) _))
    have z13 : w1.heap.size ≤ w3.heap.size := HB.out.size
    have zA : wA.heap.size = w3.heap.size + 1 + 1 := by rw [hwA]; simp
    clear hwA
    replace HD : Hid (DrvAt wA w2.heap.size P W T F) := HD.out.below b4
    replace HB : Hid (Below w1.heap.size w1 wA) := HB.out.trans (b4.mono HB.out.size)
    obtain ⟨ob, hob⟩ : ∃ ob, ob = w3.heap.size := ⟨_, rfl⟩
    have z1o : w1.heap.size ≤ ob := by rw [hob]; exact z13
    obtain ⟨db, hdb⟩ : ∃ db, db = w2.heap.size := ⟨_, rfl⟩
    have zd : db < wA.heap.size := by rw [hdb]; exact HD.out.1
    have zo : ob + 1 < wA.heap.size := by omega
    have zp : db ≠ ob + 1 := by have := z23; omega
    rw [← hob] at HOr HPu ⊢
    rw [← hdb] at HD ⊢
    clear hob hdb zA z23 b4 z13
    go_wp2_with fail
    go_loopw [11, 12] (fun v i wr => ∃ k : Nat, k ≤ 100 ∧ i = .int .i64 k ∧ Hid (MadeP wA.heap.size wA wr v k ob sp false)) (fun _ i _ => 100 - (intOf i).toNat)
    case atStart => exact ⟨0, by omega, rfl, madeP_lit wA (Nat.le_refl _)⟩
    case round =>
      obtain ⟨k, hk, rfl, HM⟩ := hrel
      have zM : wA.heap.size ≤ wr.heap.size := HM.out.2.size
      by_cases h1 : k < 100
      case pos =>
        have k1 : (k : Int) < 100 := by omega
        obtain ⟨zq, fq, q0, q1, q2⟩ := HPu.out.belowB HM.out.2 zo
        have O8 : Hid (wr.ownsRow wA.heap.size 57 3 u11 k (pshL ob sp false k)) := HM.out.1
        clear fq
        go_wp2_with (at_builtin; refine list_push wA.heap.size u11 k (pshL ob sp false k) (.tmp 53) (.tmp 55) (by rfl) (by rfl) (by rfl) (by rfl) O8.out (by omega) (by omega) ?_; intro g' cap' w9 hown9 hgrow9 hlt9)
        go_roundw
        case rel => exact ⟨k + 1, by omega, by go_num, madeP_on HM.out zM hown9 hgrow9⟩
        case measure => simp [intOf]; omega
      case neg =>
        obtain rfl : k = 100 := by omega
        have HMB : Hid (Below wA.heap.size wA wr) := HM.out.2
        obtain ⟨g, cap, rfl, PR⟩ := madeP_row HM.out (by omega) (HOr.out.below HM.out.2)
        have HR : Hid (PshR wr (some ⟨g, 0, none⟩) 100 (fun _ => some ⟨ob, 0, none⟩) (fun _ => 1) (fun _ => 1) (fun _ => fun j => if j = 0 then 1 else 1) (fun _ => sp) (fun _ => false)) := PR
        replace HD : Hid (DrvAt wr db P W T F) := HD.out.below HMB.out
        replace HPu : Hid (PusAt wr (ob + 1) ob sp false) := HPu.out.belowB HMB.out zo
        replace HOr : Hid (RowI wr (some ⟨ob, 0, none⟩) (1 * 2) (fun j => if j = 0 then 1 else 1)) := HOr.out.below HMB.out
        replace HB : Hid (Below w1.heap.size w1 wr) := HB.out.trans (HMB.out.mono HB.out.size)
        replace zd : db < wr.heap.size := Nat.lt_of_lt_of_le zd zM
        replace zo : ob + 1 < wr.heap.size := Nat.lt_of_lt_of_le zo zM
        clear PR HM HMB zM h1 hk
        rename World => wa
        obtain ⟨yd, fd, d0, d1, d2, d3⟩ := HD.out
        go_wp2_with fail
        refine (endRun P W T sp 1 F _ _ _ _ (fun j => if j = 0 then 1 else 1) _ HK.out.1 HK.out.2 (Or.inl rfl) rfl rfl HR.out).mono ?_
        rintro e w5 ⟨b5, c5, v2, v3, rfl, z5, e5, h5⟩
        clear yd fd d0 d1 d2 d3 HR
        replace HD : Hid (DrvAt w5 db P W T F) := HD.out.below h5
        replace HPu : Hid (PusAt w5 (ob + 1) ob sp false) := HPu.out.belowB h5 zo
        replace HOr : Hid (RowI w5 (some ⟨ob, 0, none⟩) (1 * 2) (fun j => if j = 0 then 1 else 1)) := HOr.out.below h5
        replace HB : Hid (Below w1.heap.size w1 w5) := HB.out.trans (h5.mono HB.out.size)
        replace zd : db < w5.heap.size := Nat.lt_of_lt_of_le zd h5.size
        replace zo : ob + 1 < w5.heap.size := Nat.lt_of_lt_of_le zo h5.size
        have he : endV 1 = 100 := rfl
        rw [he] at e5 ⊢
        clear h5 he
        go_upto_region 18 with fail
        obtain ⟨w6, hw6⟩ : ∃ w6, w6 = w5.alloc (.cells #[.int .i64 100, .int .i64 0, .int .i64 v2, .bool v3] 40) := ⟨_, rfl⟩
        rw [← hw6]
        have a0 : w6.cell? ⟨w5.heap.size, 0, none⟩ = some (.int .i64 100) := by rw [hw6]; simp [go_sem]
        have a1 : w6.cell? ⟨w5.heap.size, 1, none⟩ = some (.int .i64 0) := by rw [hw6]; simp [go_sem]
        have h6 : Below w5.heap.size w5 w6 := by rw [hw6]; exact (by repeat (first | with_reducible exact Below.refl _ _ | with_reducible refine Below.setCell ?_ (by first | omega | (simp; done) | (simp; omega)) _ | with_reducible refine bDrewN ?_ _ | with_reducible refine Below.drew ?_ | with_reducible refine Below.alloc ?_ (by first | omega | (simp; done) | (simp; omega)) _))
        clear hw6
        replace HD : Hid (DrvAt w6 db P W T F) := HD.out.below h6
        replace HPu : Hid (PusAt w6 (ob + 1) ob sp false) := HPu.out.belowB h6 zo
        replace HOr : Hid (RowI w6 (some ⟨ob, 0, none⟩) (1 * 2) (fun j => if j = 0 then 1 else 1)) := HOr.out.below h6
        replace HB : Hid (Below w1.heap.size w1 w6) := HB.out.trans (h6.mono HB.out.size)
        replace zd : db < w6.heap.size := Nat.lt_of_lt_of_le zd h6.size
        replace zo : ob + 1 < w6.heap.size := Nat.lt_of_lt_of_le zo h6.size
        replace e5 := (h6.cell (p := ⟨b5, 99, none⟩) z5).trans e5
        clear h6
        go_upto_region 20 with fail
        clear e5 a0 a1
        obtain ⟨zq, fq, q0, q1, q2⟩ := HPu.out
        have fq2 := fq 2
        go_upto_region 21 with fail
        clear q0 q1 q2 fq2
        obtain ⟨wB, hwB⟩ : ∃ wB, wB = w6.setCell ⟨ob + 1, 2, none⟩ (.bool true) := ⟨_, rfl⟩
        rw [← hwB]
        have bs : Beside (ob + 1) w6 wB := by rw [hwB]; exact Beside.setCell (ob + 1) w6 2 _
        replace HPu : Hid (PusAt wB (ob + 1) ob sp true) := by show PusAt _ _ _ _ _; rw [hwB]; exact HPu.out.jam
        replace HB : Hid (Below w1.heap.size w1 wB) := by
          show Below _ _ _
          rw [hwB]
          have B := HB.out
          exact (by repeat (first | with_reducible exact Below.refl _ _ | with_reducible exact B | with_reducible refine Below.setCell ?_ (by first | omega | (simp; done) | (simp; omega)) _ | with_reducible refine bDrewN ?_ _ | with_reducible refine Below.drew ?_ | with_reducible refine Below.alloc ?_ (by first | omega | (simp; done) | (simp; omega)) _))
        clear hwB
        replace HD : Hid (DrvAt wB db P W T F) := HD.out.beside bs zp
        replace HOr : Hid (RowI wB (some ⟨ob, 0, none⟩) (1 * 2) (fun j => if j = 0 then 1 else 1)) := fun j hj => by
          obtain ⟨b, o, e, hl, hc⟩ := HOr.out j hj
          cases e
          exact ⟨ob, 0, rfl, Nat.lt_of_lt_of_le hl bs.2.2.2.1, (bs.cell (p := ⟨ob, 0 + j, none⟩) hl (by simp only; omega)).trans hc⟩
        replace zd : db < wB.heap.size := HD.out.1
        replace zo : ob + 1 < wB.heap.size := HPu.out.1
        clear bs zq fq zp z5
        go_wp2_with fail
        go_loopw [17, 18] (fun v i wr => ∃ k : Nat, k ≤ 20 ∧ i = .int .i64 k ∧ Hid (MadeP wB.heap.size wB wr v k ob sp true)) (fun _ i _ => 20 - (intOf i).toNat)
        case atStart => exact ⟨0, by omega, rfl, madeP_lit wB (Nat.le_refl _)⟩
        case round =>
          obtain ⟨k, hk, rfl, HM⟩ := hrel
          have zM : wB.heap.size ≤ wr.heap.size := HM.out.2.size
          by_cases h1 : k < 20
          case pos =>
            have k1 : (k : Int) < 20 := by omega
            obtain ⟨zq, fq, q0, q1, q2⟩ := HPu.out.belowB HM.out.2 zo
            have O8 : Hid (wr.ownsRow wB.heap.size 57 3 u17 k (pshL ob sp true k)) := HM.out.1
            clear fq
            go_wp2_with (at_builtin; refine list_push wB.heap.size u17 k (pshL ob sp true k) (.tmp 98) (.tmp 100) (by rfl) (by rfl) (by rfl) (by rfl) O8.out (by omega) (by omega) ?_; intro g' cap' w9 hown9 hgrow9 hlt9)
            go_roundw
            case rel => exact ⟨k + 1, by omega, by go_num, madeP_on HM.out zM hown9 hgrow9⟩
            case measure => simp [intOf]; omega
          case neg =>
            obtain rfl : k = 20 := by omega
            have HMB : Hid (Below wB.heap.size wB wr) := HM.out.2
            obtain ⟨g2, cap2, rfl, PR⟩ := madeP_row HM.out (by omega) (HOr.out.below HM.out.2)
            have HR : Hid (PshR wr (some ⟨g2, 0, none⟩) 20 (fun _ => some ⟨ob, 0, none⟩) (fun _ => 1) (fun _ => 1) (fun _ => fun j => if j = 0 then 1 else 1) (fun _ => sp) (fun _ => true)) := PR
            replace HD : Hid (DrvAt wr db P W T F) := HD.out.below HMB.out
            replace HB : Hid (Below w1.heap.size w1 wr) := HB.out.trans (HMB.out.mono HB.out.size)
            clear PR HM HMB zM h1 hk HPu HOr zd zo
            rename World => wb
            obtain ⟨yd, fd, d0, d1, d2, d3⟩ := HD.out
            go_wp2_with fail
            refine (jamRun P W T sp 1 F _ _ _ _ (fun j => if j = 0 then 1 else 1) _ HK.out.1 HK.out.2 (Or.inl rfl) rfl rfl HR.out).mono ?_
            rintro e w7 ⟨s7, c7, v1', v2', v3', rfl, hor, h7⟩
            have HOq : Hid (P = 100 ∨ v3' = true) := hor
            clear yd fd d0 d1 d2 d3 HR hor
            replace HD : Hid (DrvAt w7 db P W T F) := HD.out.below h7
            replace HB : Hid (Below w1.heap.size w1 w7) := HB.out.trans (h7.mono HB.out.size)
            clear h7
            obtain ⟨yd, fd, d0, d1, d2, d3⟩ := HD.out
            have BF := HB.out
            have sBF := BF.size
            clear fd
            by_cases hq : P = 100
            · subst hq
              go_wp2
              go_ret
              exact ⟨rfl, (by repeat (first | with_reducible exact Below.refl _ _ | with_reducible exact BF | with_reducible refine Below.setCell ?_ (by first | omega | (simp; done) | (simp; omega)) _ | with_reducible refine bDrewN ?_ _ | with_reducible refine Below.drew ?_ | with_reducible refine Below.alloc ?_ (by first | omega | (simp; done) | (simp; omega)) _))⟩
            · have hq2 : (P == 100) = false := by simpa using hq
              obtain rfl : v3' = true := HOq.out.resolve_left hq
              go_wp2
              go_ret
              exact ⟨rfl, (by repeat (first | with_reducible exact Below.refl _ _ | with_reducible exact BF | with_reducible refine Below.setCell ?_ (by first | omega | (simp; done) | (simp; omega)) _ | with_reducible refine bDrewN ?_ _ | with_reducible refine Below.drew ?_ | with_reducible refine Below.alloc ?_ (by first | omega | (simp; done) | (simp; omega)) _))⟩
theorem fnDriveEnds_walk (w : World) (s : Option Addr) (n c : Nat) (hn : n ≤ 9223372036854775807) (R : Bytes w s n) :
    Calls Try.prog 6 #[.slice s n c] w fun e w' => e = .returned (.bool true) ∧ Below w.heap.size w w' := by
  by_cases h : n ≤ 1048576
  · exact dends_near w s n c (by omega) (R.code h)
  · exact dends_far w s n c (by omega)

set_option maxRecDepth 100000 in
theorem fnDriveEnds_lifted (os : Os) (started : os.Started) (H : Type) (enc : TypeId × Value → H) :
    ReturnsInHanded {} Try.checked os 6 .any (Rows.fnDriveEndsSpec.pre6 enc Try.prog Try.f6 Rows.fnDriveEndsRow.domain false) (Rows.fnDriveEndsSpec.post enc Try.prog Try.f6 false true false false) := by
  refine returnsInHanded_of_change (C := Try.checked) own started (by kernel_rfl) Try.func6
    (ChangeSpec.witness6 (enc := enc) (C := Try.checked) false ⟨#[], #[.slice none 0 0], []⟩ 8 (by kernel_rfl) (by kernel_rfl) (by kernel_rfl) (by kernel_rfl)) ?_
  intro W base args ds gs before hval0 hW hcnd _
  have hval : ∀ (j : Nat) t v, Try.f6.params[j]? = some t → args[j]? = some v → Value.okWide Try.prog W .any base t v := hval0
  have hW' := hW
  obtain ⟨p, q, hA0, hV, rfl, hfz, hnd⟩ := hW
  have hA : DataW.TrodAll enc Try.prog W 0 (fun _ => true) true Try.f6.params.toList args.toList ds p := hA0
  rw [Try.params6] at hA hval
  obtain ⟨v0, vs0, d0, ds0, p0, q0, hargs, rfl, rfl, h0, r0⟩ := trodAll_cons hA
  obtain ⟨rfl, rfl, rfl⟩ := trodAll_nil r0
  obtain rfl : args = #[v0] := by cases args; simp_all
  obtain ⟨rfl, rfl⟩ := trodVars_none hV
  have k0 := h0
  have lt0 : ∀ x ∈ p0, x.block < W.heap.size := by obtain ⟨m, hm⟩ := k0; exact DataW.trod_lt m _ _ _ hm
  obtain ⟨s0, n0, c0, rfl, m0, R0⟩ := open_code Try.underlying29 Try.underlying5 (by kernel_rfl) (hval 0 29 v0 rfl rfl) h0
  clear hA0 hval0
  refine (fnDriveEnds_walk W s0 n0 c0 m0 R0).mono fun e W' ⟨he, bel⟩ => ?_
  subst he
  exact ⟨_, rfl, _, _, _, [], _, [], hW', trodAll_mk1 (shut_bool Try.underlying4 _), (trodAll_cons_mk (Below.trod laidOut (by kernel_rfl) (of_decide_eq_true (by kernel_rfl)) k0 bel lt0) trodAll_mk0), rfl, bel.frame _, fun h => by cases h⟩

theorem fnDriveEnds_holds : Rows.FnDriveEndsSaid :=
  OpenClaim.holds_of_wide 6 Try.f6 rfl rfl rfl rfl rfl rfl rfl ⟨rfl, rfl, rfl, rfl, rfl⟩ rfl rfl rfl rfl rfl (by kernel_rfl) Try.func6 (by kernel_rfl)
    (of_decide_eq_true (by kernel_rfl)) (by unfold Func.isWrapper; first | (rw [if_pos (by decide +kernel)]; kernel_rfl) | (rw [if_neg (by decide +kernel)]; exact ⟨rfl, rfl⟩))
    (fun os started H enc _ => fnDriveEnds_lifted os started H enc)
#print axioms fnDriveEnds_holds
end Go.Proofs.Ytafifjodpgmiiaa
