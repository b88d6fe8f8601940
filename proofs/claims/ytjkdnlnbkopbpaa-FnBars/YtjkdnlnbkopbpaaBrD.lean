/-
What is proved: wants and locks that are drawn from a code: any, in memory of their own.
-/
import Derived.Test.YtjkdnlnbkopbpaaBrU
namespace Go.Proofs.Ytjkdnlnbkopbpaa
set_option maxRecDepth 40000
open Go.ChangeShapes Go.WideShapes Go.ChangeAt Go.RowKit
set_option linter.unusedVariables false
set_option linter.unusedSimpArgs false

set_option maxRecDepth 20000 in
set_option maxHeartbeats 8000000 in
theorem drawPermits_any {s : Option Addr} {n c : Nat} {w : World} (h : Hid (Code8 w s n)) :
    Calls Try.prog 16 #[.slice s n c] w fun e w' => ∃ (t : Option Addr) (N cap : Nat) (U : Nat → Bool) (t2 : Option Addr) (M cap2 : Nat) (V : Nat → Int), e = .returned (.tuple #[.slice t N cap, .slice t2 M cap2]) ∧ N ≤ 60 ∧ M ≤ 300 ∧ RowB w' t N U ∧ RowI w' t2 (M * 2) V ∧ Below w.heap.size w w' := by
  have mk50 : ∀ w : World, (Instr.makeSlice 22 (.int .i64 50) (.int .i64 50)).run Try.prog w = .ok (.slice (some ⟨w.heap.size, 0, none⟩) 50 50) (w.alloc (.cells (madeCells #[.bool false] 50) 4)) := fun w => make_bool 50 (by omega) w
  have mk51 : ∀ w : World, (Instr.makeSlice 22 (.int .i64 51) (.int .i64 51)).run Try.prog w = .ok (.slice (some ⟨w.heap.size, 0, none⟩) 51 51) (w.alloc (.cells (madeCells #[.bool false] 51) 4)) := fun w => make_bool 51 (by omega) w
  have mk200 : ∀ w : World, (Instr.makeSlice 27 (.int .i64 200) (.int .i64 200)).run Try.prog w = .ok (.slice (some ⟨w.heap.size, 0, none⟩) 200 200) (w.alloc (.cells (madeCells #[.int .i64 0, .int .i64 0] (200 * 2)) 39)) := fun w => make_Lock 200 (by omega) w
  have mk201 : ∀ w : World, (Instr.makeSlice 27 (.int .i64 201) (.int .i64 201)).run Try.prog w = .ok (.slice (some ⟨w.heap.size, 0, none⟩) 201 201) (w.alloc (.cells (madeCells #[.int .i64 0, .int .i64 0] (201 * 2)) 39)) := fun w => make_Lock 201 (by omega) w
  have M50 : Hid _ := mk50
  have M51 : Hid _ := mk51
  have M200 : Hid _ := mk200
  have M201 : Hid _ := mk201
  clear mk50 mk51 mk200 mk201
  go_enter Try.func16, Try.ntmps16
  go_wp2_with fail
  refine (open_any h).mono ?_
  rintro e w1 ⟨rfl, R1, b1⟩
  have z1 := R1.1
  have HB1 : Hid (Below w.heap.size w w1) := b1
  have HR1 : Hid (Rd w1 w.heap.size s n c 0) := R1
  clear b1 R1
  go_wp2_with fail
  refine (size_any 4 14 (by omega) (by omega) (by omega) (by omega) (Rd.below HR1.out (below0 w1 _))).mono ?_
  rintro e w2 ⟨N, p2, rfl, N0, N1, R2, b2⟩
  have LIT : w2.ownsRow w1.heap.size 4 1 (.slice (some ⟨w1.heap.size, 0, none⟩) 0 0) 0 (valB (fun _ => false) 0) := own_same (madeB_lit w1 (fun _ => false) (Nat.le_refl _)).1 fun g hg => by
    have e : w1.heap.size = g := by simpa [Value.ownBlock] using hg
    subst e
    exact b2.2.2.2.2 _ (by simp) (by omega)
  have D2 : Hid (DrawnB w.heap.size s n c w1 w2 (.slice (some ⟨w1.heap.size, 0, none⟩) 0 0) 0 (fun _ => false)) := ⟨LIT, (Beside.of (below0 w1 _)).trans b2, p2, R2⟩
  clear LIT R2 b2 HR1
  go_wp2_with fail
  go_loopw [5, 6] (fun v i wr => ∃ (k : Nat) (U : Nat → Bool), (k : Int) ≤ N ∧ i = .int .i64 (N - k) ∧ Hid (DrawnB w.heap.size s n c w1 wr v k U)) (fun _ i _ => (intOf i).toNat)
  case atStart => exact ⟨0, fun _ => false, by omega, by simp, D2⟩
  case round =>
    obtain ⟨k, U, hk, rfl, HD⟩ := hrel
    clear D2
    by_cases hlt : (k : Int) < N
    case pos =>
      have q0 : 0 < N - (k : Int) := by omega
      obtain ⟨-, hBs, p, R⟩ := HD.out
      have HRd : Hid (Rd wr w.heap.size s n c p) := R
      clear R hBs
      go_wp2_with fail
      refine (once_any 3 (by omega) (by omega) HRd.out).mono ?_
      rintro e w3 ⟨x, p3, rfl, R3, b3⟩
      have H3 : Hid (DrawnB w.heap.size s n c w1 w3 u5 k U) := drawnB_read z1 HD.out b3 R3
      have O3 : Hid (w3.ownsRow w1.heap.size 4 1 u5 k (valB U k)) := H3.out.1
      have z3 : w1.heap.size ≤ w3.heap.size := H3.out.2.1.2.2.2.1
      clear R3 b3 HD
      go_wp2_with (at_builtin; refine list_bool w1.heap.size u5 k (valB U k) (.tmp 19) (.tmp 23) (by rfl) (by rfl) (by rfl) (by rfl) O3.out (by omega) (by omega) ?_; intro g' cap' w4 hown4 hgrow4 hlt4)
      go_roundw
      case rel => exact ⟨k + 1, _, by omega, by congr 1; omega, drawnB_on z1 H3.out hown4 hgrow4⟩
      case measure => simp [intOf]; omega
    case neg =>
      obtain rfl : (k : Int) = N := by omega
      obtain ⟨t, cap, rfl, ho⟩ := drawnB_own HD.out
      have HO : Hid (OwnB w1.heap.size wr t k U) := ho
      obtain ⟨-, hBs, p, R⟩ := HD.out
      have HBs : Hid (Beside w.heap.size w1 wr) := hBs
      have zz : w1.heap.size ≤ wr.heap.size := hBs.2.2.2.1
      have HRd : Hid (Rd wr w.heap.size s n c p) := R
      have zr : w.heap.size < wr.heap.size := Nat.lt_of_lt_of_le z1 zz
      clear ho hBs R HD hlt hk
      rename World => w5
      go_wp2_with fail
      refine (below_any 12 (Rd.below HRd.out (below0 w5 _))).mono ?_
      rintro e w6 ⟨N2, p6, rfl, a0, a1, a2, R6, b6⟩
      have a3 : N2 ≤ 12 := by omega
      have LIT : w6.ownsRow w5.heap.size 39 2 (.slice (some ⟨w5.heap.size, 0, none⟩) 0 0) 0 (vals (fun _ => 0) (0 * 2)) := own_same (by simpa [vals] using World.ownsRow_lit (base := w5.heap.size) (size := 2) (e := 39) w5 #[] 0 (Nat.le_refl _) (by simp [maxLen]) (by simp)) fun g hg => by
        have e : w5.heap.size = g := by simpa [Value.ownBlock] using hg
        subst e
        exact b6.2.2.2.2 _ (by simp) (by omega)
      have D6 : Hid (DrawnL w.heap.size s n c w5 w6 (.slice (some ⟨w5.heap.size, 0, none⟩) 0 0) 0 (fun _ => 0)) := ⟨LIT, (Beside.of (below0 w5 _)).trans b6, p6, R6⟩
      clear LIT R6 b6 a1 a2 HRd
      have kk0 : (1 : Int) ≤ k := N0
      have kk1 : (k : Int) ≤ 15 := by omega
      go_wp2_with fail
      go_loopw [7, 8] (fun v i wr => ∃ (j : Nat) (V : Nat → Int), (j : Int) ≤ N2 ∧ i = .int .i64 (N2 - j) ∧ Hid (DrawnL w.heap.size s n c w5 wr v j V)) (fun _ i _ => (intOf i).toNat)
      case atStart => exact ⟨0, fun _ => 0, by omega, by simp, D6⟩
      case round =>
        obtain ⟨j, V, hj, rfl, HD⟩ := hrel
        clear D6
        by_cases hlt : (j : Int) < N2
        case pos =>
          have q0 : 0 < N2 - (j : Int) := by omega
          obtain ⟨-, -, p, R⟩ := HD.out
          have HRd : Hid (Rd wr w.heap.size s n c p) := R
          clear R
          have wk : IntKind.i64.wrap ((k : Int) - 1) = (k : Int) - 1 := by rw [IntKind.wrap_i64]; omega
          go_wp2_with fail
          refine (off_any 0 ((k : Int) - 1) (by omega) (by omega) (by omega) HRd.out).mono ?_
          rintro e w7 ⟨x, p7, rfl, x0, R7, b7⟩
          have H7 : Hid (DrawnL w.heap.size s n c w5 w7 u7 j V) := drawnL_read zr HD.out b7 R7
          have HR7 : Hid (Rd w7 w.heap.size s n c p7) := R7
          clear R7 b7 HD HRd
          go_wp2_with fail
          refine (off_any 0 ((k : Int) - 1) (by omega) (by omega) (by omega) HR7.out).mono ?_
          rintro e w8 ⟨y, p8, rfl, y0, R8, b8⟩
          have H8 : Hid (DrawnL w.heap.size s n c w5 w8 u7 j V) := drawnL_read zr H7.out b8 R8
          have O8 : Hid (w8.ownsRow w5.heap.size 39 2 u7 j (vals V (j * 2))) := H8.out.1
          have z8 : w5.heap.size ≤ w8.heap.size := H8.out.2.1.2.2.2.1
          clear R8 b8 H7 HR7
          go_wp2_with (at_builtin; refine list_lock w5.heap.size u7 j (vals V (j * 2)) (.tmp 35) (.tmp 43) (by rfl) (by rfl) (by rfl) (by rfl) O8.out (by omega) (by omega) ?_; intro g' cap' w9 hown9 hgrow9 hlt9)
          go_roundw
          case rel => exact ⟨j + 1, _, by omega, by congr 1; omega, drawnL_on zr H8.out hown9 hgrow9⟩
          case measure => simp [intOf]; omega
        case neg =>
          obtain rfl : (j : Int) = N2 := by omega
          obtain ⟨t2, cap2, rfl, ho⟩ := drawnL_own HD.out
          have HL : Hid (OwnI w5.heap.size wr t2 (j * 2) V) := ho
          obtain ⟨-, hBs, p, R⟩ := HD.out
          have HB5 : Hid (Beside w.heap.size w5 wr) := hBs
          have HRd : Hid (Rd wr w.heap.size s n c p) := R
          clear ho R HD hlt hj
          rename World => wa
          have zwa : w5.heap.size ≤ wa.heap.size := hBs.2.2.2.1
          clear hBs
          replace HO : Hid (OwnB w1.heap.size wa t k U) := ownB_off HO.out HB5.out z1
          have HBa : Hid (Beside w.heap.size w1 wa) := HBs.out.trans HB5.out
          clear HBs HB5
          go_wp2_with fail
          refine (below_any 30 HRd.out).mono ?_
          rintro e wb ⟨kk, pb, rfl, c0, c1, c2, Rb, bb⟩
          replace HO : Hid (OwnB w1.heap.size wb t k U) := ownB_off HO.out bb z1
          replace HL : Hid (OwnI w5.heap.size wb t2 (j * 2) V) := ownI_off HL.out bb zr
          have HBb : Hid (Beside w.heap.size w1 wb) := HBa.out.trans bb
          have HRb : Hid (Rd wb w.heap.size s n c pb) := Rb
          have zb : w1.heap.size ≤ wb.heap.size := HBb.out.2.2.2.1
          clear Rb bb HBa HRd
          have HW : Hid (Below w.heap.size w wb) := HB1.out.trans (HBb.out.below (Nat.le_refl _) HB1.out.size)
          by_cases q0 : kk = 0
          · subst q0
            go_wp2_with fail
            refine (below_any 2 HRb.out).mono ?_
            rintro e wc ⟨z, pc, rfl, y0, y1, y2, Rc, bc⟩
            replace HL : Hid (OwnI w5.heap.size wc t2 (j * 2) V) := ownI_off HL.out bc zr
            replace HW : Hid (Below w.heap.size w wc) := HW.out.trans (bc.below (Nat.le_refl _) HW.out.size)
            have zc := HW.out.size
            clear bc Rc y1 HO HRb HBb
            rcases (by omega : z = 0 ∨ z = 1) with rfl | rfl
            · clear M51 M200 M201
              have mk := M50.out
              go_upto_region 16 with fail
              have HT : Hid (BowTo wc (wc.alloc (.cells (madeCells #[.bool false] 50) 4)) 50 0 (fun _ => true)) := bowTo_start wc 50 _ 4
              obtain ⟨wd, hwd⟩ : ∃ wd, wd = wc.alloc (.cells (madeCells #[.bool false] 50) 4) := ⟨_, rfl⟩
              rw [← hwd] at HT ⊢
              clear hwd mk
              obtain ⟨hTB, hTz, hTf, hTc⟩ := HT.out
              have g0 := hTc 0 (by omega)
              rw [if_neg (by omega)] at g0
              have g1 := hTf 0
              have HTB : Hid (Below wc.heap.size wc wd) := hTB
              clear hTB hTf hTc
              go_wp2
              exact bodyPost_ret (v := .tuple #[.slice (some ⟨wc.heap.size, 0, none⟩) 50 50, .slice t2 j cap2]) (by simp [results, Try.results16, go_sem]) rfl ⟨_, _, _, _, t2, j, cap2, V, rfl, by omega, by omega, bow_one (bowTo_on HT.out (Below.refl _ _)), HL.out.row.below (by show Below wc.heap.size wc _; have C := HTB.out; exact (by repeat (first | with_reducible exact Below.refl _ _ | with_reducible exact C | with_reducible refine Below.setCell ?_ (by first | omega | (simp; done) | (simp; omega)) _ | with_reducible refine bDrewN ?_ _ | with_reducible refine Below.drew ?_ | with_reducible refine Below.alloc ?_ (by first | omega | (simp; done) | (simp; omega)) _))), by have B := HW.out; have C := HTB.out; exact (B.trans (C.mono B.size)).trans (show Below w.heap.size wd _ from (by repeat (first | with_reducible exact Below.refl _ _ | with_reducible refine Below.setCell ?_ (by first | omega | (simp; done) | (simp; omega)) _ | with_reducible refine bDrewN ?_ _ | with_reducible refine Below.drew ?_ | with_reducible refine Below.alloc ?_ (by first | omega | (simp; done) | (simp; omega)) _)))⟩
            · clear M50 M200 M201
              have mk := M51.out
              go_upto_region 16 with fail
              have HT : Hid (BowTo wc (wc.alloc (.cells (madeCells #[.bool false] 51) 4)) 51 0 (fun _ => true)) := bowTo_start wc 51 _ 4
              obtain ⟨wd, hwd⟩ : ∃ wd, wd = wc.alloc (.cells (madeCells #[.bool false] 51) 4) := ⟨_, rfl⟩
              rw [← hwd] at HT ⊢
              clear hwd mk
              obtain ⟨hTB, hTz, hTf, hTc⟩ := HT.out
              have g0 := hTc 0 (by omega)
              rw [if_neg (by omega)] at g0
              have g1 := hTf 0
              have HTB : Hid (Below wc.heap.size wc wd) := hTB
              clear hTB hTf hTc
              go_wp2
              exact bodyPost_ret (v := .tuple #[.slice (some ⟨wc.heap.size, 0, none⟩) 51 51, .slice t2 j cap2]) (by simp [results, Try.results16, go_sem]) rfl ⟨_, _, _, _, t2, j, cap2, V, rfl, by omega, by omega, bow_one (bowTo_on HT.out (Below.refl _ _)), HL.out.row.below (by show Below wc.heap.size wc _; have C := HTB.out; exact (by repeat (first | with_reducible exact Below.refl _ _ | with_reducible exact C | with_reducible refine Below.setCell ?_ (by first | omega | (simp; done) | (simp; omega)) _ | with_reducible refine bDrewN ?_ _ | with_reducible refine Below.drew ?_ | with_reducible refine Below.alloc ?_ (by first | omega | (simp; done) | (simp; omega)) _))), by have B := HW.out; have C := HTB.out; exact (B.trans (C.mono B.size)).trans (show Below w.heap.size wd _ from (by repeat (first | with_reducible exact Below.refl _ _ | with_reducible refine Below.setCell ?_ (by first | omega | (simp; done) | (simp; omega)) _ | with_reducible refine bDrewN ?_ _ | with_reducible refine Below.drew ?_ | with_reducible refine Below.alloc ?_ (by first | omega | (simp; done) | (simp; omega)) _)))⟩
          · have n0 : (kk == 0) = false := by simpa using q0
            by_cases q1 : kk = 1
            · subst q1
              go_wp2_with fail
              refine (below_any 2 HRb.out).mono ?_
              rintro e wc ⟨z, pc, rfl, y0, y1, y2, Rc, bc⟩
              replace HO : Hid (OwnB w1.heap.size wc t k U) := ownB_off HO.out bc z1
              replace HW : Hid (Below w.heap.size w wc) := HW.out.trans (bc.below (Nat.le_refl _) HW.out.size)
              have zc := HW.out.size
              clear bc Rc y1 HL HRb HBb
              rcases (by omega : z = 0 ∨ z = 1) with rfl | rfl
              · clear M50 M51 M201
                have mk := M200.out
                go_wp2
                exact bodyPost_ret (v := .tuple #[.slice t k cap, .slice (some ⟨wc.heap.size, 0, none⟩) 200 200]) (by simp [results, Try.results16, go_sem]) rfl ⟨t, k, cap, U, _, 200, 200, _, rfl, by omega, by omega, HO.out.row.below (below0 wc _), lockRow_row (rowLock_start wc 200 (fun _ => 0) 39), HW.out.trans ((below0 wc _).mono HW.out.size)⟩
              · clear M50 M51 M200
                have mk := M201.out
                go_wp2
                exact bodyPost_ret (v := .tuple #[.slice t k cap, .slice (some ⟨wc.heap.size, 0, none⟩) 201 201]) (by simp [results, Try.results16, go_sem]) rfl ⟨t, k, cap, U, _, 201, 201, _, rfl, by omega, by omega, HO.out.row.below (below0 wc _), lockRow_row (rowLock_start wc 201 (fun _ => 0) 39), HW.out.trans ((below0 wc _).mono HW.out.size)⟩
            · have n1 : (kk == 1) = false := by simpa using q1
              clear M50 M51 M200 M201
              go_wp2
              exact bodyPost_ret (v := .tuple #[.slice t k cap, .slice t2 j cap2]) (by simp [results, Try.results16, go_sem]) rfl ⟨t, k, cap, U, t2, j, cap2, V, rfl, by omega, by omega, HO.out.row, HL.out.row, HW.out⟩
end Go.Proofs.Ytjkdnlnbkopbpaa
