/-
What is proved: orders that are drawn from a code: at most 51, any int64s, in memory of their own.
-/
import Derived.Test.YtafifjodpgmiiaaOrU
namespace Go.Proofs.Ytafifjodpgmiiaa
set_option maxRecDepth 40000
open Go.ChangeShapes Go.WideShapes Go.ChangeAt Go.RowKit
set_option linter.unusedVariables false
set_option linter.unusedSimpArgs false

set_option maxRecDepth 20000 in
set_option maxHeartbeats 4000000 in
theorem orders_any {r : Nat} {s : Option Addr} {n c p : Nat} {w : World} (h : Hid (Rd w r s n c p)) :
    Calls Try.prog 31 #[.pointer (some ⟨r, 0, none⟩)] w fun e w' => ∃ v k U, e = .returned v ∧ k ≤ 6 ∧ DrawnO r s n c w w' v k U := by
  have zr : r < w.heap.size := h.out.1
  go_enter Try.func31, Try.ntmps31
  go_wp2_with fail
  refine (below_any 5 (Rd.below h.out (below0 w _))).mono ?_
  rintro e w2 ⟨N, p2, rfl, N0, N1, N2, R2, b2⟩
  have N3 : N ≤ 5 := by omega
  have LIT : w2.ownsRow w.heap.size 33 2 (.slice (some ⟨w.heap.size, 0, none⟩) 0 0) 0 (vals (fun _ => 0) (0 * 2)) := own_same (by simpa [vals] using World.ownsRow_lit (base := w.heap.size) (size := 2) (e := 33) w #[] 0 (Nat.le_refl _) (by simp [maxLen]) (by simp)) fun g hg => by
    have e : w.heap.size = g := by simpa [Value.ownBlock] using hg
    subst e
    exact b2.2.2.2.2 _ (by simp) (by omega)
  have D2 : Hid (DrawnO r s n c w w2 (.slice (some ⟨w.heap.size, 0, none⟩) 0 0) 0 (fun _ => 0)) := ⟨LIT, (Beside.of (below0 w _)).trans b2, p2, R2⟩
  clear LIT R2 b2 N1 N2
  go_wp2_with fail
  go_loopw [3, 4] (fun v i wr => ∃ (k : Nat) (U : Nat → Int), (k : Int) ≤ N ∧ i = .int .i64 (N - k) ∧ Hid (DrawnO r s n c w wr v k U)) (fun _ i _ => (intOf i).toNat)
  case atStart => exact ⟨0, fun _ => 0, by omega, by simp, D2⟩
  case round =>
    obtain ⟨k, U, hk, rfl, HD⟩ := hrel
    clear D2
    by_cases hlt : (k : Int) < N
    case pos =>
      have q0 : 0 < N - (k : Int) := by omega
      obtain ⟨-, -, p, R⟩ := HD.out
      have HRd : Hid (Rd wr r s n c p) := R
      clear R
      go_wp2_with fail
      refine (off_any 1 9 (by omega) (by omega) (by omega) HRd.out).mono ?_
      rintro e w7 ⟨x, p7, rfl, x0, R7, b7⟩
      have H7 : Hid (DrawnO r s n c w w7 u3 k U) := drawnO_read zr HD.out b7 R7
      have HR7 : Hid (Rd w7 r s n c p7) := R7
      clear R7 b7 HD HRd
      go_wp2_with fail
      refine (near_any (-1) 1 (by omega) (by omega) (by omega) HR7.out).mono ?_
      rintro e w8 ⟨y, p8, rfl, y0, y1, R8, b8⟩
      have H8 : Hid (DrawnO r s n c w w8 u3 k U) := drawnO_read zr H7.out b8 R8
      have O8 : Hid (w8.ownsRow w.heap.size 33 2 u3 k (vals U (k * 2))) := H8.out.1
      have z8 : w.heap.size ≤ w8.heap.size := H8.out.2.1.2.2.2.1
      clear R8 b8 H7 HR7
      go_wp2_with (at_builtin; refine list_order w.heap.size u3 k (vals U (k * 2)) (.tmp 12) (.tmp 18) (by rfl) (by rfl) (by rfl) (by rfl) O8.out (by omega) (by omega) ?_; intro g' cap' w9 hown9 hgrow9 hlt9)
      go_roundw
      case rel => exact ⟨k + 1, _, by omega, by congr 1; omega, drawnO_on zr H8.out hown9 hgrow9⟩
      case measure => simp [intOf]; omega
    case neg =>
      obtain rfl : (k : Int) = N := by omega
      obtain ⟨-, -, p, R⟩ := HD.out
      go_wp2_with fail
      refine (once_any 20 (by omega) (by omega) R).mono ?_
      rintro e w5 ⟨f, p5, rfl, R5, b5⟩
      have H5 : Hid (DrawnO r s n c w w5 u3 k U) := drawnO_read zr HD.out b5 R5
      have HR5 : Hid (Rd w5 r s n c p5) := R5
      clear R b5 R5 HD
      cases f
      · go_wp2
        go_ret
        exact ⟨_, k, U, rfl, by omega, H5.out⟩
      · go_wp2_with fail
        refine (off_any (-1) 1 (by omega) (by omega) (by omega) HR5.out).mono ?_
        rintro e w8 ⟨y, p8, rfl, y0, R8, b8⟩
        have H8 : Hid (DrawnO r s n c w w8 u3 k U) := drawnO_read zr H5.out b8 R8
        have O8 : Hid (w8.ownsRow w.heap.size 33 2 u3 k (vals U (k * 2))) := H8.out.1
        have z8 : w.heap.size ≤ w8.heap.size := H8.out.2.1.2.2.2.1
        clear R8 b8 H5 HR5
        go_wp2_with (at_builtin; refine list_order w.heap.size u3 k (vals U (k * 2)) (.tmp 22) (.tmp 26) (by rfl) (by rfl) (by rfl) (by rfl) O8.out (by omega) (by omega) ?_; intro g' cap' w9 hown9 hgrow9 hlt9)
        have H9 : Hid (DrawnO r s n c w w9 (.slice (some ⟨g', 0, none⟩) (k + 1) cap') (k + 1) (putU U k 1 y)) := drawnO_on zr H8.out hown9 hgrow9
        clear hown9 hgrow9 H8 O8
        go_ret
        exact ⟨_, k + 1, _, rfl, by omega, H9.out⟩
set_option maxRecDepth 20000 in
set_option maxHeartbeats 4000000 in
theorem drawDecide_any {s : Option Addr} {n c : Nat} {w : World} (h : Hid (Code8 w s n)) :
    Calls Try.prog 13 #[.slice s n c] w fun e w' => ∃ (t : Option Addr) (N cap : Nat) (U : Nat → Int), e = .returned (.slice t N cap) ∧ N ≤ 60 ∧ RowI w' t (N * 2) U ∧ Below w.heap.size w w' := by
  go_enter Try.func13, Try.ntmps13
  go_wp2_with fail
  refine (open_any h).mono ?_
  rintro e w1 ⟨rfl, R1, b1⟩
  have z1 := R1.1
  have HB1 : Hid (Below w.heap.size w w1) := b1
  have HR1 : Hid (Rd w1 w.heap.size s n c 0) := R1
  clear b1 R1
  go_wp2_with fail
  refine (orders_any HR1).mono ?_
  rintro e w2 ⟨v, k, U, rfl, k6, D⟩
  have HD : Hid (DrawnO w.heap.size s n c w1 w2 v k U) := D
  obtain ⟨-, -, p, R⟩ := D
  clear HR1
  go_wp2_with fail
  refine (once_any 24 (by omega) (by omega) R).mono ?_
  rintro e w5 ⟨f, p5, rfl, R5, b5⟩
  have H5 : Hid (DrawnO w.heap.size s n c w1 w5 v k U) := drawnO_read z1 HD.out b5 R5
  have HR5 : Hid (Rd w5 w.heap.size s n c p5) := R5
  clear R b5 R5 HD
  cases f
  · obtain ⟨t, cap, rfl, ho⟩ := drawnO_own H5.out
    have HO : Hid (RowI w5 t (k * 2) U) := ho.row
    have HB : Hid (Below w.heap.size w w5) := HB1.out.trans (H5.out.2.1.below (Nat.le_refl _) HB1.out.size)
    clear ho
    go_wp2
    go_ret
    exact ⟨t, k, cap, U, rfl, by omega, HO.out, HB.out⟩
  · go_wp2_with fail
    refine (below_any 2 HR5.out).mono ?_
    rintro e w6 ⟨z, p6, rfl, y0, y1, y2, R6, b6⟩
    have H6 : Hid (DrawnO w.heap.size s n c w1 w6 v k U) := drawnO_read z1 H5.out b6 R6
    have z3 : z ≤ 2 := by omega
    clear R6 b6 H5 HR5 y1 y2
    go_wp2_with fail
    go_loopw [4] (fun va wr => ∃ (j : Nat) (U : Nat → Int), (j : Int) ≤ 50 + z ∧ Hid (DrawnO w.heap.size s n c w1 wr va j U)) (fun va _ => ((50 + z) - (lenO va : Int)).toNat)
    case atStart => exact ⟨k, U, by omega, H6⟩
    case round =>
      obtain ⟨j, U2, hj, HD⟩ := hrel
      clear H6
      obtain ⟨t, cap, rfl, ho⟩ := drawnO_own HD.out
      have HO : Hid (RowI wr t (j * 2) U2) := ho.row
      clear ho
      by_cases hlt : (j : Int) < 50 + z
      case pos =>
        have O8 : Hid (wr.ownsRow w1.heap.size 33 2 (.slice t j cap) j (vals U2 (j * 2))) := HD.out.1
        have z8 : w1.heap.size ≤ wr.heap.size := HD.out.2.1.2.2.2.1
        go_wp2_with (at_builtin; refine list_order w1.heap.size (.slice t j cap) j (vals U2 (j * 2)) (.tmp 19) (.tmp 21) (by rfl) (by rfl) (by rfl) (by rfl) O8.out (by omega) (by omega) ?_; intro g' cap' w9 hown9 hgrow9 hlt9)
        go_roundw
        case rel => exact ⟨j + 1, _, by omega, drawnO_on z1 HD.out hown9 hgrow9⟩
        case measure => simp [lenO]; omega
      case neg =>
        have HB : Hid (Below w.heap.size w wr) := HB1.out.trans (HD.out.2.1.below (Nat.le_refl _) HB1.out.size)
        go_wp2
        go_ret
        first | exact ⟨t, j, cap, U2, rfl, by omega, HO.out, HB.out⟩ | exact ⟨t, j, ⟨cap, rfl⟩, by omega, ⟨U2, HO.out⟩, HB.out⟩
end Go.Proofs.Ytafifjodpgmiiaa
