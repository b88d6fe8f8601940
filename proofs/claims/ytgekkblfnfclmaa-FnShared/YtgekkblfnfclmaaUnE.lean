/-
What is proved: a list of units that is drawn from a code: at most 51 of them, any int64s.
-/
import Derived.Test.YtgekkblfnfclmaaUnD
import Derived.Deep.RegionHeld3
import Derived.Deep.DeepCutAuto
namespace Go.Proofs.Ytgekkblfnfclmaa
set_option maxRecDepth 40000
open Go.RowKit
set_option linter.unusedVariables false
set_option linter.unusedSimpArgs false

def lenV : Value → Nat
  | .slice _ n _ => n
  | _ => 0
theorem row_at {w : World} {g i : Nat} {m : Nat} {V : Nat → Int} {x : Int} (h : RowI w (some ⟨g, 0, none⟩) m V) : RowI (w.setCell ⟨g, i, none⟩ (.int .i64 x)) (some ⟨g, 0, none⟩) m (fun j => if j = i then x else V j) := fun j hj => by
  obtain ⟨b, o, e, hl, hc⟩ := h j hj
  cases e
  refine ⟨g, 0, rfl, by simpa using hl, ?_⟩
  rw [Nat.zero_add] at hc ⊢
  by_cases q : j = i
  · subst q
    simp [go_sem, hc]
  · simp [go_sem, hc, q]
set_option maxRecDepth 20000 in
set_option maxHeartbeats 8000000 in
theorem units_any {r : Nat} {s : Option Addr} {n c p : Nat} {w : World} (h : Hid (Rd w r s n c p)) :
    Calls Try.prog 35 #[.pointer (some ⟨r, 0, none⟩)] w fun e w' => ∃ m t ct V p', e = .returned (.slice t m ct) ∧ m ≤ 1048576 ∧ (∀ g o, t = some ⟨g, o, none⟩ → w.heap.size ≤ g) ∧ RowI w' t (m * 2) V ∧ Rd w' r s n c p' ∧ Beside r w w' := by
  have zr : r < w.heap.size := h.out.1
  go_enter Try.func35, Try.ntmps35
  go_wp2_with fail
  refine (size_any 6 12 (by omega) (by omega) (by omega) (by omega) (Rd.below h.out (below0 w _))).mono ?_
  rintro e w2 ⟨N, p2, rfl, N0, N1, R2, b2⟩
  have LIT : (w.alloc (.cells #[] 39)).ownsRow w.heap.size 39 2 (.slice (some ⟨w.heap.size, 0, none⟩) 0 0) 0 (vals (fun _ => 0) (0 * 2)) := by simpa [vals] using World.ownsRow_lit (base := w.heap.size) (size := 2) (e := 39) w #[] 0 (Nat.le_refl _) (by simp [maxLen]) (by simp)
  have D2 : Hid (DrawnU r s n c w w2 (.slice (some ⟨w.heap.size, 0, none⟩) 0 0) 0 (fun _ => 0)) := drawnU_read zr ⟨LIT, Beside.of (below0 w _), p, Rd.below h.out (below0 w _)⟩ b2 R2
  clear LIT R2 b2
  go_wp2_with fail
  go_loopw [3, 4] (fun va i wr => ∃ (k : Nat) (U : Nat → Int), (k : Int) ≤ N ∧ i = .int .i64 (N - k) ∧ DrawnU r s n c w wr va k U) (fun _ i _ => (intOf i).toNat)
  case atStart => exact ⟨0, fun _ => 0, by omega, by simp, D2.out⟩
  case round =>
    obtain ⟨k, U, hk, rfl, hD⟩ := hrel
    have HD : Hid (DrawnU r s n c w wr u3 k U) := hD
    obtain ⟨-, -, p1, R1⟩ := hD
    have HR : Hid (Rd wr r s n c p1) := R1
    clear R1
    by_cases hlt : (k : Int) < N
    · have q0 : 0 < N - (k : Int) := by omega
      go_wp2_with fail
      refine (near_any 0 900 (by omega) (by omega) (by omega) HR.out).mono ?_
      rintro e w3 ⟨x, p3, rfl, xa, xb, R3, b3⟩
      have H3 : Hid (DrawnU r s n c w w3 u3 k U) := drawnU_read zr HD.out b3 R3
      have HR3 : Hid (Rd w3 r s n c p3) := R3
      clear R3 b3 HD HR
      go_wp2_with fail
      refine (near_any 1 30 (by omega) (by omega) (by omega) HR3.out).mono ?_
      rintro e w4 ⟨y, p4, rfl, ya, yb, R4, b4⟩
      have H4 : Hid (DrawnU r s n c w w4 u3 k U) := drawnU_read zr H3.out b4 R4
      have HO : Hid (w4.ownsRow w.heap.size 39 2 u3 k (vals U (k * 2))) := H4.out.1
      have z4 : w.heap.size ≤ w4.heap.size := H4.out.2.1.2.2.2.1
      clear R4 b4 H3 HR3
      go_wp2_with (at_builtin; refine list_unit w.heap.size u3 k (vals U (k * 2)) (.tmp 13) (.tmp 19) (by rfl) (by rfl) (by rfl) (by rfl) HO.out (by omega) (by omega) ?_; intro g' cap' w5 hown5 hgrow5 hlt5)
      go_roundw
      case rel => exact ⟨k + 1, putU U k x y, by omega, by congr 1; omega, drawnU_on zr H4.out hown5 hgrow5⟩
      case measure => simp [intOf]; omega
    · obtain rfl : (k : Int) = N := by omega
      clear D2
      go_wp2_with fail
      refine (below_any 24 HR.out).mono ?_
      rintro e w5 ⟨kk, p5, rfl, k0, k1, k2, R5, b5⟩
      have H5 : Hid (DrawnU r s n c w w5 u3 k U) := drawnU_read zr HD.out b5 R5
      have HR5 : Hid (Rd w5 r s n c p5) := R5
      clear R5 b5 HD HR
      by_cases q3 : kk = 3
      · subst q3
        go_wp2_with fail
        refine (below_any 2 HR5.out).mono ?_
        rintro e w6 ⟨z, p6, rfl, z0, z1, z2, R6, b6⟩
        have H6 : Hid (DrawnU r s n c w w6 u3 k U) := drawnU_read zr H5.out b6 R6
        clear R6 b6 H5 HR5
        go_wp2_with fail
        go_loopw [3] (fun va wr => ∃ (j : Nat) (U : Nat → Int), (j : Int) ≤ 50 + z ∧ DrawnU r s n c w wr va j U) (fun va _ => ((50 + z) - (lenV va : Int)).toNat)
        case atStart => exact ⟨k, U, by omega, H6.out⟩
        case round =>
          obtain ⟨j, U', hj, hD⟩ := hrel
          have HD : Hid (DrawnU r s n c w wr u3 j U') := hD
          clear hD H6
          obtain ⟨t, cap, rfl, ho⟩ := drawnU_own HD.out
          by_cases hlt2 : (j : Int) < 50 + z
          · have HO : Hid (wr.ownsRow w.heap.size 39 2 (.slice t j cap) j (vals U' (j * 2))) := HD.out.1
            have z4 : w.heap.size ≤ wr.heap.size := HD.out.2.1.2.2.2.1
            clear ho
            go_wp2_with (at_builtin; refine list_unit w.heap.size (.slice t j cap) j (vals U' (j * 2)) (.tmp 50) (.tmp 52) (by rfl) (by rfl) (by rfl) (by rfl) HO.out (by omega) (by omega) ?_; intro g' cap' w5 hown5 hgrow5 hlt5)
            go_roundw
            case rel => exact ⟨j + 1, putU U' j 1000000 1, by omega, drawnU_on zr HD.out hown5 hgrow5⟩
            case measure => simp [lenV]; omega
          · obtain ⟨g, ht, gB, gl, gc0, gf0⟩ := ho 0 (by omega)
            have RW : Hid (RowI wr (some ⟨g, 0, none⟩) (j * 2) U') := by rw [← ht]; exact ho.row
            subst ht
            have S5 : Hid (Beside r w wr) := HD.out.2.1
            obtain ⟨-, -, p7, R7⟩ := HD.out
            have HR7 : Hid (Rd wr r s n c p7) := R7
            clear R7 HD ho
            go_wp2
            go_ret
            exact ⟨j, _, ⟨_, rfl⟩, by omega, (by intro g o e; cases e; omega), ⟨U', RW.out⟩, ⟨p7, HR7.out⟩, S5.out⟩
      have e3 : (kk == 3) = false := by simpa using q3
      obtain ⟨t, cap, hv, ho⟩ := drawnU_own H5.out
      obtain ⟨g, ht, gB, gl, gc0, gf0⟩ := ho 0 (by omega)
      obtain ⟨g', ht', gB', gl', gc1, gf1⟩ := ho 1 (by omega)
      rw [ht] at ht'
      cases ht'
      have RW : Hid (RowI w5 (some ⟨g, 0, none⟩) (k * 2) U) := by rw [← ht]; exact ho.row
      have S5 : Hid (Beside r w w5) := H5.out.2.1
      rw [hv, ht]
      have km : k ≤ 1048576 := by omega
      have kp : (0 : Int) < (k : Int) := by omega
      clear hv ht ho H5 gB' gl'
      by_cases q0 : kk = 0
      · subst q0
        go_wp2_with fail
        refine (off_any 1 1000 (by omega) (by omega) (by omega) HR5.out).mono ?_
        rintro e w6 ⟨x, p6, rfl, wx, R6, b6⟩
        have HR6 : Hid (Rd w6 r s n c p6) := R6
        have RW6 : Hid (RowI w6 (some ⟨g, 0, none⟩) (k * 2) U) := RW.out.beside b6 (by intro g o e; cases e; omega)
        have S6 : Hid (Beside r w w6) := S5.out.trans b6
        have d1 := (b6.cell (p := ⟨g, 1, none⟩) gl (by simp only; omega)).trans gc1
        have f1 := (b6.frozen (p := ⟨g, 1, none⟩) gl (by simp only; omega)).trans gf1
        have g6 : g < w6.heap.size := Nat.lt_of_lt_of_le gl b6.2.2.2.1
        clear R6 b6 RW S5 HR5 gc0 gc1 gf0 gf1 gl
        go_wp2
        go_ret
        exact ⟨k, _, _, _, p6, rfl, km, (by intro g o e; cases e; omega), row_at RW6.out, Rd.below' HR6.out (show Below (r + 1) w6 _ from (by repeat (first | with_reducible exact Below.refl _ _ | with_reducible refine Below.setCell ?_ (by first | omega | (simp; done) | (simp; omega)) _ | with_reducible refine bDrewN ?_ _ | with_reducible refine Below.drew ?_ | with_reducible refine Below.alloc ?_ (by first | omega | (simp; done) | (simp; omega)) _))), S6.out.on (show Below w.heap.size w6 _ from (by repeat (first | with_reducible exact Below.refl _ _ | with_reducible refine Below.setCell ?_ (by first | omega | (simp; done) | (simp; omega)) _ | with_reducible refine bDrewN ?_ _ | with_reducible refine Below.drew ?_ | with_reducible refine Below.alloc ?_ (by first | omega | (simp; done) | (simp; omega)) _)))⟩
      by_cases q1 : kk = 1
      · subst q1
        go_wp2_with fail
        refine (off_any 0 1000000 (by omega) (by omega) (by omega) HR5.out).mono ?_
        rintro e w6 ⟨x, p6, rfl, wx, R6, b6⟩
        have HR6 : Hid (Rd w6 r s n c p6) := R6
        have RW6 : Hid (RowI w6 (some ⟨g, 0, none⟩) (k * 2) U) := RW.out.beside b6 (by intro g o e; cases e; omega)
        have S6 : Hid (Beside r w w6) := S5.out.trans b6
        have d1 := (b6.cell (p := ⟨g, 0, none⟩) gl (by simp only; omega)).trans gc0
        have f1 := (b6.frozen (p := ⟨g, 0, none⟩) gl (by simp only; omega)).trans gf0
        have g6 : g < w6.heap.size := Nat.lt_of_lt_of_le gl b6.2.2.2.1
        clear R6 b6 RW S5 HR5 gc0 gc1 gf0 gf1 gl
        go_wp2
        go_ret
        exact ⟨k, _, _, _, p6, rfl, km, (by intro g o e; cases e; omega), row_at RW6.out, Rd.below' HR6.out (show Below (r + 1) w6 _ from (by repeat (first | with_reducible exact Below.refl _ _ | with_reducible refine Below.setCell ?_ (by first | omega | (simp; done) | (simp; omega)) _ | with_reducible refine bDrewN ?_ _ | with_reducible refine Below.drew ?_ | with_reducible refine Below.alloc ?_ (by first | omega | (simp; done) | (simp; omega)) _))), S6.out.on (show Below w.heap.size w6 _ from (by repeat (first | with_reducible exact Below.refl _ _ | with_reducible refine Below.setCell ?_ (by first | omega | (simp; done) | (simp; omega)) _ | with_reducible refine bDrewN ?_ _ | with_reducible refine Below.drew ?_ | with_reducible refine Below.alloc ?_ (by first | omega | (simp; done) | (simp; omega)) _)))⟩
      by_cases q2 : kk = 2
      · subst q2
        go_wp2
        go_ret
        exact ⟨0, _, _, U, p5, rfl, by omega, (by intro g o e; cases e; omega), fun j hj => by omega, HR5.out, S5.out⟩
      have e0 : (kk == 0) = false := by simpa using q0
      have e1 : (kk == 1) = false := by simpa using q1
      have e2 : (kk == 2) = false := by simpa using q2
      go_wp2
      go_ret
      exact ⟨k, _, _, U, p5, rfl, km, (by intro g o e; cases e; omega), RW.out, HR5.out, S5.out⟩
end Go.Proofs.Ytgekkblfnfclmaa
