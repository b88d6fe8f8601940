/-
What is proved: a feeder that is drawn from a code: at most 21 relays, any int64s.
-/
import Derived.Test.YtmhibahefbldaaaRlD
import Derived.Deep.RegionHeld3
import Derived.Deep.DeepCutAuto
namespace Go.Proofs.Ytmhibahefbldaaa
set_option maxRecDepth 40000
open Go.RowKit
set_option linter.unusedVariables false
set_option linter.unusedSimpArgs false

def FdPost (r : Nat) (s : Option Addr) (n c : Nat) (w : World) (e : Ending) (w' : World) : Prop := ∃ m t ct V p', e = .returned (.slice t m ct) ∧ m ≤ 30 ∧ m ≤ ct ∧ (∀ g o, t = some ⟨g, o, none⟩ → w.heap.size ≤ g) ∧ RowI w' t (m * 2) V ∧ Rd w' r s n c p' ∧ Beside r w w'
theorem fd_of {r : Nat} {s : Option Addr} {n c : Nat} {w : World} {e : Ending} {w' : World} (m : Nat) (t : Option Addr) (ct : Nat) (V : Nat → Int) (p' : Nat) (h0 : e = .returned (.slice t m ct)) (h1 : m ≤ 30) (h2 : m ≤ ct) (h3 : ∀ g o, t = some ⟨g, o, none⟩ → w.heap.size ≤ g) (h4 : RowI w' t (m * 2) V) (h5 : Rd w' r s n c p') (h6 : Beside r w w') : FdPost r s n c w e w' := ⟨m, t, ct, V, p', h0, h1, h2, h3, h4, h5, h6⟩
set_option maxRecDepth 20000 in
set_option maxHeartbeats 16000000 in
theorem feeder_any {r : Nat} {s : Option Addr} {n c p : Nat} {w : World} (h : Hid (Rd w r s n c p)) : Calls Try.prog 36 #[.pointer (some ⟨r, 0, none⟩)] w fun e w' => FdPost r s n c w e w' := by
  have zr : r < w.heap.size := h.out.1
  go_enter Try.func36, Try.ntmps36
  go_wp2_with fail
  refine (upto_any 300 (by decide) (Rd.below h.out (below0 w _))).mono ?_
  rintro e w2 ⟨x, p2, rfl, x0, x1, R2, b2⟩
  have LIT : (w.alloc (.cells #[] 25)).ownsRow w.heap.size 25 2 (.slice (some ⟨w.heap.size, 0, none⟩) 0 0) 0 (vals (fun _ => 0) (0 * 2)) := by simpa [vals] using World.ownsRow_lit (base := w.heap.size) (size := 2) (e := 25) w #[] 0 (Nat.le_refl _) (by simp [maxLen]) (by simp)
  have D2 : Hid (DrawnU r s n c w w2 (.slice (some ⟨w.heap.size, 0, none⟩) 0 0) 0 (fun _ => 0)) := drawnU_read zr ⟨LIT, Beside.of (below0 w _), p, Rd.below h.out (below0 w _)⟩ b2 R2
  have HR2 : Hid (Rd w2 r s n c p2) := R2
  clear LIT R2 b2
  obtain ⟨s1, s2, s3, s4, s5, s6, -⟩ := HR2.out
  have n1 : (n : Int) ≤ 1048576 := by omega
  have d0 : 0 ≤ (n : Int) / 4 := by omega
  have d1 : (n : Int) / 4 ≤ (n : Int) := by omega
  obtain ⟨M, hM⟩ : ∃ M, (if 1 + (n : Int) / 4 < 6 then 1 + (n : Int) / 4 else 6) = M := ⟨_, rfl⟩
  have m0 : 1 ≤ M ∧ M ≤ 6 := by rw [← hM]; split <;> omega
  obtain ⟨m1, m2⟩ := m0
  have x2 : x ≤ 300 := by omega
  clear x1 s2 s4
  go_wp2_with fail
  refine (below_any M HR2.out).mono ?_
  rintro e w3 ⟨N', p3, rfl, N0, N1, N2, R3, b3⟩
  have D3 : Hid (DrawnU r s n c w w3 (.slice (some ⟨w.heap.size, 0, none⟩) 0 0) 0 (fun _ => 0)) := drawnU_read zr D2.out b3 R3
  have N3 : N' ≤ 6 := by omega
  clear R3 b3 D2 HR2 s1 s3 s5 s6 hM N1 N2
  go_wp2_with fail
  go_loopw [3, 4, 5, 6] (fun va dl pk i wr => ∃ (k : Nat) (U : Nat → Int) (D P : Int), (k : Int) ≤ 1 + N' ∧ i = .int .i64 (1 + N' - k) ∧ dl = .int .i64 D ∧ pk = .int .i64 P ∧ 1 ≤ D ∧ D ≤ 100 ∧ 1 ≤ P ∧ P ≤ 400 ∧ Hid (DrawnU r s n c w wr va k U)) (fun _ _ _ i _ => (intOf i).toNat)
  case atStart => exact ⟨0, fun _ => 0, 100, 100 + x, by omega, by simp, rfl, rfl, by omega, by omega, by omega, by omega, D3.out⟩
  case round =>
    obtain ⟨k, U, D, P, hk, rfl, rfl, rfl, D0, D1, P0, P1, HD⟩ := hrel
    clear D3
    by_cases hlt : (k : Int) < 1 + N'
    case pos =>
      have q0 : 0 < 1 + N' - (k : Int) := by omega
      have HO : Hid (wr.ownsRow w.heap.size 25 2 u3 k (vals U (k * 2))) := HD.out.1
      have z4 : w.heap.size ≤ wr.heap.size := HD.out.2.1.2.2.2.1
      go_wp2_with (at_builtin; refine list_unit w.heap.size u3 k (vals U (k * 2)) (.tmp 27) (.tmp 31) (by rfl) (by rfl) (by rfl) (by rfl) HO.out (by omega) (by omega) ?_; intro g' cap' w5 hown5 hgrow5 hlt5)
      have H5 : Hid (DrawnU r s n c w w5 (.slice (some ⟨g', 0, none⟩) (k + 1) cap') (k + 1) (putU U k P D)) := drawnU_on zr HD.out hown5 hgrow5
      clear hown5 hgrow5 HD HO
      obtain ⟨-, -, p5, R5⟩ := H5.out
      have HR5 : Hid (Rd w5 r s n c p5) := R5
      clear R5
      refine (near_any 0 40 (by omega) (by omega) (by omega) HR5.out).mono ?_
      rintro e w6 ⟨a, p6, rfl, aa, ab, R6, b6⟩
      have H6 : Hid (DrawnU r s n c w w6 (.slice (some ⟨g', 0, none⟩) (k + 1) cap') (k + 1) (putU U k P D)) := drawnU_read zr H5.out b6 R6
      have HR6 : Hid (Rd w6 r s n c p6) := R6
      clear R6 b6 H5 HR5
      obtain ⟨D', hD'⟩ : ∃ D', (if 1 < D - a then D - a else 1) = D' := ⟨_, rfl⟩
      have dd : 1 ≤ D' ∧ D' ≤ 100 := by rw [← hD']; split <;> omega
      go_wp2_with fail
      refine (near_any 0 60 (by omega) (by omega) (by omega) HR6.out).mono ?_
      rintro e w7 ⟨b, p7, rfl, ba, bb, R7, b7⟩
      have H7 : Hid (DrawnU r s n c w w7 (.slice (some ⟨g', 0, none⟩) (k + 1) cap') (k + 1) (putU U k P D)) := drawnU_read zr H6.out b7 R7
      clear R7 b7 H6 HR6
      obtain ⟨P', hP'⟩ : ∃ P', (if 1 < P - b then P - b else 1) = P' := ⟨_, rfl⟩
      have pp : 1 ≤ P' ∧ P' ≤ 400 := by rw [← hP']; split <;> omega
      go_wp2
      go_roundw
      case rel => exact ⟨k + 1, putU U k P D, D', P', by omega, by congr 1; omega, (by first | rfl | rw [hD']), (by first | rfl | rw [hP']), dd.1, dd.2, pp.1, pp.2, H7.out⟩
      case measure => simp [intOf]; omega
    case neg =>
      obtain ⟨t, cap, hv, ho⟩ := drawnU_own HD.out
      obtain ⟨g, ht, gB, gl, gc0, gf0⟩ := ho 0 (by omega)
      subst ht
      subst hv
      have kc : k ≤ cap := own_cap HD.out.1
      have k30 : k ≤ 7 := by omega
      have kp : (0 : Int) < (k : Int) := by omega
      clear gl gc0 gf0 ho
      obtain ⟨-, -, p5, R5⟩ := HD.out
      go_wp2_with fail
      refine (below_any 24 R5).mono ?_
      rintro e w5 ⟨kk, p6, rfl, c0, c1, c2, R6, b6⟩
      have H5 : Hid (DrawnU r s n c w w5 (.slice (some ⟨g, 0, none⟩) k cap) k U) := drawnU_read zr HD.out b6 R6
      have HR5 : Hid (Rd w5 r s n c p6) := R6
      clear R5 R6 b6 HD
      by_cases q1 : kk = 1
      · subst q1
        go_wp2_with fail
        refine (below_any 2 HR5.out).mono ?_
        rintro e w6 ⟨z, p7, rfl, z0, z1, z2, R7, b7⟩
        have H6 : Hid (DrawnU r s n c w w6 (.slice (some ⟨g, 0, none⟩) k cap) k U) := drawnU_read zr H5.out b7 R7
        have z3 : z ≤ 2 := by omega
        clear R7 b7 H5 HR5 z1 z2
        go_wp2_with fail
        go_loopw [3] (fun va wr => ∃ (j : Nat) (U : Nat → Int), 1 ≤ j ∧ (j : Int) ≤ 20 + z ∧ Hid (DrawnU r s n c w wr va j U)) (fun va _ => ((20 + z) - (lenV va : Int)).toNat)
        case atStart => exact ⟨k, U, by omega, by omega, H6.out⟩
        case round =>
          obtain ⟨j, U', hj0, hj, HD⟩ := hrel
          clear H6
          obtain ⟨t, cap', rfl, ho⟩ := drawnU_own HD.out
          obtain ⟨g2, ht, gB2, gl, gc0, gf0⟩ := ho 0 (by omega)
          obtain ⟨g3, ht', gB3, gl', gc1, gf1⟩ := ho 1 (by omega)
          subst ht
          cases ht'
          have jc : j ≤ cap' := own_cap HD.out.1
          by_cases hlt2 : (j : Int) < 20 + z
          · have HO : Hid (wr.ownsRow w.heap.size 25 2 (.slice (some ⟨g2, 0, none⟩) j cap') j (vals U' (j * 2))) := HD.out.1
            have z4 : w.heap.size ≤ wr.heap.size := HD.out.2.1.2.2.2.1
            have jp : (0 : Int) < (j : Int) := by omega
            clear ho
            go_wp2_with (at_builtin; refine list_unit w.heap.size (.slice (some ⟨g2, 0, none⟩) j cap') j (vals U' (j * 2)) (.tmp 60) (.tmp 64) (by rfl) (by rfl) (by rfl) (by rfl) HO.out (by omega) (by omega) ?_; intro g' cap' w5 hown5 hgrow5 hlt5)
            go_roundw
            case rel => exact ⟨j + 1, putU U' j (U' 0) (U' 1), by omega, by omega, drawnU_on zr HD.out hown5 hgrow5⟩
            case measure => simp [lenV]; omega
          · have RW : Hid (RowI wr (some ⟨g2, 0, none⟩) (j * 2) U') := ho.row
            have S5 : Hid (Beside r w wr) := HD.out.2.1
            obtain ⟨-, -, p7, R7⟩ := HD.out
            have HR7 : Hid (Rd wr r s n c p7) := R7
            clear R7 HD ho gc0 gc1 gf0 gf1
            go_wp2
            go_ret
            exact fd_of j _ cap' U' p7 rfl (by omega) jc (by intro g o e; cases e; omega) RW.out HR7.out S5.out
      have n1' : (kk == 1) = false := by simpa using q1
      obtain ⟨t, cap2, hv, ho⟩ := drawnU_own H5.out
      cases hv
      obtain ⟨g2, ht, gB2, gl, gc0, gf0⟩ := ho 0 (by omega)
      obtain ⟨g3, ht', gB3, gl', gc1, gf1⟩ := ho 1 (by omega)
      cases ht
      cases ht'
      have RW : Hid (RowI w5 (some ⟨g, 0, none⟩) (k * 2) U) := ho.row
      have S5 : Hid (Beside r w w5) := H5.out.2.1
      clear ho H5 gB3 gl' gB2
      by_cases q0 : kk = 0
      · subst q0
        go_wp2_with fail
        refine (relay_any HR5.out).mono ?_
        rintro e w6 ⟨a, b, p7, rfl, R7, b7⟩
        have HR6 : Hid (Rd w6 r s n c p7) := R7
        have RW6 : Hid (RowI w6 (some ⟨g, 0, none⟩) (k * 2) U) := RW.out.beside b7 (by intro g o e; cases e; omega)
        have S6 : Hid (Beside r w w6) := S5.out.trans b7
        have e0 := (b7.cell (p := ⟨g, 0, none⟩) gl (by simp only; omega)).trans gc0
        have e1 := (b7.cell (p := ⟨g, 1, none⟩) gl (by simp only; omega)).trans gc1
        have f0 := (b7.frozen (p := ⟨g, 0, none⟩) gl (by simp only; omega)).trans gf0
        have f1 := (b7.frozen (p := ⟨g, 1, none⟩) gl (by simp only; omega)).trans gf1
        have g6 : g < w6.heap.size := Nat.lt_of_lt_of_le gl b7.2.2.2.1
        clear R7 b7 RW S5 HR5 gc0 gc1 gf0 gf1 gl
        go_wp2
        go_ret
        exact fd_of k _ cap _ p7 rfl (by omega) kc (by intro g o e; cases e; omega) (row_at (row_at RW6.out)) (Rd.below' HR6.out (show Below (r + 1) w6 _ from (by repeat (first | with_reducible exact Below.refl _ _ | with_reducible refine Below.setCell ?_ (by first | omega | (simp; done) | (simp; omega)) _ | with_reducible refine bDrewN ?_ _ | with_reducible refine Below.drew ?_ | with_reducible refine Below.alloc ?_ (by first | omega | (simp; done) | (simp; omega)) _)))) (S6.out.on (show Below w.heap.size w6 _ from (by repeat (first | with_reducible exact Below.refl _ _ | with_reducible refine Below.setCell ?_ (by first | omega | (simp; done) | (simp; omega)) _ | with_reducible refine bDrewN ?_ _ | with_reducible refine Below.drew ?_ | with_reducible refine Below.alloc ?_ (by first | omega | (simp; done) | (simp; omega)) _))))
      have n0' : (kk == 0) = false := by simpa using q0
      clear gc0 gc1 gf0 gf1
      by_cases q2 : kk = 2
      · subst q2
        go_wp2
        go_ret
        exact fd_of 0 _ cap U p6 rfl (by omega) (by omega) (by intro g o e; cases e; omega) (fun j hj => by omega) HR5.out S5.out
      have n2' : (kk == 2) = false := by simpa using q2
      go_wp2
      go_ret
      exact fd_of k _ cap U p6 rfl (by omega) kc (by intro g o e; cases e; omega) RW.out HR5.out S5.out
end Go.Proofs.Ytmhibahefbldaaa
