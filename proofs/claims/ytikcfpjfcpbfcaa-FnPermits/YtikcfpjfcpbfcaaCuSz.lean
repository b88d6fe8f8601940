/-
What is proved: spec.CutOff says of a right net whether no way leads to the place.
-/
import Derived.Test.YtikcfpjfcpbfcaaCuWz
import Derived.Deep.RegionHeld3
import Derived.Deep.DeepCutAuto
import Derived.BigQuiet
namespace Go.Proofs.Ytikcfpjfcpbfcaa
set_option maxRecDepth 40000
open Go.ChangeShapes Go.WideShapes Go.ChangeAt Go.RowKit
set_option linter.unusedVariables false
set_option linter.unusedSimpArgs false

/-- Whether the place is cut off, in numbers. -/
def cutB (p : Int) (n : Nat) (D : Nat → Int × Int) (m : Nat) (S : Nat → Int) (nq : Nat) (Q : Nat → Int) (x : Int) : Bool := netB p n D m S && (inB 0 (p - 1) x && !wetW n D (hasW Q nq) (hasW S m) p.toNat x.toNat)
theorem net_ends {p : Int} {n : Nat} {D : Nat → Int × Int} {m : Nat} {S : Nat → Int} (h : netB p n D m S = true) : ∃ P : Nat, p = (P : Int) ∧ 1 ≤ P ∧ P ≤ 30 ∧ n ≤ 40 ∧ (∀ j, j < n → (0 ≤ (D j).1 ∧ (D j).1 ≤ (P : Int) - 1) ∧ 0 ≤ (D j).2 ∧ (D j).2 ≤ (P : Int) - 1) ∧ (∀ j, j < m → 0 ≤ S j ∧ S j ≤ (P : Int) - 1) ∧ ∀ j, j < n → endA D j < P ∧ endB D j < P := by
  obtain ⟨⟨p0, p1⟩, hn, hD, _, hS⟩ := net_yes h
  obtain ⟨P, rfl⟩ : ∃ P : Nat, p = (P : Int) := ⟨p.toNat, by omega⟩
  refine ⟨P, rfl, by omega, by omega, hn, fun j hj => ?_, hS, fun j hj => ?_⟩
  · have := duc_yes (hD j hj); exact ⟨this.1, this.2.1⟩
  · have := duc_yes (hD j hj); unfold endA endB; omega
theorem cut_reach {p : Int} {n : Nat} {D : Nat → Int × Int} {m : Nat} {S : Nat → Int} {nq : Nat} {Q : Nat → Int} {x : Int} (h : netB p n D m S = true) (hx : inB 0 (p - 1) x = true) : cutB p n D m S nq Q x = true ↔ ¬ Reach n D (hasW Q nq) (hasW S m) x.toNat := by
  obtain ⟨P, rfl, _, _, _, _, _, hE⟩ := net_ends h
  rw [← wet_reach (p := P) hE]
  unfold cutB
  rw [h, hx]
  simp
set_option maxRecDepth 20000 in
set_option maxHeartbeats 2000000 in
theorem specCutOff_any (p : Int) (s : Option Addr) (n c : Nat) (D : Nat → Int × Int) (t : Option Addr) (m d : Nat) (S : Nat → Int) (q : Option Addr) (nq cq : Nat) (Q : Nat → Int) (x : Int) (w : World) (hn : (n : Int) ≤ 1048576) (hm : (m : Int) ≤ 1048576) (hq : (nq : Int) ≤ 1048576) (HD : Hid (RowDuct w s n D)) (HS : Hid (RowI w t m S)) (HQ : Hid (RowI w q nq Q)) :
    Calls Try.prog 47 #[.agg #[.int .i64 p, .slice s n c, .slice t m d], .slice q nq cq, .int .i64 x] w fun e w' => e = .returned (.bool (cutB p n D m S nq Q x)) ∧ Below w.heap.size w w' := by
  go_enter Try.func47, Try.ntmps47
  go_wp2_with fail
  refine (specNetOk_any p s n c D t m d S _ hn hm (HD.out.below (by repeat (first | with_reducible exact Below.refl _ _ | with_reducible refine Below.setCell ?_ (by first | omega | (simp; done) | (simp; omega)) _ | with_reducible refine bDrewN ?_ _ | with_reducible refine Below.drew ?_ | with_reducible refine Below.alloc ?_ (by first | omega | (simp; done) | (simp; omega)) _))) (HS.out.below (by repeat (first | with_reducible exact Below.refl _ _ | with_reducible refine Below.setCell ?_ (by first | omega | (simp; done) | (simp; omega)) _ | with_reducible refine bDrewN ?_ _ | with_reducible refine Below.drew ?_ | with_reducible refine Below.alloc ?_ (by first | omega | (simp; done) | (simp; omega)) _)))).mono ?_
  rintro e w1 ⟨rfl, hb⟩
  have a0 := (hb.cell (p := ⟨w.heap.size, 0, none⟩) (by simp)).trans (by simp [go_sem] : _ = some (.int .i64 p))
  have a1 := (hb.cell (p := ⟨w.heap.size, 1, none⟩) (by simp)).trans (by simp [go_sem] : _ = some (.slice s n c))
  have a2 := (hb.cell (p := ⟨w.heap.size, 2, none⟩) (by simp)).trans (by simp [go_sem] : _ = some (.slice t m d))
  have z1 : w.heap.size < w1.heap.size := by have := hb.size; simp at this; omega
  have B1 : Below w.heap.size w w1 := Below.trans (by repeat (first | with_reducible exact Below.refl _ _ | with_reducible refine Below.setCell ?_ (by first | omega | (simp; done) | (simp; omega)) _ | with_reducible refine bDrewN ?_ _ | with_reducible refine Below.drew ?_ | with_reducible refine Below.alloc ?_ (by first | omega | (simp; done) | (simp; omega)) _)) (hb.mono (by first | omega | (simp; done) | (simp; omega)))
  clear hb
  cases h0 : netB p n D m S
  · have HO : Hid (cutB p n D m S nq Q x = false) := by show _ = _; unfold cutB; rw [h0]; rfl
    go_wp2
    go_ret
    exact ⟨ret_bool HO.out.symm, (by repeat (first | with_reducible exact Below.refl _ _ | with_reducible exact B1 | with_reducible refine Below.setCell ?_ (by first | omega | (simp; done) | (simp; omega)) _ | with_reducible refine bDrewN ?_ _ | with_reducible refine Below.drew ?_ | with_reducible refine Below.alloc ?_ (by first | omega | (simp; done) | (simp; omega)) _))⟩
  obtain ⟨P, rfl, p0, p1, n40, hE, hI, -⟩ := net_ends h0
  have HE : Hid (∀ j, j < n → (0 ≤ (D j).1 ∧ (D j).1 ≤ (P : Int) - 1) ∧ 0 ≤ (D j).2 ∧ (D j).2 ≤ (P : Int) - 1) := hE
  have HI : Hid (∀ j, j < m → 0 ≤ S j ∧ S j ≤ (P : Int) - 1) := hI
  have HN : Hid (netB (P : Int) n D m S = true) := h0
  clear hE hI h0
  go_wp2_with fail
  refine (l1In_is _ _ _ _).mono ?_
  rintro e w2 ⟨rfl, rfl⟩
  cases h1 : inB 0 ((P : Int) - 1) x
  · have HO : Hid (cutB (P : Int) n D m S nq Q x = false) := by show _ = _; unfold cutB; rw [HN.out, h1]; rfl
    go_wp2
    go_ret
    exact ⟨ret_bool HO.out.symm, (by repeat (first | with_reducible exact Below.refl _ _ | with_reducible exact B1 | with_reducible refine Below.setCell ?_ (by first | omega | (simp; done) | (simp; omega)) _ | with_reducible refine bDrewN ?_ _ | with_reducible refine Below.drew ?_ | with_reducible refine Below.alloc ?_ (by first | omega | (simp; done) | (simp; omega)) _))⟩
  obtain ⟨x0, x1⟩ := inB_yes h1
  obtain ⟨y, rfl⟩ : ∃ y : Nat, x = (y : Int) := ⟨x.toNat, by omega⟩
  have yP : (y : Int) < (P : Int) := by omega
  have HO : Hid (cutB (P : Int) n D m S nq Q (y : Int) = !wetW n D (hasW Q nq) (hasW S m) P y) := by show _ = _; unfold cutB; rw [HN.out, h1]; simp
  have HB : Hid (Below w.heap.size w w2) := B1
  clear h1
  go_upto_region 3 with fail
  go_region_with (first
    | (go_at_call 86; refine (l22Wet_any P s n c D t m d S _ _ (hasW Q nq) _ p1 (by omega) hm (HD.out.below (HB.out.trans (Below.mono (by repeat (first | with_reducible exact Below.refl _ _ | with_reducible exact b3 | with_reducible refine Below.setCell ?_ (by first | omega | (simp; done) | (simp; omega)) _ | with_reducible refine bDrewN ?_ _ | with_reducible refine Below.drew ?_ | with_reducible refine Below.alloc ?_ (by first | omega | (simp; done) | (simp; omega)) _)) HB.out.size))) (HS.out.below (HB.out.trans (Below.mono (by repeat (first | with_reducible exact Below.refl _ _ | with_reducible exact b3 | with_reducible refine Below.setCell ?_ (by first | omega | (simp; done) | (simp; omega)) _ | with_reducible refine bDrewN ?_ _ | with_reducible refine Below.drew ?_ | with_reducible refine Below.alloc ?_ (by first | omega | (simp; done) | (simp; omega)) _)) HB.out.size))) (FR.out.below (by repeat (first | with_reducible exact Below.refl _ _ | with_reducible refine Below.setCell ?_ (by first | omega | (simp; done) | (simp; omega)) _ | with_reducible refine bDrewN ?_ _ | with_reducible refine Below.drew ?_ | with_reducible refine Below.alloc ?_ (by first | omega | (simp; done) | (simp; omega)) _))) HE HI).mono ?_; rintro e w4 ⟨g4, rfl, F4⟩; have b4 : Below w2.heap.size w2 w4 := b3.trans (Below.trans (by repeat (first | with_reducible exact Below.refl _ _ | with_reducible refine Below.setCell ?_ (by first | omega | (simp; done) | (simp; omega)) _ | with_reducible refine bDrewN ?_ _ | with_reducible refine Below.drew ?_ | with_reducible refine Below.alloc ?_ (by first | omega | (simp; done) | (simp; omega)) _)) ((show Below _ _ _ from F4.1).mono (by first | omega | (simp; done) | (simp; omega))) |>.mono b3.size); have c4 := F4.2.2.2.2 y (by omega); clear F4)
    | (go_at_call 87; refine (l22Shut_any (P : Int) s n c t m d q nq cq Q _ hn hq (HQ.out.below (HB.out.trans (Below.mono (by repeat (first | with_reducible exact Below.refl _ _ | with_reducible refine Below.setCell ?_ (by first | omega | (simp; done) | (simp; omega)) _ | with_reducible refine bDrewN ?_ _ | with_reducible refine Below.drew ?_ | with_reducible refine Below.alloc ?_ (by first | omega | (simp; done) | (simp; omega)) _)) HB.out.size)))).mono ?_; rintro e w3 ⟨g3, rfl, F3⟩; have b3 : Below w2.heap.size w2 w3 := Below.trans (by repeat (first | with_reducible exact Below.refl _ _ | with_reducible refine Below.setCell ?_ (by first | omega | (simp; done) | (simp; omega)) _ | with_reducible refine bDrewN ?_ _ | with_reducible refine Below.drew ?_ | with_reducible refine Below.alloc ?_ (by first | omega | (simp; done) | (simp; omega)) _)) (F3.1.mono (by first | omega | (simp; done) | (simp; omega))); have a03 := (b3.cell (p := ⟨w.heap.size, 0, none⟩) z1).trans a0; have a13 := (b3.cell (p := ⟨w.heap.size, 1, none⟩) z1).trans a1; have a23 := (b3.cell (p := ⟨w.heap.size, 2, none⟩) z1).trans a2; have FR : Hid (RowB w3 (some ⟨g3, 0, none⟩) n (hasW Q nq)) := (fun j hj => ⟨g3, 0, rfl, F3.2.2.1, by rw [Nat.zero_add]; exact F3.2.2.2.2 j hj⟩); clear F3))
  all_goals
    go_wp2_with fail
    go_ret
    exact ⟨ret_bool HO.out.symm, Below.trans HB.out (Below.mono (by repeat (first | with_reducible exact Below.refl _ _ | with_reducible exact b4 | with_reducible refine Below.setCell ?_ (by first | omega | (simp; done) | (simp; omega)) _ | with_reducible refine bDrewN ?_ _ | with_reducible refine Below.drew ?_ | with_reducible refine Below.alloc ?_ (by first | omega | (simp; done) | (simp; omega)) _)) HB.out.size)⟩
end Go.Proofs.Ytikcfpjfcpbfcaa
