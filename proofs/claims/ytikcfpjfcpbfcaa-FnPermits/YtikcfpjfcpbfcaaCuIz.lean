/-
What is proved: impl.CutOff says of a right net whether no way leads to the place.
-/
import Derived.Test.YtikcfpjfcpbfcaaCuRz
import Derived.Test.YtikcfpjfcpbfcaaCuSz
import Derived.Deep.DeepCutAuto
import Derived.BigQuiet
namespace Go.Proofs.Ytikcfpjfcpbfcaa
set_option maxRecDepth 40000
open Go.ChangeShapes Go.WideShapes Go.ChangeAt Go.RowKit
set_option linter.unusedVariables false
set_option linter.unusedSimpArgs false

set_option maxRecDepth 20000 in
set_option maxHeartbeats 2000000 in
theorem implCutOff_any (p : Int) (s : Option Addr) (n c : Nat) (D : Nat → Int × Int) (t : Option Addr) (m d : Nat) (S : Nat → Int) (q : Option Addr) (nq cq : Nat) (Q : Nat → Int) (x : Int) (w : World) (hn : (n : Int) ≤ 1048576) (hm : (m : Int) ≤ 1048576) (hq : (nq : Int) ≤ 1048576) (HD : Hid (RowDuct w s n D)) (HS : Hid (RowI w t m S)) (HQ : Hid (RowI w q nq Q)) :
    Calls Try.prog 36 #[.agg #[.int .i64 p, .slice s n c, .slice t m d], .slice q nq cq, .int .i64 x] w fun e w' => e = .returned (.bool (cutB p n D m S nq Q x)) ∧ Below w.heap.size w w' := by
  go_enter Try.func36, Try.ntmps36
  go_wp2_with fail
  refine (implNetOk_any p s n c D t m d S _ hn hm (HD.out.below (by repeat (first | with_reducible exact Below.refl _ _ | with_reducible refine Below.setCell ?_ (by first | omega | (simp; done) | (simp; omega)) _ | with_reducible refine bDrewN ?_ _ | with_reducible refine Below.drew ?_ | with_reducible refine Below.alloc ?_ (by first | omega | (simp; done) | (simp; omega)) _))) (HS.out.below (by repeat (first | with_reducible exact Below.refl _ _ | with_reducible refine Below.setCell ?_ (by first | omega | (simp; done) | (simp; omega)) _ | with_reducible refine bDrewN ?_ _ | with_reducible refine Below.drew ?_ | with_reducible refine Below.alloc ?_ (by first | omega | (simp; done) | (simp; omega)) _)))).mono ?_
  rintro e w1 ⟨rfl, hb⟩
  have a0 := (hb.cell (p := ⟨w.heap.size, 0, none⟩) (by simp)).trans (by simp [go_sem] : _ = some (.int .i64 p))
  have a1 := (hb.cell (p := ⟨w.heap.size, 1, none⟩) (by simp)).trans (by simp [go_sem] : _ = some (.slice s n c))
  have a2 := (hb.cell (p := ⟨w.heap.size, 2, none⟩) (by simp)).trans (by simp [go_sem] : _ = some (.slice t m d))
  have z1 : w.heap.size < w1.heap.size := by have := hb.size; simp at this; omega
  have B1 : Below w.heap.size w w1 := Below.trans (by repeat (first | with_reducible exact Below.refl _ _ | with_reducible refine Below.setCell ?_ (by first | omega | (simp; done) | (simp; omega)) _ | with_reducible refine bDrewN ?_ _ | with_reducible refine Below.drew ?_ | with_reducible refine Below.alloc ?_ (by first | omega | (simp; done) | (simp; omega)) _)) (hb.mono (by first | omega | (simp; done) | (simp; omega)))
  clear hb
  cases h0 : netB p n D m S
  · have HO : Hid (cutB p n D m S nq Q x = false) := by show _ = _; unfold cutB; rw [h0]; rfl
    go_wp2
    go_ret
    exact ⟨ret_bool HO.out.symm, (by repeat (first | with_reducible exact Below.refl _ _ | with_reducible exact B1 | with_reducible refine Below.setCell ?_ (by first | omega | (simp; done) | (simp; omega)) _ | with_reducible refine bDrewN ?_ _ | with_reducible refine Below.drew ?_ | with_reducible refine Below.alloc ?_ (by first | omega | (simp; done) | (simp; omega)) _))⟩
  have HN : Hid (netB p n D m S = true) := h0
  obtain ⟨P, hP, p0, p1, n40, hE, hI, hEN⟩ := net_ends h0
  have hdu := (net_yes h0).2.2.1
  have hm30 := ris_len (net_yes h0).2.2.2.1 (net_yes h0).2.2.2.2 (by omega)
  subst hP
  have HE : Hid (∀ j, j < n → (0 ≤ (D j).1 ∧ (D j).1 ≤ 29) ∧ (0 ≤ (D j).2 ∧ (D j).2 ≤ 29) ∧ (D j).1 ≠ (D j).2) := fun j hj => by have h1 := duc_yes (hdu j hj); exact ⟨⟨h1.1.1, by omega⟩, ⟨h1.2.1.1, by omega⟩, h1.2.2⟩
  have HI : Hid (∀ j, j < m → 0 ≤ S j ∧ S j ≤ 29) := fun j hj => by have := hI j hj; omega
  clear hE hI h0 hdu hEN
  go_wp2_with fail
  refine (isPlace_any (P : Int) s n c t m d x _ (by omega) (by omega)).mono ?_
  rintro e w2 ⟨rfl, h2⟩
  replace a0 := (h2.cell (p := ⟨w.heap.size, 0, none⟩) z1).trans a0
  replace a1 := (h2.cell (p := ⟨w.heap.size, 1, none⟩) z1).trans a1
  replace a2 := (h2.cell (p := ⟨w.heap.size, 2, none⟩) z1).trans a2
  replace z1 := Nat.lt_of_lt_of_le z1 h2.size
  have B2 : Below w.heap.size w w2 := B1.trans (h2.mono B1.size)
  clear h2 B1
  cases h1 : inB 0 ((P : Int) - 1) x
  · have HO : Hid (cutB (P : Int) n D m S nq Q x = false) := by show _ = _; unfold cutB; rw [HN.out, h1]; rfl
    go_wp2
    go_ret
    exact ⟨ret_bool HO.out.symm, (by repeat (first | with_reducible exact Below.refl _ _ | with_reducible exact B2 | with_reducible refine Below.setCell ?_ (by first | omega | (simp; done) | (simp; omega)) _ | with_reducible refine bDrewN ?_ _ | with_reducible refine Below.drew ?_ | with_reducible refine Below.alloc ?_ (by first | omega | (simp; done) | (simp; omega)) _))⟩
  have H1 : Hid (inB 0 ((P : Int) - 1) x = true) := h1
  obtain ⟨x0, x1⟩ := inB_yes h1
  clear h1
  go_wp2_with fail
  refine (reached_any P s n c D t m d S q nq cq Q _ (by omega) hm hq (HD.out.below (by repeat (first | with_reducible exact Below.refl _ _ | with_reducible exact B2 | with_reducible refine Below.setCell ?_ (by first | omega | (simp; done) | (simp; omega)) _ | with_reducible refine bDrewN ?_ _ | with_reducible refine Below.drew ?_ | with_reducible refine Below.alloc ?_ (by first | omega | (simp; done) | (simp; omega)) _))) (HS.out.below (by repeat (first | with_reducible exact Below.refl _ _ | with_reducible exact B2 | with_reducible refine Below.setCell ?_ (by first | omega | (simp; done) | (simp; omega)) _ | with_reducible refine bDrewN ?_ _ | with_reducible refine Below.drew ?_ | with_reducible refine Below.alloc ?_ (by first | omega | (simp; done) | (simp; omega)) _))) (HQ.out.below (by repeat (first | with_reducible exact Below.refl _ _ | with_reducible exact B2 | with_reducible refine Below.setCell ?_ (by first | omega | (simp; done) | (simp; omega)) _ | with_reducible refine bDrewN ?_ _ | with_reducible refine Below.drew ?_ | with_reducible refine Below.alloc ?_ (by first | omega | (simp; done) | (simp; omega)) _))) HE HI).mono ?_
  rintro e w3 ⟨v, L, rfl, O3, b3, hl, hall⟩
  have B3 : Below w.heap.size w w3 := B2.trans (Below.trans (by repeat (first | with_reducible exact Below.refl _ _ | with_reducible refine Below.setCell ?_ (by first | omega | (simp; done) | (simp; omega)) _ | with_reducible refine bDrewN ?_ _ | with_reducible refine Below.drew ?_ | with_reducible refine Below.alloc ?_ (by first | omega | (simp; done) | (simp; omega)) _)) (b3.mono (by first | omega | (simp; done) | (simp; omega))) |>.mono B2.size)
  obtain ⟨sl, cap, hv, O⟩ := own_OwnI (size := 1) (n := L.length) (U := nthI L) (by rw [Nat.mul_one, vals_nth]; exact O3)
  rw [Nat.mul_one] at O
  subst hv
  have HC : Hid (cutB (P : Int) n D m S nq Q x = !hasB (nthI L) L.length x) := by
    show _ = _
    have h := cut_reach (nq := nq) (Q := Q) HN.out H1.out
    rw [← hall] at h
    have e : ((x.toNat : Nat) : Int) = x := by omega
    rw [e] at h
    have h2 : hasB (nthI L) L.length x = true ↔ x ∈ L := by
      unfold hasB
      rw [decide_eq_true_iff]
      exact ⟨fun ⟨j, hj, e⟩ => e ▸ nthI_mem hj, fun hx => mem_nthI hx⟩
    rw [← h2] at h
    revert h
    cases cutB (P : Int) n D m S nq Q x <;> cases hasB (nthI L) L.length x <;> simp
  have HR : Hid (RowI w3 sl L.length (nthI L)) := O.row
  clear O O3 b3 hall
  go_wp2_with fail
  refine (contains_any sl L.length cap (nthI L) x _ (by omega) (HR.out.below (by repeat (first | with_reducible exact Below.refl _ _ | with_reducible refine Below.setCell ?_ (by first | omega | (simp; done) | (simp; omega)) _ | with_reducible refine bDrewN ?_ _ | with_reducible refine Below.drew ?_ | with_reducible refine Below.alloc ?_ (by first | omega | (simp; done) | (simp; omega)) _)))).mono ?_
  rintro e w4 ⟨rfl, rfl⟩
  go_wp2
  go_ret
  exact ⟨ret_bool HC.out.symm, (by repeat (first | with_reducible exact Below.refl _ _ | with_reducible exact B3 | with_reducible refine Below.setCell ?_ (by first | omega | (simp; done) | (simp; omega)) _ | with_reducible refine bDrewN ?_ _ | with_reducible refine Below.drew ?_ | with_reducible refine Below.alloc ?_ (by first | omega | (simp; done) | (simp; omega)) _))⟩
end Go.Proofs.Ytikcfpjfcpbfcaa
