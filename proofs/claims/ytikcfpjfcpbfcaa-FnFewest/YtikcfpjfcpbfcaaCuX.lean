/-
What is proved: (impl.Net).exits lays of each duct whose valve is not shut its two exits.
-/
import Derived.Test.YtikcfpjfcpbfcaaCuM
import Derived.Test.YtikcfpjfcpbfcaaCon
import Derived.BigQuiet
namespace Go.Proofs.Ytikcfpjfcpbfcaa
set_option maxRecDepth 40000
open Go.ChangeShapes Go.WideShapes Go.ChangeAt Go.RowKit
set_option linter.unusedVariables false
set_option linter.unusedSimpArgs false

open Go.Maps Go.WideMaps
def opW (n : Nat) (Sh : Nat → Bool) (k v : Nat) : Bool := decide (v < k) && !Sh v
theorem op_shut {n : Nat} {Sh : Nat → Bool} {k : Nat} (h : Sh k = true) : opW n Sh (k + 1) = opW n Sh k := by
  funext v
  unfold opW
  by_cases e : v = k
  · subst e; rw [h]; simp
  · have : decide (v < k + 1) = decide (v < k) := by by_cases q : v < k <;> simp [q] <;> omega
    rw [this]
theorem op_open {n : Nat} {Sh : Nat → Bool} {k : Nat} (h : Sh k = false) : opW n Sh (k + 1) = onW (opW n Sh k) k := by
  funext v
  unfold opW onW
  by_cases e : v = k
  · subst e; rw [h]; simp
  · have : decide (v < k + 1) = decide (v < k) := by by_cases q : v < k <;> simp [q] <;> omega
    rw [this, if_neg e]
theorem has_is (Q : Nat → Int) (n x : Nat) : hasB Q n (x : Int) = hasW Q n x := by
  cases q : hasW Q n x
  · refine decide_eq_false fun h => ?_
    rw [← hasW_iff, q] at h; cases h
  · exact decide_eq_true (hasW_iff.1 q)
set_option maxRecDepth 20000 in
set_option maxHeartbeats 1000000 in
theorem exits_any (p : Int) (s : Option Addr) (n c : Nat) (D : Nat → Int × Int) (t : Option Addr) (m d : Nat) (q : Option Addr) (nq cq : Nat) (Q : Nat → Int) (w : World) (hn : (n : Int) ≤ 40) (hq : (nq : Int) ≤ 1048576) (HD : Hid (RowDuct w s n D)) (HQ : Hid (RowI w q nq Q))
    (HE : Hid (∀ j, j < n → (0 ≤ (D j).1 ∧ (D j).1 ≤ 29) ∧ (0 ≤ (D j).2 ∧ (D j).2 ≤ 29) ∧ (D j).1 ≠ (D j).2)) :
    Calls Try.prog 104 #[.agg #[.int .i64 p, .slice s n c, .slice t m d], .slice q nq cq] w fun e w' => ∃ b M, e = .returned (.map (some b)) ∧ w.heap.size ≤ b ∧ Below w.heap.size w w' ∧ w'.ownsMap Try.prog 129 (plainElem Try.prog 2) (b) (2 * n) M ∧ ExIs M D (opW n (hasW Q nq) n) := by
  have hmm := @run_makeMap Try.prog
  go_enter Try.func104, Try.ntmps104
  go_wp2_with fail
  go_loopw [12] (fun i wr => ∃ k : Nat, ∃ M : DataW Unit, k ≤ n ∧ i = .int .i64 k ∧ Hid (wr.ownsMap Try.prog 129 (plainElem Try.prog 2) (w.heap.size + 1) (2 * k) M) ∧ Hid (ExIs M D (opW n (hasW Q nq) k)) ∧ w.heap.size + 1 < wr.heap.size ∧ Below w.heap.size w wr) (fun i _ => n - (intOf i).toNat)
  case atStart => exact ⟨0, .map [], Nat.zero_le _, rfl, (by show World.ownsMap _ _ _ _ _ _ _; have := World.ownsMap_made (H := Unit) (w.alloc (.cells #[.int .i64 p, .slice s n c, .slice t m d] 41)) Try.prog 129 (plainElem Try.prog 2); simpa using this), (show ExIs _ _ _ from (show opW n (hasW Q nq) 0 = fun _ => false from by funext v; simp [opW]) ▸ ex_empty D), by simp, (by repeat (first | with_reducible exact Below.refl _ _ | with_reducible refine Below.setCell ?_ (by first | omega | (simp; done) | (simp; omega)) _ | with_reducible refine bDrewN ?_ _ | with_reducible refine Below.drew ?_ | with_reducible refine Below.alloc ?_ (by first | omega | (simp; done) | (simp; omega)) _))⟩
  case round =>
    obtain ⟨k, M, hk, rfl, HO, HX, zb, hB⟩ := hrel
    have zW := hB.size
    by_cases h1 : k < n
    · obtain ⟨g, o, rfl, hg, c0, c1⟩ := HD.out k h1
      replace c0 := (hB.cell (p := ⟨g, o + k * 2, none⟩) hg).trans c0
      replace c1 := (hB.cell (p := ⟨g, o + k * 2 + 1, none⟩) hg).trans c1
      obtain ⟨⟨a0, a1⟩, ⟨b0, b1⟩, ab⟩ := HE.out k h1
      obtain ⟨a, ha⟩ : ∃ a : Nat, (D k).1 = (a : Int) := ⟨(D k).1.toNat, by omega⟩
      obtain ⟨b, hb⟩ : ∃ b : Nat, (D k).2 = (b : Int) := ⟨(D k).2.toNat, by omega⟩
      rw [ha] at c0 a1 ab
      rw [hb] at c1 b1 ab
      have HA : Hid (endA D k = a ∧ endB D k = b) := by show _ ∧ _; unfold endA endB; rw [ha, hb]; simp
      have HN : Hid (a ≠ b) := fun e => ab (by rw [e])
      clear ha hb a0 b0 ab
      have zg : g < wr.heap.size := Nat.lt_of_lt_of_le hg hB.size
      have k1 : (k : Int) < (n : Int) := by omega
      have HRQ : Hid (RowI wr q nq Q) := HQ.out.below hB
      cases sh : hasW Q nq k
      · have HX2 : Hid (ExIs ((M.put (exL a k) (.lit (.int .i64 b))).put (exL b k) (.lit (.int .i64 a))) D (opW n (hasW Q nq) (k + 1))) := by
          show ExIs _ _ _
          rw [op_open sh]
          have := HX.out.lay (j := k) (by omega) (by rw [HA.out.1]; omega) (by rw [HA.out.2]; omega) (by rw [HA.out.1, HA.out.2]; exact HN.out)
          rw [HA.out.1, HA.out.2] at this
          exact this
        have HS : Hid (hasB Q nq (k : Int) = false) := (has_is Q nq k).trans sh
        clear sh
        go_wp2_with fail
        refine (contains_any q nq cq Q (k : Int) _ hq (HRQ.out.below (by repeat (first | with_reducible exact Below.refl _ _ | with_reducible refine Below.setCell ?_ (by first | omega | (simp; done) | (simp; omega)) _ | with_reducible refine bDrewN ?_ _ | with_reducible refine Below.drew ?_ | with_reducible refine Below.alloc ?_ (by first | omega | (simp; done) | (simp; omega)) _)))).mono ?_
        rintro e w4 ⟨rfl, rfl⟩
        rw [HS.out]
        go_wp2_with (first
          | (at_mapUpdate; have _t := HO; refine wpList_mapUpdate_own _ rfl _ _ _ 126 rfl 129 2 exLaw Try.underlying126 _ (w.heap.size + 1) (2 * k) _ rfl (HO.out.alloc _) (by unfold maxLen; omega) _ _ _ rfl rfl (exKeyN (x := a) (v := k) (by omega) (by omega)) _ [] (plainElem_int Try.underlying2 (ex_wf (x := b) (by omega))) ?_; intro w5 hown5 hgrow5; have g0 : w5.cell? ⟨wr.heap.size, 0, none⟩ = some (.int .i64 (a : Int)) := (World.cell?_of_block (hgrow5.block wr.heap.size (by simp) (by simp; omega))).trans (by simp [go_sem]); have g1 : w5.cell? ⟨wr.heap.size, 1, none⟩ = some (.int .i64 (b : Int)) := (World.cell?_of_block (hgrow5.block wr.heap.size (by simp) (by simp; omega))).trans (by simp [go_sem]); have B5 : Below w.heap.size w w5 := Below.grown (by repeat (first | with_reducible exact Below.refl _ _ | with_reducible exact hB | with_reducible refine Below.setCell ?_ (by first | omega | (simp; done) | (simp; omega)) _ | with_reducible refine bDrewN ?_ _ | with_reducible refine Below.drew ?_ | with_reducible refine Below.alloc ?_ (by first | omega | (simp; done) | (simp; omega)) _)) hgrow5 (by simp; omega) (fun j hj => by cases hj; omega); have z5 : wr.heap.size + 1 ≤ w5.heap.size := (by have := hgrow5.size; simpa using this); clear HO)
          | (at_mapUpdate; refine wpList_mapUpdate_own _ rfl _ _ _ 126 rfl 129 2 exLaw Try.underlying126 _ (w.heap.size + 1) (2 * k + 1) _ rfl hown5 (by unfold maxLen; omega) _ _ _ rfl rfl (exKeyN (x := b) (v := k) (by omega) (by omega)) _ [] (plainElem_int Try.underlying2 (ex_wf (x := a) (by omega))) ?_; intro w6 hown6 hgrow6))
        have B6 : Below w.heap.size w w6 := B5.grown hgrow6 (by omega) (fun j hj => by cases hj; omega)
        have z6 := hgrow6.size
        go_roundw
        case rel => exact ⟨k + 1, _, by omega, by go_num, hown6.mono (by omega), HX2.out, by omega, B6⟩
        case measure => first | (simp [intOf]; done) | (simp [intOf]; omega)
      · have HX2 : Hid (ExIs M D (opW n (hasW Q nq) (k + 1))) := by show ExIs _ _ _; rw [op_shut sh]; exact HX.out
        have HS : Hid (hasB Q nq (k : Int) = true) := (has_is Q nq k).trans sh
        clear sh
        go_wp2_with fail
        refine (contains_any q nq cq Q (k : Int) _ hq (HRQ.out.below (by repeat (first | with_reducible exact Below.refl _ _ | with_reducible refine Below.setCell ?_ (by first | omega | (simp; done) | (simp; omega)) _ | with_reducible refine bDrewN ?_ _ | with_reducible refine Below.drew ?_ | with_reducible refine Below.alloc ?_ (by first | omega | (simp; done) | (simp; omega)) _)))).mono ?_
        rintro e w4 ⟨rfl, rfl⟩
        rw [HS.out]
        go_wp2
        go_roundw
        case rel => exact ⟨k + 1, M, by omega, by go_num, (HO.out.alloc _).mono (by omega), HX2.out, by simp; omega, (by repeat (first | with_reducible exact Below.refl _ _ | with_reducible exact hB | with_reducible refine Below.setCell ?_ (by first | omega | (simp; done) | (simp; omega)) _ | with_reducible refine bDrewN ?_ _ | with_reducible refine Below.drew ?_ | with_reducible refine Below.alloc ?_ (by first | omega | (simp; done) | (simp; omega)) _))⟩
        case measure => first | (simp [intOf]; done) | (simp [intOf]; omega)
    · obtain rfl : k = n := by omega
      go_wp2
      go_ret
      exact ⟨_, M, rfl, by omega, hB, HO.out, HX.out⟩
end Go.Proofs.Ytikcfpjfcpbfcaa
