/-
What is proved: flags in a block of their own; spec.l22Shut says of each valve whether it is among some numbers.
-/
import Derived.Test.YtikcfpjfcpbfcaaZcC
import Derived.BigQuiet
namespace Go.Proofs.Ytikcfpjfcpbfcaa
set_option maxRecDepth 40000
open Go.ChangeShapes Go.WideShapes Go.ChangeAt Go.RowKit
set_option linter.unusedVariables false
set_option linter.unusedSimpArgs false

def FlB (w wr : World) (b n : Nat) (F : Nat → Bool) : Prop := Below w.heap.size w wr ∧ w.heap.size ≤ b ∧ b < wr.heap.size ∧ (∀ o, wr.frozen? ⟨b, o, none⟩ = false) ∧ ∀ j, j < n → wr.cell? ⟨b, j, none⟩ = some (.bool (F j))
theorem fl_made {w w1 : World} {n b : Nat} {t : TypeId} {F : Nat → Bool} (h : Below w.heap.size w w1) (hb : b = w1.heap.size) (hF : ∀ j, F j = false) : FlB w (w1.alloc (.cells (madeCells #[.bool false] n) t)) b n F := by
  subst hb
  obtain ⟨h1, h2, h3, h4⟩ := bowTo_start w1 n F t
  exact ⟨h.trans (h1.mono h.size), h.size, h2, h3, fun j hj => by rw [h4 j hj, hF j]; simp⟩
theorem FlB.keep {w wr w3 : World} {b n : Nat} {F : Nat → Bool} (h : FlB w wr b n F) (h3 : Below wr.heap.size wr w3) : FlB w w3 b n F := by
  obtain ⟨hB, h0, hz, hf, hc⟩ := h
  exact ⟨hB.trans (h3.mono hB.size), h0, Nat.lt_of_lt_of_le hz h3.size, fun o => (h3.frozen (p := ⟨b, o, none⟩) hz).trans (hf o), fun j hj => (h3.cell (p := ⟨b, j, none⟩) hz).trans (hc j hj)⟩
theorem FlB.congr {w wr : World} {b n : Nat} {F G : Nat → Bool} (h : FlB w wr b n F) (e : ∀ j, j < n → G j = F j) : FlB w wr b n G := ⟨h.1, h.2.1, h.2.2.1, h.2.2.2.1, fun j hj => by rw [e j hj]; exact h.2.2.2.2 j hj⟩
theorem FlB.set {w wr : World} {b n i : Nat} {v : Bool} {F G : Nat → Bool} (h : FlB w wr b n F) (hi : i < n) (e : ∀ j, j < n → G j = if j = i then v else F j) : FlB w (wr.setCell ⟨b, i, none⟩ (.bool v)) b n G := by
  obtain ⟨hB, h0, hz, hf, hc⟩ := h
  refine ⟨(by repeat (first | with_reducible exact Below.refl _ _ | with_reducible exact hB | with_reducible refine Below.setCell ?_ (by first | omega | (simp; done) | (simp; omega)) _ | with_reducible refine bDrewN ?_ _ | with_reducible refine Below.drew ?_ | with_reducible refine Below.alloc ?_ (by first | omega | (simp; done) | (simp; omega)) _)), h0, by simpa using hz, fun o => by simp [go_sem, hf], fun j hj => ?_⟩
  rw [e j hj]
  by_cases q : j = i
  · subst q
    simp [go_sem, hc j hj]
  · rw [if_neg q]
    simp [go_sem, hc j hj, q]
set_option maxRecDepth 20000 in
set_option maxHeartbeats 1000000 in
theorem l22Shut_any (p : Int) (s : Option Addr) (n c : Nat) (t : Option Addr) (m d : Nat) (q : Option Addr) (nq cq : Nat) (Q : Nat → Int) (w : World) (hn : (n : Int) ≤ 1048576) (hq : (nq : Int) ≤ 1048576) (HQ : Hid (RowI w q nq Q)) :
    Calls Try.prog 87 #[.agg #[.int .i64 p, .slice s n c, .slice t m d], .slice q nq cq] w fun e w' => ∃ b, e = .returned (.slice (some ⟨b, 0, none⟩) n n) ∧ FlB w w' b n (hasW Q nq) := by
  have hmk := make_bool n (by omega)
  go_enter Try.func87, Try.ntmps87
  go_wp2_with fail
  go_loopw [6] (fun i wr => ∃ k : Nat, k ≤ nq ∧ i = .int .i64 k ∧ Hid (FlB w wr (w.heap.size + 1) n (hasW Q k))) (fun i _ => nq - (intOf i).toNat)
  case atStart => exact ⟨0, Nat.zero_le _, rfl, fl_made (by repeat (first | with_reducible exact Below.refl _ _ | with_reducible refine Below.setCell ?_ (by first | omega | (simp; done) | (simp; omega)) _ | with_reducible refine bDrewN ?_ _ | with_reducible refine Below.drew ?_ | with_reducible refine Below.alloc ?_ (by first | omega | (simp; done) | (simp; omega)) _)) (by simp) (fun j => rfl)⟩
  case round =>
    obtain ⟨k, hk, rfl, HF⟩ := hrel
    have hB := HF.out.1
    have zW := hB.size
    obtain ⟨-, -, zb, hf, hc⟩ := HF.out
    by_cases h1 : k < nq
    · obtain ⟨g, o, rfl, hg, c0⟩ := HQ.out k h1
      have d0 : wr.cell? ⟨g, o + k, none⟩ = some (.int .i64 (Q k)) := (hB.cell (p := ⟨g, o + k, none⟩) hg).trans c0
      have k1 : (k : Int) < (nq : Int) := by omega
      obtain ⟨y, hy⟩ : ∃ y, Q k = y := ⟨_, rfl⟩
      rw [hy] at d0
      have HY : Hid (Q k = y) := hy
      clear c0 hy
      cases e0 : inB 0 ((n : Int) - 1) y
      · have HG : Hid (FlB w wr (w.heap.size + 1) n (hasW Q (k + 1))) := HF.out.congr fun j hj => by
          rw [hasW_succ, HY.out, decide_eq_false (fun e => by subst e; have : inB 0 ((n : Int) - 1) (j : Int) = true := by { unfold inB; simp; omega }; rw [e0] at this; cases this)]; simp
        go_wp2_with fail
        refine (l1In_is _ _ _ _).mono ?_
        rintro e w1 ⟨rfl, rfl⟩
        rw [e0]
        go_wp2
        go_roundw
        case rel => exact ⟨k + 1, by omega, by go_num, HG.out.keep (by repeat (first | with_reducible exact Below.refl _ _ | with_reducible refine Below.setCell ?_ (by first | omega | (simp; done) | (simp; omega)) _ | with_reducible refine bDrewN ?_ _ | with_reducible refine Below.drew ?_ | with_reducible refine Below.alloc ?_ (by first | omega | (simp; done) | (simp; omega)) _))⟩
        case measure => first | (simp [intOf]; done) | (simp [intOf]; omega)
      · obtain ⟨y0, y1⟩ := inB_yes e0
        obtain ⟨x, rfl⟩ : ∃ x : Nat, y = (x : Int) := ⟨y.toNat, by omega⟩
        have xn : (x : Int) < (n : Int) := by omega
        have bx := hc x (by omega)
        have bf := hf x
        have HG : Hid (FlB w (wr.setCell ⟨w.heap.size + 1, x, none⟩ (.bool true)) (w.heap.size + 1) n (hasW Q (k + 1))) := HF.out.set (by omega) fun j hj => by
          rw [hasW_succ, HY.out]
          by_cases e : j = x
          · subst e; simp
          · rw [if_neg e, decide_eq_false (by omega)]; simp
        clear hc hf
        go_wp2_with fail
        refine (l1In_is _ _ _ _).mono ?_
        rintro e w1 ⟨rfl, rfl⟩
        rw [e0]
        go_wp2
        go_roundw
        case rel => exact ⟨k + 1, by omega, by go_num, HG.out⟩
        case measure => first | (simp [intOf]; done) | (simp [intOf]; omega)
    · obtain rfl : k = nq := by omega
      go_wp2
      go_ret
      exact ⟨_, rfl, HF.out⟩
end Go.Proofs.Ytikcfpjfcpbfcaa
