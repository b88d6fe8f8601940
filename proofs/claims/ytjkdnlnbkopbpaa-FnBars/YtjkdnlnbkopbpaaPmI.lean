/-
What is proved: which wants go through, as the program tells it.
-/
import Derived.Test.YtjkdnlnbkopbpaaPmB
namespace Go.Proofs.Ytjkdnlnbkopbpaa
set_option maxRecDepth 40000
open Go.ChangeShapes Go.WideShapes Go.ChangeAt Go.RowKit
set_option linter.unusedVariables false
set_option linter.unusedSimpArgs false

def lenV (n m : Nat) : Nat := if n ≤ 50 ∧ m ≤ 200 then n else 0
theorem per_imp (Wn : Nat → Bool) (V : Nat → Int) (m n k : Nat) (h : k < n) : perV Wn V m k = (Wn k && !(orTo (hitP V n (perF Wn V m k) k) m)) := by
  rw [hit_eq V m n k (perF Wn V m k) h (fun j hj => per_ge hj), per_eq, orTo_congr (P := anyP V m (perV Wn V m) k) (Q := anyP V m (perF Wn V m k) k) fun j hj => by unfold anyP; rw [per_lt hj]]
theorem bow_row {w wr : World} {n k : Nat} {Wn : Nat → Bool} {V : Nat → Int} {m : Nat} (h : BowTo w wr n k (perV Wn V m)) : RowB wr (some ⟨w.heap.size, 0, none⟩) n (perF Wn V m k) := fun j hj => by
  obtain ⟨_, hz, _, hc⟩ := h
  exact ⟨_, _, rfl, hz, by rw [Nat.zero_add, hc j hj, per_if]⟩
set_option maxRecDepth 20000 in
set_option maxHeartbeats 4000000 in
theorem implPermits_far (s t : Option Addr) (n c m d : Nat) (Wn : Nat → Bool) (V : Nat → Int) (w : World) (hn : (n : Int) ≤ 1048576) (hm : (m : Int) ≤ 1048576) (HW : Hid (RowB w s n Wn)) (HR : Hid (RowI w t (m * 2) V)) (h : ¬ (n ≤ 50 ∧ m ≤ 200)) : Calls Try.prog 9 #[.slice s n c, .slice t m d] w fun e w' => ∃ s' c', e = .returned (.slice s' (lenV n m) c') ∧ OwnB w.heap.size w' s' (lenV n m) (perV Wn V m) ∧ Below w.heap.size w w' := by
  have e : lenV n m = 0 := if_neg h
  rw [e]
  by_cases a : n ≤ 50
  · have a1 : ¬ m ≤ 200 := fun q => h ⟨a, q⟩
    have a2 : (200 : Int) < m := by omega
    have a3 : (n : Int) ≤ 50 := by omega
    go_enter Try.func9, Try.ntmps9
    go_wp2
    go_ret
    exact ⟨_, _, rfl, fun j hj => by omega, Below.refl _ _⟩
  · have a2 : (50 : Int) < n := by omega
    go_enter Try.func9, Try.ntmps9
    go_wp2
    go_ret
    exact ⟨_, _, rfl, fun j hj => by omega, Below.refl _ _⟩
set_option maxRecDepth 20000 in
set_option maxHeartbeats 8000000 in
theorem implPermits_near (s t : Option Addr) (n c m d : Nat) (Wn : Nat → Bool) (V : Nat → Int) (w : World) (hn : (n : Int) ≤ 1048576) (hm : (m : Int) ≤ 1048576) (HW : Hid (RowB w s n Wn)) (HR : Hid (RowI w t (m * 2) V)) (h : n ≤ 50 ∧ m ≤ 200) : Calls Try.prog 9 #[.slice s n c, .slice t m d] w fun e w' => ∃ s' c', e = .returned (.slice s' (lenV n m) c') ∧ OwnB w.heap.size w' s' (lenV n m) (perV Wn V m) ∧ Below w.heap.size w w' := by
  have e : lenV n m = n := if_pos h
  rw [e]
  obtain ⟨l1, l2⟩ := h
  have l3 : (n : Int) ≤ 50 := by omega
  have l4 : (m : Int) ≤ 200 := by omega
  clear e hn hm
  have hmk := make_bool n (by omega)
  go_enter Try.func9, Try.ntmps9
  go_wp2_with fail
  go_loopw [21] (fun i wr => ∃ k : Nat, k ≤ n ∧ i = .int .i64 k ∧ BowTo w wr n k (perV Wn V m)) (fun i _ => n - (intOf i).toNat)
  case atStart => exact ⟨0, Nat.zero_le _, rfl, bowTo_start w n _ 4⟩
  case round =>
    obtain ⟨k, hk, rfl, hR⟩ := hrel
    have HT : Hid (BowTo w wr n k (perV Wn V m)) := hR
    obtain ⟨hB, hz, hf, hc⟩ := hR
    by_cases h1 : k < n
    case neg =>
      obtain rfl : k = n := by omega
      go_wp2
      go_ret
      exact ⟨_, _, rfl, bowTo_own HT.out, hB⟩
    case pos =>
      obtain ⟨g, o, rfl, hg, c0⟩ := HW.out k h1
      have d0 : wr.cell? ⟨g, o + k, none⟩ = some (.bool (Wn k)) := (hB.cell (p := ⟨g, o + k, none⟩) hg).trans c0
      have e0 := hc k h1
      rw [if_neg (Nat.lt_irrefl _)] at e0
      have f0 := hf k
      have k1 : (k : Int) < (n : Int) := by omega
      have zg : g < wr.heap.size := Nat.lt_of_lt_of_le hg hB.size
      have HP : Hid (perV Wn V m k = (Wn k && !(orTo (hitP V n (perF Wn V m k) k) m))) := per_imp Wn V m n k h1
      have HL : Hid (RowI wr t (m * 2) V) := HR.out.below hB
      have HX : Hid (RowB wr (some ⟨w.heap.size, 0, none⟩) n (perF Wn V m k)) := bow_row HT.out
      have HB : Hid (Below w.heap.size w wr) := hB
      clear hc hB c0 hg hf
      obtain ⟨wk, hwk⟩ : ∃ wk, Wn k = wk := ⟨_, rfl⟩
      rw [hwk] at HP d0
      clear hwk
      cases wk
      · rw [Bool.false_and] at HP
        go_wp2
        go_roundw
        case rel => exact ⟨k + 1, by omega, by go_num, by have := bowTo_on HT.out (Below.refl _ _); rw [HP.out] at this; exact this⟩
        case measure => simp [intOf]; omega
      · rw [Bool.true_and] at HP
        go_wp2_with fail
        refine (barred_any k t (some ⟨w.heap.size, 0, none⟩) m d n n V (perF Wn V m k) wr l4 l3 HL HX).mono ?_
        rintro e w3 ⟨rfl, h3⟩
        have e3 := (h3.cell (p := ⟨w.heap.size, k, none⟩) hz).trans e0
        have f3 := (h3.frozen (p := ⟨w.heap.size, k, none⟩) hz).trans f0
        have z3 : w.heap.size < w3.heap.size := Nat.lt_of_lt_of_le hz h3.size
        have H3 : Hid (Below wr.heap.size wr w3) := h3
        clear h3 d0 e0 f0
        obtain ⟨q, hq⟩ : ∃ q, orTo (hitP V n (perF Wn V m k) k) m = q := ⟨_, rfl⟩
        rw [hq] at HP ⊢
        clear hq
        cases q
        all_goals
          go_wp2
          go_roundw
          case rel => exact ⟨k + 1, by omega, by go_num, by have := bowTo_on HT.out H3.out; rw [HP.out] at this; exact this⟩
          case measure => simp [intOf]; omega
theorem implPermits_any (s t : Option Addr) (n c m d : Nat) (Wn : Nat → Bool) (V : Nat → Int) (w : World) (hn : (n : Int) ≤ 1048576) (hm : (m : Int) ≤ 1048576) (HW : Hid (RowB w s n Wn)) (HR : Hid (RowI w t (m * 2) V)) : Calls Try.prog 9 #[.slice s n c, .slice t m d] w fun e w' => ∃ s' c', e = .returned (.slice s' (lenV n m) c') ∧ OwnB w.heap.size w' s' (lenV n m) (perV Wn V m) ∧ Below w.heap.size w w' := by
  by_cases h : n ≤ 50 ∧ m ≤ 200
  · exact implPermits_near s t n c m d Wn V w hn hm HW HR h
  · exact implPermits_far s t n c m d Wn V w hn hm HW HR h
end Go.Proofs.Ytjkdnlnbkopbpaa
