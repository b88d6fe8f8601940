/-
What is proved: the places of all machines in the order of their costs, as the program sorts them.
-/
import Derived.Test.YtdlbniihgppodaaSbI
import Derived.Test.YtdlbniihgppodaaSbC
namespace Go.Proofs.Ytdlbniihgppodaa
set_option maxRecDepth 40000
open Go.ChangeShapes Go.WideShapes Go.ChangeAt Go.RowKit
set_option linter.unusedVariables false
set_option linter.unusedSimpArgs false

set_option maxRecDepth 20000 in
set_option maxHeartbeats 4000000 in
theorem stable_any (b n m : Nat) (p g o c : Nat) (C : Nat → Int) (T0 : Nat → Nat) (w : World) (hn : (n : Int) ≤ 3) (n1 : 1 ≤ n) (hp : p ≠ b) (hg : g ≠ b) (HP : Hid (PlAt w p g o n c C)) (HT : Hid (DatT w b n T0)) (HI : Hid (∀ k, k < n → T0 k = k)) :
    Calls Try.prog 81 #[.slice (some ⟨b, 0, none⟩) n m, .int .i64 (n : Int), .func (.func 66) #[] #[.pointer (some ⟨p, 0, none⟩)]] w fun e w' => (e = .returned (.tuple #[])) ∧ (∃ T, InsB C n n T ∧ DatT w' b n T) ∧ Turn (fun k => k = b) w w' := by
  have b0 : decide ((20 : Int) ≤ (n : Int)) = false := decide_eq_false (by omega)
  have b1 : decide ((20 : Int) < (n : Int)) = false := decide_eq_false (by omega)
  go_enter Try.func81, Try.ntmps81
  go_wp2_with fail
  go_loopw [7, 8] (fun x y wr => x = .int .i64 0 ∧ y = .int .i64 20 ∧ wr = w) (fun _ _ _ => 0)
  case atStart => exact ⟨rfl, rfl, rfl⟩
  case round =>
    obtain ⟨rfl, rfl, rfl⟩ := hrel
    go_wp2_with fail
    refine (insertionSort_any b n m p g o c C T0 _ hn n1 hp hg HP HT HI).mono ?_
    rintro e w1 ⟨rfl, ⟨T, h1, h2⟩, h3⟩
    have HQ : Hid ((∃ T, InsB C n n T ∧ DatT w1 b n T) ∧ Turn (fun k => k = b) _ w1) := ⟨⟨T, h1, h2⟩, h3⟩
    clear h1 h2 h3
    go_wp2_with fail
    go_loopw [6] (fun x wr => x = .int .i64 20 ∧ wr = w1) (fun _ _ => 0)
    case atStart => exact ⟨rfl, rfl⟩
    case round =>
      obtain ⟨rfl, rfl⟩ := hrel
      go_wp2
      go_end0
      exact ⟨rfl, HQ.out.1, HQ.out.2⟩
set_option maxHeartbeats 1000000 in
theorem sortStable_any (b n m : Nat) (p g o c : Nat) (C : Nat → Int) (T0 : Nat → Nat) (w : World) (hn : (n : Int) ≤ 3) (n1 : 1 ≤ n) (hp : p ≠ b) (hg : g ≠ b) (HP : Hid (PlAt w p g o n c C)) (HT : Hid (DatT w b n T0)) (HI : Hid (∀ k, k < n → T0 k = k)) :
    Calls Try.prog 76 #[.slice (some ⟨b, 0, none⟩) n m, .func (.func 66) #[] #[.pointer (some ⟨p, 0, none⟩)]] w fun e w' => (e = .returned (.tuple #[])) ∧ (∃ T, InsB C n n T ∧ DatT w' b n T) ∧ Turn (fun k => k = b) w w' := by
  go_enter Try.func76, Try.ntmps76
  go_wp2_with fail
  refine (stable_any b n m p g o c C T0 _ hn n1 hp hg HP HT HI).mono ?_
  rintro e w1 ⟨rfl, h1, h2⟩
  have HQ : Hid ((∃ T, InsB C n n T ∧ DatT w1 b n T) ∧ Turn (fun k => k = b) w w1) := ⟨h1, h2⟩
  clear h1 h2
  go_wp2
  go_end0
  exact ⟨rfl, HQ.out.1, HQ.out.2⟩
set_option maxHeartbeats 2000000 in
theorem sortedBy_any (ad : Addr) (n m : Nat) (p g o c : Nat) (C : Nat → Int) (w : World) (hn : (n : Int) ≤ 3) (n1 : 1 ≤ n) (HP : Hid (PlAt w p g o n c C)) (HR : Hid (RowI w (some ad) n (fun k => (k : Int)))) :
    Calls Try.prog 65 #[.slice (some ad) n m, .func (.func 66) #[] #[.pointer (some ⟨p, 0, none⟩)]] w fun e w' => ∃ b k T, e = .returned (.slice (some ⟨b, 0, none⟩) n k) ∧ InsB C n n T ∧ DatT w' b n T ∧ w.heap.size ≤ b ∧ Below w.heap.size w w' := by
  go_enter Try.func65, Try.ntmps65
  go_wp2_with fail
  refine (clone_anyT ad n m (fun k => (k : Int)) _ (by omega) HR).mono ?_
  rintro e w1 ⟨s', c', rfl, O1, h1⟩
  obtain ⟨b, rfl, hb, zb, -, -⟩ := O1 0 (by omega)
  have HD : Hid (DatT w1 b n (fun k => k)) := ⟨zb, fun o ho => by
    obtain ⟨b', e', _, _, _, hf⟩ := O1 o ho
    cases e'
    exact hf, fun k hk => by
    obtain ⟨b', e', _, _, hc, _⟩ := O1 k hk
    cases e'
    exact hc⟩
  have HP1 : Hid (PlAt w1 p g o n c C) := HP.out.below h1
  have np : p ≠ b := by have := HP.out.1; omega
  have ng : g ≠ b := by have := HP.out.2.1; omega
  have HB1 : Hid (Below w.heap.size w w1) := h1
  clear h1 O1
  go_wp2_with fail
  refine (sortStable_any b n c' p g o c C (fun k => k) _ hn n1 np ng HP1 HD (fun _ _ => rfl)).mono ?_
  rintro e w2 ⟨rfl, ⟨T, h1, h2⟩, h3⟩
  have HQ : Hid (InsB C n n T ∧ DatT w2 b n T) := ⟨h1, h2⟩
  have B2 : Below w.heap.size w w2 := HB1.out.trans (h3.below (fun k hk => by subst hk; exact hb) HB1.out.size)
  clear h1 h2 h3
  go_wp2
  go_ret
  exact ⟨b, c', T, rfl, HQ.out.1, HQ.out.2, hb, B2⟩
set_option maxRecDepth 20000 in
set_option maxHeartbeats 4000000 in
theorem byCost_any (g o n c : Nat) (C : Nat → Int) (w : World) (hn : (n : Int) ≤ 3) (n1 : 1 ≤ n) (zg : g < w.heap.size) (HC : Hid (∀ i, i < n → w.cell? ⟨g, o + i * 5 + 2, none⟩ = some (.int .i64 (C i)))) :
    Calls Try.prog 41 #[.slice (some ⟨g, o, none⟩) n c] w fun e w' => ∃ b k T, e = .returned (.slice (some ⟨b, 0, none⟩) n k) ∧ InsB C n n T ∧ DatT w' b n T ∧ w.heap.size ≤ b ∧ Below w.heap.size w w' := by
  have hmk := make_i64T n (by omega)
  go_enter Try.func41, Try.ntmps41
  go_upto_region 1 with fail
  obtain ⟨wd, hwd⟩ : ∃ wd, wd = w.alloc (.cells #[.slice (some ⟨g, o, none⟩) n c] 28) := ⟨_, rfl⟩
  rw [← hwd]
  have B0 : Below w.heap.size w wd := by rw [hwd]; exact (by repeat (first | with_reducible exact Below.refl _ _ | with_reducible refine Below.setCell ?_ (by first | omega | (simp; done) | (simp; omega)) _ | with_reducible refine bDrewN ?_ _ | with_reducible refine Below.drew ?_ | with_reducible refine Below.alloc ?_ (by first | omega | (simp; done) | (simp; omega)) _))
  have p0 : wd.cell? ⟨w.heap.size, 0, none⟩ = some (.slice (some ⟨g, o, none⟩) n c) := by rw [hwd]; simp [go_sem]
  have zd : w.heap.size < wd.heap.size := by rw [hwd]; simp
  have HB : Hid (Below w.heap.size w wd) := B0
  have HPL : Hid (PlAt wd w.heap.size g o n c C) := ⟨zd, Nat.lt_of_lt_of_le zg B0.size, p0, fun i hi => (B0.cell (p := ⟨g, o + i * 5 + 2, none⟩) zg).trans (HC.out i hi)⟩
  clear hwd B0
  go_wp2_with fail
  clear p0
  go_loopw [10] (fun i wr => ∃ k : Nat, k ≤ n ∧ i = .int .i64 k ∧ Hid (RowTo wd wr n k (fun k => (k : Int)))) (fun i _ => n - (intOf i).toNat)
  case atStart => exact ⟨0, Nat.zero_le _, rfl, rowTo_start wd n _ 3⟩
  case round =>
    obtain ⟨k, hk, rfl, HW⟩ := hrel
    have zr : wd.heap.size < wr.heap.size := HW.out.2.1
    have HBr : Hid (Below wd.heap.size wd wr) := HW.out.1
    by_cases h2 : k < n
    · have k1 : (k : Int) < (n : Int) := by omega
      have f0 := HW.out.2.2.2 k h2
      have fz := HW.out.2.2.1 k
      have HX : Hid (RowTo wd (wr.setCell ⟨wd.heap.size, k, none⟩ (.int .i64 (k : Int))) n (k + 1) (fun k => (k : Int))) := rowTo_on HW.out (Below.refl _ _)
      go_wp2
      go_roundw
      case rel => exact ⟨k + 1, by omega, by go_num, HX.out⟩
      case measure => first | (simp [intOf]; done) | (simp [intOf]; omega)
    · obtain rfl : k = n := by omega
      have HS : Hid (RowI wr (some ⟨wd.heap.size, 0, none⟩) k (fun k => (k : Int))) := (rowTo_own HW.out).row
      have HP2 : Hid (PlAt wr w.heap.size g o k c C) := HPL.out.below HBr.out
      clear HW hmk
      go_wp2_with fail
      refine (sortedBy_any ⟨wd.heap.size, 0, none⟩ k k w.heap.size g o c C _ hn n1 HP2 HS).mono ?_
      rintro e w3 ⟨b, m, T, rfl, h1, h2, h3, h4⟩
      have HQ : Hid (InsB C k k T ∧ DatT w3 b k T) := ⟨h1, h2⟩
      have B3 : Below w.heap.size w w3 := (HB.out.trans (HBr.out.mono HB.out.size)).trans (h4.mono (Nat.le_trans HB.out.size HBr.out.size))
      have hb : w.heap.size ≤ b := by omega
      clear h1 h2 h4
      go_wp2
      go_ret
      exact ⟨b, m, T, rfl, HQ.out.1, HQ.out.2, hb, B3⟩
end Go.Proofs.Ytdlbniihgppodaa
