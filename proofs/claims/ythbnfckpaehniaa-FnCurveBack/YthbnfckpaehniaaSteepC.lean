/-
What is proved: whether a list of knots is steep, as both packages say it.
-/
import Derived.Test.YthbnfckpaehniaaSteep
namespace Go.Proofs.Ythbnfckpaehniaa
set_option maxRecDepth 40000
open Go.RowKit
set_option linter.unusedVariables false

theorem steepTo_no {V : Nat → Int} {k n : Nat} (h : k < n) (hk : decide (k = 0 ∨ V (k * 2 - 1) < V (k * 2 + 1)) = false) : steepTo V n = false := by
  induction n with
  | zero => omega
  | succ m ih =>
    unfold steepTo
    by_cases e : k = m
    · rw [← e, hk, Bool.and_false]
    · rw [ih (by omega), Bool.false_and]
set_option maxRecDepth 20000 in
set_option maxHeartbeats 1000000 in
theorem steep_any (s : Option Addr) (n c : Nat) (V : Nat → Int) (w : World) (hn : (n : Int) ≤ 60) (hn1 : 1 ≤ n) (HR : Hid (RowI w s (n * 2) V)) :
    Calls Try.prog 24 #[.slice s n c] w fun e w' => e = .returned (.bool (steepTo V n)) ∧ Below w.heap.size w w' := by
  go_enter Try.func24, Try.ntmps24
  go_wp2_with fail
  go_loopw [3] (fun i wr => ∃ k : Nat, 1 ≤ k ∧ k ≤ n ∧ i = .int .i64 k ∧ Below w.heap.size w wr ∧ Hid (steepTo V k = true)) (fun i _ => n - (intOf i).toNat)
  case atStart => exact ⟨1, by omega, hn1, rfl, (by repeat (first | with_reducible exact Below.refl _ _ | with_reducible refine Below.setCell ?_ (by first | omega | (simp; done) | (simp; omega)) _ | with_reducible refine bDrewN ?_ _ | with_reducible refine Below.drew ?_ | with_reducible refine Below.alloc ?_ (by first | omega | (simp; done) | (simp; omega)) _)), rfl⟩
  case round =>
    obtain ⟨k, k0, hk, rfl, hB, ho⟩ := hrel
    by_cases h1 : k < n
    · have HRr := HR.out.below hB
      obtain ⟨m, hm⟩ : ∃ m, k = m + 1 := ⟨k - 1, by omega⟩
      obtain ⟨g, o, rfl, hg, c0⟩ := HRr (k * 2 + 1) (by omega)
      obtain ⟨g', o', e', hg', d0⟩ := HRr (m * 2 + 1) (by omega)
      cases e'
      have u1 : wr.cell? ⟨g, o + k * 2 + 1, none⟩ = some (.int .i64 (V (k * 2 + 1))) := c0
      have v1 : wr.cell? ⟨g, o + m * 2 + 1, none⟩ = some (.int .i64 (V (m * 2 + 1))) := d0
      have km : (k : Int) - 1 = (m : Int) := by omega
      have wm : IntKind.i64.wrap (m : Int) = (m : Int) := by rw [IntKind.wrap_i64]; omega
      have k1 : (k : Int) < (n : Int) := by omega
      have mn : (m : Int) < (n : Int) := by omega
      have HN : Hid (k < n) := h1
      have ix : k * 2 - 1 = m * 2 + 1 := by omega
      by_cases q : V (m * 2 + 1) < V (k * 2 + 1)
      · have on : Hid (steepTo V (k + 1) = true) := by show steepTo V (k + 1) = true; unfold steepTo; rw [ho.out, ix, Bool.true_and, decide_eq_true_iff]; exact .inr q
        clear HRr c0 d0 hm hg' ix
        go_wp2_with fail
        go_quiet (fail)
        go_wp2
        go_round
        case rel => exact ⟨k + 1, by omega, by have := HN.out; omega, by go_num, (by repeat (first | with_reducible exact Below.refl _ _ | with_reducible exact hB | with_reducible refine Below.setCell ?_ (by first | omega | (simp; done) | (simp; omega)) _ | with_reducible refine bDrewN ?_ _ | with_reducible refine Below.drew ?_ | with_reducible refine Below.alloc ?_ (by first | omega | (simp; done) | (simp; omega)) _)), on⟩
        case measure => have := HN.out; simp [intOf]; omega
      · have no : Hid (steepTo V n = false) := by
          show steepTo V n = false
          refine steepTo_no h1 ?_
          rw [ix, decide_eq_false_iff_not]; omega
        clear HRr c0 d0 hm hg' ix
        go_wp2_with fail
        go_quiet (fail)
        go_wp2
        go_ret
        exact ⟨ret_bool no.out.symm, (by repeat (first | with_reducible exact Below.refl _ _ | with_reducible exact hB | with_reducible refine Below.setCell ?_ (by first | omega | (simp; done) | (simp; omega)) _ | with_reducible refine bDrewN ?_ _ | with_reducible refine Below.drew ?_ | with_reducible refine Below.alloc ?_ (by first | omega | (simp; done) | (simp; omega)) _))⟩
    · obtain rfl : k = n := by omega
      go_wp2
      go_ret
      exact ⟨ret_bool ho.out.symm, (by repeat (first | with_reducible exact Below.refl _ _ | with_reducible exact hB | with_reducible refine Below.setCell ?_ (by first | omega | (simp; done) | (simp; omega)) _ | with_reducible refine bDrewN ?_ _ | with_reducible refine Below.drew ?_ | with_reducible refine Below.alloc ?_ (by first | omega | (simp; done) | (simp; omega)) _))⟩
set_option maxRecDepth 20000 in
set_option maxHeartbeats 1000000 in
theorem l3Steep_any (s : Option Addr) (n c : Nat) (V : Nat → Int) (w : World) (hn : (n : Int) ≤ 1048576) (HR : Hid (RowI w s (n * 2) V)) :
    Calls Try.prog 22 #[.slice s n c] w fun e w' => e = .returned (.bool (steepTo V n && curveB n V)) ∧ Below w.heap.size w w' := by
  go_enter Try.func22, Try.ntmps22
  go_wp2_with fail
  go_loopw [3] (fun i wr => ∃ k : Nat, 1 ≤ k ∧ (k ≤ n ∨ (k = 1 ∧ n = 0)) ∧ i = .int .i64 k ∧ Below w.heap.size w wr ∧ Hid (steepTo V k = true)) (fun i _ => n - (intOf i).toNat)
  case atStart => exact ⟨1, by omega, by omega, rfl, (by repeat (first | with_reducible exact Below.refl _ _ | with_reducible refine Below.setCell ?_ (by first | omega | (simp; done) | (simp; omega)) _ | with_reducible refine bDrewN ?_ _ | with_reducible refine Below.drew ?_ | with_reducible refine Below.alloc ?_ (by first | omega | (simp; done) | (simp; omega)) _)), rfl⟩
  case round =>
    obtain ⟨k, k0, hk, rfl, hB, ho⟩ := hrel
    by_cases h1 : k < n
    · have HRr := HR.out.below hB
      obtain ⟨m, hm⟩ : ∃ m, k = m + 1 := ⟨k - 1, by omega⟩
      obtain ⟨g, o, rfl, hg, c0⟩ := HRr (k * 2 + 1) (by omega)
      obtain ⟨g', o', e', hg', d0⟩ := HRr (m * 2 + 1) (by omega)
      cases e'
      have u1 : wr.cell? ⟨g, o + k * 2 + 1, none⟩ = some (.int .i64 (V (k * 2 + 1))) := c0
      have v1 : wr.cell? ⟨g, o + m * 2 + 1, none⟩ = some (.int .i64 (V (m * 2 + 1))) := d0
      have km : (k : Int) - 1 = (m : Int) := by omega
      have wm : IntKind.i64.wrap (m : Int) = (m : Int) := by rw [IntKind.wrap_i64]; omega
      have k1 : (k : Int) < (n : Int) := by omega
      have mn : (m : Int) < (n : Int) := by omega
      have HN : Hid (k < n) := h1
      have ix : k * 2 - 1 = m * 2 + 1 := by omega
      by_cases q : V (m * 2 + 1) < V (k * 2 + 1)
      · have on : Hid (steepTo V (k + 1) = true) := by show steepTo V (k + 1) = true; unfold steepTo; rw [ho.out, ix, Bool.true_and, decide_eq_true_iff]; exact .inr q
        clear HRr c0 d0 hm hg' ix
        go_wp2_with fail
        go_quiet (fail)
        go_wp2
        go_round
        case rel => exact ⟨k + 1, by omega, .inl (by have := HN.out; omega), by go_num, (by repeat (first | with_reducible exact Below.refl _ _ | with_reducible exact hB | with_reducible refine Below.setCell ?_ (by first | omega | (simp; done) | (simp; omega)) _ | with_reducible refine bDrewN ?_ _ | with_reducible refine Below.drew ?_ | with_reducible refine Below.alloc ?_ (by first | omega | (simp; done) | (simp; omega)) _)), on⟩
        case measure => have := HN.out; simp [intOf]; omega
      · have no : Hid (steepTo V n = false) := by
          show steepTo V n = false
          refine steepTo_no h1 ?_
          rw [ix, decide_eq_false_iff_not]; omega
        clear HRr c0 d0 hm hg' ix
        go_wp2_with fail
        go_quiet (fail)
        go_wp2
        go_ret
        exact ⟨ret_bool (by rw [no.out, Bool.false_and]), (by repeat (first | with_reducible exact Below.refl _ _ | with_reducible exact hB | with_reducible refine Below.setCell ?_ (by first | omega | (simp; done) | (simp; omega)) _ | with_reducible refine bDrewN ?_ _ | with_reducible refine Below.drew ?_ | with_reducible refine Below.alloc ?_ (by first | omega | (simp; done) | (simp; omega)) _))⟩
    · have st : Hid (steepTo V n = true) := by
        show steepTo V n = true
        rcases hk with q | ⟨_, q⟩
        · have : k = n := by omega
          rw [← this]; exact ho.out
        · rw [q]; rfl
      have K : Hid (Calls Try.prog 13 #[.slice s n c] wr fun e w' => e = .returned (.bool (curveB n V)) ∧ Below wr.heap.size wr w') := specCurveOk_any s n c V wr (HR.out.below hB)
      have kn : ¬ (k : Int) < (n : Int) := by omega
      go_wp2_with fail
      refine K.out.mono ?_
      rintro r w3 ⟨rfl, h3⟩
      go_wp2
      go_ret
      exact ⟨ret_bool (by rw [st.out, Bool.true_and]), hB.trans (h3.mono hB.size)⟩
end Go.Proofs.Ythbnfckpaehniaa
