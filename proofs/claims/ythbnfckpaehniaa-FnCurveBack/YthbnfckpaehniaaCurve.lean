/-
What is proved: whether a list of knots is a right curve, as both packages say it.
-/
import Derived.Test.YthbnfckpaehniaaRowI
import Derived.Deep.OwnRows
import Derived.Deep.RegionHeld3
import Derived.Deep.DeepCutAuto
import Derived.Test.YthbnfckpaehniaaWithin
namespace Go.Proofs.Ythbnfckpaehniaa
set_option maxRecDepth 40000
open Go.RowKit
set_option linter.unusedVariables false

abbrev inC (x : Int) : Prop := -1000000 ≤ x ∧ x ≤ 1000000
/-- Whether the knot at i is right beside the one ahead of it; whether the first k are. -/
def okAt (V : Nat → Int) (i : Nat) : Bool := decide (inC (V (i * 2)) ∧ inC (V (i * 2 + 1)) ∧ (i = 0 ∨ V (i * 2 - 2) < V (i * 2)))
def okTo (V : Nat → Int) : Nat → Bool
  | 0 => true
  | k + 1 => okTo V k && okAt V k
theorem okTo_no {V : Nat → Int} {k n : Nat} (h : k < n) (hk : okAt V k = false) : okTo V n = false := by
  induction n with
  | zero => omega
  | succ m ih =>
    unfold okTo
    by_cases e : k = m
    · rw [← e, hk, Bool.and_false]
    · rw [ih (by omega), Bool.false_and]
def curveB (n : Nat) (V : Nat → Int) : Bool := decide (2 ≤ n ∧ n ≤ 60) && okTo V n

theorem keepK {W W' : World} {p q i j k l : Nat} {a b c d : Value} (h0 : W.cell? ⟨p, i, none⟩ = some a) (h1 : W.cell? ⟨p, j, none⟩ = some b) (h2 : W.cell? ⟨q, k, none⟩ = some c) (h3 : W.cell? ⟨q, l, none⟩ = some d) (hp : p < W.heap.size) (hq : q < W.heap.size) (hb : Below W.heap.size W W') :
    W'.cell? ⟨p, i, none⟩ = some a ∧ W'.cell? ⟨p, j, none⟩ = some b ∧ W'.cell? ⟨q, k, none⟩ = some c ∧ W'.cell? ⟨q, l, none⟩ = some d :=
  ⟨(hb.cell (p := ⟨p, i, none⟩) hp).trans h0, (hb.cell (p := ⟨p, j, none⟩) hp).trans h1, (hb.cell (p := ⟨q, k, none⟩) hq).trans h2, (hb.cell (p := ⟨q, l, none⟩) hq).trans h3⟩

set_option maxRecDepth 20000 in
set_option maxHeartbeats 1000000 in
theorem specCurveOk_in (s : Option Addr) (n c : Nat) (V : Nat → Int) (w : World) (hn : (n : Int) ≤ 60) (hn2 : (2 : Int) ≤ n) (HR : Hid (RowI w s (n * 2) V)) (HC : Hid (curveB n V = okTo V n)) :
    Calls Try.prog 13 #[.slice s n c] w fun e w' => e = .returned (.bool (curveB n V)) ∧ Below w.heap.size w w' := by
  have Y : Hid (∀ (x : Int) (w : World), inC x → Calls Try.prog 28 #[.int .i64 x, .int .i64 (-1000000), .int .i64 1000000] w fun e w' => e = .returned (.bool true) ∧ w' = w) := fun x w h => l1In_yes x _ _ w h.1 h.2
  have N : Hid (∀ (x : Int) (w : World), ¬ inC x → Calls Try.prog 28 #[.int .i64 x, .int .i64 (-1000000), .int .i64 1000000] w fun e w' => e = .returned (.bool false) ∧ w' = w) := fun x w h => l1In_no x _ _ w (by unfold inC at h; omega)
  go_enter Try.func13, Try.ntmps13
  go_wp2_with fail
  go_loopw [3] (fun i wr => ∃ k : Nat, k ≤ n ∧ i = .int .i64 k ∧ Below w.heap.size w wr ∧ Hid (okTo V k = true)) (fun i _ => n - (intOf i).toNat)
  case atStart => exact ⟨0, Nat.zero_le _, rfl, (by repeat (first | with_reducible exact Below.refl _ _ | with_reducible refine Below.setCell ?_ (by first | omega | (simp; done) | (simp; omega)) _ | with_reducible refine bDrewN ?_ _ | with_reducible refine Below.drew ?_ | with_reducible refine Below.alloc ?_ (by first | omega | (simp; done) | (simp; omega)) _)), rfl⟩
  case round =>
    obtain ⟨k, hk, rfl, hB, ho⟩ := hrel
    by_cases h1 : k < n
    · obtain ⟨g, o, rfl, hg, c0⟩ := HR.out (k * 2) (by omega)
      obtain ⟨g', o', e', hg', c1⟩ := HR.out (k * 2 + 1) (by omega)
      cases e'
      have u0 : wr.cell? ⟨g, o + k * 2, none⟩ = some (.int .i64 (V (k * 2))) := (hB.cell (p := ⟨g, o + k * 2, none⟩) hg).trans c0
      have u1 : wr.cell? ⟨g, o + k * 2 + 1, none⟩ = some (.int .i64 (V (k * 2 + 1))) := (hB.cell (p := ⟨g, o + (k * 2 + 1), none⟩) hg).trans c1
      have k1 : (k : Int) < (n : Int) := by omega
      have zg : g < wr.heap.size := Nat.lt_of_lt_of_le hg hB.size
      have HN : Hid (k < n) := h1
      clear c0 c1 hg hg'
      by_cases x1 : inC (V (k * 2))
      · by_cases x2 : inC (V (k * 2 + 1))
        · rcases Nat.eq_zero_or_pos k with z | z
          · subst z
            have on : Hid (okTo V (0 + 1) = true) := by show okTo V 1 = true; unfold okTo; rw [ho.out]; unfold okAt; simp [x1, x2]
            simp only [Nat.zero_mul, Nat.add_zero, Nat.zero_add] at u0 u1 x1 x2
            go_wp2_with fail
            go_quiet (first
              | (go_at_call 28; exact Calls.quiet_of_same (Y.out _ _ x1))
              | (go_at_call 28; exact Calls.quiet_of_same (Y.out _ _ x2)))
            go_wp2
            go_round
            case rel => exact ⟨1, by omega, by go_num, (by repeat (first | with_reducible exact Below.refl _ _ | with_reducible exact hB | with_reducible refine Below.setCell ?_ (by first | omega | (simp; done) | (simp; omega)) _ | with_reducible refine bDrewN ?_ _ | with_reducible refine Below.drew ?_ | with_reducible refine Below.alloc ?_ (by first | omega | (simp; done) | (simp; omega)) _)), on⟩
            case measure => simp [intOf]; omega
          · obtain ⟨m, rfl⟩ : ∃ m, k = m + 1 := ⟨k - 1, by omega⟩
            obtain ⟨g', o', e', hg', c2⟩ := HR.out (m * 2) (by omega)
            cases e'
            have u2 : wr.cell? ⟨g, o + m * 2, none⟩ = some (.int .i64 (V (m * 2))) := (hB.cell (p := ⟨g, o + m * 2, none⟩) hg').trans c2
            clear c2 hg'
            have ix : (m + 1) * 2 - 2 = m * 2 := by omega
            by_cases x3 : V (m * 2) < V ((m + 1) * 2)
            · have on : Hid (okTo V (m + 1 + 1) = true) := by show okTo V (m + 1 + 1) = true; unfold okTo; rw [ho.out]; unfold okAt; rw [Bool.true_and, decide_eq_true_iff, ix]; exact ⟨x1, x2, .inr x3⟩
              go_wp2_with fail
              go_quiet (first
              | (go_at_call 28; exact Calls.quiet_of_same (Y.out _ _ x1))
              | (go_at_call 28; exact Calls.quiet_of_same (Y.out _ _ x2)))
              go_wp2
              go_round
              case rel => exact ⟨m + 1 + 1, by omega, by go_num, (by repeat (first | with_reducible exact Below.refl _ _ | with_reducible exact hB | with_reducible refine Below.setCell ?_ (by first | omega | (simp; done) | (simp; omega)) _ | with_reducible refine bDrewN ?_ _ | with_reducible refine Below.drew ?_ | with_reducible refine Below.alloc ?_ (by first | omega | (simp; done) | (simp; omega)) _)), on⟩
              case measure => simp [intOf]; omega
            · have no : Hid (curveB n V = false) := by
                show curveB n V = false
                rw [HC.out]; refine okTo_no HN.out ?_; unfold okAt; rw [decide_eq_false_iff_not, ix]; rintro ⟨_, _, q | q⟩
                · omega
                · exact x3 q
              go_wp2_with fail
              go_quiet (first
              | (go_at_call 28; exact Calls.quiet_of_same (Y.out _ _ x1))
              | (go_at_call 28; exact Calls.quiet_of_same (Y.out _ _ x2)))
              go_wp2
              go_ret
              exact ⟨ret_bool no.out.symm, (by repeat (first | with_reducible exact Below.refl _ _ | with_reducible exact hB | with_reducible refine Below.setCell ?_ (by first | omega | (simp; done) | (simp; omega)) _ | with_reducible refine bDrewN ?_ _ | with_reducible refine Below.drew ?_ | with_reducible refine Below.alloc ?_ (by first | omega | (simp; done) | (simp; omega)) _))⟩
        · have no : Hid (curveB n V = false) := by
            show curveB n V = false
            rw [HC.out]; refine okTo_no HN.out ?_; unfold okAt; rw [decide_eq_false_iff_not]; exact fun q => x2 q.2.1
          go_wp2_with fail
          go_quiet (first
              | (go_at_call 28; exact Calls.quiet_of_same (Y.out _ _ x1))
              | (go_at_call 28; exact Calls.quiet_of_same (N.out _ _ x2)))
          go_wp2
          go_ret
          exact ⟨ret_bool no.out.symm, (by repeat (first | with_reducible exact Below.refl _ _ | with_reducible exact hB | with_reducible refine Below.setCell ?_ (by first | omega | (simp; done) | (simp; omega)) _ | with_reducible refine bDrewN ?_ _ | with_reducible refine Below.drew ?_ | with_reducible refine Below.alloc ?_ (by first | omega | (simp; done) | (simp; omega)) _))⟩
      · have no : Hid (curveB n V = false) := by
          show curveB n V = false
          rw [HC.out]; refine okTo_no HN.out ?_; unfold okAt; rw [decide_eq_false_iff_not]; exact fun q => x1 q.1
        go_wp2_with fail
        go_quiet (first
              | (go_at_call 28; exact Calls.quiet_of_same (N.out _ _ x1))
              | (go_at_call 28; exact Calls.quiet_of_same (N.out _ _ x1)))
        go_wp2
        go_ret
        exact ⟨ret_bool no.out.symm, (by repeat (first | with_reducible exact Below.refl _ _ | with_reducible exact hB | with_reducible refine Below.setCell ?_ (by first | omega | (simp; done) | (simp; omega)) _ | with_reducible refine bDrewN ?_ _ | with_reducible refine Below.drew ?_ | with_reducible refine Below.alloc ?_ (by first | omega | (simp; done) | (simp; omega)) _))⟩
    · obtain rfl : k = n := by omega
      go_wp2
      go_ret
      exact ⟨ret_bool (by rw [HC.out, ho.out]), (by repeat (first | with_reducible exact Below.refl _ _ | with_reducible exact hB | with_reducible refine Below.setCell ?_ (by first | omega | (simp; done) | (simp; omega)) _ | with_reducible refine bDrewN ?_ _ | with_reducible refine Below.drew ?_ | with_reducible refine Below.alloc ?_ (by first | omega | (simp; done) | (simp; omega)) _))⟩
end Go.Proofs.Ythbnfckpaehniaa
