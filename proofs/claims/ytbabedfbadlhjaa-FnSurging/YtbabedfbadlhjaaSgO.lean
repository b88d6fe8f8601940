/-
What is proved: where the flow is below where it surges, the margin is no number or below 0.
-/
import Derived.Test.YtbabedfbadlhjaaSgM
import Derived.Test.YtbabedfbadlhjaaMapM
namespace Go.Proofs.Ytbabedfbadlhjaa
set_option maxRecDepth 40000
open Go.ChangeShapes Go.WideShapes Go.ChangeAt Go.RowKit
set_option linter.unusedVariables false
set_option linter.unusedSimpArgs false

theorem fsub_inf {x : Nat} (hx : rg x < INF) : fRun .sub x INF = some (FloatKind.f64.format.word true INF) := by
  show FloatKind.f64.format.sub x INF = _
  have h1 : FloatKind.f64.format.read INF = .infinity false := by
    have := read_wdI false
    rw [show FloatKind.f64.format.word false INF = INF from rfl] at this
    exact this
  simp only [Ieee.Format.sub, h1, read_gen hx]
  rfl
theorem quo_gen {x o : Nat} (h1 : FloatKind.f64.format.read x = .infinity true) (h2 : FloatKind.f64.format.read o = .infinity false) : fRun .quo x o = none := by
  show FloatKind.f64.format.div x o = none
  simp only [Ieee.Format.div, h1, h2]
  rfl
theorem marginO_neg {r : Nat} {o : Option Nat} {y : Int} (hr : Fl r o) (hy : rg (itf y) < INF) (h : ordO (some (itf y)) o = some .lt) :
    marginO o y = none ∨ ∃ g, marginO o y = some g ∧ FloatKind.f64.format.order g 0 = some .lt := by
  rcases hr.2 with ⟨hI, rfl⟩ | ⟨_, rfl⟩
  · unfold marginO
    by_cases q : ordO (some r) (some 0) = some .gt
    · rw [if_pos q]
      by_cases f : rg r < INF
      · have k0 : FloatKind.f64.format.order r 0 = some .gt := q
        have k1 : FloatKind.f64.format.order (itf y) r = some .lt := h
        rw [order_fin f (by decide), Option.some.injEq, Int.compare_eq_gt] at k0
        rw [order_fin hy f, Option.some.injEq, Int.compare_eq_lt] at k1
        rw [show sv 0 = 0 from by unfold sv; rw [show sg 0 = false from rfl, show rg 0 = 0 from rfl, vl_nil]; rfl] at k0
        obtain ⟨d, g, e1, e2, e3, e4⟩ := margin_neg hy f hr.1 (by omega) k1
        refine .inr ⟨g, ?_, ?_⟩
        · show opO .quo (fRun .sub (itf y) r) (some r) = _
          rw [e1]
          exact e2
        · rw [order_key e4 (by decide), Option.some.injEq, Int.compare_eq_lt]
          have : key 0 = 0 := by decide
          omega
      · have e : rg r = INF := by omega
        have k0 : FloatKind.f64.format.order r 0 = some .gt := q
        rw [order_key hI (by decide), Option.some.injEq, Int.compare_eq_gt, show key 0 = 0 by decide, key_inf e] at k0
        have s0 : sg r = false := by
          cases z : sg r
          · rfl
          · rw [if_pos z] at k0; have : (0 : Int) ≤ (INF : Int) := by decide
            omega
        have er : r = FloatKind.f64.format.word false INF := by have := word_self hr.1; rw [s0, e] at this; exact this
        left
        have e1 : fRun .sub (itf y) r = some (FloatKind.f64.format.word true INF) := by rw [er]; exact fsub_inf hy
        have e2 : fRun .quo (FloatKind.f64.format.word true INF) r = none := by
          rw [er]
          exact quo_gen (read_wdI _) (read_wdI _)
        have e3 : opO .quo (fRun .sub (itf y) r) (some r) = none := by rw [e1]; exact e2
        exact e3
    · rw [if_neg q]
      exact .inl rfl
  · cases h
theorem itf_fin {y : Int} (h : y.natAbs ≤ 9223372036854775808) : rg (itf y) < INF := by
  have e : itf y = FloatKind.f64.format.word (decide (y < 0)) (rn y.natAbs 0) := by
    show FloatKind.f64.format.write (.number (decide (y < 0)) y.natAbs 0) = _
    exact write_num _ _ _
  rw [e, (wd_parts _ (rn_inf _ _)).1]
  have h1 := rn_mono (p := 0) h
  have h2 : rn 9223372036854775808 0 = 4890909195324358656 := by decide
  have h3 : 4890909195324358656 < INF := by decide
  omega
end Go.Proofs.Ytbabedfbadlhjaa
