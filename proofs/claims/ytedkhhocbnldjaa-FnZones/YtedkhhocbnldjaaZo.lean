/-
What is proved: when a zone is right, whether a float is at most or above another, in numbers; a product of known floats.
-/
import Derived.Test.YtedkhhocbnldjaaPair
import Derived.Test.YtedkhhocbnldjaaKnown
import Derived.Test.YtedkhhocbnldjaaIsW
namespace Go.Proofs.Ytedkhhocbnldjaa
set_option maxRecDepth 40000
open Go.RowKit
set_option linter.unusedVariables false
set_option linter.unusedSimpArgs false

def leO (a b : Option Nat) : Bool := (ordO a b == some .lt || ordO a b == some .eq)
def gtO (a b : Option Nat) : Bool := ordO a b == some .gt
def geZ (r : Nat) : Bool := (FloatKind.f64.format.order r 0 == some .gt || FloatKind.f64.format.order r 0 == some .eq)
def zoneB (c e r : Nat) (t : Int) : Bool := knownB c && (knownB e && (knownB r && (geZ r && inB 0 100000 t)))
theorem le_of {x y : Nat} {a b : Option Nat} (hx : Fl x a) (hy : Fl y b) : (FloatKind.f64.format.order x y == some .lt || FloatKind.f64.format.order x y == some .eq) = leO a b := by
  unfold leO; rw [fl_order hx hy]
theorem gt_of {x y : Nat} {a b : Option Nat} (hx : Fl x a) (hy : Fl y b) : (FloatKind.f64.format.order x y == some .gt) = gtO a b := by
  unfold gtO; rw [fl_order hx hy]
theorem mul_fin {x y : Nat} (hx : rg x < INF) (hy : rg y < INF) : ∃ r, FloatKind.f64.format.mul x y = some r := by
  obtain ⟨m, e, h1, _⟩ := read_fin hx
  obtain ⟨m', e', h2, _⟩ := read_fin hy
  unfold Ieee.Format.mul
  rw [h1, h2]
  simp [Ieee.Datum.product]
theorem zone_known {c e r : Nat} {t : Int} (h : zoneB c e r t = true) : knownB r = true := by
  unfold zoneB at h
  simp only [Bool.and_eq_true] at h
  exact h.2.2.1
/-- The square of a known float takes no draw. -/
theorem sq_run {r : Nat} {o : Option Nat} (hr : Fl r o) (h : knownB r = true) : ∃ m, (∀ w, (binOp .mul 22 (.float .f64 r) (.float .f64 r)).run Try.prog w = .ok (.float .f64 m) w) ∧ Fl m (opO .mul o o) := by
  have h1 : rg r < INF := of_decide_eq_true h
  obtain ⟨m, hm⟩ := mul_fin h1 h1
  refine ⟨m, fun w => run_mul_some _ w hm, ?_⟩
  obtain ⟨r', n, e, f⟩ := fl_run (P := Try.prog) (f := .mul) rfl 22 hr hr default
  have := run_mul_some (P := Try.prog) 22 default hm
  rw [this] at e
  have e2 : m = r' := by injection e with e _; injection e
  rw [e2]
  exact f
end Go.Proofs.Ytedkhhocbnldjaa
