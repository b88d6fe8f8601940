/-
What is proved: when a sensor is right and what a count of it reads, up to a NaN's bits.
-/
import Derived.Test.YtpnhliijkepbbaaNnK

namespace Go.Proofs.Ytpnhliijkepbbaa
set_option maxRecDepth 40000
open Go.RowKit
set_option linter.unusedVariables false
set_option linter.unusedSimpArgs false

theorem f64_lt {x : Nat} (h : (Lit.float .f64 x).wf = true) : x < 18446744073709551616 := by
  simpa [Lit.wf] using h
def itg (k : Int) : Nat := FloatKind.f64.nearest k
theorem itg_fl (k : Int) : Fl (itg k) (some (itg k)) := by
  have : rg (itg k) ≤ INF ∧ itg k < 18446744073709551616 := write_fin (.number (decide (k < 0)) k.natAbs 0) rfl
  exact ⟨this.2, .inl ⟨this.1, rfl⟩⟩
theorem conv64 (k : Int) (w : World) : (convert 2 24 (.int .i64 k)).run Try.prog w = .ok (.float .f64 (itg k)) w := by kernel_rfl
def SPAN : Nat := 4661047493444763648
theorem span_fl : Fl 4661047493444763648 (some SPAN) := ⟨by decide, .inl ⟨by decide, rfl⟩⟩
def partO (c : Int) : Option Nat := opO .quo (some (itg (c - 40))) (some SPAN)
def rdO (a b : Nat) (c : Int) : Option Nat := opO .add (some a) (opO .mul (opO .sub (some b) (some a)) (partO c))
theorem fl_known {x : Nat} (h : x < 18446744073709551616) (k : knownB x = true) : Fl x (some x) := ⟨h, .inl ⟨Nat.le_of_lt (of_decide_eq_true k), rfl⟩⟩
end Go.Proofs.Ytpnhliijkepbbaa
