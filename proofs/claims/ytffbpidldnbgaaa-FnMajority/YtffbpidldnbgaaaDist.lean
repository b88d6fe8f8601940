/-
What is proved: how far two floats lie apart does not ask which stands first.
-/
import Derived.Test.YtffbpidldnbgaaaSz
namespace Go.Proofs.Ytffbpidldnbgaaa
set_option maxRecDepth 40000
open Go.RowKit
set_option linter.unusedVariables false
set_option linter.unusedSimpArgs false

theorem word_rg (s t : Bool) (r : Nat) : rg (FloatKind.f64.format.word s r) = rg (FloatKind.f64.format.word t r) := by
  cases s <;> cases t <;> simp [rg, Ieee.Format.word, fmt_sign]
theorem nearest_rg (s t : Bool) (m : Nat) (p : Int) : rg (FloatKind.f64.format.nearest s m p) = rg (FloatKind.f64.format.nearest t m p) := by
  unfold Ieee.Format.nearest
  by_cases h : m = 0
  · rw [if_pos h, if_pos h]; exact word_rg s t 0
  · rw [if_neg h, if_neg h]; exact word_rg s t _
theorem signed_not (t : Bool) (n k : Nat) : Ieee.signed (!t) n k = -Ieee.signed t n k := by
  cases t <;> simp [Ieee.signed]
theorem sum_size (d e : Ieee.Datum) : ((d.sum e.opposite).map FloatKind.f64.format.write).map rg = ((e.sum d.opposite).map FloatKind.f64.format.write).map rg := by
  cases d with
  | nan s t => cases e <;> rfl
  | infinity s =>
    cases e with
    | nan => rfl
    | infinity t =>
      cases s <;> cases t <;> simp [Ieee.Datum.sum, Ieee.Datum.opposite, Ieee.Format.write] <;> exact word_rg _ _ _
    | number t n j =>
      simp only [Ieee.Datum.sum, Ieee.Datum.opposite, Option.map_some, Ieee.Format.write]
      exact congrArg some (word_rg _ _ _)
  | number s m i =>
    cases e with
    | nan => rfl
    | infinity t =>
      simp only [Ieee.Datum.sum, Ieee.Datum.opposite, Option.map_some, Ieee.Format.write]
      exact congrArg some (word_rg _ _ _)
    | number t n j =>
      simp only [Ieee.Datum.sum, Ieee.Datum.opposite, Option.map_some, Ieee.Format.write]
      rw [Int.min_comm j i, signed_not, signed_not]
      have e1 : (Ieee.signed t n (j - min i j).toNat + -Ieee.signed s m (i - min i j).toNat).natAbs = (Ieee.signed s m (i - min i j).toNat + -Ieee.signed t n (j - min i j).toNat).natAbs := by omega
      rw [e1]
      exact congrArg some (nearest_rg _ _ _ _)
theorem dist_comm (a b : Option Nat) : distO a b = distO b a := by
  cases a with
  | none => cases b <;> rfl
  | some x =>
    cases b with
    | none => rfl
    | some y =>
      have h := sum_size (FloatKind.f64.format.read x) (FloatKind.f64.format.read y)
      have e : ∀ x y : Nat, distO (some x) (some y) = ((((FloatKind.f64.format.read x).sum (FloatKind.f64.format.read y).opposite).map FloatKind.f64.format.write).map rg) := fun x y => by
        unfold distO
        show sizeO (FloatKind.f64.format.sub x y) = _
        unfold Ieee.Format.sub
        cases (((FloatKind.f64.format.read x).sum (FloatKind.f64.format.read y).opposite).map FloatKind.f64.format.write) <;> rfl
      rw [e, e, h]
theorem far_comm (a b c : Option Nat) : farO a b c = farO b a c := by unfold farO; rw [dist_comm]
theorem near_comm (a b c : Option Nat) : nearO a b c = nearO b a c := by unfold nearO; rw [dist_comm]
end Go.Proofs.Ytffbpidldnbgaaa
