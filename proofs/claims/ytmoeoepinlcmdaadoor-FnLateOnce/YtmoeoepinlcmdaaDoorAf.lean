/-
What is proved: impl.firstMisfit, by what the function that it is handed answers.
-/
import Derived.Test.YtmoeoepinlcmdaaDoorAs
namespace Go.Proofs.YtmoeoepinlcmdaaDoor
set_option maxRecDepth 40000
open Go.ChangeShapes Go.WideShapes Go.ChangeAt Go.RowKit
set_option linter.unusedVariables false
set_option linter.unusedSimpArgs false

def ErrV (v : Value) (b : Bool) : Prop := (b = true ∧ v = .nilIface) ∨ (b = false ∧ ∃ (t : TypeId) (x : Value), v = .iface t x)
theorem ball_succA {p : Nat → Prop} {k : Nat} (h : ∀ j, j < k → p j) (hk : p k) : ∀ j, j < k + 1 → p j := fun j hj => by
  by_cases e : j = k
  · exact e ▸ hk
  · exact h j (by omega)
set_option maxRecDepth 20000 in
set_option maxHeartbeats 4000000 in
theorem firstMisfit_any (n : Nat) (f : FuncId) (cs : Array Value) (g : Nat → Bool) (w : World) (hn : (n : Int) ≤ 1048576) (hcall : ∀ args w, (callFunc f args).run Tryd.prog w = .ok (.enter f args) w)
    (HC : Hid (∀ k w', k < n → Below w.heap.size w w' → Calls Tryd.prog f (#[.int .i64 k] ++ cs) w' fun e w2 => ∃ v, e = .returned v ∧ ErrV v (g k) ∧ Below w'.heap.size w' w2)) :
    Calls Tryd.prog 48 #[.int .i64 n, .func (.func f) #[] cs] w fun e w' => ∃ v, e = .returned v ∧ MisV v (decide (∀ j, j < n → g j = true)) ∧ Below w.heap.size w w' := by
  go_enter Tryd.func48, Tryd.ntmps48
  go_wp2_with fail
  go_loopw [8] (fun i wr => ∃ k : Nat, k ≤ n ∧ i = .int .i64 k ∧ Hid (∀ j, j < k → g j = true) ∧ Below w.heap.size w wr) (fun i _ => n - (intOf i).toNat)
  case atStart => exact ⟨0, Nat.zero_le _, rfl, fun j hj => by omega, Below.refl _ _⟩
  case round =>
    obtain ⟨k, hk, rfl, HP, hB⟩ := hrel
    by_cases h1 : k < n
    · go_wp2_with fail
      refine (HC.out k _ h1 hB).mono ?_
      rintro e w1 ⟨v, rfl, hv, hb⟩
      have B1 : Below w.heap.size w w1 := hB.trans (hb.mono hB.size)
      clear hb
      rcases hv with ⟨hg, rfl⟩ | ⟨hg, t, x, rfl⟩
      · have HP2 : Hid (∀ j, j < k + 1 → g j = true) := ball_succA HP.out hg
        clear HP hg
        go_wp2
        go_roundw
        case rel => exact ⟨k + 1, by omega, by first | rfl | simp, HP2, B1⟩
        case measure => simp [intOf]; omega
      · have HM : Hid (decide (∀ j, j < n → g j = true) = false) := decide_eq_false (fun q => by have := q k h1; rw [hg] at this; cases this)
        clear HP hg
        go_wp2
        go_ret
        exact ⟨_, rfl, Or.inr ⟨HM.out, _, _, _, rfl⟩, B1⟩
    · obtain rfl : k = n := by omega
      go_wp2
      go_ret
      exact ⟨_, rfl, Or.inl ⟨decide_eq_true HP.out, rfl⟩, hB⟩
end Go.Proofs.YtmoeoepinlcmdaaDoor
