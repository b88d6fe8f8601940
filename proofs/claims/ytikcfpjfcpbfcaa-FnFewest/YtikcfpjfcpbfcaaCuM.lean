/-
What is proved: exits as a map's keys: what a key reads as, that two exits are two keys; which exits a map holds, and how that turns where a duct is laid or gone along.
-/
import Derived.Test.YtikcfpjfcpbfcaaCuB
import Derived.Maps.OwnSet
import Derived.DeepKeys4
namespace Go.Proofs.Ytikcfpjfcpbfcaa
set_option maxRecDepth 40000
open Go.ChangeShapes Go.WideShapes Go.ChangeAt Go.RowKit
set_option linter.unusedVariables false
set_option linter.unusedSimpArgs false

open Go.Maps Go.WideMaps
theorem exWide : (match Try.prog.underlying 129 with | some (.array _ _) | some (.struct _) => true | _ => false) = true := by kernel_rfl
theorem exLaw : Keyed Try.prog 129 := Keyed.of_law (deep_law_laid laidOut (m := 3) (by omega) (of_decide_eq_true (by kernel_rfl)) (by kernel_rfl) exWide)
def exL (x v : Int) : Lit := .string (keyBytes [.int .i64 x, .int .i64 v])
theorem exKT : Try.prog.keyType 129 = true := by kernel_rfl
theorem exCells : Try.prog.cellsOf 129 = 2 := by kernel_rfl
theorem iCells : Try.prog.cellsOf 2 = 1 := by kernel_rfl
theorem jCells : Try.prog.cellsOf 3 = 1 := by kernel_rfl
theorem exKey {x v : Int} (wx : (Lit.int .i64 x).wf = true) (wv : (Lit.int .i64 v).wf = true) : keyOf Try.prog 129 (.agg #[.int .i64 x, .int .i64 v]) = some (exL x v) := by
  have h0 : (0 : Nat) < Try.prog.types.size := of_decide_eq_true (by kernel_rfl)
  obtain ⟨q, hq⟩ : ∃ q, Try.prog.types.size = q + 1 := ⟨Try.prog.types.size - 1, by omega⟩
  unfold keyOf
  simp only [Try.underlying129]
  rw [if_pos (by simp [exKT, Value.formed, Try.underlying129, exCells]), hq]
  unfold Program.keyLits
  simp only [Try.underlying129, Value.cells]
  rw [if_pos (by rw [exCells]; exact ⟨rfl, by kernel_rfl⟩)]
  simp [iCells, jCells, Program.keyLits, Try.underlying2, Try.underlying3, wx, wv, exL]
theorem ex_wf {x : Nat} (h : x ≤ 1000) : (Lit.int .i64 (x : Int)).wf = true := WalkArith.wf_i64 (by omega)
theorem exKeyN {x v : Nat} (hx : x ≤ 1000) (hv : v ≤ 1000) : keyOf Try.prog 129 (.agg #[.int .i64 (x : Int), .int .i64 (v : Int)]) = some (exL x v) := exKey (ex_wf hx) (ex_wf hv)
theorem exL_ne {x v x' v' : Nat} (hx : x ≤ 1000) (hv : v ≤ 1000) (hx' : x' ≤ 1000) (hv' : v' ≤ 1000) (h : ¬ (x = x' ∧ v = v')) : exL (x : Int) (v : Int) ≠ exL (x' : Int) (v' : Int) := fun e => by
  have := exLaw.inj (exKeyN hx hv) (e ▸ exKeyN hx' hv')
  simp only [Value.agg.injEq, Array.mk.injEq, List.cons.injEq, Value.int.injEq] at this
  omega
theorem exKL (x v : Int) : WideAt.IsKeyLit (exL x v) := trivial
/-- The map holds of each duct that E says its two exits, and where each leads; no other exit. -/
def ExIs (M : DataW Unit) (D : Nat → Int × Int) (E : Nat → Bool) : Prop := IsMap M ∧ ∀ x v : Nat, x ≤ 1000 → v ≤ 1000 →
  (Maps.has M (exL x v) = (E v && (x == endA D v || x == endB D v))) ∧
  (E v = true → ∀ z, (x = endA D v → M.atKey (exL x v) z = .lit (.int .i64 (endB D v))) ∧ (x = endB D v → M.atKey (exL x v) z = .lit (.int .i64 (endA D v))))
theorem ex_empty (D : Nat → Int × Int) : ExIs (.map []) D (fun _ => false) := ⟨isMap_empty, fun x v _ _ => ⟨rfl, fun h => by cases h⟩⟩
def onW (E : Nat → Bool) (j : Nat) : Nat → Bool := fun v => if v = j then true else E v
theorem ExIs.lay {M : DataW Unit} {D : Nat → Int × Int} {E : Nat → Bool} {j : Nat} (h : ExIs M D E) (hj : j ≤ 1000) (ha : endA D j ≤ 1000) (hb : endB D j ≤ 1000) (hn : endA D j ≠ endB D j) : ExIs ((M.put (exL (endA D j) j) (.lit (.int .i64 (endB D j)))).put (exL (endB D j) j) (.lit (.int .i64 (endA D j)))) D (onW E j) := by
  refine ⟨(h.1.put _ _).put _ _, fun x v hx hv => ?_⟩
  obtain ⟨h1, h2⟩ := h.2 x v hx hv
  by_cases e : v = j
  · subst e
    by_cases q : x = endB D v
    · subst q
      refine ⟨by rw [has_put_same (h.1.put _ _) (exKL _ _)]; simp [onW], fun _ z => ⟨fun e => absurd e.symm hn, fun _ => atKey_put_same (h.1.put _ _) (exKL _ _) _ _⟩⟩
    · have ne := exL_ne hx hv hb hv (fun e => q e.1)
      by_cases r : x = endA D v
      · subst r
        refine ⟨by rw [has_put_other ne, has_put_same h.1 (exKL _ _)]; simp [onW], fun _ z => ⟨fun _ => by rw [atKey_put_other ne]; exact atKey_put_same h.1 (exKL _ _) _ _, fun e => absurd e q⟩⟩
      · have ne2 := exL_ne hx hv ha hv (fun e => r e.1)
        refine ⟨by rw [has_put_other ne, has_put_other ne2, h1, beq_false_of_ne r, beq_false_of_ne q]; cases E v <;> cases onW E v v <;> rfl, fun _ z => ⟨fun e => absurd e r, fun e => absurd e q⟩⟩
  · have ne := exL_ne hx hv hb hj (fun c => e c.2)
    have ne2 := exL_ne hx hv ha hj (fun c => e c.2)
    have same : onW E j v = E v := by unfold onW; rw [if_neg e]
    rw [same]
    exact ⟨by rw [has_put_other ne, has_put_other ne2, h1], fun hE z => by rw [atKey_put_other ne, atKey_put_other ne2]; exact h2 hE z⟩
theorem ExIs.drop {M : DataW Unit} {D : Nat → Int × Int} {E : Nat → Bool} {j y z : Nat} (h : ExIs M D E) (hj : j ≤ 1000) (hy : y ≤ 1000) (hz : z ≤ 1000) (hyz : (y = endA D j ∧ z = endB D j) ∨ (y = endB D j ∧ z = endA D j)) : ExIs ((M.del (exL y j)).del (exL z j)) D (offW E j) := by
  refine ⟨(h.1.del _).del _, fun x v hx hv => ?_⟩
  obtain ⟨h1, h2⟩ := h.2 x v hx hv
  by_cases e : v = j
  · subst e
    have off : offW E v v = false := by simp [offW]
    rw [off]
    refine ⟨?_, fun c => by cases c⟩
    by_cases q : x = z
    · subst q; rw [has_del_same]; rfl
    · rw [has_del_other (exL_ne hx hv hz hv (fun c => q c.1))]
      by_cases r : x = y
      · subst r; rw [has_del_same]; rfl
      · rw [has_del_other (exL_ne hx hv hy hv (fun c => r c.1)), h1]
        have : ¬ x = endA D v ∧ ¬ x = endB D v := by omega
        simp [this.1, this.2]
  · have same : offW E j v = E v := by unfold offW; rw [if_neg e]
    have ne := exL_ne hx hv hz hj (fun c => e c.2)
    have ne2 := exL_ne hx hv hy hj (fun c => e c.2)
    rw [same]
    exact ⟨by rw [has_del_other ne, has_del_other ne2, h1], fun hE u => by rw [atKey_del_other ne, atKey_del_other ne2]; exact h2 hE u⟩
end Go.Proofs.Ytikcfpjfcpbfcaa
