/-
What is proved: what a link is when it has heard bytes.
-/
import Derived.Test.YtkocbklkiehdiaaLkQ
import Derived.Test.YtkocbklkiehdiaaRf
import Derived.Test.YtkocbklkiehdiaaLkY
namespace Go.Proofs.Ytkocbklkiehdiaa
set_option maxRecDepth 40000
open Go.RowKit
set_option linter.unusedVariables false
set_option linter.unusedSimpArgs false

structure HeT where
  C : Int
  T : Int
  H : Bool
  Q : Int
  A : Int
  L : Int
  m : Nat
  U : Nat → Int
def farV (x q : Int) : Int := (x - q + 65536) % 65536
def lostV (h : Bool) (l f : Int) : Int := if h = true then min (l + f - 1) 1000000000 else 0
def heV (t : Int) (h : Bool) (q a l : Int) (n : Nat) (V : Nat → Int) (n2 : Nat) (V2 : Nat → Int) : HeT :=
  if linkB t h q a l n V = true then
    (if faultV n2 V2 ≠ 0 then ⟨faultV n2 V2, t, h, q, a, l, n, V⟩ else if rdT n2 V2 ≠ t then ⟨6, t, h, q, a, l, n, V⟩ else if h = true ∧ (farV (rdQ n2 V2) q = 0 ∨ 32767 < farV (rdQ n2 V2) q) then ⟨7, t, h, q, a, l, n, V⟩
     else ⟨0, t, true, rdQ n2 V2, 0, lostV h l (farV (rdQ n2 V2) q), rdN n2 V2, rdU V2⟩)
  else ⟨8, 0, false, 0, 0, 0, 0, V⟩
section
variable {t : Int} {h : Bool} {q a l : Int} {n : Nat} {V : Nat → Int} {n2 : Nat} {V2 : Nat → Int}
theorem he8 (k : linkB t h q a l n V = false) : heV t h q a l n V n2 V2 = ⟨8, 0, false, 0, 0, 0, 0, V⟩ := by unfold heV; rw [if_neg (by rw [k]; decide)]
theorem heF (k : linkB t h q a l n V = true) (f : faultV n2 V2 ≠ 0) : heV t h q a l n V n2 V2 = ⟨faultV n2 V2, t, h, q, a, l, n, V⟩ := by unfold heV; rw [if_pos k, if_pos f]
theorem he6 (k : linkB t h q a l n V = true) (f : faultV n2 V2 = 0) (e : rdT n2 V2 ≠ t) : heV t h q a l n V n2 V2 = ⟨6, t, h, q, a, l, n, V⟩ := by unfold heV; rw [if_pos k, if_neg (by omega), if_pos e]
theorem he7 (k : linkB t h q a l n V = true) (f : faultV n2 V2 = 0) (e : rdT n2 V2 = t) (o : h = true ∧ (farV (rdQ n2 V2) q = 0 ∨ 32767 < farV (rdQ n2 V2) q)) : heV t h q a l n V n2 V2 = ⟨7, t, h, q, a, l, n, V⟩ := by unfold heV; rw [if_pos k, if_neg (by omega), if_neg (by omega), if_pos o]
theorem he0 (k : linkB t h q a l n V = true) (f : faultV n2 V2 = 0) (e : rdT n2 V2 = t) (o : ¬ (h = true ∧ (farV (rdQ n2 V2) q = 0 ∨ 32767 < farV (rdQ n2 V2) q))) : heV t h q a l n V n2 V2 = ⟨0, t, true, rdQ n2 V2, 0, lostV h l (farV (rdQ n2 V2) q), rdN n2 V2, rdU V2⟩ := by unfold heV; rw [if_pos k, if_neg (by omega), if_neg (by omega), if_neg o]
theorem link_parts (k : linkB t h q a l n V = true) : (0 ≤ q ∧ q ≤ 65535) ∧ (0 ≤ a ∧ a ≤ 100) ∧ (0 ≤ l ∧ l ≤ 1000000000) ∧ (h = false → l = 0) ∧ n ≤ 20 := by
  unfold linkB frameB valsB at k
  simp only [Bool.and_eq_true, decide_eq_true_eq] at k
  refine ⟨inB_yes k.1.2.1, inB_yes k.2.1, inB_yes k.2.2.1, fun e => ?_, by have := k.1.2.2.1; omega⟩
  have := k.2.2.2
  rw [e] at this
  simp [untB] at this
  exact this.2.1
theorem rdQ_lt (hV : ∀ j, j < n2 → 0 ≤ V2 j ∧ V2 j < 256) : 0 ≤ rdQ n2 V2 ∧ rdQ n2 V2 ≤ 65535 := by
  by_cases f : faultV n2 V2 = 0
  · rw [(rd_yes f).2.2]
    have h7 : ¬ n2 < 7 := fun h => by rw [fault1 h] at f; omega
    have h2 := hV 2 (by omega)
    have h3 := hV 3 (by omega)
    unfold numV
    show 0 ≤ V2 2 * 256 + V2 3 ∧ V2 2 * 256 + V2 3 ≤ 65535
    omega
  · rw [(rd_no rfl f).2.2]; omega
end
/-- The answer: the link and the code. -/
def HePost (w : World) (x : HeT) (e : Ending) (w' : World) : Prop := ∃ s' c', e = .returned (.tuple #[.agg #[.int .i64 x.T, .bool x.H, .int .i64 x.Q, .int .i64 x.A, .int .i64 x.L, .slice s' x.m c'], .int .i64 x.C]) ∧ OwnI w.heap.size w' s' x.m x.U ∧ Below w.heap.size w w'
theorem he_post {w w' : World} {x y : HeT} {e : Ending} (h : x = y) (hp : HePost w y e w') : HePost w x e w' := by rw [h]; exact hp
end Go.Proofs.Ytkocbklkiehdiaa
