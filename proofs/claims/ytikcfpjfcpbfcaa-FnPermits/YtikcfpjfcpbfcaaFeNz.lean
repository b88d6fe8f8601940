/-
What is proved: of the fewest valves none can be left open, and a permit with them is granted in an empty book, in numbers; a list appended whole to one that the call has made.
-/
import Derived.Test.YtikcfpjfcpbfcaaFwNz
import Derived.Test.YtikcfpjfcpbfcaaFwLz
import Derived.Test.YtikcfpjfcpbfcaaZcH
import Derived.Test.YtikcfpjfcpbfcaaCuSz
import Derived.Test.YtikcfpjfcpbfcaaRisz
import Derived.Deep.AppendLies
import Derived.Laws.OwnMore
namespace Go.Proofs.Ytikcfpjfcpbfcaa
set_option maxRecDepth 40000
open Go.ChangeShapes Go.WideShapes Go.ChangeAt Go.RowKit
set_option linter.unusedVariables false
set_option linter.unusedSimpArgs false

theorem cutB_yes {p : Int} {n : Nat} {D : Nat → Int × Int} {m : Nat} {S : Nat → Int} {k : Nat} {Q : Nat → Int} {x : Int} (h : cutB p n D m S k Q x = true) : netB p n D m S = true ∧ inB 0 (p - 1) x = true := by
  unfold cutB at h
  simp only [Bool.and_eq_true] at h
  exact ⟨h.1, h.2.1⟩
/-- A list appended whole to a list that the call has made, in a region that draws its order. -/
theorem wp_joinL {o : Oper} {a : Act} {KK : Act → World → Prop} {Q : Exit → Act → World → Prop} {W : World} (base : Nat) (v : Value) (l : List Int) (sx : Option Addr) (n c : Nat) (X : List Int) (s z : Operand)
    (ho : o.op = .call { callee := .builtin .append, args := #[s, z], argTypes := #[23, 23] }) (hs : a.eval s = v) (hx : a.eval z = .slice sx n c) (hXn : X.length = n) (hn : n ≤ 100000) (hl : l.length ≤ 100000) (hb : base ≤ W.heap.size) (hown : OwL base W v l) (R : RowI W sx n (nthI X))
    (h : ∀ s' cap w', OwL base w' (.slice s' (l.length + n) cap) (l ++ X) → Below base W w' → (∀ g, g < W.heap.size → v.ownBlock ≠ some g → w'.heap[g]? = W.heap[g]?) → KK (a.put o.dst (.slice s' (l.length + n) cap)) w') : o.wp Try.prog a W KK Q := by
  subst hXn
  obtain ⟨i0, hi, hz0, hz1, hz2⟩ := info_parts info_i64
  have hrun : ∃ s' cap w', (Builtin.append_ #[23, 23] o.type #[v, .slice sx X.length c]).run Try.prog W = .ok (.slice s' (l.length + X.length) cap) w' ∧ OwL base w' (.slice s' (l.length + X.length) cap) (l ++ X) ∧ Below base W w' ∧ ∀ g, g < W.heap.size → v.ownBlock ≠ some g → w'.heap[g]? = W.heap[g]? := by
    cases sx with
    | some ad =>
      obtain ⟨v', w', h1, h2, h3, _⟩ := run_append_own (P := Try.prog) (w := W) base 23 o.type 2 i0 (.int .i64 0) 1 8 Try.underlying23 hi hz0 hz1 hz2 rfl (by decide) v l.length (cellsOf l) hown ad X.length c (vals (nthI X) X.length) (by rw [vals_length, Nat.mul_one]) (row_addF R) (by
        intro u hu
        simp only [vals, List.mem_map] at hu
        obtain ⟨j, _, rfl⟩ := hu
        rfl) (by unfold maxLen; omega) (by omega) hb
      have h2' : OwL base w' v' (l ++ X) := by
        unfold OwL
        rw [List.length_append]
        rw [vals_nth] at h2
        have e : cellsOf (l ++ X) = cellsOf l ++ cellsOf X := by simp [cellsOf]
        rw [e]
        exact h2
      obtain ⟨s', cap, e, _⟩ := h2'.own
      rw [List.length_append] at e
      subst e
      exact ⟨s', cap, w', h1, h2', grown_below h3 hb (own_block hown), fun g hg hn => h3.block g hg (fun e => hn e.symm)⟩
    | none =>
      have e : X.length = 0 := by
        rcases Nat.eq_zero_or_pos X.length with q | q
        · exact q
        · obtain ⟨b, o, e, _⟩ := R 0 (by omega)
          cases e
      have e2 : X = [] := List.length_eq_zero_iff.1 e
      subst e2
      obtain ⟨s', cap, e3, _⟩ := hown.own
      subst e3
      refine ⟨s', cap, W, run_append_noneF (P := Try.prog) (w := W) base 23 o.type 2 i0 1 Try.underlying23 hi _ l.length c _ hown, ?_, Below.refl _ _, fun g _ _ => rfl⟩
      simpa using hown
  obtain ⟨s', cap, w', h1, h2, h3, h4⟩ := hrun
  unfold Oper.wp execOp
  simp only [ho, resolve, invoke, builtin, Sem.run_bind, Sem.run_pure, Result.andThen_ok, List.map_toArray, List.map_cons, List.map_nil, hs, hx, h1]
  exact h s' cap w' h2 h3 h4
theorem Blk.farJ {w w' : World} {b : Nat} {cs : List Value} {v : Value} (h : Blk w b cs) (hf : ∀ q, q < w.heap.size → v.ownBlock ≠ some q → w'.heap[q]? = w.heap[q]?) (hz : w.heap.size ≤ w'.heap.size) (hn : v.ownBlock ≠ some b) : Blk w' b cs := by
  have e := hf b h.1 hn
  exact ⟨Nat.lt_of_lt_of_le h.1 hz, fun o => (World.frozen?_of_block (a := ⟨b, o, none⟩) e).trans (h.2.1 o), fun i u q => (World.cell?_of_block (a := ⟨b, i, none⟩) e).trans (h.2.2 i u q)⟩
end Go.Proofs.Ytikcfpjfcpbfcaa
