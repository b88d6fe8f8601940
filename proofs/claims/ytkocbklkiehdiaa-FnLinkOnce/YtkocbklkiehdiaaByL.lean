/-
What is proved: bytes appended to a row that the call has made.
-/
import Derived.Test.YtkocbklkiehdiaaByM
import Derived.Test.YtkocbklkiehdiaaOwnL
import Derived.Laws.OwnMore
namespace Go.Proofs.Ytkocbklkiehdiaa
set_option maxRecDepth 40000
open Go.RowKit
set_option linter.unusedVariables false
set_option linter.unusedSimpArgs false

theorem info_u8 : (Try.prog.info? 5).map (fun i => (i.zero, i.size, i.bytes)) = some (some (.int .u8 0), 1, 1) := by kernel_rfl
def cellsY (l : List Int) : List Value := l.map fun x => .int .u8 x
theorem cellsY_append (l m : List Int) : cellsY (l ++ m) = cellsY l ++ cellsY m := by simp [cellsY]
theorem cellsY_length (l : List Int) : (cellsY l).length = l.length := by simp [cellsY]
/-- The row that the call has made: these bytes, in blocks from base on. -/
def MadeY (base : Nat) (w : World) (v : Value) (l : List Int) : Prop := w.ownsRow base 5 1 v l.length (cellsY l)
theorem madeY_lit (w : World) {base : Nat} (hb : base ≤ w.heap.size) (cs : Array Value) (l : List Int) (hl : l.length ≤ 100) (hc : cs.toList = cellsY l) : MadeY base (w.alloc (.cells cs 5)) (.slice (some ⟨w.heap.size, 0, none⟩) l.length l.length) l := by
  have hs : cs.size = l.length * 1 := by rw [Nat.mul_one, ← cellsY_length l, ← hc]; simp
  have h := World.ownsRow_lit (base := base) (e := 5) (size := 1) w cs l.length hb (by unfold maxLen; omega) hs
  unfold MadeY
  rw [← hc]
  exact h
theorem MadeY.below {base : Nat} {w w' : World} {v : Value} {l : List Int} (h : MadeY base w v l) (hb : Below w.heap.size w w') : MadeY base w' v l := by
  refine own_same h fun g hg => hb.block g ?_
  exact (h.lt g hg).2
theorem madeY_own {base : Nat} {w : World} {v : Value} {l : List Int} (h : MadeY base w v l) : ∃ s cap, v = .slice s l.length cap ∧ OwnY base w s l.length (nthI l) := by
  unfold MadeY at h
  rcases h.2 with ⟨rfl, h0⟩ | ⟨g, cap, cur, rfl, hb, hg, _, _, _, _⟩
  · exact ⟨none, 0, by rw [h0], by rw [h0]; exact fun j hj => by omega⟩
  · refine ⟨some ⟨g, 0, none⟩, cap, rfl, fun j hj => ⟨g, rfl, hb, ?_, ?_, h.frozenAt j⟩⟩
    · rcases Nat.lt_or_ge g w.heap.size with hlt | hge
      · exact hlt
      · rw [Array.getElem?_eq_none hge] at hg; cases hg
    · rw [h.cellAt j (by omega)]
      simp [cellsY, nthI, hj]
theorem list_bytes {ops : Array Oper} {rest : List Oper} {o : Oper} {a : Act} {Q : Exit → Act → World → Prop} {W : World} (base : Nat) (v : Value) (l ys : List Int) (B m c : Nat) (s z : Operand) (hgd : o.guard = none)
    (ho : o.op = .call { callee := .builtin .append, args := #[s, z], argTypes := #[22, 22] }) (hs : a.eval s = v) (hx : a.eval z = .slice (some ⟨B, 0, none⟩) m c) (hm : ys.length = m) (hp : 0 < m) (hown : MadeY base W v l) (hb : base ≤ W.heap.size) (hl : l.length ≤ 100000) (hm2 : m ≤ 100000)
    (hys : ∀ j x, ys[j]? = some x → W.cell? ⟨B, j, none⟩ = some (.int .u8 x))
    (h : ∀ g k cap w', MadeY base w' (.slice (some ⟨g, 0, none⟩) k cap) (l ++ ys) → Below base W w' → wpList Try.prog ops Q rest (a.put o.dst (.slice (some ⟨g, 0, none⟩) k cap)) w') :
    wpList Try.prog ops Q (o :: rest) a W := by
  obtain ⟨i0, hi, hz0, hz1, hz2⟩ := info_parts info_u8
  refine wpList_append_lies _ hgd s z 22 ho base 5 i0 (.int .u8 0) 1 1 Try.underlying22 hi hz0 hz1 hz2 rfl (by decide) v l.length (cellsY l) hs hown ⟨B, 0, none⟩ m c (cellsY ys) hx (by rw [cellsY_length, hm, Nat.mul_one]) ?_ ?_ hp (by unfold maxLen; omega) (by omega) hb _ rfl ?_
  · intro j u hu
    have hadd : (⟨B, 0, none⟩ : Addr).add j = ⟨B, j, none⟩ := by unfold Addr.add; split <;> simp_all
    rw [hadd]
    simp only [cellsY, List.getElem?_map, Option.map_eq_some_iff] at hu
    obtain ⟨x, h1, rfl⟩ := hu
    exact hys j x h1
  · intro u hu
    simp only [cellsY, List.mem_map] at hu
    obtain ⟨x, _, rfl⟩ := hu
    rfl
  · intro g cap w' h1 h2 _ h3
    have e : (l ++ ys).length = l.length + m := by rw [List.length_append, hm]
    have h1' : MadeY base w' (.slice (some ⟨g, 0, none⟩) (l.length + m) cap) (l ++ ys) := by
      unfold MadeY
      rw [e, cellsY_append]
      exact h1
    exact h g _ cap w' h1' (grown_below h2 hb (own_block hown))
end Go.Proofs.Ytkocbklkiehdiaa
