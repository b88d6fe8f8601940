/-
What is proved: pushes of one kind, appended.
-/
import Derived.Test.YtafifjodpgmiiaaDrP
namespace Go.Proofs.Ytafifjodpgmiiaa
set_option maxRecDepth 40000
open Go.ChangeShapes Go.WideShapes Go.ChangeAt Go.RowKit
set_option linter.unusedVariables false
set_option linter.unusedSimpArgs false

theorem info_push : (Try.prog.info? 57).map (fun i => (i.zero, i.size, i.bytes)) = some (some (.agg #[.slice none 0 0, .int .i64 0, .bool false]), 3, 40) := by kernel_rfl
theorem newsThree (W : World) (a b c : Value) (t : TypeId) : ∀ j u, [a, b, c][j]? = some u → (W.alloc (.cells #[a, b, c] t)).cell? ((⟨W.heap.size, 0, none⟩ : Addr).add j) = some u := World.news_of_block (cs := #[a, b, c]) (heap_alloc_new W _)
theorem list_push {ops : Array Oper} {rest : List Oper} {o : Oper} {a : Act} {Q : Exit → Act → World → Prop} {W : World} {t : TypeId} {ob : Nat} {sp : Int} {jam : Bool} (base : Nat) (v : Value) (k : Nat) (xs : List Value) (s z : Operand) (hgd : o.guard = none)
    (ho : o.op = .call { callee := .builtin .append, args := #[s, z], argTypes := #[44, 44] }) (hs : a.eval s = v) (hx : a.eval z = .slice (some ⟨W.heap.size, 0, none⟩) 1 1) (hown : W.ownsRow base 57 3 v k xs) (hk : k ≤ 1000000) (hb : base ≤ W.heap.size)
    (h : ∀ g cap w', w'.ownsRow base 57 3 (.slice (some ⟨g, 0, none⟩) (k + 1) cap) (k + 1) (xs ++ [.slice (some ⟨ob, 0, none⟩) 1 1, .int .i64 sp, .bool jam]) → W.grownBy w' v.ownBlock → g < w'.heap.size → wpList Try.prog ops Q rest (a.put o.dst (.slice (some ⟨g, 0, none⟩) (k + 1) cap)) w') :
    wpList Try.prog ops Q (o :: rest) a (W.alloc (.cells #[.slice (some ⟨ob, 0, none⟩) 1 1, .int .i64 sp, .bool jam] t)) := by
  obtain ⟨i0, hi, hz0, hz1, hz2⟩ := info_parts info_push
  refine wpList_append_lies _ hgd s z 44 ho base 57 i0 (.agg #[.slice none 0 0, .int .i64 0, .bool false]) 3 40 Try.underlying44 hi hz0 hz1 hz2 rfl (by decide) v k xs hs (hown.alloc _) ⟨W.heap.size, 0, none⟩ 1 1 [.slice (some ⟨ob, 0, none⟩) 1 1, .int .i64 sp, .bool jam] hx rfl (newsThree _ _ _ _ _) ?_ (by decide) (by unfold maxLen; omega) (by omega) (by simp; omega) _ rfl ?_
  · intro u hu
    simp at hu
    rcases hu with rfl | rfl | rfl <;> rfl
  · intro g cap w' h1 h2 _ h3
    exact h g cap w' h1 (grown_new h2) h3
def pshL (ob : Nat) (sp : Int) (jam : Bool) : Nat → List Value
  | 0 => []
  | k + 1 => pshL ob sp jam k ++ [.slice (some ⟨ob, 0, none⟩) 1 1, .int .i64 sp, .bool jam]
theorem pshL_len (ob : Nat) (sp : Int) (jam : Bool) : ∀ k, (pshL ob sp jam k).length = k * 3
  | 0 => rfl
  | k + 1 => by
    unfold pshL
    rw [List.length_append, pshL_len]
    simp
    omega
theorem pshL_at (ob : Nat) (sp : Int) (jam : Bool) : ∀ k j, j < k → (pshL ob sp jam k)[j * 3]? = some (.slice (some ⟨ob, 0, none⟩) 1 1) ∧ (pshL ob sp jam k)[j * 3 + 1]? = some (.int .i64 sp) ∧ (pshL ob sp jam k)[j * 3 + 2]? = some (.bool jam)
  | 0, j, h => by omega
  | k + 1, j, h => by
    have hl := pshL_len ob sp jam k
    unfold pshL
    by_cases e : j = k
    · subst e
      refine ⟨?_, ?_, ?_⟩
      · rw [List.getElem?_append_right (by omega), show j * 3 - (pshL ob sp jam j).length = 0 by omega]; rfl
      · rw [List.getElem?_append_right (by omega), show j * 3 + 1 - (pshL ob sp jam j).length = 1 by omega]; rfl
      · rw [List.getElem?_append_right (by omega), show j * 3 + 2 - (pshL ob sp jam j).length = 2 by omega]; rfl
    · obtain ⟨a, b, c⟩ := pshL_at ob sp jam k j (by omega)
      refine ⟨?_, ?_, ?_⟩
      · rw [List.getElem?_append_left (by omega)]; exact a
      · rw [List.getElem?_append_left (by omega)]; exact b
      · rw [List.getElem?_append_left (by omega)]; exact c
/-- Pushes on their way: k of one kind. -/
def MadeP (base : Nat) (w wr : World) (v : Value) (k ob : Nat) (sp : Int) (jam : Bool) : Prop := wr.ownsRow base 57 3 v k (pshL ob sp jam k) ∧ Below base w wr
theorem madeP_lit (w : World) {base ob : Nat} {sp : Int} {jam : Bool} (hb : base ≤ w.heap.size) : MadeP base w (w.alloc (.cells #[] 57)) (.slice (some ⟨w.heap.size, 0, none⟩) 0 0) 0 ob sp jam :=
  ⟨by simpa [pshL] using World.ownsRow_lit (base := base) (size := 3) (e := 57) w #[] 0 hb (by simp [maxLen]) (by simp), (Below.refl _ _).alloc hb _⟩
theorem madeP_on {base : Nat} {w wr w2 : World} {v v' : Value} {k ob : Nat} {sp : Int} {jam : Bool} (h : MadeP base w wr v k ob sp jam) (hz : base ≤ wr.heap.size) (hown : w2.ownsRow base 57 3 v' (k + 1) (pshL ob sp jam k ++ [.slice (some ⟨ob, 0, none⟩) 1 1, .int .i64 sp, .bool jam])) (hg : wr.grownBy w2 v.ownBlock) : MadeP base w w2 v' (k + 1) ob sp jam :=
  ⟨hown, h.2.trans (grown_below hg hz (own_block h.1))⟩
theorem madeP_row {base : Nat} {w wr : World} {v : Value} {k ob : Nat} {sp : Int} {jam : Bool} {Vc : Nat → Int} (h : MadeP base w wr v k ob sp jam) (hk : 0 < k) (hR : RowI wr (some ⟨ob, 0, none⟩) (1 * 2) Vc) : ∃ g cap, v = .slice (some ⟨g, 0, none⟩) k cap ∧ PshR wr (some ⟨g, 0, none⟩) k (fun _ => some ⟨ob, 0, none⟩) (fun _ => 1) (fun _ => 1) (fun _ => Vc) (fun _ => sp) (fun _ => jam) := by
  obtain ⟨g, cap, hv, g0, g1⟩ := h.1.form hk
  have ho := h.1
  rw [hv] at ho
  have hl := pshL_len ob sp jam k
  refine ⟨g, cap, hv, fun j hj => ⟨g, 0, rfl, g1, ?_, ?_, ?_, hR⟩⟩
  · obtain ⟨a, -, -⟩ := pshL_at ob sp jam k j hj
    rw [Nat.zero_add, ho.cellAt (j * 3) (by omega)]; exact a
  · obtain ⟨-, b, -⟩ := pshL_at ob sp jam k j hj
    rw [Nat.zero_add, ho.cellAt (j * 3 + 1) (by omega)]; exact b
  · obtain ⟨-, -, c⟩ := pshL_at ob sp jam k j hj
    rw [Nat.zero_add, ho.cellAt (j * 3 + 2) (by omega)]; exact c
end Go.Proofs.Ytafifjodpgmiiaa
