/-
What is proved: lists of sets in memory: read, made by the call.
-/
import Derived.Test.YtpaiajeigdifcaaOwn
import Derived.Test.YtpaiajeigdifcaaBeside
import Derived.Deep.AppendLies
import Derived.Laws.OwnMore
import Derived.Deep.OwnRows
namespace Go.Proofs.Ytpaiajeigdifcaa
set_option maxRecDepth 40000
open Go.ChangeShapes Go.WideShapes Go.ChangeAt Go.RowKit
set_option linter.unusedVariables false
set_option linter.unusedSimpArgs false

def RowU (w : World) (s : Option Addr) (m : Nat) (V : Nat → Int) : Prop := ∀ j, j < m → ∃ b o, s = some ⟨b, o, none⟩ ∧ b < w.heap.size ∧ w.cell? ⟨b, o + j, none⟩ = some (.int .u32 (V j))
theorem RowU.below {w w' : World} {s : Option Addr} {m : Nat} {V : Nat → Int} (h : RowU w s m V) (hb : Below w.heap.size w w') : RowU w' s m V := fun j hj => by
  obtain ⟨b, o, e, hl, hc⟩ := h j hj
  exact ⟨b, o, e, Nat.lt_of_lt_of_le hl hb.size, (hb.cell (p := ⟨b, o + j, none⟩) hl).trans hc⟩
def valsU (U : Nat → Int) (m : Nat) : List Value := (List.range m).map fun j => .int .u32 (U j)
theorem valsU_length (U : Nat → Int) (m : Nat) : (valsU U m).length = m := by simp [valsU]
theorem valsU_succ (U : Nat → Int) (m : Nat) : valsU U (m + 1) = valsU U m ++ [.int .u32 (U m)] := by simp [valsU, List.range_succ]
theorem valsU_at (U : Nat → Int) {m j : Nat} (h : j < m) : (valsU U m)[j]? = some (.int .u32 (U j)) := by simp [valsU, h]
theorem valsU_congr {U V : Nat → Int} {m : Nat} (h : ∀ j, j < m → U j = V j) : valsU U m = valsU V m := by
  unfold valsU
  refine List.map_congr_left fun j hj => ?_
  rw [h j (List.mem_range.1 hj)]
def OwnU (base : Nat) (w : World) (s : Option Addr) (m : Nat) (V : Nat → Int) : Prop := ∀ j, j < m → ∃ b, s = some ⟨b, 0, none⟩ ∧ base ≤ b ∧ b < w.heap.size ∧ w.cell? ⟨b, j, none⟩ = some (.int .u32 (V j)) ∧ w.frozen? ⟨b, j, none⟩ = false
theorem OwnU.row {base : Nat} {w : World} {s : Option Addr} {m : Nat} {V : Nat → Int} (h : OwnU base w s m V) : RowU w s m V := fun j hj => by
  obtain ⟨b, e, _, hl, hc, _⟩ := h j hj
  exact ⟨b, 0, e, hl, by rw [Nat.zero_add]; exact hc⟩
theorem OwnU.below {base : Nat} {w w' : World} {s : Option Addr} {m : Nat} {V : Nat → Int} (h : OwnU base w s m V) (hb : Below w.heap.size w w') : OwnU base w' s m V := fun j hj => by
  obtain ⟨b, e, hB, hl, hc, hf⟩ := h j hj
  exact ⟨b, e, hB, Nat.lt_of_lt_of_le hl hb.size, (hb.cell (p := ⟨b, j, none⟩) hl).trans hc, (hb.frozen (p := ⟨b, j, none⟩) hl).trans hf⟩
theorem OwnU.mono {base base' : Nat} {w : World} {s : Option Addr} {m : Nat} {V : Nat → Int} (h : OwnU base w s m V) (hb : base' ≤ base) : OwnU base' w s m V := fun j hj => by
  obtain ⟨b, e, hB, r⟩ := h j hj
  exact ⟨b, e, by omega, r⟩
theorem OwnU.congr {base : Nat} {w : World} {s : Option Addr} {m : Nat} {V U : Nat → Int} (h : OwnU base w s m V) (e : ∀ j, j < m → V j = U j) : OwnU base w s m U := fun j hj => by
  obtain ⟨b, e1, hB, hl, hc, hf⟩ := h j hj
  exact ⟨b, e1, hB, hl, by rw [← e j hj]; exact hc, hf⟩
theorem own_OwnU {w : World} {base : Nat} {e : TypeId} {size n : Nat} {v : Value} {U : Nat → Int} (h : w.ownsRow base e size v n (valsU U (n * size))) : ∃ s cap, v = .slice s n cap ∧ OwnU base w s (n * size) U := by
  rcases h.2 with ⟨rfl, rfl⟩ | ⟨g, cap, cur, rfl, hb, hg, _, _, _, _⟩
  · exact ⟨none, 0, rfl, fun j hj => by omega⟩
  · refine ⟨some ⟨g, 0, none⟩, cap, rfl, fun j hj => ⟨g, rfl, hb, (Array.getElem?_eq_some_iff.1 hg).1, ?_, h.frozenAt j⟩⟩
    rw [h.cellAt j hj, valsU_at U hj]
theorem info_set : (Try.prog.info? 65).map (fun i => (i.zero, i.size, i.bytes)) = some (some (.int .u32 0), 1, 4) := by kernel_rfl
theorem list_set {ops : Array Oper} {rest : List Oper} {o : Oper} {a : Act} {Q : Exit → Act → World → Prop} {W : World} {t : TypeId} {x : Int} (base : Nat) (v : Value) (k : Nat) (xs : List Value) (s z : Operand) (hgd : o.guard = none)
    (ho : o.op = .call { callee := .builtin .append, args := #[s, z], argTypes := #[70, 70] }) (hs : a.eval s = v) (hx : a.eval z = .slice (some ⟨W.heap.size, 0, none⟩) 1 1) (hown : W.ownsRow base 65 1 v k xs) (hk : k ≤ 10000000) (hb : base ≤ W.heap.size)
    (h : ∀ g cap w', w'.ownsRow base 65 1 (.slice (some ⟨g, 0, none⟩) (k + 1) cap) (k + 1) (xs ++ [.int .u32 x]) → W.grownBy w' v.ownBlock → g < w'.heap.size → wpList Try.prog ops Q rest (a.put o.dst (.slice (some ⟨g, 0, none⟩) (k + 1) cap)) w') :
    wpList Try.prog ops Q (o :: rest) a (W.alloc (.cells #[.int .u32 x] t)) := by
  obtain ⟨i0, hi, hz0, hz1, hz2⟩ := info_parts info_set
  refine wpList_append_lies _ hgd s z 70 ho base 65 i0 (.int .u32 0) 1 4 Try.underlying70 hi hz0 hz1 hz2 rfl (by decide) v k xs hs (hown.alloc _) ⟨W.heap.size, 0, none⟩ 1 1 [.int .u32 x] hx rfl (newsOne _ _ _) ?_ (by decide) (by unfold maxLen; omega) (by omega) (by simp; omega) _ rfl ?_
  · intro u hu
    simp at hu
    subst hu; rfl
  · intro g cap w' h1 h2 _ h3
    exact h g cap w' h1 (grown_new h2) h3
def MadeU (base : Nat) (w wr : World) (v : Value) (k : Nat) (U : Nat → Int) : Prop := wr.ownsRow base 65 1 v k (valsU U k) ∧ Below base w wr
theorem made_litU (w : World) (U : Nat → Int) {base : Nat} (hb : base ≤ w.heap.size) : MadeU base w (w.alloc (.cells #[] 65)) (.slice (some ⟨w.heap.size, 0, none⟩) 0 0) 0 U :=
  ⟨by simpa [valsU] using World.ownsRow_lit (base := base) (size := 1) (e := 65) w #[] 0 hb (by simp [maxLen]) (by simp), (Below.refl _ _).alloc hb _⟩
theorem made_nilU (w : World) (U : Nat → Int) {base : Nat} : MadeU base w w (.slice none 0 0) 0 U :=
  ⟨by simpa [valsU] using World.ownsRow_nil w base 65 1, Below.refl _ _⟩
theorem made_onU {base : Nat} {w wr w1 w2 : World} {v v' : Value} {k : Nat} {U : Nat → Int} (h : MadeU base w wr v k U) (hb : Below wr.heap.size wr w1) (hz : base ≤ wr.heap.size) (hown : w2.ownsRow base 65 1 v' (k + 1) (valsU U k ++ [.int .u32 (U k)])) (hg : w1.grownBy w2 v.ownBlock) : MadeU base w w2 v' (k + 1) U := by
  obtain ⟨h1, h2⟩ := h
  have z1 := hb.size
  exact ⟨by rw [valsU_succ]; exact hown, (h2.trans (hb.mono hz)).trans (grown_below hg (by omega) (own_block h1))⟩
theorem made_ownU {base : Nat} {w wr : World} {v : Value} {k : Nat} {U : Nat → Int} (h : MadeU base w wr v k U) : ∃ s cap, v = .slice s k cap ∧ OwnU base wr s k U := by
  have := own_OwnU (size := 1) (U := U) (by rw [Nat.mul_one]; exact h.1)
  rwa [Nat.mul_one] at this
theorem row_addU {w : World} {ad : Addr} {n : Nat} {V : Nat → Int} (R : RowU w (some ad) n V) : ∀ j u, (valsU V n)[j]? = some u → w.cell? (ad.add j) = some u := fun j u hu => by
  have hj : j < n := by
    rcases Nat.lt_or_ge j n with h | h
    · exact h
    · rw [List.getElem?_eq_none (by rw [valsU_length]; exact h)] at hu; cases hu
  rw [valsU_at V hj] at hu
  cases hu
  obtain ⟨b, o, e, _, hc⟩ := R j hj
  cases e
  have : (⟨b, o, none⟩ : Addr).add j = ⟨b, o + j, none⟩ := by
    unfold Addr.add
    split
    · rename_i h; subst h; rfl
    · rfl
  rw [this]
  exact hc
theorem eq_nilU (ad : Addr) (n c : Nat) (w : World) : (binOp .eql 70 (.slice (some ad) n c) (.slice none 0 0)).run Try.prog w = .ok (.bool false) w := by kernel_rfl
end Go.Proofs.Ytpaiajeigdifcaa
