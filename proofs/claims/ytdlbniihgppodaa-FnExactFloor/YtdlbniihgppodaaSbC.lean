/-
What is proved: lists of ints: made, appended to, slices.Clone.
-/
import Derived.Test.YtdlbniihgppodaaOwn
import Derived.Deep.AppendLies
import Derived.Laws.OwnMore
import Derived.Deep.OwnRows
namespace Go.Proofs.Ytdlbniihgppodaa
set_option maxRecDepth 40000
open Go.ChangeShapes Go.WideShapes Go.ChangeAt Go.RowKit
set_option linter.unusedVariables false
set_option linter.unusedSimpArgs false


theorem info_i64T : (Try.prog.info? 3).map (fun i => (i.zero, i.size, i.bytes)) = some (some (.int .i64 0), 1, 8) := by kernel_rfl
theorem list_i64T {ops : Array Oper} {rest : List Oper} {o : Oper} {a : Act} {Q : Exit → Act → World → Prop} {W : World} {t : TypeId} {x : Int} (base : Nat) (v : Value) (k : Nat) (xs : List Value) (s z : Operand) (hgd : o.guard = none)
    (ho : o.op = .call { callee := .builtin .append, args := #[s, z], argTypes := #[62, 62] }) (hs : a.eval s = v) (hx : a.eval z = .slice (some ⟨W.heap.size, 0, none⟩) 1 1) (hown : W.ownsRow base 3 1 v k xs) (hk : k ≤ 10000000) (hb : base ≤ W.heap.size)
    (h : ∀ g cap w', w'.ownsRow base 3 1 (.slice (some ⟨g, 0, none⟩) (k + 1) cap) (k + 1) (xs ++ [.int .i64 x]) → W.grownBy w' v.ownBlock → g < w'.heap.size → wpList Try.prog ops Q rest (a.put o.dst (.slice (some ⟨g, 0, none⟩) (k + 1) cap)) w') :
    wpList Try.prog ops Q (o :: rest) a (W.alloc (.cells #[.int .i64 x] t)) := by
  obtain ⟨i0, hi, hz0, hz1, hz2⟩ := info_parts info_i64T
  refine wpList_append_lies _ hgd s z 62 ho base 3 i0 (.int .i64 0) 1 8 Try.underlying62 hi hz0 hz1 hz2 rfl (by decide) v k xs hs (hown.alloc _) ⟨W.heap.size, 0, none⟩ 1 1 [.int .i64 x] hx rfl (newsOne _ _ _) ?_ (by decide) (by unfold maxLen; omega) (by omega) (by simp; omega) _ rfl ?_
  · intro u hu
    simp at hu
    subst hu; rfl
  · intro g cap w' h1 h2 _ h3
    exact h g cap w' h1 (grown_new h2) h3

/-- A row that the call makes: its first k are U. -/
def MadeIT (base : Nat) (w wr : World) (v : Value) (k : Nat) (U : Nat → Int) : Prop := wr.ownsRow base 3 1 v k (vals U k) ∧ Below base w wr
theorem made_litT (w : World) (U : Nat → Int) {base : Nat} (hb : base ≤ w.heap.size) : MadeIT base w (w.alloc (.cells #[] 3)) (.slice (some ⟨w.heap.size, 0, none⟩) 0 0) 0 U :=
  ⟨by simpa [vals] using World.ownsRow_lit (base := base) (size := 1) (e := 3) w #[] 0 hb (by simp [maxLen]) (by simp), (Below.refl _ _).alloc hb _⟩
theorem made_nilT (w : World) (U : Nat → Int) {base : Nat} : MadeIT base w w (.slice none 0 0) 0 U :=
  ⟨by simpa [vals] using World.ownsRow_nil w base 3 1, Below.refl _ _⟩
theorem made_onT {base : Nat} {w wr w1 w2 : World} {v v' : Value} {k : Nat} {U : Nat → Int} (h : MadeIT base w wr v k U) (hb : Below wr.heap.size wr w1) (hz : base ≤ wr.heap.size) (hown : w2.ownsRow base 3 1 v' (k + 1) (vals U k ++ [.int .i64 (U k)])) (hg : w1.grownBy w2 v.ownBlock) : MadeIT base w w2 v' (k + 1) U := by
  obtain ⟨h1, h2⟩ := h
  have z1 := hb.size
  exact ⟨by rw [vals_succ]; exact hown, (h2.trans (hb.mono hz)).trans (grown_below hg (by omega) (own_block h1))⟩
theorem made_ownT {base : Nat} {w wr : World} {v : Value} {k : Nat} {U : Nat → Int} (h : MadeIT base w wr v k U) : ∃ s cap, v = .slice s k cap ∧ OwnI base wr s k U := by
  have := own_OwnI (size := 1) (U := U) (by rw [Nat.mul_one]; exact h.1)
  rwa [Nat.mul_one] at this
theorem grown_rowT {W w2 : World} {base : Nat} {v : Value} {n : Nat} {xs : List Value} (ho : W.ownsRow base 3 1 v n xs) (hg : W.grownBy w2 v.ownBlock) {s : Option Addr} {m : Nat} {V : Nat → Int} (h : RowI W s m V) (hb : ∀ b o, s = some ⟨b, o, none⟩ → b < base) : RowI w2 s m V := fun j hj => by
  obtain ⟨b, o, e, hl, hc⟩ := h j hj
  have := hb b o e
  exact ⟨b, o, e, Nat.lt_of_lt_of_le hl hg.size, (hg.cell_far ⟨b, o + j, none⟩ hl (fun e => by have := own_block ho _ e.symm; simp only at this; omega)).trans hc⟩

theorem row_addT {w : World} {ad : Addr} {n : Nat} {V : Nat → Int} (R : RowI w (some ad) n V) : ∀ j u, (vals V n)[j]? = some u → w.cell? (ad.add j) = some u := fun j u hu => by
  have hj : j < n := by
    rcases Nat.lt_or_ge j n with h | h
    · exact h
    · rw [List.getElem?_eq_none (by rw [vals_length]; exact h)] at hu; cases hu
  rw [vals_at V hj] at hu
  cases hu
  obtain ⟨b, o, e, _, hc⟩ := R j hj
  cases e
  have : (⟨b, o, none⟩ : Addr).add j = ⟨b, o + j, none⟩ := by
    unfold Addr.add
    split
    · rename_i h; subst h; rfl
    · rfl
  rw [this]
  exact hc
theorem list_cloneT {ops : Array Oper} {rest : List Oper} {o : Oper} {a : Act} {Q : Exit → Act → World → Prop} {W : World} (H : Nat) (ad : Addr) (n c : Nat) (V : Nat → Int) (s z : Operand) (hgd : o.guard = none)
    (ho : o.op = .call { callee := .builtin .append, args := #[s, z], argTypes := #[62, 62] }) (hs : a.eval s = .slice (some ⟨H, 0, none⟩) 0 0) (hx : a.eval z = .slice (some ad) n c) (hH : W.heap.size = H) (hn : n ≤ 1048576) (R : RowI W (some ad) n V)
    (h : ∀ s' cap w', OwnI W.heap.size w' s' n V → Below W.heap.size W w' → wpList Try.prog ops Q rest (a.put o.dst (.slice s' n cap)) w') :
    wpList Try.prog ops Q (o :: rest) a (W.alloc (.cells #[] 3)) := by
  subst hH
  obtain ⟨i0, hi, hz0, hz1, hz2⟩ := info_parts info_i64T
  have hm := made_litT W V (Nat.le_refl _)
  have R' : RowI (W.alloc (.cells #[] 3)) (some ad) n V := R.below (by repeat (first | with_reducible exact Below.refl _ _ | with_reducible refine Below.setCell ?_ (by first | omega | (simp; done) | (simp; omega)) _ | with_reducible refine bDrewN ?_ _ | with_reducible refine Below.drew ?_ | with_reducible refine Below.alloc ?_ (by first | omega | (simp; done) | (simp; omega)) _))
  refine wpList_append_own _ hgd s z 62 ho W.heap.size 3 i0 (.int .i64 0) 1 8 Try.underlying62 hi hz0 hz1 hz2 rfl (by decide) _ 0 [] hs hm.1 ad n c (vals V n) hx (by rw [vals_length, Nat.mul_one]) (row_addT R') ?_ (by unfold maxLen; omega) (by omega) (by simp) ?_
  · intro u hu
    simp only [vals, List.mem_map] at hu
    obtain ⟨j, _, rfl⟩ := hu
    rfl
  · intro v' w' h2 h3 _
    rw [Nat.zero_add, List.nil_append] at h2
    obtain ⟨s', cap, rfl, O⟩ := own_OwnI (size := 1) (n := n) (U := V) (by rw [Nat.mul_one]; exact h2)
    rw [Nat.mul_one] at O
    exact h s' cap w' O (hm.2.trans (grown_below h3 (by simp) (own_block hm.1)))
theorem eq_nilT (ad : Addr) (n c : Nat) (w : World) : (binOp .eql 62 (.slice (some ad) n c) (.slice none 0 0)).run Try.prog w = .ok (.bool false) w := by kernel_rfl
set_option maxHeartbeats 1000000 in
theorem clone_anyT (ad : Addr) (n c : Nat) (V : Nat → Int) (w : World) (hn : n ≤ 1048576) (HR : Hid (RowI w (some ad) n V)) :
    Calls Try.prog 75 #[.slice (some ad) n c] w fun e w' => ∃ s' c', e = .returned (.slice s' n c') ∧ OwnI w.heap.size w' s' n V ∧ Below w.heap.size w w' := by
  have hEq := eq_nilT ad n c
  go_enter Try.func75, Try.ntmps75
  go_wp2_with (first | (refine list_cloneT _ ad n c V _ _ (by rfl) (by rfl) (by rfl) (by rfl) rfl hn HR.out ?_; intro s' cap w' O h))
  go_ret
  exact ⟨s', cap, rfl, O, h⟩
theorem make_i64T (n : Nat) (hn : n ≤ 1048576) (w : World) : (Instr.makeSlice 62 (.int .i64 (n : Int)) (.int .i64 (n : Int))).run Try.prog w = .ok (.slice (some ⟨w.heap.size, 0, none⟩) n n) (w.alloc (.cells (madeCells #[.int .i64 0] n) 3)) := by
  have hinfo : (Try.prog.info? 3).map (fun i => (i.zero, i.size, i.bytes)) = some (some (.int .i64 0), 1, 8) := by kernel_rfl
  obtain ⟨i, hi, hzz⟩ := Option.map_eq_some_iff.1 hinfo
  simp only [Prod.mk.injEq] at hzz
  obtain ⟨hz, hs, hb⟩ := hzz
  have hr := run_make (P := Try.prog) w 62 3 i _ Try.underlying62 hi hz .i64 .i64 n n (by omega) (Int.le_refl _) (by rw [hb]; omega) (by omega)
  simp only [Int.toNat_natCast, hs, Nat.mul_one] at hr
  exact hr
end Go.Proofs.Ytdlbniihgppodaa
