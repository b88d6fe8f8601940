/-
What is proved: a list of int64s appended whole to an empty one, and slices.Clone.
-/
import Derived.Test.YtkocbklkiehdiaaOwnV
namespace Go.Proofs.Ytkocbklkiehdiaa
set_option maxRecDepth 40000
open Go.RowKit
set_option linter.unusedVariables false
set_option linter.unusedSimpArgs false

theorem row_add {w : World} {ad : Addr} {n : Nat} {V : Nat → Int} (R : RowI w (some ad) n V) : ∀ j u, (vals V n)[j]? = some u → w.cell? (ad.add j) = some u := fun j u hu => by
  have hj : j < n := by
    rcases Nat.lt_or_ge j n with h | h
    · exact h
    · rw [List.getElem?_eq_none (by rw [vals_length]; exact h)] at hu; cases hu
  rw [vals_at V hj] at hu
  cases hu
  obtain ⟨b, o, e, _, hc⟩ := R j hj
  cases e
  have : (⟨b, o, none⟩ : Addr).add j = ⟨b, o + j, none⟩ := by
    unfold Addr.add
    split
    · rename_i h; subst h; rfl
    · rfl
  rw [this]
  exact hc
theorem list_clone {ops : Array Oper} {rest : List Oper} {o : Oper} {a : Act} {Q : Exit → Act → World → Prop} {W : World} (H : Nat) (ad : Addr) (n c : Nat) (V : Nat → Int) (s z : Operand) (hgd : o.guard = none)
    (ho : o.op = .call { callee := .builtin .append, args := #[s, z], argTypes := #[24, 24] }) (hs : a.eval s = .slice (some ⟨H, 0, none⟩) 0 0) (hx : a.eval z = .slice (some ad) n c) (hH : W.heap.size = H) (hn : n ≤ 1048576) (R : RowI W (some ad) n V)
    (h : ∀ s' cap w', OwnI W.heap.size w' s' n V → Below W.heap.size W w' → wpList Try.prog ops Q rest (a.put o.dst (.slice s' n cap)) w') :
    wpList Try.prog ops Q (o :: rest) a (W.alloc (.cells #[] 2)) := by
  subst hH
  obtain ⟨i0, hi, hz0, hz1, hz2⟩ := info_parts info_i64
  have hm := made_lit W V (Nat.le_refl _)
  have R' : RowI (W.alloc (.cells #[] 2)) (some ad) n V := R.below (by repeat (first | with_reducible exact Below.refl _ _ | with_reducible refine Below.setCell ?_ (by first | omega | (simp; done) | (simp; omega)) _ | with_reducible refine bDrewN ?_ _ | with_reducible refine Below.drew ?_ | with_reducible refine Below.alloc ?_ (by first | omega | (simp; done) | (simp; omega)) _))
  refine wpList_append_own _ hgd s z 24 ho W.heap.size 2 i0 (.int .i64 0) 1 8 Try.underlying24 hi hz0 hz1 hz2 rfl (by decide) _ 0 [] hs hm.1 ad n c (vals V n) hx (by rw [vals_length, Nat.mul_one]) (row_add R') ?_ (by unfold maxLen; omega) (by omega) (by simp) ?_
  · intro u hu
    simp only [vals, List.mem_map] at hu
    obtain ⟨j, _, rfl⟩ := hu
    rfl
  · intro v' w' h2 h3 _
    rw [Nat.zero_add, List.nil_append] at h2
    obtain ⟨s', cap, rfl, O⟩ := own_OwnI (size := 1) (n := n) (U := V) (by rw [Nat.mul_one]; exact h2)
    rw [Nat.mul_one] at O
    exact h s' cap w' O (hm.2.trans (grown_below h3 (by simp) (own_block hm.1)))
theorem eq_nil (ad : Addr) (n c : Nat) (w : World) : (binOp .eql 24 (.slice (some ad) n c) (.slice none 0 0)).run Try.prog w = .ok (.bool false) w := by kernel_rfl
set_option maxHeartbeats 1000000 in
theorem clone_any (ad : Addr) (n c : Nat) (V : Nat → Int) (w : World) (hn : n ≤ 1048576) (HR : Hid (RowI w (some ad) n V)) :
    Calls Try.prog 51 #[.slice (some ad) n c] w fun e w' => ∃ s' c', e = .returned (.slice s' n c') ∧ OwnI w.heap.size w' s' n V ∧ Below w.heap.size w w' := by
  have hEq := eq_nil ad n c
  go_enter Try.func51, Try.ntmps51
  go_wp2_with (first | (refine list_clone _ ad n c V _ _ (by rfl) (by rfl) (by rfl) (by rfl) rfl hn HR.out ?_; intro s' cap w' O h))
  go_ret
  exact ⟨s', cap, rfl, O, h⟩
end Go.Proofs.Ytkocbklkiehdiaa
