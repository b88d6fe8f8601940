/-
What is proved: one Plant appended to a list that the call has made; a list of Plants cloned.
-/
import Derived.Test.YtdlbniihgppodaaBoAN
import Derived.Test.YtdlbniihgppodaaPlt
import Derived.Test.YtdlbniihgppodaaOwnV
import Derived.Test.YtdlbniihgppodaaSbC
import Derived.Deep.AppendLies
namespace Go.Proofs.Ytdlbniihgppodaa
set_option maxRecDepth 40000
open Go.ChangeShapes Go.WideShapes Go.ChangeAt Go.RowKit
set_option linter.unusedVariables false
set_option linter.unusedSimpArgs false

theorem info_Plant : (Try.prog.info? 55).map (fun i => (i.zero, i.size, i.bytes)) = some (some (.agg #[.int .i64 0, .int .i64 0, .int .i64 0, .int .i64 0, .int .i64 0]), 5, 40) := by kernel_rfl
theorem newsFive (W : World) (a b c d e : Value) (t : TypeId) : ∀ j u, [a, b, c, d, e][j]? = some u → (W.alloc (.cells #[a, b, c, d, e] t)).cell? ((⟨W.heap.size, 0, none⟩ : Addr).add j) = some u := World.news_of_block (cs := #[a, b, c, d, e]) (heap_alloc_new W _)
theorem list_Plant {ops : Array Oper} {rest : List Oper} {o : Oper} {a : Act} {Q : Exit → Act → World → Prop} {W : World} {t : TypeId} {x0 x1 x2 x3 x4 : Int} (base : Nat) (v : Value) (k : Nat) (xs : List Value) (s z : Operand) (hgd : o.guard = none)
    (ho : o.op = .call { callee := .builtin .append, args := #[s, z], argTypes := #[28, 28] }) (hs : a.eval s = v) (hx : a.eval z = .slice (some ⟨W.heap.size, 0, none⟩) 1 1) (hown : W.ownsRow base 55 5 v k xs) (hk : k ≤ 100000) (hb : base ≤ W.heap.size)
    (h : ∀ g cap w', w'.ownsRow base 55 5 (.slice (some ⟨g, 0, none⟩) (k + 1) cap) (k + 1) (xs ++ [.int .i64 x0, .int .i64 x1, .int .i64 x2, .int .i64 x3, .int .i64 x4]) → W.grownBy w' v.ownBlock → g < w'.heap.size → wpList Try.prog ops Q rest (a.put o.dst (.slice (some ⟨g, 0, none⟩) (k + 1) cap)) w') :
    wpList Try.prog ops Q (o :: rest) a (W.alloc (.cells #[.int .i64 x0, .int .i64 x1, .int .i64 x2, .int .i64 x3, .int .i64 x4] t)) := by
  obtain ⟨i0, hi, hz0, hz1, hz2⟩ := info_parts info_Plant
  refine wpList_append_lies _ hgd s z 28 ho base 55 i0 (.agg #[.int .i64 0, .int .i64 0, .int .i64 0, .int .i64 0, .int .i64 0]) 5 40 Try.underlying28 hi hz0 hz1 hz2 rfl (by decide) v k xs hs (hown.alloc _) ⟨W.heap.size, 0, none⟩ 1 1 [.int .i64 x0, .int .i64 x1, .int .i64 x2, .int .i64 x3, .int .i64 x4] hx rfl (newsFive _ _ _ _ _ _ _) ?_ (by decide) (by unfold maxLen; omega) (by omega) (by simp; omega) _ rfl ?_
  · intro u hu
    simp at hu
    rcases hu with rfl | rfl | rfl | rfl | rfl <;> rfl
  · intro g cap w' h1 h2 _ h3
    exact h g cap w' h1 (grown_new h2) h3
def fltF (V : Nat → Int × Int × Int × Int × Int) (j : Nat) : Int := if j % 5 = 0 then (V (j / 5)).1 else if j % 5 = 1 then (V (j / 5)).2.1 else if j % 5 = 2 then (V (j / 5)).2.2.1 else if j % 5 = 3 then (V (j / 5)).2.2.2.1 else (V (j / 5)).2.2.2.2
theorem flt_at (V : Nat → Int × Int × Int × Int × Int) (k : Nat) : fltF V (k * 5) = (V k).1 ∧ fltF V (k * 5 + 1) = (V k).2.1 ∧ fltF V (k * 5 + 2) = (V k).2.2.1 ∧ fltF V (k * 5 + 3) = (V k).2.2.2.1 ∧ fltF V (k * 5 + 4) = (V k).2.2.2.2 := by
  have m0 : k * 5 % 5 = 0 := by omega
  have m1 : (k * 5 + 1) % 5 = 1 := by omega
  have m2 : (k * 5 + 2) % 5 = 2 := by omega
  have m3 : (k * 5 + 3) % 5 = 3 := by omega
  have m4 : (k * 5 + 4) % 5 = 4 := by omega
  have d0 : k * 5 / 5 = k := by omega
  have d1 : (k * 5 + 1) / 5 = k := by omega
  have d2 : (k * 5 + 2) / 5 = k := by omega
  have d3 : (k * 5 + 3) / 5 = k := by omega
  have d4 : (k * 5 + 4) / 5 = k := by omega
  unfold fltF
  rw [m0, m1, m2, m3, m4, d0, d1, d2, d3, d4]
  exact ⟨rfl, rfl, rfl, rfl, rfl⟩
theorem vals_flt (V : Nat → Int × Int × Int × Int × Int) (k : Nat) : vals (fltF V) ((k + 1) * 5) = vals (fltF V) (k * 5) ++ [.int .i64 (V k).1, .int .i64 (V k).2.1, .int .i64 (V k).2.2.1, .int .i64 (V k).2.2.2.1, .int .i64 (V k).2.2.2.2] := by
  obtain ⟨e0, e1, e2, e3, e4⟩ := flt_at V k
  rw [show (k + 1) * 5 = k * 5 + 1 + 1 + 1 + 1 + 1 by omega, vals_succ, vals_succ, vals_succ, vals_succ, vals_succ]
  rw [show k * 5 + 1 + 1 = k * 5 + 2 by omega, show k * 5 + 2 + 1 = k * 5 + 3 by omega, show k * 5 + 3 + 1 = k * 5 + 4 by omega, e0, e1, e2, e3, e4]
  simp
theorem flt_row {w : World} {t : Option Addr} {m : Nat} {V : Nat → Int × Int × Int × Int × Int} (h : RowI w t (m * 5) (fltF V)) : RowPlant w t m V := fun j hj => by
  obtain ⟨b, o, e, hl, c0⟩ := h (j * 5) (by omega)
  obtain ⟨b1, o1, e', _, c1⟩ := h (j * 5 + 1) (by omega); rw [e] at e'; cases e'
  obtain ⟨b1, o1, e', _, c2⟩ := h (j * 5 + 2) (by omega); rw [e] at e'; cases e'
  obtain ⟨b1, o1, e', _, c3⟩ := h (j * 5 + 3) (by omega); rw [e] at e'; cases e'
  obtain ⟨b1, o1, e', _, c4⟩ := h (j * 5 + 4) (by omega); rw [e] at e'; cases e'
  obtain ⟨e0, e1, e2, e3, e4⟩ := flt_at V j
  rw [e0] at c0; rw [e1] at c1; rw [e2] at c2; rw [e3] at c3; rw [e4] at c4
  exact ⟨b, o, e, hl, c0, c1, c2, c3, c4⟩
theorem row_flt {w : World} {t : Option Addr} {m : Nat} {V : Nat → Int × Int × Int × Int × Int} (h : RowPlant w t m V) : RowI w t (m * 5) (fltF V) := fun j hj => by
  obtain ⟨b, o, e, hl, c0, c1, c2, c3, c4⟩ := h (j / 5) (by omega)
  obtain ⟨e0, e1, e2, e3, e4⟩ := flt_at V (j / 5)
  refine ⟨b, o, e, hl, ?_⟩
  rcases (by omega : j = j / 5 * 5 ∨ j = j / 5 * 5 + 1 ∨ j = j / 5 * 5 + 2 ∨ j = j / 5 * 5 + 3 ∨ j = j / 5 * 5 + 4) with q | q | q | q | q
  · rw [← e0, ← q] at c0; exact c0
  · rw [Nat.add_assoc, ← e1, ← q] at c1; exact c1
  · rw [Nat.add_assoc, ← e2, ← q] at c2; exact c2
  · rw [Nat.add_assoc, ← e3, ← q] at c3; exact c3
  · rw [Nat.add_assoc, ← e4, ← q] at c4; exact c4
/-- A list that is left alone while another, of another type, grows. -/
theorem own_other {w w' : World} {b1 b2 : Nat} {t1 t2 : TypeId} {s1 s2 : Nat} {v1 v2 : Value} {n1 n2 : Nat} {xs1 xs2 : List Value} (hA : w.ownsRow b1 t1 s1 v1 n1 xs1) (hB : w.ownsRow b2 t2 s2 v2 n2 xs2) (ne : t1 ≠ t2) (hg : w.grownBy w' v1.ownBlock) : w'.ownsRow b2 t2 s2 v2 n2 xs2 := by
  refine ⟨hB.1, ?_⟩
  rcases hB.2 with q | ⟨g, cap, cur, e1, hb, hg2, r⟩
  · exact .inl q
  · refine .inr ⟨g, cap, cur, e1, hb, (hg.block g (Array.getElem?_eq_some_iff.1 hg2).1 (fun e => ?_)).trans hg2, r⟩
    rcases hA.2 with ⟨e', _⟩ | ⟨g', cap', cur', e', _, hg', _⟩
    · rw [e'] at e; cases e
    · rw [e'] at e
      cases e
      rw [hg'] at hg2
      cases hg2
      exact ne rfl
theorem own_keep {w w' : World} {base : Nat} {t : TypeId} {s : Nat} {v : Value} {n : Nat} {xs : List Value} (h : w.ownsRow base t s v n xs) (hs : Below w.heap.size w w') : w'.ownsRow base t s v n xs := ownB_same h hs
theorem list_cloneP {ops : Array Oper} {rest : List Oper} {o : Oper} {a : Act} {Q : Exit → Act → World → Prop} {W : World} (H : Nat) (ad : Addr) (n c : Nat) (V : Nat → Int × Int × Int × Int × Int) (s z : Operand) (hgd : o.guard = none)
    (ho : o.op = .call { callee := .builtin .append, args := #[s, z], argTypes := #[28, 28] }) (hs : a.eval s = .slice (some ⟨H, 0, none⟩) 0 0) (hx : a.eval z = .slice (some ad) n c) (hH : W.heap.size = H) (hn : n ≤ 100000) (R : RowPlant W (some ad) n V)
    (h : ∀ s' cap w', OwnI W.heap.size w' s' (n * 5) (fltF V) → Below W.heap.size W w' → wpList Try.prog ops Q rest (a.put o.dst (.slice s' n cap)) w') :
    wpList Try.prog ops Q (o :: rest) a (W.alloc (.cells #[] 55)) := by
  subst hH
  obtain ⟨i0, hi, hz0, hz1, hz2⟩ := info_parts info_Plant
  have hm : (W.alloc (.cells #[] 55)).ownsRow W.heap.size 55 5 (.slice (some ⟨W.heap.size, 0, none⟩) 0 0) 0 [] := by
    simpa using World.ownsRow_lit (base := W.heap.size) (size := 5) (e := 55) W #[] 0 (Nat.le_refl _) (by simp [maxLen]) (by simp)
  have hb : Below W.heap.size W (W.alloc (.cells #[] 55)) := (by repeat (first | with_reducible exact Below.refl _ _ | with_reducible refine Below.setCell ?_ (by first | omega | (simp; done) | (simp; omega)) _ | with_reducible refine bDrewN ?_ _ | with_reducible refine Below.drew ?_ | with_reducible refine Below.alloc ?_ (by first | omega | (simp; done) | (simp; omega)) _))
  have R' := row_flt (R.below hb)
  refine wpList_append_own _ hgd s z 28 ho W.heap.size 55 i0 (.agg #[.int .i64 0, .int .i64 0, .int .i64 0, .int .i64 0, .int .i64 0]) 5 40 Try.underlying28 hi hz0 hz1 hz2 rfl (by decide) _ 0 [] hs hm ad n c (vals (fltF V) (n * 5)) hx (by rw [vals_length]) (row_addT R') ?_ (by unfold maxLen; omega) (by omega) (by simp) ?_
  · intro u hu
    simp only [vals, List.mem_map] at hu
    obtain ⟨j, _, rfl⟩ := hu
    rfl
  · intro v' w' h2 h3 _
    rw [Nat.zero_add, List.nil_append] at h2
    obtain ⟨s', cap, rfl, O⟩ := own_OwnI (size := 5) (n := n) (U := fltF V) h2
    exact h s' cap w' O (hb.trans (grown_below h3 (by simp) (own_block hm)))
theorem eq_nilP (ad : Addr) (n c : Nat) (w : World) : (binOp .eql 28 (.slice (some ad) n c) (.slice none 0 0)).run Try.prog w = .ok (.bool false) w := by kernel_rfl
set_option maxHeartbeats 1000000 in
theorem cloneP_any (ad : Addr) (n c : Nat) (V : Nat → Int × Int × Int × Int × Int) (w : World) (hn : n ≤ 100000) (HR : Hid (RowPlant w (some ad) n V)) :
    Calls Try.prog 49 #[.slice (some ad) n c] w fun e w' => ∃ s' c', e = .returned (.slice s' n c') ∧ OwnI w.heap.size w' s' (n * 5) (fltF V) ∧ Below w.heap.size w w' := by
  have hEq := eq_nilP ad n c
  go_enter Try.func49, Try.ntmps49
  go_wp2_with (first | (refine list_cloneP _ ad n c V _ _ (by rfl) (by rfl) (by rfl) (by rfl) rfl hn HR.out ?_; intro s' cap w' O h))
  go_ret
  exact ⟨s', cap, rfl, O, h⟩
end Go.Proofs.Ytdlbniihgppodaa
