/-
What is proved: slices.Clone's answer is the call's own; a map of exits beside a list that is appended to.
-/
import Derived.Test.YtikcfpjfcpbfcaaCuX
import Derived.Test.YtikcfpjfcpbfcaaOwnV
import Derived.Test.YtikcfpjfcpbfcaaOwnL
namespace Go.Proofs.Ytikcfpjfcpbfcaa
set_option maxRecDepth 40000
open Go.ChangeShapes Go.WideShapes Go.ChangeAt Go.RowKit
set_option linter.unusedVariables false
set_option linter.unusedSimpArgs false

open Go.Maps Go.WideMaps
theorem below_grown {w w' : World} (h : Below w.heap.size w w') : w.grownBy w' none := ⟨h.os, h.tape, h.output, h.size, fun k hk _ => h.block k hk⟩
theorem owns_monoC {w : World} {base base' : Nat} {e : TypeId} {size : Nat} {v : Value} {n : Nat} {xs : List Value} (h : w.ownsRow base e size v n xs) (hb : base' ≤ base) : w.ownsRow base' e size v n xs :=
  ⟨h.1, h.2.imp id fun ⟨g, cap, cur, h1, h2, h3⟩ => ⟨g, cap, cur, h1, Nat.le_trans hb h2, h3⟩⟩
def StdPost (w : World) (l : List Int) (e : Ending) (w' : World) : Prop := ∃ s cap, e = .returned (.slice s l.length cap) ∧ OwnI w.heap.size w' s l.length (nthI l) ∧ Below w.heap.size w w'
def lsOf (V : Nat → Int) (n : Nat) : List Int := (List.range n).map V
theorem ls_len (V : Nat → Int) (n : Nat) : (lsOf V n).length = n := by simp [lsOf]
theorem ls_vals (V : Nat → Int) (n : Nat) : vals V n = cellsOf (lsOf V n) := by simp [lsOf, vals, cellsOf]
theorem ls_nth (V : Nat → Int) {n i : Nat} (h : i < n) : nthI (lsOf V n) i = V i := by simp [lsOf, nthI, h]
theorem row_addC {w : World} {ad : Addr} {n : Nat} {V : Nat → Int} (R : RowI w (some ad) n V) : ∀ j u, (vals V n)[j]? = some u → w.cell? (ad.add j) = some u := fun j u hu => by
  have hj : j < n := by
    rcases Nat.lt_or_ge j n with h | h
    · exact h
    · rw [List.getElem?_eq_none (by rw [vals_length]; exact h)] at hu; cases hu
  rw [vals_at V hj] at hu
  cases hu
  obtain ⟨b, o, e, _, hc⟩ := R j hj
  cases e
  have : (⟨b, o, none⟩ : Addr).add j = ⟨b, o + j, none⟩ := by
    unfold Addr.add
    split
    · rename_i h; subst h; rfl
    · rfl
  rw [this]
  exact hc
theorem list_cloneC {ops : Array Oper} {rest : List Oper} {o : Oper} {a : Act} {Q : Exit → Act → World → Prop} {W : World} (H : Nat) (ad : Addr) (n c : Nat) (V : Nat → Int) (s z : Operand) (hgd : o.guard = none)
    (ho : o.op = .call { callee := .builtin .append, args := #[s, z], argTypes := #[23, 23] }) (hs : a.eval s = .slice (some ⟨H, 0, none⟩) 0 0) (hx : a.eval z = .slice (some ad) n c) (hH : W.heap.size = H) (hn : n ≤ 1048576) (R : RowI W (some ad) n V)
    (h : ∀ v w', w'.ownsRow W.heap.size 2 1 v n (vals V n) → Below W.heap.size W w' → wpList Try.prog ops Q rest (a.put o.dst v) w') :
    wpList Try.prog ops Q (o :: rest) a (W.alloc (.cells #[] 2)) := by
  subst hH
  obtain ⟨i0, hi, hz0, hz1, hz2⟩ := info_parts info_i64
  have hm := made_lit W V (Nat.le_refl _)
  have R' : RowI (W.alloc (.cells #[] 2)) (some ad) n V := R.below (by repeat (first | with_reducible exact Below.refl _ _ | with_reducible refine Below.setCell ?_ (by first | omega | (simp; done) | (simp; omega)) _ | with_reducible refine bDrewN ?_ _ | with_reducible refine Below.drew ?_ | with_reducible refine Below.alloc ?_ (by first | omega | (simp; done) | (simp; omega)) _))
  refine wpList_append_own _ hgd s z 23 ho W.heap.size 2 i0 (.int .i64 0) 1 8 Try.underlying23 hi hz0 hz1 hz2 rfl (by decide) _ 0 [] hs hm.1 ad n c (vals V n) hx (by rw [vals_length, Nat.mul_one]) (row_addC R') ?_ (by unfold maxLen; omega) (by omega) (by simp) ?_
  · intro u hu
    simp only [vals, List.mem_map] at hu
    obtain ⟨j, _, rfl⟩ := hu
    rfl
  · intro v' w' h2 h3 _
    rw [Nat.zero_add, List.nil_append] at h2
    exact h v' w' h2 (hm.2.trans (grown_below h3 (by simp) (own_block hm.1)))
theorem eq_nilC (ad : Addr) (n c : Nat) (w : World) : (binOp .eql 23 (.slice (some ad) n c) (.slice none 0 0)).run Try.prog w = .ok (.bool false) w := by kernel_rfl
theorem eq_nil0 (c : Nat) (w : World) : (binOp .eql 23 (.slice none 0 c) (.slice none 0 0)).run Try.prog w = .ok (.bool true) w := by kernel_rfl
set_option maxHeartbeats 1000000 in
theorem cloneC (s : Option Addr) (n c : Nat) (V : Nat → Int) (w : World) (hn : (n : Int) ≤ 1048576) (HR : Hid (RowI w s n V)) :
    Calls Try.prog 95 #[.slice s n c] w fun e w' => ∃ v, e = .returned v ∧ w'.ownsRow w.heap.size 2 1 v (lsOf V n).length (cellsOf (lsOf V n)) ∧ Below w.heap.size w w' := by
  rw [← ls_vals, ls_len]
  cases s with
  | none =>
    obtain rfl : n = 0 := by
      rcases Nat.eq_zero_or_pos n with h | h
      · exact h
      · obtain ⟨b, o, e, _⟩ := HR.out 0 h; cases e
    have hEq := eq_nil0 c
    go_enter Try.func95, Try.ntmps95
    go_wp2
    go_ret
    exact ⟨_, rfl, World.ownsRow_nil _ _ _ _, Below.refl _ _⟩
  | some ad =>
    have hEq := eq_nilC ad n c
    go_enter Try.func95, Try.ntmps95
    go_wp2_with (first | (refine list_cloneC _ ad n c V _ _ (by rfl) (by rfl) (by rfl) (by rfl) rfl (by omega) HR.out ?_; intro v w' O h))
    go_ret
    exact ⟨v, rfl, O, h⟩
def RcAt (w0 wx : World) (bm N : Nat) (M : DataW Unit) (v : Value) (L : List Int) : Prop := wx.ownsMap Try.prog 129 (plainElem Try.prog 2) (bm) (N) M ∧ wx.ownsRow w0.heap.size 2 1 v L.length (cellsOf L) ∧ some bm ≠ v.ownBlock ∧ w0.heap.size ≤ bm ∧ Below w0.heap.size w0 wx
theorem RcAt.keep {w0 wx w3 : World} {bm N : Nat} {M : DataW Unit} {v : Value} {L : List Int} (h : RcAt w0 wx bm N M v L) (hb : Below wx.heap.size wx w3) : RcAt w0 w3 bm N M v L :=
  ⟨h.1.kept (below_grown hb) (by simp), own_same h.2.1 fun g hg => hb.block g (h.2.1.lt g hg).2, h.2.2.1, h.2.2.2.1, h.2.2.2.2.trans (hb.mono h.2.2.2.2.size)⟩
theorem RcAt.turn {w0 wx w3 : World} {bm N : Nat} {M M' : DataW Unit} {v : Value} {L : List Int} (h : RcAt w0 wx bm N M v L) (ho : w3.ownsMap Try.prog 129 (plainElem Try.prog 2) (bm) (N) M') (hg : wx.grownBy w3 (some bm)) : RcAt w0 w3 bm N M' v L :=
  ⟨ho, own_same h.2.1 fun g hq => hg.block g (h.2.1.lt g hq).2 (fun e => h.2.2.1 (by rw [← e, hq])), h.2.2.1, h.2.2.2.1, h.2.2.2.2.grown hg h.2.2.2.2.size (fun j hj => by cases hj; exact h.2.2.2.1)⟩
theorem RcAt.more {w0 wx w3 : World} {bm N : Nat} {M : DataW Unit} {v : Value} {L : List Int} {g cap : Nat} {x : Int} (h : RcAt w0 wx bm N M v L) (ho : w3.ownsRow w0.heap.size 2 1 (.slice (some ⟨g, 0, none⟩) (L.length + 1) cap) (L.length + 1) (cellsOf L ++ [.int .i64 x])) (hg : wx.grownBy w3 v.ownBlock) (hat : v.ownBlock = some g ∨ wx.heap.size < g) : RcAt w0 w3 bm N M (.slice (some ⟨g, 0, none⟩) (L.length + 1) cap) (L ++ [x]) := by
  have lt := h.1.lt
  refine ⟨h.1.kept hg h.2.2.1, by rw [cellsOf_snoc]; simpa using ho, ?_, h.2.2.2.1, h.2.2.2.2.trans (grown_below hg h.2.2.2.2.size (own_block h.2.1))⟩
  intro e
  have e' : bm = g := by simpa [Value.ownBlock] using e
  rcases hat with q | q
  · exact h.2.2.1 (by rw [q, e'])
  · omega
theorem rc_of1 {w0 w3 w4 : World} {bm N b4 : Nat} {M : DataW Unit} {v : Value} {L : List Int} (O3 : w3.ownsMap Try.prog 129 (plainElem Try.prog 2) (bm) (N) M) (h3 : Below w0.heap.size w0 w3) (zb : w0.heap.size ≤ bm) (h34 : Below w3.heap.size w3 w4) (O4 : w4.ownsRow b4 2 1 v L.length (cellsOf L)) (hb4 : w3.heap.size ≤ b4) : RcAt w0 w4 bm N M v L :=
  ⟨O3.kept (below_grown h34) (by simp), owns_monoC O4 (Nat.le_trans h3.size hb4), fun e => by have := (O4.lt bm e.symm).1; have := O3.lt; omega, zb, h3.trans (h34.mono h3.size)⟩
theorem rc_of2 {w0 w3 w4 : World} {bm N b4 : Nat} {M : DataW Unit} {v : Value} {L : List Int} (O4 : w4.ownsRow b4 2 1 v L.length (cellsOf L)) (hb4 : w0.heap.size ≤ b4) (h4 : Below w0.heap.size w0 w4) (h43 : Below w4.heap.size w4 w3) (O3 : w3.ownsMap Try.prog 129 (plainElem Try.prog 2) (bm) (N) M) (zb : w4.heap.size ≤ bm) : RcAt w0 w3 bm N M v L :=
  ⟨O3, own_same (owns_monoC O4 hb4) fun g hg => h43.block g (O4.lt g hg).2, fun e => by have := (O4.lt bm e.symm).2; omega, Nat.le_trans h4.size zb, h4.trans (h43.mono h4.size)⟩
theorem reach_lt {n P : Nat} {D : Nat → Int × Int} {Sh W0 : Nat → Bool} (hD : ∀ j, j < n → endA D j < P ∧ endB D j < P) (hW : ∀ x, W0 x = true → x < P) {x : Nat} (h : Reach n D Sh W0 x) : x < P := h (fun x => x < P) hW (fun j hj _ _ => (hD j hj).2) (fun j hj _ _ => (hD j hj).1)
theorem went_op {n : Nat} {D : Nat → Int × Int} {Sh : Nat → Bool} {m : Nat} {S : Nat → Int} (hS : ∀ i, i < m → 0 ≤ S i) : Went n D Sh (hasW S m) (m + cntW (opW n Sh n) n) (lsOf S m) (opW n Sh n) 0 0 :=
  { went_start (D := D) (Sh := Sh) (n := n) (ls_len S m) (fun i hi => ls_nth S hi) hS with
    opn := fun v hv h => by simp [opW] at h; exact h.2
    gone := fun v hv h h2 => by simp [opW, hv, h] at h2
    done := fun i hi => by omega
    here := fun v hv => by omega
    cnt := by rw [ls_len] }
end Go.Proofs.Ytikcfpjfcpbfcaa
