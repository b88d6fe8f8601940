/-
What is proved: bools and locks on their way of being drawn, in memory of their own; what is drawn.
-/
import Derived.Test.YtjkdnlnbkopbpaaRdO
import Derived.Test.YtjkdnlnbkopbpaaRdC
import Derived.Test.YtjkdnlnbkopbpaaOwnL
import Derived.Test.YtjkdnlnbkopbpaaBoL
import Derived.Test.YtjkdnlnbkopbpaaLok
import Derived.Deep.RegionHeld3
import Derived.Deep.DeepCutAuto
namespace Go.Proofs.Ytjkdnlnbkopbpaa
set_option maxRecDepth 40000
open Go.ChangeShapes Go.WideShapes Go.ChangeAt Go.RowKit
set_option linter.unusedVariables false
set_option linter.unusedSimpArgs false

set_option maxHeartbeats 1000000 in
theorem size_any {r : Nat} {s : Option Addr} {n c p : Nat} {w : World} (per most : Int) (h0 : 1 ≤ per) (h1 : per ≤ 1000) (h2 : 1 ≤ most) (h3 : most ≤ 1000) (h : Hid (Rd w r s n c p)) :
    Calls Try.prog 22 #[.pointer (some ⟨r, 0, none⟩), .int .i64 per, .int .i64 most] w fun e w' => ∃ k p', e = .returned (.int .i64 k) ∧ 1 ≤ k ∧ k ≤ most + 1 ∧ Rd w' r s n c p' ∧ Beside r w w' := by
  obtain ⟨z1, z2, z3, z4, z5, z6, -⟩ := h.out
  have n1 : (n : Int) ≤ 1048576 := by omega
  have d0 : 0 ≤ (n : Int) / per := Int.ediv_nonneg (by omega) (by omega)
  have d1 : (n : Int) / per ≤ (n : Int) := Int.ediv_le_self per (by omega)
  have BL : Hid (∀ m, 1 ≤ m → m ≤ most → Calls Try.prog 24 #[.pointer (some ⟨r, 0, none⟩), .int .i64 m] w fun e w' => ∃ k p', e = .returned (.int .i64 k) ∧ 0 ≤ k ∧ k ≤ most ∧ Rd w' r s n c p' ∧ Beside r w w') := fun m m0 m1 => (below_any m h).mono fun e w' ⟨k, p', e1, k0, k1, k2, R, b⟩ => ⟨k, p', e1, k0, by omega, R, b⟩
  have pz : ¬ per = 0 := by omega
  by_cases q : 1 + (n : Int) / per ≤ most
  · go_enter Try.func22, Try.ntmps22
    go_wp2_with fail
    refine (BL.out _ (by omega) (by omega)).mono ?_
    rintro e w1 ⟨k, p1, rfl, k0, k1, R1, b1⟩
    go_wp2
    go_ret
    exact ⟨1 + k, p1, rfl, by omega, by omega, R1, b1⟩
  · go_enter Try.func22, Try.ntmps22
    go_wp2_with fail
    refine (BL.out _ (by omega) (by omega)).mono ?_
    rintro e w1 ⟨k, p1, rfl, k0, k1, R1, b1⟩
    go_wp2
    go_ret
    exact ⟨1 + k, p1, rfl, by omega, by omega, R1, b1⟩

theorem Beside.on {r : Nat} {w w1 w2 : World} (h : Beside r w w1) (b : Below w.heap.size w1 w2) : Beside r w w2 := by
  obtain ⟨h1, h2, h3, h4, h5⟩ := h
  exact ⟨b.os.trans h1, b.tape.trans h2, b.output.trans h3, Nat.le_trans h4 b.size, fun k hk hn => (b.block k hk).trans (h5 k hk hn)⟩
theorem info_lock : (Try.prog.info? 39).map (fun i => (i.zero, i.size, i.bytes)) = some (some (.agg #[.int .i64 0, .int .i64 0]), 2, 16) := by kernel_rfl
theorem list_lock {ops : Array Oper} {rest : List Oper} {o : Oper} {a : Act} {Q : Exit → Act → World → Prop} {W : World} {t : TypeId} {x y : Int} (base : Nat) (v : Value) (k : Nat) (xs : List Value) (s z : Operand) (hgd : o.guard = none)
    (ho : o.op = .call { callee := .builtin .append, args := #[s, z], argTypes := #[27, 27] }) (hs : a.eval s = v) (hx : a.eval z = .slice (some ⟨W.heap.size, 0, none⟩) 1 1) (hown : W.ownsRow base 39 2 v k xs) (hk : k ≤ 1000000) (hb : base ≤ W.heap.size)
    (h : ∀ g cap w', w'.ownsRow base 39 2 (.slice (some ⟨g, 0, none⟩) (k + 1) cap) (k + 1) (xs ++ [.int .i64 x, .int .i64 y]) → W.grownBy w' v.ownBlock → g < w'.heap.size → wpList Try.prog ops Q rest (a.put o.dst (.slice (some ⟨g, 0, none⟩) (k + 1) cap)) w') :
    wpList Try.prog ops Q (o :: rest) a (W.alloc (.cells #[.int .i64 x, .int .i64 y] t)) := by
  obtain ⟨i0, hi, hz0, hz1, hz2⟩ := info_parts info_lock
  refine wpList_append_lies _ hgd s z 27 ho base 39 i0 (.agg #[.int .i64 0, .int .i64 0]) 2 16 Try.underlying27 hi hz0 hz1 hz2 rfl (by decide) v k xs hs (hown.alloc _) ⟨W.heap.size, 0, none⟩ 1 1 [.int .i64 x, .int .i64 y] hx rfl (newsTwo _ _ _ _) ?_ (by decide) (by unfold maxLen; omega) (by omega) (by simp; omega) _ rfl ?_
  · intro u hu
    simp at hu
    rcases hu with rfl | rfl <;> rfl
  · intro g cap w' h1 h2 _ h3
    exact h g cap w' h1 (grown_new h2) h3
/-- A list of units on its way of being drawn by the reader in block r. -/
def DrawnL (r : Nat) (s : Option Addr) (n c : Nat) (w wr : World) (v : Value) (k : Nat) (U : Nat → Int) : Prop := wr.ownsRow w.heap.size 39 2 v k (vals U (k * 2)) ∧ Beside r w wr ∧ ∃ p, Rd wr r s n c p
def putU (U : Nat → Int) (k : Nat) (x y : Int) (j : Nat) : Int := if j = k * 2 then x else if j = k * 2 + 1 then y else U j
theorem vals_put (U : Nat → Int) (k : Nat) (x y : Int) : vals (putU U k x y) ((k + 1) * 2) = vals U (k * 2) ++ [.int .i64 x, .int .i64 y] := by
  rw [show (k + 1) * 2 = k * 2 + 1 + 1 by omega, vals_succ, vals_succ]
  have e1 : putU U k x y (k * 2) = x := by unfold putU; rw [if_pos rfl]
  have e2 : putU U k x y (k * 2 + 1) = y := by unfold putU; rw [if_neg (by omega), if_pos rfl]
  have e3 : vals (putU U k x y) (k * 2) = vals U (k * 2) := by
    unfold vals
    refine List.map_congr_left fun j hj => ?_
    have : j < k * 2 := by simpa using hj
    unfold putU
    rw [if_neg (by omega), if_neg (by omega)]
  rw [e1, e2, e3]
  simp
theorem drawnL_read {r : Nat} {s : Option Addr} {n c p : Nat} {w wr w2 : World} {v : Value} {k : Nat} {U : Nat → Int} (hr : r < w.heap.size) (h : DrawnL r s n c w wr v k U) (b : Beside r wr w2) (R : Rd w2 r s n c p) : DrawnL r s n c w w2 v k U :=
  ⟨own_same h.1 fun g hg => b.2.2.2.2 g (h.1.lt g hg).2 (by have := (h.1.lt g hg).1; omega), h.2.1.trans b, p, R⟩
theorem drawnL_on {r : Nat} {s : Option Addr} {n c : Nat} {w wr w3 : World} {v : Value} {k : Nat} {U : Nat → Int} {g cap : Nat} {x y : Int} (hr : r < w.heap.size) (h : DrawnL r s n c w wr v k U) (hown : w3.ownsRow w.heap.size 39 2 (.slice (some ⟨g, 0, none⟩) (k + 1) cap) (k + 1) (vals U (k * 2) ++ [.int .i64 x, .int .i64 y])) (hg : wr.grownBy w3 v.ownBlock) : DrawnL r s n c w w3 (.slice (some ⟨g, 0, none⟩) (k + 1) cap) (k + 1) (putU U k x y) := by
  obtain ⟨h1, h2, p, R⟩ := h
  have g1 : Below w.heap.size wr w3 := grown_below hg h2.2.2.2.1 (own_block h1)
  exact ⟨by rw [vals_put]; exact hown, h2.on g1, p, R.below' (g1.mono (by omega))⟩
theorem drawnL_own {r : Nat} {s : Option Addr} {n c : Nat} {w wr : World} {v : Value} {k : Nat} {U : Nat → Int} (h : DrawnL r s n c w wr v k U) : ∃ t cap, v = .slice t k cap ∧ OwnI w.heap.size wr t (k * 2) U := own_OwnI (size := 2) (U := U) h.1
/-- Bools on their way of being drawn by the reader in block r. -/
def DrawnB (r : Nat) (s : Option Addr) (n c : Nat) (w wr : World) (v : Value) (k : Nat) (U : Nat → Bool) : Prop := wr.ownsRow w.heap.size 4 1 v k (valB U k) ∧ Beside r w wr ∧ ∃ p, Rd wr r s n c p
def putB (U : Nat → Bool) (k : Nat) (x : Bool) (j : Nat) : Bool := if j = k then x else U j
theorem valB_put (U : Nat → Bool) (k : Nat) (x : Bool) : valB (putB U k x) (k + 1) = valB U k ++ [.bool x] := by
  rw [valB_succ]
  have e1 : putB U k x k = x := by unfold putB; rw [if_pos rfl]
  have e3 : valB (putB U k x) k = valB U k := by
    unfold valB
    refine List.map_congr_left fun j hj => ?_
    have : j < k := by simpa using hj
    unfold putB
    rw [if_neg (by omega)]
  rw [e1, e3]
theorem drawnB_read {r : Nat} {s : Option Addr} {n c p : Nat} {w wr w2 : World} {v : Value} {k : Nat} {U : Nat → Bool} (hr : r < w.heap.size) (h : DrawnB r s n c w wr v k U) (b : Beside r wr w2) (R : Rd w2 r s n c p) : DrawnB r s n c w w2 v k U :=
  ⟨own_same h.1 fun g hg => b.2.2.2.2 g (h.1.lt g hg).2 (by have := (h.1.lt g hg).1; omega), h.2.1.trans b, p, R⟩
theorem drawnB_on {r : Nat} {s : Option Addr} {n c : Nat} {w wr w3 : World} {v : Value} {k : Nat} {U : Nat → Bool} {g cap : Nat} {x : Bool} (hr : r < w.heap.size) (h : DrawnB r s n c w wr v k U) (hown : w3.ownsRow w.heap.size 4 1 (.slice (some ⟨g, 0, none⟩) (k + 1) cap) (k + 1) (valB U k ++ [.bool x])) (hg : wr.grownBy w3 v.ownBlock) : DrawnB r s n c w w3 (.slice (some ⟨g, 0, none⟩) (k + 1) cap) (k + 1) (putB U k x) := by
  obtain ⟨h1, h2, p, R⟩ := h
  have g1 : Below w.heap.size wr w3 := grown_below hg h2.2.2.2.1 (own_block h1)
  exact ⟨by rw [valB_put]; exact hown, h2.on g1, p, R.below' (g1.mono (by omega))⟩
theorem drawnB_own {r : Nat} {s : Option Addr} {n c : Nat} {w wr : World} {v : Value} {k : Nat} {U : Nat → Bool} (h : DrawnB r s n c w wr v k U) : ∃ t cap, v = .slice t k cap ∧ OwnB w.heap.size wr t k U := by
  obtain ⟨h1, _⟩ := h
  rcases h1.2 with ⟨rfl, rfl⟩ | ⟨g, cap, cur, rfl, hb, hg, _, _, _, _⟩
  · exact ⟨none, 0, rfl, fun j hj => by omega⟩
  · refine ⟨some ⟨g, 0, none⟩, cap, rfl, fun j hj => ?_⟩
    exact ⟨g, rfl, hb, (Array.getElem?_eq_some_iff.1 hg).1, by rw [h1.cellAt j (by omega)]; simp [valB, hj], h1.frozenAt j⟩
theorem RowB.beside {r : Nat} {W W' : World} {t : Option Addr} {m : Nat} {V : Nat → Bool} (h : RowB W t m V) (b : Beside r W W') (hn : ∀ j, j < m → ∀ g o, t = some ⟨g, o, none⟩ → g ≠ r) : RowB W' t m V := fun j hj => by
  obtain ⟨g, o, e, hl, hc⟩ := h j hj
  exact ⟨g, o, e, Nat.lt_of_lt_of_le hl b.2.2.2.1, (b.cell (p := ⟨g, o + j, none⟩) hl (hn j hj g o e)).trans hc⟩
theorem ownB_off {base r : Nat} {W W' : World} {t : Option Addr} {m : Nat} {V : Nat → Bool} (h : OwnB base W t m V) (b : Beside r W W') (hr : r < base) : OwnB base W' t m V := fun j hj => by
  obtain ⟨g, e, hb, hl, hc, hf⟩ := h j hj
  exact ⟨g, e, hb, Nat.lt_of_lt_of_le hl b.2.2.2.1, (b.cell (p := ⟨g, j, none⟩) hl (by simp only; omega)).trans hc, (b.frozen (p := ⟨g, j, none⟩) hl (by simp only; omega)).trans hf⟩
theorem ownI_off {base r : Nat} {W W' : World} {t : Option Addr} {m : Nat} {V : Nat → Int} (h : OwnI base W t m V) (b : Beside r W W') (hr : r < base) : OwnI base W' t m V := fun j hj => by
  obtain ⟨g, e, hb, hl, hc, hf⟩ := h j hj
  exact ⟨g, e, hb, Nat.lt_of_lt_of_le hl b.2.2.2.1, (b.cell (p := ⟨g, j, none⟩) hl (by simp only; omega)).trans hc, (b.frozen (p := ⟨g, j, none⟩) hl (by simp only; omega)).trans hf⟩
theorem lockRow_row {w wr : World} {n : Nat} {V : Nat → Int} (h : LockRow w wr n 0 V) : RowI wr (some ⟨w.heap.size, 0, none⟩) (n * 2) (fun j => if j < 0 * 2 then V j else 0) := fun j hj => by
  obtain ⟨_, hz, _, hc⟩ := h
  exact ⟨_, _, rfl, hz, by rw [Nat.zero_add]; exact hc j hj⟩
theorem bow_one {w wr : World} {n : Nat} {V : Nat → Bool} (h : BowTo w wr n 1 V) : RowB wr (some ⟨w.heap.size, 0, none⟩) n (fun j => if j < 1 then V j else false) := fun j hj => by
  obtain ⟨_, hz, _, hc⟩ := h
  exact ⟨_, _, rfl, hz, by rw [Nat.zero_add]; exact hc j hj⟩
end Go.Proofs.Ytjkdnlnbkopbpaa
