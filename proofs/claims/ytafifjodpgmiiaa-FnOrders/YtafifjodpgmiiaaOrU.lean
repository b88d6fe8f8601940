/-
What is proved: orders on their way of being drawn, or put together, in memory of their own.
-/
import Derived.Test.YtafifjodpgmiiaaRdO
import Derived.Test.YtafifjodpgmiiaaRdC
import Derived.Test.YtafifjodpgmiiaaOwnL
import Derived.Deep.RegionHeld3
import Derived.Deep.DeepCutAuto
namespace Go.Proofs.Ytafifjodpgmiiaa
set_option maxRecDepth 40000
open Go.ChangeShapes Go.WideShapes Go.ChangeAt Go.RowKit
set_option linter.unusedVariables false
set_option linter.unusedSimpArgs false

theorem Beside.on {r : Nat} {w w1 w2 : World} (h : Beside r w w1) (b : Below w.heap.size w1 w2) : Beside r w w2 := by
  obtain ⟨h1, h2, h3, h4, h5⟩ := h
  exact ⟨b.os.trans h1, b.tape.trans h2, b.output.trans h3, Nat.le_trans h4 b.size, fun k hk hn => (b.block k hk).trans (h5 k hk hn)⟩
theorem info_order : (Try.prog.info? 33).map (fun i => (i.zero, i.size, i.bytes)) = some (some (.agg #[.int .i64 0, .int .i64 0]), 2, 16) := by kernel_rfl
theorem list_order {ops : Array Oper} {rest : List Oper} {o : Oper} {a : Act} {Q : Exit → Act → World → Prop} {W : World} {t : TypeId} {x y : Int} (base : Nat) (v : Value) (k : Nat) (xs : List Value) (s z : Operand) (hgd : o.guard = none)
    (ho : o.op = .call { callee := .builtin .append, args := #[s, z], argTypes := #[25, 25] }) (hs : a.eval s = v) (hx : a.eval z = .slice (some ⟨W.heap.size, 0, none⟩) 1 1) (hown : W.ownsRow base 33 2 v k xs) (hk : k ≤ 1000000) (hb : base ≤ W.heap.size)
    (h : ∀ g cap w', w'.ownsRow base 33 2 (.slice (some ⟨g, 0, none⟩) (k + 1) cap) (k + 1) (xs ++ [.int .i64 x, .int .i64 y]) → W.grownBy w' v.ownBlock → g < w'.heap.size → wpList Try.prog ops Q rest (a.put o.dst (.slice (some ⟨g, 0, none⟩) (k + 1) cap)) w') :
    wpList Try.prog ops Q (o :: rest) a (W.alloc (.cells #[.int .i64 x, .int .i64 y] t)) := by
  obtain ⟨i0, hi, hz0, hz1, hz2⟩ := info_parts info_order
  refine wpList_append_lies _ hgd s z 25 ho base 33 i0 (.agg #[.int .i64 0, .int .i64 0]) 2 16 Try.underlying25 hi hz0 hz1 hz2 rfl (by decide) v k xs hs (hown.alloc _) ⟨W.heap.size, 0, none⟩ 1 1 [.int .i64 x, .int .i64 y] hx rfl (newsTwo _ _ _ _) ?_ (by decide) (by unfold maxLen; omega) (by omega) (by simp; omega) _ rfl ?_
  · intro u hu
    simp at hu
    rcases hu with rfl | rfl <;> rfl
  · intro g cap w' h1 h2 _ h3
    exact h g cap w' h1 (grown_new h2) h3
/-- A list of units on its way of being drawn by the reader in block r. -/
def DrawnO (r : Nat) (s : Option Addr) (n c : Nat) (w wr : World) (v : Value) (k : Nat) (U : Nat → Int) : Prop := wr.ownsRow w.heap.size 33 2 v k (vals U (k * 2)) ∧ Beside r w wr ∧ ∃ p, Rd wr r s n c p
def putU (U : Nat → Int) (k : Nat) (x y : Int) (j : Nat) : Int := if j = k * 2 then x else if j = k * 2 + 1 then y else U j
theorem vals_put (U : Nat → Int) (k : Nat) (x y : Int) : vals (putU U k x y) ((k + 1) * 2) = vals U (k * 2) ++ [.int .i64 x, .int .i64 y] := by
  rw [show (k + 1) * 2 = k * 2 + 1 + 1 by omega, vals_succ, vals_succ]
  have e1 : putU U k x y (k * 2) = x := by unfold putU; rw [if_pos rfl]
  have e2 : putU U k x y (k * 2 + 1) = y := by unfold putU; rw [if_neg (by omega), if_pos rfl]
  have e3 : vals (putU U k x y) (k * 2) = vals U (k * 2) := by
    unfold vals
    refine List.map_congr_left fun j hj => ?_
    have : j < k * 2 := by simpa using hj
    unfold putU
    rw [if_neg (by omega), if_neg (by omega)]
  rw [e1, e2, e3]
  simp
theorem drawnO_read {r : Nat} {s : Option Addr} {n c p : Nat} {w wr w2 : World} {v : Value} {k : Nat} {U : Nat → Int} (hr : r < w.heap.size) (h : DrawnO r s n c w wr v k U) (b : Beside r wr w2) (R : Rd w2 r s n c p) : DrawnO r s n c w w2 v k U :=
  ⟨own_same h.1 fun g hg => b.2.2.2.2 g (h.1.lt g hg).2 (by have := (h.1.lt g hg).1; omega), h.2.1.trans b, p, R⟩
theorem drawnO_on {r : Nat} {s : Option Addr} {n c : Nat} {w wr w3 : World} {v : Value} {k : Nat} {U : Nat → Int} {g cap : Nat} {x y : Int} (hr : r < w.heap.size) (h : DrawnO r s n c w wr v k U) (hown : w3.ownsRow w.heap.size 33 2 (.slice (some ⟨g, 0, none⟩) (k + 1) cap) (k + 1) (vals U (k * 2) ++ [.int .i64 x, .int .i64 y])) (hg : wr.grownBy w3 v.ownBlock) : DrawnO r s n c w w3 (.slice (some ⟨g, 0, none⟩) (k + 1) cap) (k + 1) (putU U k x y) := by
  obtain ⟨h1, h2, p, R⟩ := h
  have g1 : Below w.heap.size wr w3 := grown_below hg h2.2.2.2.1 (own_block h1)
  exact ⟨by rw [vals_put]; exact hown, h2.on g1, p, R.below' (g1.mono (by omega))⟩
theorem drawnO_own {r : Nat} {s : Option Addr} {n c : Nat} {w wr : World} {v : Value} {k : Nat} {U : Nat → Int} (h : DrawnO r s n c w wr v k U) : ∃ t cap, v = .slice t k cap ∧ OwnI w.heap.size wr t (k * 2) U := own_OwnI (size := 2) (U := U) h.1
def lenO : Value → Nat
  | .slice _ n _ => n
  | _ => 0
theorem own_capO {w : World} {base : Nat} {e : TypeId} {size : Nat} {t : Option Addr} {k cap : Nat} {xs : List Value} (h : w.ownsRow base e size (.slice t k cap) k xs) : k ≤ cap := by
  rcases h.2 with ⟨e1, e2⟩ | ⟨g, cap', cur, e1, _, _, hc, _⟩
  · cases e1; omega
  · cases e1; exact hc
/-- A list of orders that a call makes: its first k are U. -/
def MadeO (base : Nat) (w wr : World) (v : Value) (k : Nat) (U : Nat → Int) : Prop := wr.ownsRow base 33 2 v k (vals U (k * 2)) ∧ Below base w wr
theorem madeO_on {base : Nat} {w wr w2 : World} {v v' : Value} {k : Nat} {U : Nat → Int} {x y : Int} (h : MadeO base w wr v k U) (hz : base ≤ wr.heap.size) (hx : U (k * 2) = x) (hy : U (k * 2 + 1) = y) (hown : w2.ownsRow base 33 2 v' (k + 1) (vals U (k * 2) ++ [.int .i64 x, .int .i64 y])) (hg : wr.grownBy w2 v.ownBlock) : MadeO base w w2 v' (k + 1) U := by
  obtain ⟨h1, h3⟩ := h
  refine ⟨?_, h3.trans (grown_below hg hz (own_block h1))⟩
  rw [show (k + 1) * 2 = k * 2 + 1 + 1 by omega, vals_succ, vals_succ, hx, hy, List.append_assoc]
  exact hown
theorem madeO_own {base : Nat} {w wr : World} {v : Value} {k : Nat} {U : Nat → Int} (h : MadeO base w wr v k U) : ∃ t cap, v = .slice t k cap ∧ OwnI base wr t (k * 2) U := own_OwnI (size := 2) (U := U) h.1
end Go.Proofs.Ytafifjodpgmiiaa
