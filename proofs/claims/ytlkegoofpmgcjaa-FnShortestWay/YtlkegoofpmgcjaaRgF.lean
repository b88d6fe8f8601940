/-
What is proved: a region that draws its order, in a round of a range over a function, goes as it goes elsewhere; what a round keeps.
-/
import Derived.RangeFuncNested
import Derived.RangeFuncBound
import Derived.RangeFuncCalls
import Derived.RangeFuncLeaves
import Derived.Shelf.Abstract
import Derived.Shelf.RegionOpen
import Derived.WalkKit
import Derived.OwnWalkIn
import Derived.TacticsInMore
import Derived.LoopNIn
import Derived.LoopIn
import Derived.Deep.RegionHeld3
import Derived.Test.YtlkegoofpmgcjaaBeside
namespace Go.Proofs.Ytlkegoofpmgcjaa
set_option maxRecDepth 40000
open Go.ChangeShapes Go.WideShapes Go.ChangeAt Go.RowKit
set_option linter.unusedVariables false
set_option linter.unusedSimpArgs false

theorem wpOpIn_of_wpOp {l n : Nat} {P : Program} {ops : Array Oper} {Q : Exit → Act → World → Prop} {i : Nat} {K : Act → World → Prop} {a : Act} {w : World} (hd : ∀ o, ops[i]? = some o → ∀ c, o.op ≠ .defer c) (hL : ¬ LetsOut Q) (h : wpOp P ops Q i K a w) : wpOpIn (Fence.wide.inRound l) n P ops Q i K a w := by
  unfold wpOp at h
  unfold wpOpIn
  cases ho : ops[i]? with
  | none => rw [ho] at h; exact h
  | some o =>
    rw [ho] at h
    simp only at h ⊢
    by_cases q : Region.wanted o (yielded ops a.tmps)
    · rw [if_pos q] at h ⊢
      rcases h with h | ⟨_, h⟩
      · refine ⟨fun _ _ => trivial, ?_⟩
        have e : Oper.semAt (Fence.wide.inRound l).round a.eval o = execOp a.eval o := Oper.semAt_some l a.eval o (hd o ho)
        rw [e]
        unfold Oper.wp at h
        generalize (execOp a.eval o).run P w = R at h ⊢
        have dn : ((Fence.wide.inRound l).depth.isSome = true → 1 ≤ n) := fun e => by simp [Fence.wide] at e
        cases R with
        | ok x w' =>
          cases x with
          | value v => exact h
          | skip => exact h
          | defer d => exact h
          | enter f args => exact ⟨dn, CallsIn.inRound l (callsIn_wide.2 h)⟩
          | row r args => exact ⟨dn, fun c cs _ => by
              obtain ⟨v, w1, hr, hs⟩ := h c cs
              exact ⟨v, w1, hr, stepsIn_wide.2 hs⟩⟩
          | _ => exact h.elim
        | halt x w' =>
          cases x with
          | panic v => exact h
          | _ => exact h.elim
      · exact (hL h).elim
    · rw [if_neg q] at h ⊢
      exact ⟨fun _ _ => trivial, h⟩
theorem wpAnyIn_of_wpAny {l n : Nat} {P : Program} {md : Region.Mode} {ops : Array Oper} {Q : Exit → Act → World → Prop} (hd : ∀ (i : Nat) (o : Oper), ops[i]? = some o → ∀ c, o.op ≠ .defer c) (hL : ¬ LetsOut Q) : ∀ (fuel : Nat) (listed : Array Bool) (a : Act) (w : World), wpAny P md ops Q fuel listed a w → wpAnyIn (Fence.wide.inRound l) n P md ops Q fuel listed a w
  | 0, _, _, _, h => h
  | fuel + 1, _, _, _, h => ⟨h.1, fun i hi => wpOpIn_of_wpOp (hd i) hL (wpOp_mono (fun a' w' h' => wpAnyIn_of_wpAny hd hL fuel _ a' w' h') (h.2 i hi))⟩
def noDefer (o : Oper) : Bool := match o.op with | .defer _ => false | _ => true
theorem noDefer_all {ops : Array Oper} (h : ops.all noDefer = true) : ∀ (i : Nat) (o : Oper), ops[i]? = some o → ∀ c, o.op ≠ .defer c := fun i o ho c e => by
  rw [Array.all_eq_true_iff_forall_mem] at h
  have := h o (Array.mem_of_getElem? ho)
  unfold noDefer at this
  rw [e] at this
  cases this
theorem wpIn_region_round {l n : Nat} {P : Program} {id : Nat} {ops : Array Oper} {Q : Exit → Act → World → Prop} {S : World → Prop} {a : Act} {w : World} (hL : ¬ LetsOut Q) (hd : ops.all noDefer = true) (hm : P.follows .mixedOrders = true) (hS : S w.drew)
    (h : S w.drew → wpAnyH P .any ops Q S ops.size (Array.replicate ops.size false) a w.drew) : (Code.region id ops true).wpIn (Fence.wide.inRound l) n P Q a w :=
  wpIn_region_any hm (wpAnyIn_of_wpAny (noDefer_all hd) hL _ _ _ _ (wpAny_of_held _ _ _ _ (h hS)))
/-- What a round keeps: all but the block bf, of what lay below n0. -/
def KpB (n0 bf : Nat) (W W' : World) : Prop := W.heap.size ≤ W'.heap.size ∧ ∀ k, k < n0 → k ≠ bf → W'.heap[k]? = W.heap[k]?
theorem KpB.refl (n0 bf : Nat) (W : World) : KpB n0 bf W W := ⟨Nat.le_refl _, fun _ _ _ => rfl⟩
theorem KpB.trans {n0 bf : Nat} {A B C : World} (h : KpB n0 bf A B) (g : KpB n0 bf B C) : KpB n0 bf A C := ⟨Nat.le_trans h.1 g.1, fun k hk hn => (g.2 k hk hn).trans (h.2 k hk hn)⟩
theorem KpB.put {n0 bf B : Nat} (hB : n0 ≤ B) (W : World) (l : Nat) (o o' : Obj) (hl : B ≤ l) (_h : W.heap[l]? = some o) (_h1 : o.isCells = false) (_h2 : o.isWalk = false) : KpB n0 bf W (W.putObj l o') :=
  ⟨by simp [World.putObj], fun k hk _ => World.putObj_heap_other (by omega)⟩
theorem KpB.cell {n0 bf : Nat} {W W' : World} (h : KpB n0 bf W W') {p : Addr} (hp : p.block < n0) (hn : p.block ≠ bf) : W'.cell? p = W.cell? p := World.cell?_of_block (w := W) (h.2 p.block hp hn)
theorem KpB.below {n0 bf : Nat} {W W' : World} (h : Below n0 W W') : KpB n0 bf W W' := ⟨h.size, fun k hk _ => h.block k hk⟩
theorem KpB.beside {n0 bf : Nat} {W W' : World} (h : Beside bf W W') (hn : n0 ≤ W.heap.size) : KpB n0 bf W W' := ⟨h.2.2.2.1, fun k hk hb => h.2.2.2.2 k (by omega) hb⟩
theorem keepsFrom_below {B : Nat} {W W' : World} (h : Below W.heap.size W W') : KeepsFrom B W W' := ⟨h.size, fun k o _ hk _ => (h.block k (Array.getElem?_eq_some_iff.1 hk).1).trans hk⟩
theorem keepsFrom_beside {B bf : Nat} {W W' : World} (h : Beside bf W W') (hb : bf < B) : KeepsFrom B W W' := ⟨h.2.2.2.1, fun k o hB hk _ => (h.2.2.2.2 k (Array.getElem?_eq_some_iff.1 hk).1 (by omega)).trans hk⟩
end Go.Proofs.Ytlkegoofpmgcjaa
