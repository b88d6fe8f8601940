/-
What is proved: a controlled drum is the one that its feeds, fires and draws lead to, in numbers; one act appended in a region that draws its order.
-/
import Derived.Test.YtigcbgiakijloaaDmV
import Derived.Test.YtigcbgiakijloaaCtl
import Derived.Test.YtigcbgiakijloaaLsAct
import Derived.Deep.RegionLaw
namespace Go.Proofs.Ytigcbgiakijloaa
set_option maxRecDepth 40000
open Go.ChangeShapes Go.WideShapes Go.ChangeAt Go.RowKit
set_option linter.unusedVariables false
set_option linter.unusedSimpArgs false

def actsV (x : T7) (L : Int) (F D : Nat → Int) (j : Nat) : Int := if j % 3 = 0 then feedK x L F D (j / 3) else if j % 3 = 1 then F (j / 3) else D (j / 3)
theorem acts_0 (x : T7) (L : Int) (F D : Nat → Int) (k : Nat) : actsV x L F D (k * 3) = feedK x L F D k := by unfold actsV; rw [if_pos (by omega)]; congr 1; omega
theorem acts_1 (x : T7) (L : Int) (F D : Nat → Int) (k : Nat) : actsV x L F D (k * 3 + 1) = F k := by unfold actsV; rw [if_neg (by omega), if_pos (by omega)]; congr 1; omega
theorem acts_2 (x : T7) (L : Int) (F D : Nat → Int) (k : Nat) : actsV x L F D (k * 3 + 2) = D k := by unfold actsV; rw [if_neg (by omega), if_neg (by omega)]; congr 1; omega
theorem run_ctl (x : T7) (L : Int) (F D : Nat → Int) : ∀ k, runT x (actsV x L F D) k = ctlT x L F D k
  | 0 => rfl
  | k + 1 => by
    show nextT (runT x (actsV x L F D) k) (actsV x L F D (k * 3)) (actsV x L F D (k * 3 + 1)) (actsV x L F D (k * 3 + 2)) = nextT (ctlT x L F D k) (feedV (ctlT x L F D k) L (D k)) (F k) (D k)
    rw [run_ctl x L F D k, acts_0, acts_1, acts_2]
    rfl
theorem ok_ctl (x : T7) (L : Int) (F D : Nat → Int) (k : Nat) : okK x (actsV x L F D) k = ctlOk x L F D k := by
  show okT (runT x (actsV x L F D) k) (actsV x L F D (k * 3)) (actsV x L F D (k * 3 + 1)) (actsV x L F D (k * 3 + 2)) = okT (ctlT x L F D k) (feedK x L F D k) (F k) (D k)
  rw [run_ctl, acts_0, acts_1, acts_2]
theorem ctl_full {x : T7} {L : Int} {n n' : Nat} {F D : Nat → Int} {m : Nat} {y : T7} (h : CtlV x L n n' F D m y true) : m = n ∧ n = n' ∧ n ≤ 500 ∧ FullT x (actsV x L F D) n ∧ runT x (actsV x L F D) n = y := by
  rcases h with ⟨rfl, rfl, -, hg, ho⟩ | ⟨-, -, hb, -⟩
  · obtain ⟨g1, g2, g3, g4, g5⟩ := hg
    refine ⟨rfl, g4, g5, ⟨?_, fun j hj => ?_⟩, run_ctl x L F D _⟩
    · unfold goB
      unfold drumT at g1
      rw [g1, decide_eq_true g5]
      rfl
    · rw [ok_ctl]; exact ho j hj
  · cases hb
theorem step_Act {ops : Array Oper} {o : Oper} {a : Act} {K : Act → World → Prop} {Q : Exit → Act → World → Prop} {E : Prop} {W : World} {t : TypeId} {x y q : Int} (base : Nat) (v : Value) (k : Nat) (xs : List Value) (s z : Operand) (hgd : o.guard = none)
    (ho : o.op = .call { callee := .builtin .append, args := #[s, z], argTypes := #[26, 26] }) (hs : a.eval s = v) (hx : a.eval z = .slice (some ⟨W.heap.size, 0, none⟩) 1 1) (hown : W.ownsRow base 37 3 v k xs) (hk : k ≤ 1000000) (hb : base ≤ W.heap.size)
    (h : ∀ g cap w', w'.ownsRow base 37 3 (.slice (some ⟨g, 0, none⟩) (k + 1) cap) (k + 1) (xs ++ [.int .i64 x, .int .i64 y, .int .i64 q]) → W.grownBy w' v.ownBlock → g < w'.heap.size → K (a.put o.dst (.slice (some ⟨g, 0, none⟩) (k + 1) cap)) w') :
    if Region.wanted o (yielded ops a.tmps) = true then Oper.wp Try.prog o a (W.alloc (.cells #[.int .i64 x, .int .i64 y, .int .i64 q] t)) K Q else E := by
  obtain ⟨i0, hi, hz0, hz1, hz2⟩ := info_parts info_Act
  refine step_append_lies _ hgd s z 26 ho base 37 i0 (.agg #[.int .i64 0, .int .i64 0, .int .i64 0]) 3 24 Try.underlying26 hi hz0 hz1 hz2 rfl (by decide) v k xs hs (hown.alloc _) ⟨W.heap.size, 0, none⟩ 1 1 [.int .i64 x, .int .i64 y, .int .i64 q] hx rfl (LsAct_news _ _ _ _ _) ?_ (by decide) (by unfold maxLen; omega) (by omega) (by simp; omega) _ rfl ?_
  · intro u hu
    simp at hu
    rcases hu with rfl | rfl | rfl <;> rfl
  · intro g cap w' h1 h2 _ h3
    exact h g cap w' h1 (grown_new h2) h3
theorem grown_drewA {wr w3 : World} {base : Nat} {e : TypeId} {size n : Nat} {v : Value} {xs : List Value} (ho : wr.ownsRow base e size v n xs) (hg : wr.drew.grownBy w3 v.ownBlock) (hb : base ≤ wr.heap.size) : Below base wr w3 := Below.trans (Below.mono (B := wr.heap.size) (Below.refl _ wr).drew hb) (grown_below hg hb (own_block ho))
theorem Lst.onU {w' : World} {base : Nat} {T : TypeId} {v' : Value} {k : Nat} {U : Nat → Int} {x y z : Int} (hx : U (k * 3) = x) (hy : U (k * 3 + 1) = y) (hz : U (k * 3 + 2) = z) (hown : w'.ownsRow base T 3 v' (k + 1) (vals U (k * 3) ++ [.int .i64 x, .int .i64 y, .int .i64 z])) : Lst base T 3 w' v' (k + 1) U := by
  show World.ownsRow _ _ _ _ _ _ _
  rw [show (k + 1) * 3 = k * 3 + 1 + 1 + 1 by omega, vals_succ, vals_succ, vals_succ, hx, hy, hz, List.append_assoc, List.append_assoc]
  exact hown
end Go.Proofs.Ytigcbgiakijloaa
