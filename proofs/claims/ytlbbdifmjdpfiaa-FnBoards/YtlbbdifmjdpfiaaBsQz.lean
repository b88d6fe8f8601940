/-
What is proved: what a step of a board leaves, in numbers and in memory.
-/
import Derived.Test.YtlbbdifmjdpfiaaBsMz
import Derived.Test.YtlbbdifmjdpfiaaOwnLz
import Derived.Test.YtlbbdifmjdpfiaaZdB
import Derived.Test.YtlbbdifmjdpfiaaZdD
namespace Go.Proofs.Ytlbbdifmjdpfiaa
set_option maxRecDepth 40000
open Go.ChangeShapes Go.WideShapes Go.ChangeAt Go.RowKit
set_option linter.unusedVariables false
set_option linter.unusedSimpArgs false

def stX (x : Int) (n : Nat) (V : Nat → Int × Int × Int × Bool × Int) (mo : Int) (nt : Nat) (Th : Nat → Bool) (ns : Nat) (Se : Nat → Int) (nh : Nat) (Sh : Nat → Int × Int) : Int := if stpB x n V mo nt ns Se nh Sh = true then x + 1 else 0
def stN (x : Int) (n : Nat) (V : Nat → Int × Int × Int × Bool × Int) (mo : Int) (nt : Nat) (Th : Nat → Bool) (ns : Nat) (Se : Nat → Int) (nh : Nat) (Sh : Nat → Int × Int) : Nat := if stpB x n V mo nt ns Se nh Sh = true then n else 0
def stV (x : Int) (n : Nat) (V : Nat → Int × Int × Int × Bool × Int) (mo : Int) (nt : Nat) (Th : Nat → Bool) (ns : Nat) (Se : Nat → Int) (nh : Nat) (Sh : Nat → Int × Int) : Nat → Int × Int × Int × Bool × Int := liV (seV (shV (x + 1) V Sh nh) Se ns) n Th mo (x + 1) n
def stT (x : Int) (n : Nat) (V : Nat → Int × Int × Int × Bool × Int) (mo : Int) (nt : Nat) (Th : Nat → Bool) (ns : Nat) (Se : Nat → Int) (nh : Nat) (Sh : Nat → Int × Int) : List Int := if stpB x n V mo nt ns Se nh Sh = true then liL (seV (shV (x + 1) V Sh nh) Se ns) n Th mo (x + 1) n else []
def BsPost (w : World) (x : Int) (n : Nat) (V : Nat → Int × Int × Int × Bool × Int) (mo : Int) (nt : Nat) (Th : Nat → Bool) (ns : Nat) (Se : Nat → Int) (nh : Nat) (Sh : Nat → Int × Int) (e : Ending) (w' : World) : Prop := ∃ (s0 : Option Addr) (c0 : Nat) (s1 : Option Addr) (c1 : Nat) (S0 S1 : Nat → Prop), e = .returned (.tuple #[.agg #[.int .i64 (stX x n V mo nt Th ns Se nh Sh), .slice s0 (stN x n V mo nt Th ns Se nh Sh) c0], .slice s1 (stT x n V mo nt Th ns Se nh Sh).length c1, .bool (stpB x n V mo nt ns Se nh Sh)]) ∧ (∀ k, S0 k → w.heap.size ≤ k ∧ k < w'.heap.size) ∧ AlarmR S0 w' s0 (stN x n V mo nt Th ns Se nh Sh) (stV x n V mo nt Th ns Se nh Sh) ∧ (∀ k, S1 k → w.heap.size ≤ k ∧ k < w'.heap.size) ∧ I64R S1 w' s1 (stT x n V mo nt Th ns Se nh Sh).length (nthI (stT x n V mo nt Th ns Se nh Sh)) ∧ (∀ k, S0 k → ¬ S1 k) ∧ Below w.heap.size w w'
theorem bs_no {w w' : World} {x : Int} {n : Nat} {V : Nat → Int × Int × Int × Bool × Int} {mo : Int} {nt : Nat} {Th : Nat → Bool} {ns : Nat} {Se : Nat → Int} {nh : Nat} {Sh : Nat → Int × Int} {s : Option Addr} {c : Nat} (h : stpB x n V mo nt ns Se nh Sh = false) (hb : Below w.heap.size w w') : BsPost w x n V mo nt Th ns Se nh Sh (.returned (.tuple #[.agg #[.int .i64 0, .slice none 0 0], .slice s 0 c, .bool false])) w' := by
  have e1 : stX x n V mo nt Th ns Se nh Sh = 0 := by unfold stX; rw [if_neg (by rw [h]; simp)]
  have e2 : stN x n V mo nt Th ns Se nh Sh = 0 := by unfold stN; rw [if_neg (by rw [h]; simp)]
  have e3 : stT x n V mo nt Th ns Se nh Sh = [] := by unfold stT; rw [if_neg (by rw [h]; simp)]
  unfold BsPost
  rw [e1, e2, e3, h]
  exact ⟨none, 0, s, c, fun _ => False, fun _ => False, rfl, fun k hk => hk.elim, ⟨fun j hj => absurd hj (Nat.not_lt_zero j), fun q => absurd q (Nat.lt_irrefl 0)⟩, fun k hk => hk.elim, ⟨fun j hj => absurd hj (Nat.not_lt_zero j), fun q => absurd q (Nat.lt_irrefl 0)⟩, fun k hk => hk.elim, hb⟩
theorem bs_yes {w w' : World} {x : Int} {n : Nat} {V : Nat → Int × Int × Int × Bool × Int} {mo : Int} {nt : Nat} {Th : Nat → Bool} {ns : Nat} {Se : Nat → Int} {nh : Nat} {Sh : Nat → Int × Int} {b c base : Nat} {v : Value} (h : stpB x n V mo nt ns Se nh Sh = true) (hA : AlM b w' n (stV x n V mo nt Th ns Se nh Sh)) (hb1 : w.heap.size ≤ b) (hb2 : b < base) (ho : w'.ownsRow base 2 1 v (liL (seV (shV (x + 1) V Sh nh) Se ns) n Th mo (x + 1) n).length (cellsOf (liL (seV (shV (x + 1) V Sh nh) Se ns) n Th mo (x + 1) n))) (hb : Below w.heap.size w w') : ∃ s1 c1, v = .slice s1 (stT x n V mo nt Th ns Se nh Sh).length c1 ∧ BsPost w x n V mo nt Th ns Se nh Sh (.returned (.tuple #[.agg #[.int .i64 (x + 1), .slice (some ⟨b, 0, none⟩) n c], v, .bool true])) w' := by
  have e1 : stX x n V mo nt Th ns Se nh Sh = x + 1 := by unfold stX; rw [if_pos h]
  have e2 : stN x n V mo nt Th ns Se nh Sh = n := by unfold stN; rw [if_pos h]
  have e3 : stT x n V mo nt Th ns Se nh Sh = liL (seV (shV (x + 1) V Sh nh) Se ns) n Th mo (x + 1) n := by unfold stT; rw [if_pos h]
  rw [← e3] at ho
  have h1 := ho
  rw [← vals_nth] at h1
  obtain ⟨s1, c1, ev, hO⟩ := own_OwnI (size := 1) (U := nthI (stT x n V mo nt Th ns Se nh Sh)) (by rw [Nat.mul_one]; exact h1)
  rw [Nat.mul_one] at hO
  refine ⟨s1, c1, ev, ?_⟩
  subst ev
  unfold BsPost
  rw [e1, e2, h]
  refine ⟨some ⟨b, 0, none⟩, c, s1, c1, fun k => k = b, fun k => base ≤ k ∧ k < w'.heap.size, rfl, fun k hk => by subst hk; exact ⟨hb1, hA.1⟩, ⟨hA.own.mono (Nat.zero_le _), fun _ b' e => by cases e; rfl⟩, fun k hk => ⟨by omega, hk.2⟩, ?_, fun k hk q => by subst hk; omega, hb⟩
  have := I64R.of hO
  exact this
end Go.Proofs.Ytlbbdifmjdpfiaa
