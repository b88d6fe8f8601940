/-
What is proved: what ClockStep answers, in numbers.
-/
import Derived.Test.YtmoeoepinlcmdaaDoorCkL
namespace Go.Proofs.YtmoeoepinlcmdaaDoor
set_option maxRecDepth 40000
open Go.ChangeShapes Go.WideShapes Go.ChangeAt Go.RowKit
set_option linter.unusedVariables false
set_option linter.unusedSimpArgs false

def ckB (n : Nat) (V : Nat → Int × Int) (m : Nat) (U : Nat → Int × Bool) (mo : Int) (nb : Nat) (O : Nat → Bool) : Bool := clsB n V m U && (inB 0 7 mo && decide (nb = n))
def ckN (n : Nat) (V : Nat → Int × Int) (m : Nat) (U : Nat → Int × Bool) (mo : Int) (nb : Nat) (O : Nat → Bool) : Nat := if ckB n V m U mo nb O = true then n else 0
def ckT (n : Nat) (V : Nat → Int × Int) (m : Nat) (U : Nat → Int × Bool) (mo : Int) (nb : Nat) (O : Nat → Bool) : List (Int × Int) := if ckB n V m U mo nb O = true then ntP (whC V U O mo) n else []
def CkPost (n : Nat) (V : Nat → Int × Int) (m : Nat) (U : Nat → Int × Bool) (mo : Int) (nb : Nat) (O : Nat → Bool) (w : World) (e : Ending) (w' : World) : Prop := ∃ (s : Option Addr) (c : Nat) (t : Option Addr) (d : Nat), e = .returned (.tuple #[.slice s (ckN n V m U mo nb O) c, .slice t (ckT n V m U mo nb O).length d, .bool (ckB n V m U mo nb O)]) ∧ OwnClock w.heap.size w' s (ckN n V m U mo nb O) (nxC V U O mo) ∧ OwnNote w.heap.size w' t (ckT n V m U mo nb O).length (fun j => (ckT n V m U mo nb O).getD j (0, 0)) ∧ (∀ b b', s = some ⟨b, 0, none⟩ → t = some ⟨b', 0, none⟩ → b ≠ b') ∧ Below w.heap.size w w'
theorem ck_no {n : Nat} {V : Nat → Int × Int} {m : Nat} {U : Nat → Int × Bool} {mo : Int} {nb : Nat} {O : Nat → Bool} {w w' : World} {s t : Option Addr} {c d : Nat} (h : ckB n V m U mo nb O = false) (hd : ∀ b b', s = some ⟨b, 0, none⟩ → t = some ⟨b', 0, none⟩ → b ≠ b') (hb : Below w.heap.size w w') : CkPost n V m U mo nb O w (.returned (.tuple #[.slice s 0 c, .slice t 0 d, .bool false])) w' := by
  have e1 : ckN n V m U mo nb O = 0 := by unfold ckN; rw [h]; rfl
  have e2 : ckT n V m U mo nb O = [] := by unfold ckT; rw [h]; rfl
  refine ⟨s, c, t, d, ?_, ?_, ?_, hd, hb⟩
  · rw [e1, e2, h]; rfl
  · rw [e1]; exact fun j hj => by omega
  · rw [e2]; exact fun j hj => by simp at hj
theorem ck_yes {n : Nat} {V : Nat → Int × Int} {m : Nat} {U : Nat → Int × Bool} {mo : Int} {nb : Nat} {O : Nat → Bool} {w w' : World} {s t : Option Addr} {c d k : Nat} (h : ckB n V m U mo nb O = true) (hk : (ntP (whC V U O mo) n).length = k) (h1 : OwnClock w.heap.size w' s n (nxC V U O mo)) (h2 : OwnNote w.heap.size w' t (ntP (whC V U O mo) n).length (fun j => (ntP (whC V U O mo) n).getD j (0, 0))) (hd : ∀ b b', s = some ⟨b, 0, none⟩ → t = some ⟨b', 0, none⟩ → b ≠ b') (hb : Below w.heap.size w w') : CkPost n V m U mo nb O w (.returned (.tuple #[.slice s n c, .slice t k d, .bool true])) w' := by
  have e1 : ckN n V m U mo nb O = n := by unfold ckN; rw [h]; rfl
  have e2 : ckT n V m U mo nb O = ntP (whC V U O mo) n := by unfold ckT; rw [h]; rfl
  subst hk
  refine ⟨s, c, t, d, ?_, ?_, ?_, hd, hb⟩
  · rw [e1, e2, h]
  · rw [e1]; exact h1
  · rw [e2]; exact h2
theorem ClockRow.far {w wr w' : World} {n k : Nat} {V : Nat → Int × Bool} (h : ClockRow w wr n k V) (hb : Below (w.heap.size + 1) wr w') : ClockRow w w' n k V := by
  obtain ⟨h1, h2, h3, h4⟩ := h
  have hc : ∀ o, w'.cell? ⟨w.heap.size, o, none⟩ = wr.cell? ⟨w.heap.size, o, none⟩ := fun o => World.cell?_of_block (w := wr) (hb.block w.heap.size (Nat.lt_succ_self _))
  have hf : ∀ o, w'.frozen? ⟨w.heap.size, o, none⟩ = wr.frozen? ⟨w.heap.size, o, none⟩ := fun o => World.frozen?_of_block (w := wr) (hb.block w.heap.size (Nat.lt_succ_self _))
  refine ⟨h1.trans (hb.mono (Nat.le_succ _)), Nat.lt_of_lt_of_le h2 hb.size, fun o => (hf o).trans (h3 o), fun j hj => ?_⟩
  rw [hc, hc]
  exact h4 j hj
theorem ClockRow.own {w wr : World} {n : Nat} {V : Nat → Int × Bool} {base : Nat} (h : ClockRow w wr n n V) (hb : base ≤ w.heap.size) : OwnClock base wr (some ⟨w.heap.size, 0, none⟩) n V := fun j hj => by
  obtain ⟨h1, h2, h3, h4⟩ := h
  have c := h4 j hj
  rw [if_pos hj, if_pos hj] at c
  exact ⟨w.heap.size, rfl, hb, h2, h3, c.1, c.2⟩
end Go.Proofs.YtmoeoepinlcmdaaDoor
