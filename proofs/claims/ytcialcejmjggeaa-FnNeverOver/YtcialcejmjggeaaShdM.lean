/-
What is proved: the first of a queue is the next machine that is shed, in numbers.
-/
import Derived.Test.YtcialcejmjggeaaHpQ

namespace Go.Proofs.Ytcialcejmjggeaa
set_option maxRecDepth 40000
open Go.ChangeShapes Go.WideShapes Go.ChangeAt Go.RowKit
set_option linter.unusedVariables false
set_option linter.unusedSimpArgs false

theorem sh_pop {V : Nat → Int} {n j m : Nat} {P : Nat → Nat} {most : Int} (hn : n ≤ 60) (h0 : 0 ≤ most) (hM : ∀ j, j < n → machB V j = true) (hr : ∀ i, i < j → most < runG V (shG V n i) n) (hj : most < runG V (shG V n j) n) (hG : HeapG (kO true V) 0 (m + 1) P) (hH : Hold (m + 1) P (fun a => a < n ∧ shG V n j a = false)) :
    shU V n j = (P 0 : Int) ∧ P 0 < n ∧ runG V (shG V n (j + 1)) n = runG V (shG V n j) n - V (P 0 * 4) ∧ ∀ a, ((a < n ∧ shG V n j a = false) ∧ a ≠ P 0) ↔ (a < n ∧ shG V n (j + 1) a = false) := by
  have h1 := hH.1 0 (by omega)
  have e : shU V n j = (P 0 : Int) := best_one hn h1.1 h1.2 fun a ha hga => by
    obtain ⟨i, hi, rfl⟩ := hH.2.1 a ⟨ha, hga⟩
    have := top_min hG i hi
    simpa [kO] using this
  obtain ⟨b, e2, hb, hgb, hrun, _⟩ := sh_best h0 hM hr hj
  have eb : b = P 0 := by have := e2.symm.trans e; omega
  subst eb
  refine ⟨e, h1.1, hrun, fun a => ?_⟩
  rw [shG_succ V n j e a]
  constructor
  · rintro ⟨⟨x, y⟩, z⟩
    exact ⟨x, by rw [y]; simp [z]⟩
  · rintro ⟨x, y⟩
    cases hg : shG V n j a
    · rw [hg] at y
      simp at y
      exact ⟨⟨x, rfl⟩, y⟩
    · rw [hg] at y; simp at y
theorem sh_left {V : Nat → Int} {n j m : Nat} {P : Nat → Nat} {most : Int} (h0 : 0 ≤ most) (hM : ∀ j, j < n → machB V j = true) (hr : ∀ i, i < j → most < runG V (shG V n i) n) (hj : most < runG V (shG V n j) n) : j < n := by
  obtain ⟨_, _, _, _, _, h⟩ := sh_best h0 hM hr hj
  exact h
theorem run_free (V : Nat → Int) (n k : Nat) : runG V (shG V n 0) (k + 1) = runG V (shG V n 0) k + V (k * 4) := rfl
theorem run_bd {V : Nat → Int} {G : Nat → Bool} {n k : Nat} (hn : n ≤ 60) (hk : k ≤ n) (hM : ∀ j, j < n → machB V j = true) : 0 ≤ runG V G k ∧ runG V G k ≤ 60000000 := by
  have h1 := run_le (V := V) (G := G) k fun j hj => hM j (by omega)
  have h2 := free_le G k
  omega
theorem shd_le (n : Nat) (V : Nat → Int) (most : Int) : shdN n V most ≤ n := by
  unfold shdN
  split
  · rename_i h
    have : ∀ f j, shK V n most f j ≤ j + f := fun f => by
      induction f with
      | zero => intro j; exact Nat.le_refl _
      | succ f ih => intro j; unfold shK; split
                     · omega
                     · have := ih (j + 1); omega
    have := this n 0
    omega
  · omega
theorem shd_end {n : Nat} {V : Nat → Int} {most : Int} {k : Nat} (hm : machsB n V = true) (h0 : 0 ≤ most) (h : ∀ i, i < k → most < runG V (shG V n i) n) (hk : runG V (shG V n k) n ≤ most) : shdN n V most = k := by
  unfold shdN
  rw [if_pos ⟨hm, h0⟩]
  exact sh_end h0 (machs_yes hm).2 h hk
theorem shd_no {n : Nat} {V : Nat → Int} {most : Int} (h : machsB n V = false ∨ most < 0) : shdN n V most = 0 := by
  unfold shdN
  rw [if_neg]
  rintro ⟨a, b⟩
  rcases h with h | h
  · rw [a] at h; cases h
  · omega
def lenV : Value → Nat
  | .slice _ n _ => n
  | _ => 0
theorem own_zero (base : Nat) (w : World) (s : Option Addr) (U : Nat → Int) : OwnI base w s 0 U := fun j hj => by omega
end Go.Proofs.Ytcialcejmjggeaa
