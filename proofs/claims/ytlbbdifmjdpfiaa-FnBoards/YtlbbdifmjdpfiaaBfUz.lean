/-
What is proved: what BoardRun and BoardStep answer, told once.
-/
import Derived.Test.YtlbbdifmjdpfiaaBfNz
import Derived.Test.YtlbbdifmjdpfiaaAlAz
namespace Go.Proofs.Ytlbbdifmjdpfiaa
set_option maxRecDepth 40000
open Go.ChangeShapes Go.WideShapes Go.ChangeAt Go.RowKit
set_option linter.unusedVariables false
set_option linter.unusedSimpArgs false

theorem bq_use {w w' : World} {x : Int} {n : Nat} {V : Nat → Int × Int × Int × Bool × Int} {m : Nat} {Z : Nat → Int × Nat × (Nat → Bool) × Nat × (Nat → Int) × Nat × (Nat → Int × Int)} {e : Ending} {ok : Bool} (h : BqPost w x n V m Z e w') (hk : bqB x n V m Z = ok) : ∃ (s0 : Option Addr) (k0 c0 : Nat) (x1 : Int) (s1 : Option Addr) (n1 c1 : Nat), e = .returned (.tuple #[.slice s0 k0 c0, .agg #[.int .i64 x1, .slice s1 n1 c1], .bool ok]) ∧ (ok = true → k0 = m ∧ x1 = x + (m : Int) ∧ n1 = n ∧ RowLL w' s0 m (bqK x n V Z) (bqU x n V Z) ∧ RowAlarm w' s1 n (bqV x n V Z m)) ∧ Below w.heap.size w w' := by
  obtain ⟨s0, c0, s1, c1, S0, S1, he, h1, h2, h3, h4, h5, hb⟩ := h
  rw [hk] at he
  refine ⟨s0, _, c0, _, s1, _, c1, he, fun z => ?_, hb⟩
  rw [z] at hk
  have e1 : bqM x n V m Z = m := by unfold bqM; rw [if_pos hk]
  have e2 : bqX x n V m Z = x + (m : Int) := by unfold bqX; rw [if_pos hk]
  have e3 : bqN x n V m Z = n := by unfold bqN; rw [if_pos hk]
  rw [e1] at h2
  rw [e3] at h4
  exact ⟨e1, e2, e3, LLR.row h2, BoardR.row h4⟩
theorem bs_step {w w' : World} {x : Int} {n : Nat} {V : Nat → Int × Int × Int × Bool × Int} {Z : Nat → Int × Nat × (Nat → Bool) × Nat × (Nat → Int) × Nat × (Nat → Int × Int)} {i : Nat} {e : Ending} (ho : bqO x n V Z i = true) (h : BsPost w (x + (i : Int)) n (bqV x n V Z i) ((Z i).1) ((Z i).2.1) ((Z i).2.2.1) ((Z i).2.2.2.1) ((Z i).2.2.2.2.1) ((Z i).2.2.2.2.2.1) ((Z i).2.2.2.2.2.2) e w') : ∃ (s0 : Option Addr) (c0 : Nat) (s1 : Option Addr) (c1 : Nat), e = .returned (.tuple #[.agg #[.int .i64 (x + (i : Int) + 1), .slice s0 n c0], .slice s1 (bqL x n V Z i).length c1, .bool true]) ∧ OwnAlarm w.heap.size w' s0 n (bqV x n V Z (i + 1)) ∧ OwnI w.heap.size w' s1 (bqL x n V Z i).length (nthI (bqL x n V Z i)) ∧ Below w.heap.size w w' := by
  obtain ⟨s0, c0, s1, c1, S0, S1, he, h1, h2, h3, h4, h5, hb⟩ := bs_out_yes h ho
  refine ⟨s0, c0, s1, c1, he, fun j hj => ?_, I64R.own h4 (fun k hk => (h3 k hk).1), hb⟩
  obtain ⟨b, e1, -, e3, e4⟩ := h2.1 j hj
  exact ⟨b, e1, (h1 b (h2.2 (by omega) b e1)).1, e3, e4⟩
theorem OwnAlarm.besideP {B r : Nat} {W W' : World} {s : Option Addr} {n : Nat} {V : Nat → Int × Int × Int × Bool × Int} (h : OwnAlarm B W s n V) (b : Beside r W W') (hr : 0 < n → ∀ g, s = some ⟨g, 0, none⟩ → g ≠ r) : OwnAlarm B W' s n V := fun j hj => (h.besideN b (hr (by omega))) j hj
theorem RowI.besideP {r : Nat} {W W' : World} {s : Option Addr} {n : Nat} {V : Nat → Int} (h : RowI W s n V) (b : Beside r W W') (hr : 0 < n → ∀ g o, s = some ⟨g, o, none⟩ → g ≠ r) : RowI W' s n V := fun j hj => by
  obtain ⟨g, o, e, h1, h2⟩ := h j hj
  exact ⟨g, o, e, Nat.lt_of_lt_of_le h1 b.2.2.2.1, (World.cell?_of_block (w := W) (a := ⟨g, o + j, none⟩) (b.2.2.2.2 g h1 (hr (by omega) g o e))).trans h2⟩
theorem RowAlarm.besideP {r : Nat} {W W' : World} {s : Option Addr} {n : Nat} {V : Nat → Int × Int × Int × Bool × Int} (h : RowAlarm W s n V) (b : Beside r W W') (hr : 0 < n → ∀ g o, s = some ⟨g, o, none⟩ → g ≠ r) : RowAlarm W' s n V := fun j hj => by
  obtain ⟨g, o, e, h1, c0, c1, c2, c3, c4⟩ := h j hj
  have eb := b.2.2.2.2 g h1 (hr (by omega) g o e)
  have ce : ∀ q, W'.cell? ⟨g, q, none⟩ = W.cell? ⟨g, q, none⟩ := fun q => World.cell?_of_block (w := W) (a := ⟨g, q, none⟩) eb
  exact ⟨g, o, e, Nat.lt_of_lt_of_le h1 b.2.2.2.1, (ce _).trans c0, (ce _).trans c1, (ce _).trans c2, (ce _).trans c3, (ce _).trans c4⟩
theorem RowAlarm.ltP {W : World} {s : Option Addr} {n : Nat} {V : Nat → Int × Int × Int × Bool × Int} (h : RowAlarm W s n V) (hn : 0 < n) : ∀ g o, s = some ⟨g, o, none⟩ → g < W.heap.size := fun g o e => by
  obtain ⟨g', o', e', h1, _⟩ := h 0 hn
  rw [e] at e'; cases e'; exact h1
theorem RowI.ltP {W : World} {s : Option Addr} {n : Nat} {V : Nat → Int} (h : RowI W s n V) (hn : 0 < n) : ∀ g o, s = some ⟨g, o, none⟩ → g < W.heap.size := fun g o e => by
  obtain ⟨g', o', e', h1, _⟩ := h 0 hn
  rw [e] at e'; cases e'; exact h1
theorem OwnI.geP {B : Nat} {W : World} {s : Option Addr} {n : Nat} {V : Nat → Int} (h : OwnI B W s n V) (hn : 0 < n) : ∀ g o, s = some ⟨g, o, none⟩ → B ≤ g := fun g o e => by
  obtain ⟨g', e', h1, _⟩ := h 0 hn
  rw [e] at e'; cases e'; exact h1
theorem OwnAlarm.geP {B : Nat} {W : World} {s : Option Addr} {n : Nat} {V : Nat → Int × Int × Int × Bool × Int} (h : OwnAlarm B W s n V) (hn : 0 < n) : ∀ g o, s = some ⟨g, o, none⟩ → B ≤ g ∧ g < W.heap.size := fun g o e => by
  obtain ⟨g', e', h1, h2, _⟩ := h 0 hn
  rw [e] at e'; cases e'; exact ⟨h1, h2⟩
theorem told_at {x : Int} {n : Nat} {V : Nat → Int × Int × Int × Bool × Int} {Z : Nat → Int × Nat × (Nat → Bool) × Nat × (Nat → Int) × Nat × (Nat → Int × Int)} {i k : Nat} (hk : k < (bqL x n V Z i).length) : ∃ j : Nat, nthI (bqL x n V Z i) k = (j : Int) ∧ j < n ∧ (bqV x n V Z i j).2.2.1 ≠ 1 ∧ (bqV x n V Z i j).2.2.1 ≠ 2 ∧ (bqV x n V Z (i + 1) j).2.2.1 = 1 := by
  have hm : nthI (bqL x n V Z i) k ∈ bqL x n V Z i := by
    unfold nthI
    rw [List.getD_eq_getElem?_getD, List.getElem?_eq_getElem hk]
    exact List.getElem_mem hk
  exact step_told hm
theorem told_len (x : Int) (n : Nat) (V : Nat → Int × Int × Int × Bool × Int) (Z : Nat → Int × Nat × (Nat → Bool) × Nat × (Nat → Int) × Nat × (Nat → Int × Int)) (i : Nat) : (bqL x n V Z i).length ≤ n := by
  unfold bqL stT
  split
  · exact liL_le _ _ _ _ _ _
  · exact Nat.zero_le _
end Go.Proofs.Ytlbbdifmjdpfiaa
