/-
What is proved: a board led along scans, in numbers; what is left behind it.
-/
import Derived.Test.YtlbbdifmjdpfiaaBsQz
import Derived.Test.YtlbbdifmjdpfiaaZdD
import Derived.Test.YtlbbdifmjdpfiaaScsz
import Derived.Test.YtlbbdifmjdpfiaaLTbz
namespace Go.Proofs.Ytlbbdifmjdpfiaa
set_option maxRecDepth 40000
open Go.ChangeShapes Go.WideShapes Go.ChangeAt Go.RowKit
set_option linter.unusedVariables false
set_option linter.unusedSimpArgs false

def bqV (x : Int) (n : Nat) (V : Nat → Int × Int × Int × Bool × Int) (Z : Nat → Int × Nat × (Nat → Bool) × Nat × (Nat → Int) × Nat × (Nat → Int × Int)) : Nat → Nat → Int × Int × Int × Bool × Int
  | 0 => V
  | k + 1 => stV (x + (k : Int)) n (bqV x n V Z k) ((Z k).1) ((Z k).2.1) ((Z k).2.2.1) ((Z k).2.2.2.1) ((Z k).2.2.2.2.1) ((Z k).2.2.2.2.2.1) ((Z k).2.2.2.2.2.2)
def bqO (x : Int) (n : Nat) (V : Nat → Int × Int × Int × Bool × Int) (Z : Nat → Int × Nat × (Nat → Bool) × Nat × (Nat → Int) × Nat × (Nat → Int × Int)) (k : Nat) : Bool := stpB (x + (k : Int)) n (bqV x n V Z k) ((Z k).1) ((Z k).2.1) ((Z k).2.2.2.1) ((Z k).2.2.2.2.1) ((Z k).2.2.2.2.2.1) ((Z k).2.2.2.2.2.2)
def bqT (x : Int) (n : Nat) (V : Nat → Int × Int × Int × Bool × Int) (Z : Nat → Int × Nat × (Nat → Bool) × Nat × (Nat → Int) × Nat × (Nat → Int × Int)) : Nat → Bool
  | 0 => true
  | k + 1 => bqT x n V Z k && bqO x n V Z k
def bqL (x : Int) (n : Nat) (V : Nat → Int × Int × Int × Bool × Int) (Z : Nat → Int × Nat × (Nat → Bool) × Nat × (Nat → Int) × Nat × (Nat → Int × Int)) (k : Nat) : List Int := stT (x + (k : Int)) n (bqV x n V Z k) ((Z k).1) ((Z k).2.1) ((Z k).2.2.1) ((Z k).2.2.2.1) ((Z k).2.2.2.2.1) ((Z k).2.2.2.2.2.1) ((Z k).2.2.2.2.2.2)
def bqK (x : Int) (n : Nat) (V : Nat → Int × Int × Int × Bool × Int) (Z : Nat → Int × Nat × (Nat → Bool) × Nat × (Nat → Int) × Nat × (Nat → Int × Int)) (k : Nat) : Nat := (bqL x n V Z k).length
def bqU (x : Int) (n : Nat) (V : Nat → Int × Int × Int × Bool × Int) (Z : Nat → Int × Nat × (Nat → Bool) × Nat × (Nat → Int) × Nat × (Nat → Int × Int)) (k : Nat) : Nat → Int := nthI (bqL x n V Z k)
def bqB (x : Int) (n : Nat) (V : Nat → Int × Int × Int × Bool × Int) (m : Nat) (Z : Nat → Int × Nat × (Nat → Bool) × Nat × (Nat → Int) × Nat × (Nat → Int × Int)) : Bool := boardB x n V && (decide (m ≤ 300) && bqT x n V Z m)
def bqM (x : Int) (n : Nat) (V : Nat → Int × Int × Int × Bool × Int) (m : Nat) (Z : Nat → Int × Nat × (Nat → Bool) × Nat × (Nat → Int) × Nat × (Nat → Int × Int)) : Nat := if bqB x n V m Z = true then m else 0
def bqX (x : Int) (n : Nat) (V : Nat → Int × Int × Int × Bool × Int) (m : Nat) (Z : Nat → Int × Nat × (Nat → Bool) × Nat × (Nat → Int) × Nat × (Nat → Int × Int)) : Int := if bqB x n V m Z = true then x + (m : Int) else 0
def bqN (x : Int) (n : Nat) (V : Nat → Int × Int × Int × Bool × Int) (m : Nat) (Z : Nat → Int × Nat × (Nat → Bool) × Nat × (Nat → Int) × Nat × (Nat → Int × Int)) : Nat := if bqB x n V m Z = true then n else 0
theorem bqT_no {x : Int} {n : Nat} {V : Nat → Int × Int × Int × Bool × Int} {Z : Nat → Int × Nat × (Nat → Bool) × Nat × (Nat → Int) × Nat × (Nat → Int × Int)} {k m : Nat} (h : k ≤ m) (hk : bqT x n V Z k = false) : bqT x n V Z m = false := by
  induction m with
  | zero => obtain rfl : k = 0 := by omega
            exact hk
  | succ m ih =>
    by_cases e : k = m + 1
    · subst e; exact hk
    · have := ih (by omega)
      simp [bqT, this]
def BqPost (w : World) (x : Int) (n : Nat) (V : Nat → Int × Int × Int × Bool × Int) (m : Nat) (Z : Nat → Int × Nat × (Nat → Bool) × Nat × (Nat → Int) × Nat × (Nat → Int × Int)) (e : Ending) (w' : World) : Prop := ∃ (s0 : Option Addr) (c0 : Nat) (s1 : Option Addr) (c1 : Nat) (S0 S1 : Nat → Prop), e = .returned (.tuple #[.slice s0 (bqM x n V m Z) c0, .agg #[.int .i64 (bqX x n V m Z), .slice s1 (bqN x n V m Z) c1], .bool (bqB x n V m Z)]) ∧ (∀ k, S0 k → w.heap.size ≤ k ∧ k < w'.heap.size) ∧ LLR S0 w' s0 (bqM x n V m Z) (bqK x n V Z) (bqU x n V Z) ∧ (∀ k, S1 k → w.heap.size ≤ k ∧ k < w'.heap.size) ∧ BoardR S1 w' s1 (bqN x n V m Z) (bqV x n V Z m) ∧ (∀ k, S0 k → ¬ S1 k) ∧ Below w.heap.size w w'
theorem ownLL_nil (S : Nat → Prop) (w : World) (s : Option Addr) (K : Nat → Nat) (V : Nat → Nat → Int) : OwnLL S w s 0 K V := ⟨fun _ => 0, fun i hi => absurd hi (Nat.not_lt_zero i), fun i i' hi => absurd hi (Nat.not_lt_zero i)⟩
theorem bq_no {w w' : World} {x : Int} {n : Nat} {V : Nat → Int × Int × Int × Bool × Int} {m : Nat} {Z : Nat → Int × Nat × (Nat → Bool) × Nat × (Nat → Int) × Nat × (Nat → Int × Int)} {s : Option Addr} {c : Nat} (h : bqB x n V m Z = false) (hb : Below w.heap.size w w') : BqPost w x n V m Z (.returned (.tuple #[.slice s 0 c, .agg #[.int .i64 0, .slice none 0 0], .bool false])) w' := by
  have e1 : bqM x n V m Z = 0 := by unfold bqM; rw [if_neg (by rw [h]; simp)]
  have e2 : bqX x n V m Z = 0 := by unfold bqX; rw [if_neg (by rw [h]; simp)]
  have e3 : bqN x n V m Z = 0 := by unfold bqN; rw [if_neg (by rw [h]; simp)]
  unfold BqPost
  rw [e1, e2, e3, h]
  exact ⟨s, c, none, 0, fun _ => False, fun _ => False, rfl, fun k hk => hk.elim, ownLL_nil _ _ _ _ _, fun k hk => hk.elim, ⟨fun j hj => absurd hj (Nat.not_lt_zero j), fun q => absurd q (Nat.lt_irrefl 0)⟩, fun k hk => hk.elim, hb⟩
theorem bq_yes {w w' : World} {x : Int} {n : Nat} {V : Nat → Int × Int × Int × Bool × Int} {m : Nat} {Z : Nat → Int × Nat × (Nat → Bool) × Nat × (Nat → Int) × Nat × (Nat → Int × Int)} {s0 : Option Addr} {c0 : Nat} {s1 : Option Addr} {c1 : Nat} {S0 S1 : Nat → Prop} (h : bqB x n V m Z = true) (h0 : ∀ k, S0 k → w.heap.size ≤ k ∧ k < w'.heap.size) (hL : OwnLL S0 w' s0 m (bqK x n V Z) (bqU x n V Z)) (h1 : ∀ k, S1 k → w.heap.size ≤ k ∧ k < w'.heap.size) (hA : AlarmR S1 w' s1 n (bqV x n V Z m)) (hd : ∀ k, S0 k → ¬ S1 k) (hb : Below w.heap.size w w') : BqPost w x n V m Z (.returned (.tuple #[.slice s0 m c0, .agg #[.int .i64 (x + (m : Int)), .slice s1 n c1], .bool true])) w' := by
  have e1 : bqM x n V m Z = m := by unfold bqM; rw [if_pos h]
  have e2 : bqX x n V m Z = x + (m : Int) := by unfold bqX; rw [if_pos h]
  have e3 : bqN x n V m Z = n := by unfold bqN; rw [if_pos h]
  unfold BqPost
  rw [e1, e2, e3, h]
  exact ⟨s0, c0, s1, c1, S0, S1, rfl, h0, hL, h1, hA, hd, hb⟩
theorem bs_out_no {w w' : World} {x : Int} {n : Nat} {V : Nat → Int × Int × Int × Bool × Int} {mo : Int} {nt : Nat} {Th : Nat → Bool} {ns : Nat} {Se : Nat → Int} {nh : Nat} {Sh : Nat → Int × Int} {e : Ending} (h : BsPost w x n V mo nt Th ns Se nh Sh e w') (q : stpB x n V mo nt ns Se nh Sh = false) : ∃ (s0 : Option Addr) (c0 : Nat) (s1 : Option Addr) (c1 : Nat), e = .returned (.tuple #[.agg #[.int .i64 0, .slice s0 0 c0], .slice s1 0 c1, .bool false]) ∧ Below w.heap.size w w' := by
  obtain ⟨s0, c0, s1, c1, S0, S1, he, -, -, -, -, -, hb⟩ := h
  have e1 : stX x n V mo nt Th ns Se nh Sh = 0 := by unfold stX; rw [if_neg (by rw [q]; simp)]
  have e2 : stN x n V mo nt Th ns Se nh Sh = 0 := by unfold stN; rw [if_neg (by rw [q]; simp)]
  have e3 : stT x n V mo nt Th ns Se nh Sh = [] := by unfold stT; rw [if_neg (by rw [q]; simp)]
  rw [e1, e2, e3, q] at he
  exact ⟨s0, c0, s1, c1, he, hb⟩
theorem bs_out_yes {w w' : World} {x : Int} {n : Nat} {V : Nat → Int × Int × Int × Bool × Int} {mo : Int} {nt : Nat} {Th : Nat → Bool} {ns : Nat} {Se : Nat → Int} {nh : Nat} {Sh : Nat → Int × Int} {e : Ending} (h : BsPost w x n V mo nt Th ns Se nh Sh e w') (q : stpB x n V mo nt ns Se nh Sh = true) : ∃ (s0 : Option Addr) (c0 : Nat) (s1 : Option Addr) (c1 : Nat) (S0 S1 : Nat → Prop), e = .returned (.tuple #[.agg #[.int .i64 (x + 1), .slice s0 n c0], .slice s1 (stT x n V mo nt Th ns Se nh Sh).length c1, .bool true]) ∧ (∀ k, S0 k → w.heap.size ≤ k ∧ k < w'.heap.size) ∧ AlarmR S0 w' s0 n (stV x n V mo nt Th ns Se nh Sh) ∧ (∀ k, S1 k → w.heap.size ≤ k ∧ k < w'.heap.size) ∧ I64R S1 w' s1 (stT x n V mo nt Th ns Se nh Sh).length (nthI (stT x n V mo nt Th ns Se nh Sh)) ∧ (∀ k, S0 k → ¬ S1 k) ∧ Below w.heap.size w w' := by
  obtain ⟨s0, c0, s1, c1, S0, S1, he, h1, h2, h3, h4, h5, hb⟩ := h
  have e1 : stX x n V mo nt Th ns Se nh Sh = x + 1 := by unfold stX; rw [if_pos q]
  have e2 : stN x n V mo nt Th ns Se nh Sh = n := by unfold stN; rw [if_pos q]
  rw [e2] at h2
  rw [e1, e2, q] at he
  exact ⟨s0, c0, s1, c1, S0, S1, he, h1, h2, h3, h4, h5, hb⟩
theorem I64R.own {S : Nat → Prop} {w : World} {s : Option Addr} {n B : Nat} {V : Nat → Int} (h : I64R S w s n V) (hS : ∀ k, S k → B ≤ k) : OwnI B w s n V := fun j hj => by
  obtain ⟨b, e, _, r⟩ := h.1 j hj
  exact ⟨b, e, hS b (h.2 (by omega) b e), r⟩
/-- Rows told with another set of blocks. -/
theorem LT.re {S S2 : Nat → Prop} {p : Nat} {wr : World} {n k : Nat} {K : Nat → Nat} {V : Nat → Nat → Int} (h : LT S p wr n k K V) (hS : ∀ q, S q → q < wr.heap.size → S2 q) : LT S2 p wr n k K V := by
  obtain ⟨h1, h2, h3, h4, A, h5, h6⟩ := h
  refine ⟨hS p h1 h2, h2, h3, h4, A, fun i hi => ?_, h6⟩
  obtain ⟨b, a, c, e, g1, hl, hf, hc, hr⟩ := h5 i hi
  refine ⟨b, a, c, e, hS b g1 hl, hl, hf, hc, fun z => ?_⟩
  obtain ⟨ea, n1, n2, n3, hv⟩ := hr z
  exact ⟨ea, n1, hS _ n2 n3, n3, hv⟩
theorem LT.onS {S : Nat → Prop} {p : Nat} {wr : World} {n k : Nat} {K : Nat → Nat} {V : Nat → Nat → Int} {w3 : World} {s : Option Addr} {c : Nat} (h : LT S p wr n k K V) (hk : k < n) (ho : OwnI wr.heap.size w3 s (K k) (V k)) (h3 : Below wr.heap.size wr w3) (hS : ∀ b, 0 < K k → s = some ⟨b, 0, none⟩ → S b) : LT S p (w3.setCell ⟨p, k, none⟩ (.slice s (K k) c)) n (k + 1) K V := by
  have h2 := h.below h3
  obtain ⟨h1, hz, hf, hc, A, hA, hi⟩ := h2
  have hz0 := h.2.1
  have hA0 : ∀ i, i < k → 0 < K i → A i < wr.heap.size ∨ True := fun _ _ _ => .inr trivial
  have bs := Beside.setCell p w3 k (.slice s (K k) c)
  obtain ⟨-, -, -, -, A', hA', hi'⟩ := h
  refine ⟨h1, by simpa using hz, fun o => by simp [go_sem, hf], fun i h1 h2 => ?_, ?_⟩
  · rw [World.cell?_setCell_other _ _ _ _ (by intro q; cases q; omega)]
    exact hc i (by omega) h2
  · by_cases z : 0 < K k
    · obtain ⟨b, rfl, hb1, hb2, -, -⟩ := ho 0 z
      refine ⟨fun i => if i = k then b else A' i, fun i q => ?_, fun i i' q1 q2 z1 z2 e => ?_⟩
      · by_cases e : i = k
        · subst e
          refine ⟨p, some ⟨b, 0, none⟩, c, rfl, h1, by simpa using hz, fun o => by simp [go_sem, hf], World.cell?_setCell_same' _ _ _ (by rw [hc i (Nat.le_refl _) hk]; rfl), fun _ => ⟨by simp, by simp; omega, by simp only [if_true]; exact hS _ z rfl, by simpa using hb2, fun j hj => ?_⟩⟩
          simp only [if_true]
          obtain ⟨b', eb, -, hb', hcj, hfj⟩ := ho j hj
          cases eb
          have ne : b ≠ p := by omega
          exact ⟨(bs.cell (p := ⟨b, j, none⟩) hb2 ne).trans hcj, (bs.frozen (p := ⟨b, j, none⟩) hb2 ne).trans hfj⟩
        · obtain ⟨b2, a2, c2, e2, g1, hl, hf2, hc2, hr⟩ := hA' i (by omega)
          cases e2
          have hc3 := (h3.cell (p := ⟨p, i, none⟩) hz0).trans hc2
          refine ⟨p, a2, c2, rfl, h1, by simpa using hz, fun o => by simp [go_sem, hf], by rw [World.cell?_setCell_other _ _ _ _ (by intro q; cases q; exact e rfl)]; exact hc3, fun z' => ?_⟩
          obtain ⟨ea, n1, n2, n3, hv⟩ := hr z'
          simp only [if_neg e]
          have z3 := Nat.lt_of_lt_of_le n3 h3.size
          exact ⟨ea, n1, n2, by simpa using z3, fun j hj => ⟨(bs.cell (p := ⟨A' i, j, none⟩) z3 n1).trans ((h3.cell (p := ⟨A' i, j, none⟩) n3).trans (hv j hj).1), (bs.frozen (p := ⟨A' i, j, none⟩) z3 n1).trans ((h3.frozen (p := ⟨A' i, j, none⟩) n3).trans (hv j hj).2)⟩⟩
      · have lt : ∀ i, i < k → 0 < K i → A' i < wr.heap.size := fun i q z' => by
          obtain ⟨b2, a2, c2, e2, g1, hl, hf2, hc2, hr⟩ := hA' i q
          exact (hr z').2.2.2.1
        by_cases e1 : i = k
        · by_cases e2 : i' = k
          · omega
          · simp only [if_pos e1, if_neg e2] at e
            have := lt i' (by omega) z2
            omega
        · by_cases e2 : i' = k
          · simp only [if_neg e1, if_pos e2] at e
            have := lt i (by omega) z1
            omega
          · simp only [if_neg e1, if_neg e2] at e
            exact hi' i i' (by omega) (by omega) z1 z2 e
    · refine ⟨A', fun i q => ?_, fun i i' q1 q2 z1 z2 e => ?_⟩
      · by_cases e : i = k
        · subst e
          exact ⟨p, s, c, rfl, h1, by simpa using hz, fun o => by simp [go_sem, hf], World.cell?_setCell_same' _ _ _ (by rw [hc i (Nat.le_refl _) hk]; rfl), fun z' => absurd z' z⟩
        · obtain ⟨b2, a2, c2, e2, g1, hl, hf2, hc2, hr⟩ := hA' i (by omega)
          cases e2
          have hc3 := (h3.cell (p := ⟨p, i, none⟩) hz0).trans hc2
          refine ⟨p, a2, c2, rfl, h1, by simpa using hz, fun o => by simp [go_sem, hf], by rw [World.cell?_setCell_other _ _ _ _ (by intro q; cases q; exact e rfl)]; exact hc3, fun z' => ?_⟩
          obtain ⟨ea, n1, n2, n3, hv⟩ := hr z'
          have z3 := Nat.lt_of_lt_of_le n3 h3.size
          exact ⟨ea, n1, n2, by simpa using z3, fun j hj => ⟨(bs.cell (p := ⟨A' i, j, none⟩) z3 n1).trans ((h3.cell (p := ⟨A' i, j, none⟩) n3).trans (hv j hj).1), (bs.frozen (p := ⟨A' i, j, none⟩) z3 n1).trans ((h3.frozen (p := ⟨A' i, j, none⟩) n3).trans (hv j hj).2)⟩⟩
      · have ne1 : i ≠ k := fun q => z (q ▸ z1)
        have ne2 : i' ≠ k := fun q => z (q ▸ z2)
        exact hi' i i' (by omega) (by omega) z1 z2 e
theorem LT.onW {S : Nat → Prop} {p : Nat} {wr : World} {n k : Nat} {K : Nat → Nat} {V : Nat → Nat → Int} {B : Nat} {s : Option Addr} {c : Nat} (h : LT (fun q => S q ∧ q < B) p wr n k K V) (hk : k < n) (ho : OwnI B wr s (K k) (V k)) (hS : ∀ b, 0 < K k → s = some ⟨b, 0, none⟩ → S b) : LT S p (wr.setCell ⟨p, k, none⟩ (.slice s (K k) c)) n (k + 1) K V := by
  have h3 : Below wr.heap.size wr wr := Below.refl _ _
  have pB : p < B := h.1.2
  have h2 := h.below h3
  obtain ⟨h1, hz, hf, hc, A, hA, hi⟩ := h2
  have hz0 := h.2.1
  have hA0 : ∀ i, i < k → 0 < K i → A i < wr.heap.size ∨ True := fun _ _ _ => .inr trivial
  have bs := Beside.setCell p wr k (.slice s (K k) c)
  obtain ⟨-, -, -, -, A', hA', hi'⟩ := h
  refine ⟨h1.1, by simpa using hz, fun o => by simp [go_sem, hf], fun i h1 h2 => ?_, ?_⟩
  · rw [World.cell?_setCell_other _ _ _ _ (by intro q; cases q; omega)]
    exact hc i (by omega) h2
  · by_cases z : 0 < K k
    · obtain ⟨b, rfl, hb1, hb2, -, -⟩ := ho 0 z
      refine ⟨fun i => if i = k then b else A' i, fun i q => ?_, fun i i' q1 q2 z1 z2 e => ?_⟩
      · by_cases e : i = k
        · subst e
          refine ⟨p, some ⟨b, 0, none⟩, c, rfl, h1.1, by simpa using hz, fun o => by simp [go_sem, hf], World.cell?_setCell_same' _ _ _ (by rw [hc i (Nat.le_refl _) hk]; rfl), fun _ => ⟨by simp, by simp; omega, by simp only [if_true]; exact hS _ z rfl, by simpa using hb2, fun j hj => ?_⟩⟩
          simp only [if_true]
          obtain ⟨b', eb, -, hb', hcj, hfj⟩ := ho j hj
          cases eb
          have ne : b ≠ p := by omega
          exact ⟨(bs.cell (p := ⟨b, j, none⟩) hb2 ne).trans hcj, (bs.frozen (p := ⟨b, j, none⟩) hb2 ne).trans hfj⟩
        · obtain ⟨b2, a2, c2, e2, g1, hl, hf2, hc2, hr⟩ := hA' i (by omega)
          cases e2
          have hc3 := (h3.cell (p := ⟨p, i, none⟩) hz0).trans hc2
          refine ⟨p, a2, c2, rfl, h1.1, by simpa using hz, fun o => by simp [go_sem, hf], by rw [World.cell?_setCell_other _ _ _ _ (by intro q; cases q; exact e rfl)]; exact hc3, fun z' => ?_⟩
          obtain ⟨ea, n1, n2, n3, hv⟩ := hr z'
          simp only [if_neg e]
          have z3 := Nat.lt_of_lt_of_le n3 h3.size
          exact ⟨ea, n1, n2.1, by simpa using z3, fun j hj => ⟨(bs.cell (p := ⟨A' i, j, none⟩) z3 n1).trans ((h3.cell (p := ⟨A' i, j, none⟩) n3).trans (hv j hj).1), (bs.frozen (p := ⟨A' i, j, none⟩) z3 n1).trans ((h3.frozen (p := ⟨A' i, j, none⟩) n3).trans (hv j hj).2)⟩⟩
      · have lt : ∀ i, i < k → 0 < K i → A' i < B := fun i q z' => by
          obtain ⟨b2, a2, c2, e2, g1, hl, hf2, hc2, hr⟩ := hA' i q
          exact (hr z').2.2.1.2
        by_cases e1 : i = k
        · by_cases e2 : i' = k
          · omega
          · simp only [if_pos e1, if_neg e2] at e
            have := lt i' (by omega) z2
            omega
        · by_cases e2 : i' = k
          · simp only [if_neg e1, if_pos e2] at e
            have := lt i (by omega) z1
            omega
          · simp only [if_neg e1, if_neg e2] at e
            exact hi' i i' (by omega) (by omega) z1 z2 e
    · refine ⟨A', fun i q => ?_, fun i i' q1 q2 z1 z2 e => ?_⟩
      · by_cases e : i = k
        · subst e
          exact ⟨p, s, c, rfl, h1.1, by simpa using hz, fun o => by simp [go_sem, hf], World.cell?_setCell_same' _ _ _ (by rw [hc i (Nat.le_refl _) hk]; rfl), fun z' => absurd z' z⟩
        · obtain ⟨b2, a2, c2, e2, g1, hl, hf2, hc2, hr⟩ := hA' i (by omega)
          cases e2
          have hc3 := (h3.cell (p := ⟨p, i, none⟩) hz0).trans hc2
          refine ⟨p, a2, c2, rfl, h1.1, by simpa using hz, fun o => by simp [go_sem, hf], by rw [World.cell?_setCell_other _ _ _ _ (by intro q; cases q; exact e rfl)]; exact hc3, fun z' => ?_⟩
          obtain ⟨ea, n1, n2, n3, hv⟩ := hr z'
          have z3 := Nat.lt_of_lt_of_le n3 h3.size
          exact ⟨ea, n1, n2.1, by simpa using z3, fun j hj => ⟨(bs.cell (p := ⟨A' i, j, none⟩) z3 n1).trans ((h3.cell (p := ⟨A' i, j, none⟩) n3).trans (hv j hj).1), (bs.frozen (p := ⟨A' i, j, none⟩) z3 n1).trans ((h3.frozen (p := ⟨A' i, j, none⟩) n3).trans (hv j hj).2)⟩⟩
      · have ne1 : i ≠ k := fun q => z (q ▸ z1)
        have ne2 : i' ≠ k := fun q => z (q ▸ z2)
        exact hi' i i' (by omega) (by omega) z1 z2 e
def InX (xs : List Value) (q : Nat) : Prop := ∃ i o n c : Nat, xs[i]? = some (Value.slice (some ⟨q, o, none⟩) n c) ∧ 0 < n
theorem InX.nil {q : Nat} : ¬ InX [] q := by
  rintro ⟨i, o, n, c, h, -⟩
  simp at h
theorem InX.push {xs : List Value} {s : Option Addr} {n c q : Nat} (h : InX (xs ++ [Value.slice s n c]) q) : InX xs q ∨ (0 < n ∧ ∃ o, s = some ⟨q, o, none⟩) := by
  obtain ⟨i, o, n', c', h, hn⟩ := h
  by_cases hi : i < xs.length
  · rw [List.getElem?_append_left hi] at h
    exact Or.inl ⟨i, o, n', c', h, hn⟩
  · rw [List.getElem?_append_right (by omega)] at h
    by_cases e : i - xs.length = 0
    · rw [e] at h
      simp at h
      obtain ⟨h1, h2, h3⟩ := h
      exact Or.inr ⟨by omega, o, h1⟩
    · rw [List.getElem?_eq_none (by simp; omega)] at h
      cases h
theorem MT.in_lt {base : Nat} {w wr : World} {v : Value} {k : Nat} {xs : List Value} {K : Nat → Nat} {V : Nat → Nat → Int} (h : MT base w wr v k xs K V) {q : Nat} (hq : InX xs q) : q < wr.heap.size := by
  obtain ⟨h0, h1, A, h2, h3⟩ := h
  obtain ⟨i, o, n, c, e, hn⟩ := hq
  have hlx : xs.length = k := by have := h1.1; simpa using this
  have hi : i < k := by
    rcases Nat.lt_or_ge i k with z | z
    · exact z
    · rw [List.getElem?_eq_none (by omega)] at e; cases e
  obtain ⟨a, c', e', hr⟩ := h2 i hi
  rw [e] at e'
  simp only [Option.some.injEq, Value.slice.injEq] at e'
  obtain ⟨ea, en, ec⟩ := e'
  subst en
  obtain ⟨h4, _, h5, _⟩ := hr hn
  rw [h4] at ea
  simp only [Option.some.injEq, Addr.mk.injEq] at ea
  omega
theorem MT.doneX {base : Nat} {w wr : World} {v : Value} {k : Nat} {xs : List Value} {K : Nat → Nat} {V : Nat → Nat → Int} (h : MT base w wr v k xs K V) : ∃ s c, v = .slice s k c ∧ OwnLL (fun q => (base ≤ q ∧ q < wr.heap.size) ∧ (v.ownBlock = some q ∨ InX xs q)) wr s k K V := by
  obtain ⟨h0, h1, A, h2, h3⟩ := h
  rcases Nat.eq_zero_or_pos k with z | z
  · subst z
    rcases h1.2 with ⟨q, _⟩ | ⟨g', cap, cur, e1, _⟩
    · exact ⟨none, 0, q, A, fun i hi => absurd hi (Nat.not_lt_zero i), fun i i' hi => absurd hi (Nat.not_lt_zero i)⟩
    · exact ⟨_, _, e1, A, fun i hi => absurd hi (Nat.not_lt_zero i), fun i i' hi => absurd hi (Nat.not_lt_zero i)⟩
  · obtain ⟨g, cap, e, hb, hl⟩ := h1.form z
    subst e
    refine ⟨_, _, rfl, A, fun i hi => ?_, h3⟩
    obtain ⟨a, c, e, hr⟩ := h2 i hi
    have hc := h1.cellAt i (by omega)
    refine ⟨g, a, c, rfl, ⟨⟨hb, hl⟩, Or.inl rfl⟩, hl, fun o => h1.frozenAt o, by rw [hc, e], fun z' => ?_⟩
    obtain ⟨ea, n1, n2, n3, hv⟩ := hr z'
    exact ⟨ea, fun q => n3 (by rw [q]; rfl), ⟨⟨n1, n2⟩, Or.inr ⟨i, 0, K i, c, by rw [e, ea], z'⟩⟩, n2, hv⟩
theorem MT.besideX {base r : Nat} {w wr w2 : World} {v : Value} {k : Nat} {xs : List Value} {K : Nat → Nat} {V : Nat → Nat → Int} (h : MT base w wr v k xs K V) (hb : Beside r wr w2) (hr : base ≤ r) (hz : base ≤ wr.heap.size) (hv : v.ownBlock ≠ some r) (hx : ¬ InX xs r) : MT base w w2 v k xs K V := by
  obtain ⟨h0, h1, A, h2, h3⟩ := h
  refine ⟨h0.trans (hb.below hr hz), own_same h1 (fun g hg => hb.2.2.2.2 g (own_lt h1 g hg) (fun e => hv (by rw [hg, e]))), A, fun i hi => ?_, h3⟩
  obtain ⟨a, c, e, hq⟩ := h2 i hi
  refine ⟨a, c, e, fun z => ?_⟩
  obtain ⟨ea, n1, n2, n3, hc⟩ := hq z
  have ne : A i ≠ r := fun q => hx ⟨i, 0, K i, c, by rw [e, ea, q], z⟩
  exact ⟨ea, n1, Nat.lt_of_lt_of_le n2 hb.2.2.2.1, n3, fun j hj => ⟨(hb.cell (p := ⟨A i, j, none⟩) n2 ne).trans (hc j hj).1, (hb.frozen (p := ⟨A i, j, none⟩) n2 ne).trans (hc j hj).2⟩⟩
theorem MT.onW {base : Nat} {B : Nat} {w wr w2 : World} {v : Value} {k : Nat} {xs : List Value} {K : Nat → Nat} {V : Nat → Nat → Int} {s : Option Addr} {c g cap : Nat} (h : MT base w wr v k xs K V) (hX : ∀ q, InX xs q → q < B) (hvB : ∀ q, v.ownBlock = some q → q < B) (hBz : base ≤ B) (hz : base ≤ wr.heap.size) (ho : OwnI B wr s (K k) (V k))
    (hown : w2.ownsRow base 33 1 (.slice (some ⟨g, 0, none⟩) (k + 1) cap) (k + 1) (xs ++ [.slice s (K k) c])) (hg : wr.grownBy w2 v.ownBlock) (hat : v.ownBlock = some g ∨ wr.heap.size < g) : MT base w w2 (.slice (some ⟨g, 0, none⟩) (k + 1) cap) (k + 1) (xs ++ [.slice s (K k) c]) K V := by
  have hb : Below wr.heap.size wr wr := Below.refl _ _
  obtain ⟨h0, h1, A, h2, h3⟩ := h
  have z1 := hb.size
  have z2 := hg.size
  have hlx : xs.length = k := by have := h1.1; simpa using this
  have gA : ∀ x, x < wr.heap.size → v.ownBlock ≠ some x → g ≠ x := fun x hx hn e => by
    rcases hat with q | q
    · exact hn (by rw [q, e])
    · omega
  have lt : ∀ i, i < k → 0 < K i → A i < B := fun i q z' => by
    obtain ⟨a, c, e, hr⟩ := h2 i q
    exact hX (A i) ⟨i, 0, K i, c, by rw [e, (hr z').1], z'⟩
  have vlt : ∀ x, B ≤ x → v.ownBlock ≠ some x := fun x hx e => by have := hvB x e; omega
  have old : ∀ i, i < k → ∃ a c', (xs ++ [Value.slice s (K k) c])[i]? = some (.slice a (K i) c') ∧ (0 < K i → a = some ⟨A i, 0, none⟩ ∧ base ≤ A i ∧ A i < w2.heap.size ∧ g ≠ A i ∧ ∀ j, j < K i → w2.cell? ⟨A i, j, none⟩ = some (.int .i64 (V i j)) ∧ w2.frozen? ⟨A i, j, none⟩ = false) := fun i hi => by
    obtain ⟨a, c', e, hr⟩ := h2 i hi
    refine ⟨a, c', by rw [List.getElem?_append_left (by omega)]; exact e, fun z => ?_⟩
    obtain ⟨ea, n1, n2, n3, hv⟩ := hr z
    have n2' : A i < wr.heap.size := by omega
    exact ⟨ea, n1, by omega, gA _ n2' n3, fun j hj => ⟨(hg.cell_far ⟨A i, j, none⟩ n2' (fun q => n3 q.symm)).trans ((hb.cell (p := ⟨A i, j, none⟩) n2).trans (hv j hj).1), (hg.frozen_far ⟨A i, j, none⟩ n2' (fun q => n3 q.symm)).trans ((hb.frozen (p := ⟨A i, j, none⟩) n2).trans (hv j hj).2)⟩⟩
  have hnew : (xs ++ [Value.slice s (K k) c])[k]? = some (.slice s (K k) c) := by rw [List.getElem?_append_right (by omega), hlx]; simp
  refine ⟨(h0.trans (hb.mono hz)).trans (grown_below hg (by omega) (own_block h1)), hown, ?_⟩
  by_cases z : 0 < K k
  · obtain ⟨b, rfl, hb1, hb2, -, -⟩ := ho 0 z
    refine ⟨fun i => if i = k then b else A i, fun i q => ?_, fun i i' q1 q2 y1 y2 e => ?_⟩
    · by_cases e : i = k
      · subst e
        refine ⟨_, _, hnew, fun _ => ⟨by simp, by simp; omega, by simp; omega, ?_, fun j hj => ?_⟩⟩
        · simp only [if_true]
          show some g ≠ some b
          intro q
          have q' : g = b := by simpa using q
          exact gA b hb2 (vlt b hb1) q'
        · simp only [if_true]
          obtain ⟨b', eb, -, hb', hcj, hfj⟩ := ho j hj
          cases eb
          exact ⟨(hg.cell_far ⟨b, j, none⟩ hb2 (fun q => vlt b hb1 q.symm)).trans hcj, (hg.frozen_far ⟨b, j, none⟩ hb2 (fun q => vlt b hb1 q.symm)).trans hfj⟩
      · obtain ⟨a, c', e1, hr⟩ := old i (by omega)
        refine ⟨a, c', e1, fun z' => ?_⟩
        obtain ⟨ea, n1, n2, n3, hv⟩ := hr z'
        simp only [if_neg e]
        exact ⟨ea, n1, n2, fun q => by have q' : some g = some (A i) := q; cases q'; exact n3 rfl, hv⟩
    · by_cases e1 : i = k
      · by_cases e2 : i' = k
        · omega
        · simp only [if_pos e1, if_neg e2] at e
          have := lt i' (by omega) y2
          omega
      · by_cases e2 : i' = k
        · simp only [if_neg e1, if_pos e2] at e
          have := lt i (by omega) y1
          omega
        · simp only [if_neg e1, if_neg e2] at e
          exact h3 i i' (by omega) (by omega) y1 y2 e
  · refine ⟨A, fun i q => ?_, fun i i' q1 q2 y1 y2 e => ?_⟩
    · by_cases e : i = k
      · subst e
        exact ⟨_, _, hnew, fun z' => absurd z' z⟩
      · obtain ⟨a, c', e1, hr⟩ := old i (by omega)
        refine ⟨a, c', e1, fun z' => ?_⟩
        obtain ⟨ea, n1, n2, n3, hv⟩ := hr z'
        exact ⟨ea, n1, n2, fun q => by have q' : some g = some (A i) := q; cases q'; exact n3 rfl, hv⟩
    · have ne1 : i ≠ k := fun q => z (q ▸ y1)
      have ne2 : i' ≠ k := fun q => z (q ▸ y2)
      exact h3 i i' (by omega) (by omega) y1 y2 e
end Go.Proofs.Ytlbbdifmjdpfiaa
