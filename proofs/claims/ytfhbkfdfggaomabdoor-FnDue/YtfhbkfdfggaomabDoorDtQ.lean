/-
What is proved: when tests are right, which are due and in which order, in numbers.
-/
import Derived.Test.YtfhbkfdfggaomabDoorAf
import Derived.Test.YtfhbkfdfggaomabDoorTstQ
import Derived.Test.YtfhbkfdfggaomabDoorMsN
namespace Go.Proofs.YtfhbkfdfggaomabDoor
set_option maxRecDepth 40000
open Go.ChangeShapes Go.WideShapes Go.ChangeAt Go.RowKit
set_option linter.unusedVariables false
set_option linter.unusedSimpArgs false

def ErrG (g : Nat) (w : World) : Prop := g < w.heap.size ∧ ∃ (t : TypeId) (x : Value), w.cell? ⟨g, 0, none⟩ = some (.iface t x)
theorem ErrG.below {g : Nat} {w w' : World} (h : ErrG g w) (hb : Below w.heap.size w w') : ErrG g w' := ⟨Nat.lt_of_lt_of_le h.1 hb.size, by
  obtain ⟨hl, t, x, e⟩ := h
  exact ⟨t, x, (hb.cell (p := ⟨g, 0, none⟩) hl).trans e⟩⟩
def ErrT (w : World) : Prop := ErrA w ∧ ErrG 0 w ∧ ErrG 1 w
theorem ErrT.below {w w' : World} (h : ErrT w) (hb : Below w.heap.size w w') : ErrT w' := ⟨h.1.below hb, h.2.1.below hb, h.2.2.below hb⟩
def tstB (now : Int) (z : Int × Int) : Bool := inB 1 1000000 z.1 && inB 0 now z.2
def tssB (n : Nat) (V : Nat → Int × Int) (now : Int) : Bool := decide (n ≤ 60) && decide (∀ j, j < n → tstB now (V j) = true)
def duB (n : Nat) (V : Nat → Int × Int) (now : Int) : Bool := inB 0 1000000000 now && tssB n V now
theorem tst_yes {now : Int} {z : Int × Int} (h : tstB now z = true) : (1 ≤ z.1 ∧ z.1 ≤ 1000000) ∧ (0 ≤ z.2 ∧ z.2 ≤ now) := by
  unfold tstB at h
  simp only [Bool.and_eq_true] at h
  exact ⟨inB_yes h.1, inB_yes h.2⟩
theorem tss_long {n : Nat} {V : Nat → Int × Int} {now : Int} (h : 60 < n) : tssB n V now = false := by unfold tssB; rw [decide_eq_false (by omega)]; rfl
theorem tss_is {n : Nat} {V : Nat → Int × Int} {now : Int} (h : n ≤ 60) : tssB n V now = decide (∀ j, j < n → tstB now (V j) = true) := by unfold tssB; rw [decide_eq_true h]; rfl
theorem tss_bad {n k : Nat} {V : Nat → Int × Int} {now : Int} (hk : k < n) (h : tstB now (V k) = false) : tssB n V now = false := by
  cases e : tssB n V now
  · rfl
  · unfold tssB at e
    simp only [Bool.and_eq_true, decide_eq_true_eq] at e
    have := e.2 k hk
    rw [this] at h; cases h
theorem du_yes {n : Nat} {V : Nat → Int × Int} {now : Int} (h : duB n V now = true) : (0 ≤ now ∧ now ≤ 1000000000) ∧ n ≤ 60 ∧ ∀ j, j < n → tstB now (V j) = true := by
  unfold duB tssB at h
  simp only [Bool.and_eq_true, decide_eq_true_eq] at h
  exact ⟨inB_yes h.1, h.2.1, h.2.2⟩
def byd (V : Nat → Int × Int) (now : Int) (j : Nat) : Int := now - (V j).2 - (V j).1
theorem byd_in {n : Nat} {V : Nat → Int × Int} {now : Int} (h : duB n V now = true) {j : Nat} (hj : j < n) : -1000000 ≤ byd V now j ∧ byd V now j ≤ 1000000000 := by
  obtain ⟨h1, _, h3⟩ := du_yes h
  have := tst_yes (h3 j hj)
  unfold byd
  omega
/-- Which of two goes ahead: the one that is further beyond, the earlier one of two alike. -/
def ltD (V : Nat → Int × Int) (now : Int) (x y : Int) : Prop := byd V now y.toNat < byd V now x.toNat ∨ (byd V now x.toNat = byd V now y.toNat ∧ x < y)
theorem ltD_tr (V : Nat → Int × Int) (now : Int) : ∀ x y z, ltD V now x y → ltD V now y z → ltD V now x z := by
  intro x y z
  unfold ltD
  omega
theorem ltD_tot (V : Nat → Int × Int) (now : Int) : ∀ x y, x < y → ¬ ltD V now y x → ltD V now x y := by
  intro x y
  unfold ltD
  omega
theorem ltD_irr (V : Nat → Int × Int) (now : Int) (x : Int) : ¬ ltD V now x x := by
  unfold ltD
  omega
/-- The answer: all that are due, in their order. -/
def DueL (n : Nat) (V : Nat → Int × Int) (now : Int) (k : Nat) (W : Nat → Int) : Prop := SortS (ltD V now) W 0 k ∧ (∀ i, i < k → ∃ j : Nat, j < n ∧ W i = (j : Int) ∧ 0 ≤ byd V now j) ∧ ∀ j : Nat, j < n → 0 ≤ byd V now j → ∃ i, i < k ∧ W i = (j : Int)
def DueR (n : Nat) (V : Nat → Int × Int) (now : Int) (k : Nat) (W : Nat → Int) : Prop := (duB n V now = true → DueL n V now k W) ∧ (duB n V now = false → k = 0)
theorem due_same {n : Nat} {V : Nat → Int × Int} {now : Int} {k l : Nat} {W U : Nat → Int} (h : DueL n V now k W) (g : DueL n V now l U) : ∀ i, i < k → i < l → W i = U i := by
  intro i
  induction i using Nat.strongRecOn with
  | _ i ih =>
    intro hk hl
    obtain ⟨a, a1, a2, a3⟩ := h.2.1 i hk
    obtain ⟨b, b1, b2, b3⟩ := g.2.1 i hl
    obtain ⟨p, p1, p2⟩ := g.2.2 a a1 a3
    obtain ⟨q, q1, q2⟩ := h.2.2 b b1 b3
    have ep : U p = W i := p2.trans a2.symm
    have eq : W q = U i := q2.trans b2.symm
    by_cases c1 : p < i
    · have := ih p c1 (by omega) p1
      have l1 := h.1 p i (Nat.zero_le _) c1 hk
      rw [this, ep] at l1
      exact absurd l1 (ltD_irr V now _)
    · by_cases c2 : q < i
      · have := ih q c2 q1 (by omega)
        have l1 := g.1 q i (Nat.zero_le _) c2 hl
        rw [← this, eq] at l1
        exact absurd l1 (ltD_irr V now _)
      · by_cases d1 : p = i
        · rw [← ep, d1]
        · by_cases d2 : q = i
          · rw [← eq, d2]
          · have l1 := g.1 i p (Nat.zero_le _) (by omega) p1
            have l2 := h.1 i q (Nat.zero_le _) (by omega) q1
            rw [ep] at l1
            rw [eq] at l2
            exact absurd (ltD_tr V now _ _ _ l1 l2) (ltD_irr V now _)
theorem due_len {n : Nat} {V : Nat → Int × Int} {now : Int} {k l : Nat} {W U : Nat → Int} (h : DueL n V now k W) (g : DueL n V now l U) : k ≤ l := by
  by_cases c : k ≤ l
  · exact c
  · obtain ⟨a, a1, a2, a3⟩ := h.2.1 l (by omega)
    obtain ⟨p, p1, p2⟩ := g.2.2 a a1 a3
    have e := due_same h g p (by omega) p1
    have l1 := h.1 p l (Nat.zero_le _) p1 (by omega)
    rw [e, p2, a2] at l1
    exact absurd l1 (ltD_irr V now _)
theorem pigeon : ∀ (n k : Nat) (f : Nat → Nat), (∀ i, i < k → f i < n) → (∀ i j, i < j → j < k → f i ≠ f j) → k ≤ n := by
  intro n
  induction n with
  | zero =>
    intro k f h _
    by_cases c : k = 0
    · omega
    · have := h 0 (by omega); omega
  | succ n ih =>
    intro k f h g
    by_cases c : k = 0
    · omega
    · obtain ⟨l, rfl⟩ : ∃ l, k = l + 1 := ⟨k - 1, by omega⟩
      have := ih l (fun i => if f i = n then f l else f i) (fun i hi => by
        have a := h i (by omega)
        have b := h l (by omega)
        have d := g i l hi (by omega)
        show (if f i = n then f l else f i) < n
        split <;> omega) (fun i j hi hj => by
        have a := g i j hi (by omega)
        have b := g j l hj (by omega)
        have d := g i l (by omega) (by omega)
        show (if f i = n then f l else f i) ≠ (if f j = n then f l else f j)
        split <;> split <;> omega)
      omega
theorem due_le {n : Nat} {V : Nat → Int × Int} {now : Int} {k : Nat} {W : Nat → Int} (h : DueL n V now k W) : k ≤ n := by
  refine pigeon n k (fun i => (W i).toNat) (fun i hi => ?_) (fun i j hi hj => ?_)
  · obtain ⟨a, a1, a2, _⟩ := h.2.1 i hi
    show (W i).toNat < n
    omega
  · obtain ⟨a, a1, a2, _⟩ := h.2.1 i (by omega)
    obtain ⟨b, b1, b2, _⟩ := h.2.1 j hj
    intro e
    have e : (W i).toNat = (W j).toNat := e
    have l1 := h.1 i j (Nat.zero_le _) hi hj
    rw [show W j = W i by omega] at l1
    exact absurd l1 (ltD_irr V now _)
theorem due_ex (n : Nat) (V : Nat → Int × Int) (now : Int) : ∃ (K : Nat) (F : Nat → Int), K ≤ n ∧ ∀ k W, DueR n V now k W → k = K ∧ ∀ i, i < k → W i = F i := by
  cases e : duB n V now
  · exact ⟨0, fun _ => 0, Nat.zero_le _, fun k W h => by have := h.2 e; subst this; exact ⟨rfl, fun i hi => by omega⟩⟩
  · rcases Classical.em (∃ k W, DueL n V now k W) with ⟨K, F, h⟩ | h
    · exact ⟨K, F, due_le h, fun k W g => ⟨Nat.le_antisymm (due_len (g.1 e) h) (due_len h (g.1 e)), fun i hi => due_same (g.1 e) h i hi (by have := due_len (g.1 e) h; omega)⟩⟩
    · exact ⟨0, fun _ => 0, Nat.zero_le _, fun k W g => absurd ⟨k, W, g.1 e⟩ h⟩
/-- What both answer. -/
def DuePost (n : Nat) (V : Nat → Int × Int) (now : Int) (w : World) (e : Ending) (w' : World) : Prop := ∃ s c k W, e = .returned (.slice s k c) ∧ OwnI w.heap.size w' s k W ∧ DueR n V now k W ∧ Below w.heap.size w w'
theorem due_no {n : Nat} {V : Nat → Int × Int} {now : Int} (h : duB n V now = false) : DueR n V now 0 (fun _ => 0) := ⟨fun q => (by rw [h] at q; cases q), fun _ => rfl⟩
theorem due_yes {n : Nat} {V : Nat → Int × Int} {now : Int} {k : Nat} {W : Nat → Int} (h : duB n V now = true) (g : DueL n V now k W) : DueR n V now k W := ⟨fun _ => g, fun q => (by rw [h] at q; cases q)⟩
/-- The due ones among the first k, as they come. -/
def DueA (V : Nat → Int × Int) (now : Int) (k m : Nat) (U : Nat → Int) : Prop := m ≤ k ∧ SortS (· < ·) U 0 m ∧ (∀ i, i < m → ∃ j : Nat, j < k ∧ U i = (j : Int) ∧ 0 ≤ byd V now j) ∧ ∀ j : Nat, j < k → 0 ≤ byd V now j → ∃ i, i < m ∧ U i = (j : Int)
theorem dueA_zero (V : Nat → Int × Int) (now : Int) (U : Nat → Int) : DueA V now 0 0 U := ⟨Nat.le_refl _, fun i j _ _ h => by omega, fun i h => by omega, fun j h => by omega⟩
theorem dueA_keep {V : Nat → Int × Int} {now : Int} {k m : Nat} {U : Nat → Int} (h : DueA V now k m U) (hk : byd V now k < 0) : DueA V now (k + 1) m U := by
  obtain ⟨a, b, c, d⟩ := h
  refine ⟨by omega, b, fun i hi => ?_, fun j hj hd => ?_⟩
  · obtain ⟨j, j1, j2⟩ := c i hi
    exact ⟨j, by omega, j2⟩
  · by_cases q : j = k
    · subst q; omega
    · exact d j (by omega) hd
theorem dueA_more {V : Nat → Int × Int} {now : Int} {k m : Nat} {U : Nat → Int} (h : DueA V now k m U) (hk : 0 ≤ byd V now k) : DueA V now (k + 1) (m + 1) (fun i => if i < m then U i else (k : Int)) := by
  obtain ⟨a, b, c, d⟩ := h
  refine ⟨by omega, fun i j _ g2 g3 => ?_, fun i hi => ?_, fun j hj hd => ?_⟩
  · show (if i < m then U i else (k : Int)) < (if j < m then U j else (k : Int))
    rw [if_pos (by omega)]
    by_cases q : j < m
    · rw [if_pos q]; exact b i j (Nat.zero_le _) g2 q
    · rw [if_neg q]
      obtain ⟨x, x1, x2, _⟩ := c i (by omega)
      omega
  · by_cases q : i < m
    · obtain ⟨j, j1, j2⟩ := c i q
      exact ⟨j, by omega, by show (if i < m then U i else (k : Int)) = (j : Int) ∧ _; rw [if_pos q]; exact j2⟩
    · exact ⟨k, by omega, by show (if i < m then U i else (k : Int)) = (k : Int); rw [if_neg q], hk⟩
  · by_cases q : j = k
    · subst q; exact ⟨m, by omega, by simp⟩
    · obtain ⟨i, i1, i2⟩ := d j (by omega) hd
      exact ⟨i, by omega, by show (if i < m then U i else (k : Int)) = (j : Int); rw [if_pos i1]; exact i2⟩
theorem dueA_sorted {V : Nat → Int × Int} {now : Int} {n m : Nat} {U W : Nat → Int} (h : DueA V now n m U) (h1 : SortS (ltD V now) W 0 m) (h2 : SameS U W 0 m) : DueL n V now m W := by
  obtain ⟨a, b, c, d⟩ := h
  refine ⟨h1, fun i hi => ?_, fun j hj hd => ?_⟩
  · obtain ⟨x, _, x2, x3⟩ := h2.1 i (Nat.zero_le _) hi
    rw [x3]; exact c x x2
  · obtain ⟨i, i1, i2⟩ := d j hj hd
    obtain ⟨x, _, x2, x3⟩ := h2.2 i (Nat.zero_le _) i1
    exact ⟨x, x2, x3.trans i2⟩
end Go.Proofs.YtfhbkfdfggaomabDoor
