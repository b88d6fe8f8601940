/-
What is proved: the floor of costs, in numbers.
-/
import Derived.Test.YtdlbniihgppodaaCqS
import Derived.Test.YtdlbniihgppodaaMtI
namespace Go.Proofs.Ytdlbniihgppodaa
set_option maxRecDepth 40000
open Go.ChangeShapes Go.WideShapes Go.ChangeAt Go.RowKit
set_option linter.unusedVariables false
set_option linter.unusedSimpArgs false

def frV (V : Nat → Int × Int × Int × Int × Int) (i : Nat) : Int × Int × Int × Int × Int := (0, (V i).2.1, (V i).2.2.1, (V i).2.2.2.1, (V i).2.2.2.2)
def eaV (V : Nat → Int × Int × Int × Int × Int) (i : Nat) : Int × Int × Int × Int × Int := (0, (V i).2.1, (V i).2.2.1, 0, (V i).2.2.2.2)
def onA (_ : Nat) : Bool := true
def speF (n : Nat) (V : Nat → Int × Int × Int × Int × Int) (O : Nat → Bool) (ld : Int) (i : Nat) : Int := outV n V O ld i * csF V i
def spentV (n : Nat) (V : Nat → Int × Int × Int × Int × Int) (O : Nat → Bool) (no : Nat) (ld : Int) : Int := if meB n V O no ld = true then sumF (speF n V O ld) n else -1
def flB (n : Nat) (V : Nat → Int × Int × Int × Int × Int) (m : Nat) (W : Nat → Int) : Bool := plsB n V && (ldB m W && decide (∀ t, t < m → meB n (frV V) onA n (W t) = true))
def floorV (n : Nat) (V : Nat → Int × Int × Int × Int × Int) (m : Nat) (W : Nat → Int) : Int := if flB n V m W = true then sumF (fun t => sumF (speF n (frV V) onA (W t)) n) m else -1
theorem fr_pl {z : Int × Int × Int × Int × Int} (h : plB z = true) : plB (0, z.2.1, z.2.2.1, z.2.2.2.1, z.2.2.2.2) = true ∧ plB (0, z.2.1, z.2.2.1, 0, z.2.2.2.2) = true := by
  have := pl_yes h
  constructor <;> (unfold plB inB; simp; omega)
theorem fr_pls {n : Nat} {V : Nat → Int × Int × Int × Int × Int} (h : plsB n V = true) : plsB n (frV V) = true ∧ plsB n (eaV V) = true := by
  obtain ⟨n1, n3, hp⟩ := pls_yes h
  have hi : inB 1 3 (n : Int) = true := by unfold inB; simp; omega
  constructor <;> (unfold plsB; rw [hi, Bool.true_and]; refine decide_eq_true fun i hi => ?_)
  · exact (fr_pl (hp i hi)).1
  · exact (fr_pl (hp i hi)).2
theorem me_same {n : Nat} {V : Nat → Int × Int × Int × Int × Int} (h : plsB n V = true) (O : Nat → Bool) (no : Nat) (ld : Int) : meB n (eaV V) O no ld = meB n (frV V) O no ld := by
  unfold meB
  rw [(fr_pls h).1, (fr_pls h).2]
  rfl
theorem floor_off {n : Nat} {V : Nat → Int × Int × Int × Int × Int} {m : Nat} {W : Nat → Int} (h : (plsB n V && ldB m W) = false) : floorV n V m W = -1 := by
  have : flB n V m W = false := by
    unfold flB
    rw [show ∀ a b c : Bool, (a && (b && c)) = ((a && b) && c) from by decide, h]
    rfl
  unfold floorV
  rw [this]
  rfl
theorem floor_no {n : Nat} {V : Nat → Int × Int × Int × Int × Int} {m t : Nat} {W : Nat → Int} (ht : t < m) (h : meB n (frV V) onA n (W t) = false) : floorV n V m W = -1 := by
  have : flB n V m W = false := by
    unfold flB
    rw [decide_eq_false (fun q : ∀ t, t < m → meB n (frV V) onA n (W t) = true => by have := q t ht; rw [h] at this; cases this)]
    simp
  unfold floorV
  rw [this]
  rfl
theorem floor_yes {n : Nat} {V : Nat → Int × Int × Int × Int × Int} {m : Nat} {W : Nat → Int} (h0 : plsB n V = true) (h1 : ldB m W = true) (h : ∀ t, t < m → meB n (frV V) onA n (W t) = true) : floorV n V m W = sumF (fun t => sumF (speF n (frV V) onA (W t)) n) m := by
  have : flB n V m W = true := by
    unfold flB
    rw [h0, h1, decide_eq_true h]
    rfl
  unfold floorV
  rw [if_pos this]
theorem sty_on {n : Nat} {V : Nat → Int × Int × Int × Int × Int} {t : Nat} : styB n V (fun _ => onA) t = true := decide_eq_true fun i _ => rfl
theorem pc_on {n : Nat} {V : Nat → Int × Int × Int × Int × Int} {t : Nat} {ld : Int} {i : Nat} : pcF n (eaV V) (fun _ => onA) t ld i = speF n (frV V) onA ld i := by
  unfold pcF
  have : (if (onA i && decide (ranF (fun _ => onA) t i = 0)) = true then (eaV V i).2.2.2.1 else 0) = 0 := by split <;> rfl
  show _ + (if (onA i && decide (ranF (fun _ => onA) t i = 0)) = true then (eaV V i).2.2.2.1 else 0) = _
  rw [this, Int.add_zero]
  rfl
theorem floor_is {n : Nat} {V : Nat → Int × Int × Int × Int × Int} {m : Nat} {W : Nat → Int} (h0 : plsB n V = true) (h1 : ldB m W = true) : costV n (eaV V) m W m (fun _ => n) (fun _ => onA) = floorV n V m W := by
  by_cases h : ∀ t, t < m → meB n (frV V) onA n (W t) = true
  · rw [floor_yes h0 h1 h, cot_yes (fr_pls h0).2 h1 rfl (fun t ht => by
      unfold okT
      rw [sty_on, Bool.and_true, me_same h0]
      exact h t ht)]
    refine sum_same fun t _ => ?_
    unfold perV
    exact sum_same fun i _ => pc_on
  · have : ∃ t, t < m ∧ meB n (frV V) onA n (W t) = false := Classical.byContradiction fun q => h fun t ht => by
      cases e : meB n (frV V) onA n (W t)
      · exact (q ⟨t, ht, e⟩).elim
      · rfl
    obtain ⟨t, ht, e⟩ := this
    rw [floor_no ht e, cot_no ht (by
      unfold okT
      rw [sty_on, Bool.and_true, me_same h0]
      exact e)]
theorem spe_in {n : Nat} {V : Nat → Int × Int × Int × Int × Int} {O : Nat → Bool} {ld : Int} (h : ∀ i, i < n → plB (V i) = true) : ∀ i, i < n → 0 ≤ speF n V O ld i ∧ speF n V O ld i ≤ 1000000000 := fun i hi => by
  have h1 := out_in (P := O) (ld := ld) h i hi
  have h2 := pl_yes (h i hi)
  exact mul_cost h1.1 h1.2 h2.2.2.1.1 h2.2.2.1.2
theorem spent_in {n : Nat} {V : Nat → Int × Int × Int × Int × Int} {O : Nat → Bool} {ld : Int} {k : Nat} (hn : n ≤ 3) (hk : k ≤ n) (h : ∀ i, i < n → plB (V i) = true) : 0 ≤ sumF (speF n V O ld) k ∧ sumF (speF n V O ld) k ≤ 3000000000 := by
  have := sum_in (f := speF n V O ld) (n := k) (M := 1000000000) (fun i hi => spe_in h i (by omega))
  omega
theorem spent_yes {n : Nat} {V : Nat → Int × Int × Int × Int × Int} {O : Nat → Bool} {no : Nat} {ld : Int} (h : meB n V O no ld = true) : spentV n V O no ld = sumF (speF n V O ld) n := by unfold spentV; rw [if_pos h]
theorem spent_no {n : Nat} {V : Nat → Int × Int × Int × Int × Int} {O : Nat → Bool} {no : Nat} {ld : Int} (h : meB n V O no ld = false) : spentV n V O no ld = -1 := by unfold spentV; rw [h]; rfl
theorem floor_in {n m k : Nat} {V : Nat → Int × Int × Int × Int × Int} {W : Nat → Int} (h0 : plsB n V = true) (hk : k ≤ m) (hm : m ≤ 5) : 0 ≤ sumF (fun t => sumF (speF n (frV V) onA (W t)) n) k ∧ sumF (fun t => sumF (speF n (frV V) onA (W t)) n) k ≤ 15000000000 := by
  obtain ⟨_, n3, hp⟩ := pls_yes (fr_pls h0).1
  have := sum_in (f := fun t => sumF (speF n (frV V) onA (W t)) n) (n := k) (M := 3000000000) (fun t _ => spent_in n3 (Nat.le_refl _) hp)
  omega
theorem me_pls {n : Nat} {V : Nat → Int × Int × Int × Int × Int} {O : Nat → Bool} {no : Nat} {ld : Int} (h : meB n V O no ld = true) : plsB n V = true := by
  unfold meB at h
  cases e : plsB n V
  · rw [e] at h; cases h
  · rfl
end Go.Proofs.Ytdlbniihgppodaa
