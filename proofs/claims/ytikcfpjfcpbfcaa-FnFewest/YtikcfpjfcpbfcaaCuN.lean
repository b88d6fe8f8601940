/-
What is proved: passes over the ducts of a right net, as many as it has places, wet just what a way leads to.
-/
import Derived.Test.YtikcfpjfcpbfcaaNt
namespace Go.Proofs.Ytikcfpjfcpbfcaa
set_option maxRecDepth 40000
open Go.ChangeShapes Go.WideShapes Go.ChangeAt Go.RowKit
set_option linter.unusedVariables false
set_option linter.unusedSimpArgs false

def endA (D : Nat → Int × Int) (j : Nat) : Nat := (D j).1.toNat
def endB (D : Nat → Int × Int) (j : Nat) : Nat := (D j).2.toNat
def hasW (S : Nat → Int) (m x : Nat) : Bool := (List.range m).any fun j => decide (S j = (x : Int))
theorem hasW_iff {S : Nat → Int} {m x : Nat} : hasW S m x = true ↔ ∃ j, j < m ∧ S j = (x : Int) := by simp [hasW]
theorem hasW_succ (S : Nat → Int) (m x : Nat) : hasW S (m + 1) x = (hasW S m x || decide (S m = (x : Int))) := by simp [hasW, List.range_succ]
def stepW (W : Nat → Bool) (a b : Nat) (sh : Bool) : Nat → Bool := if (!sh && (W a != W b)) = true then (fun x => W x || (x == a || x == b)) else W
def passW (D : Nat → Int × Int) (Sh : Nat → Bool) : Nat → (Nat → Bool) → Nat → Bool
  | 0, W => W
  | k + 1, W => stepW (passW D Sh k W) (endA D k) (endB D k) (Sh k)
def wetW (n : Nat) (D : Nat → Int × Int) (Sh : Nat → Bool) (W0 : Nat → Bool) : Nat → Nat → Bool
  | 0 => W0
  | s + 1 => passW D Sh n (wetW n D Sh W0 s)
/-- What lies in every set that holds the sources and is closed along the ducts that are not shut. -/
def Reach (n : Nat) (D : Nat → Int × Int) (Sh : Nat → Bool) (W0 : Nat → Bool) (x : Nat) : Prop := ∀ T : Nat → Prop, (∀ y, W0 y = true → T y) → (∀ j, j < n → Sh j = false → T (endA D j) → T (endB D j)) → (∀ j, j < n → Sh j = false → T (endB D j) → T (endA D j)) → T x
theorem Reach.src {n : Nat} {D : Nat → Int × Int} {Sh W0 : Nat → Bool} (x : Nat) (h : W0 x = true) : Reach n D Sh W0 x := fun _ h1 _ _ => h1 x h
theorem Reach.there {n : Nat} {D : Nat → Int × Int} {Sh W0 : Nat → Bool} (j : Nat) (hj : j < n) (hs : Sh j = false) (h : Reach n D Sh W0 (endA D j)) : Reach n D Sh W0 (endB D j) := fun T h1 h2 h3 => h2 j hj hs (h T h1 h2 h3)
theorem Reach.back {n : Nat} {D : Nat → Int × Int} {Sh W0 : Nat → Bool} (j : Nat) (hj : j < n) (hs : Sh j = false) (h : Reach n D Sh W0 (endB D j)) : Reach n D Sh W0 (endA D j) := fun T h1 h2 h3 => h3 j hj hs (h T h1 h2 h3)
def cntW (W : Nat → Bool) : Nat → Nat
  | 0 => 0
  | k + 1 => cntW W k + (if W k = true then 1 else 0)
theorem cnt_le (W : Nat → Bool) : ∀ k, cntW W k ≤ k
  | 0 => Nat.le_refl _
  | k + 1 => by have := cnt_le W k; simp only [cntW]; split <;> omega
theorem cnt_mono {W U : Nat → Bool} : ∀ k, (∀ x, x < k → W x = true → U x = true) → cntW W k ≤ cntW U k
  | 0, _ => Nat.le_refl _
  | k + 1, h => by
    have i := cnt_mono k (fun x hx => h x (by omega))
    simp only [cntW]
    by_cases q : W k = true
    · have := h k (by omega) q; simp [q, this]; omega
    · simp [q]; omega
theorem cnt_lt {W U : Nat → Bool} : ∀ k, (∀ x, x < k → W x = true → U x = true) → (∃ x, x < k ∧ W x = false ∧ U x = true) → cntW W k < cntW U k
  | 0, _, h => by obtain ⟨x, hx, _⟩ := h; omega
  | k + 1, h, ⟨x, hx, a, b⟩ => by
    simp only [cntW]
    by_cases e : x = k
    · subst e
      have i := cnt_mono x (fun y hy => h y (by omega))
      simp [a, b]; omega
    · have i := cnt_lt k (fun y hy => h y (by omega)) ⟨x, by omega, a, b⟩
      by_cases q : W k = true
      · have := h k (by omega) q; simp [q, this]; omega
      · simp [q]; omega
theorem cnt_all {W : Nat → Bool} : ∀ k, k ≤ cntW W k → ∀ x, x < k → W x = true
  | 0, _, x, hx => by omega
  | k + 1, h, x, hx => by
    have l := cnt_le W k
    simp only [cntW] at h
    by_cases q : W k = true
    · simp [q] at h
      by_cases e : x = k
      · rw [e]; exact q
      · exact cnt_all k h x (by omega)
    · simp [q] at h; omega
theorem step_mono {W : Nat → Bool} {a b : Nat} {sh : Bool} {x : Nat} (h : W x = true) : stepW W a b sh x = true := by
  unfold stepW; split
  · simp [h]
  · exact h
theorem pass_from {D : Nat → Int × Int} {Sh W : Nat → Bool} {x : Nat} : ∀ {j} (k : Nat), j ≤ k → passW D Sh j W x = true → passW D Sh k W x = true
  | j, 0, hj, h => by have : j = 0 := by omega
                      subst this; exact h
  | j, k + 1, hj, h => by
    by_cases e : j = k + 1
    · subst e; exact h
    · exact step_mono (pass_from k (by omega) h)
theorem pass_mono {D : Nat → Int × Int} {Sh W : Nat → Bool} {x : Nat} (k : Nat) (h : W x = true) : passW D Sh k W x = true := pass_from (j := 0) k (Nat.zero_le _) h
def Shuts (n : Nat) (D : Nat → Int × Int) (Sh W : Nat → Bool) : Prop := ∀ j, j < n → Sh j = false → W (endA D j) = W (endB D j)
theorem pass_closed {n : Nat} {D : Nat → Int × Int} {Sh W : Nat → Bool} (h : Shuts n D Sh W) : ∀ k, k ≤ n → passW D Sh k W = W
  | 0, _ => rfl
  | k + 1, hk => by
    show stepW (passW D Sh k W) _ _ _ = W
    rw [pass_closed h k (by omega)]
    unfold stepW
    cases q : Sh k
    · have := h k (by omega) q
      simp [this]
    · simp
theorem pass_joins {n : Nat} {D : Nat → Int × Int} {Sh W : Nat → Bool} {j : Nat} (hj : j < n) (hs : Sh j = false) (hd : W (endA D j) ≠ W (endB D j)) : passW D Sh n W (endA D j) = true ∧ passW D Sh n W (endB D j) = true := by
  have one : passW D Sh (j + 1) W (endA D j) = true ∧ passW D Sh (j + 1) W (endB D j) = true := by
    show stepW _ _ _ _ _ = true ∧ stepW _ _ _ _ _ = true
    have o : passW D Sh j W (endA D j) = true ∨ passW D Sh j W (endB D j) = true := by
      cases q : W (endA D j)
      · right; apply pass_mono; rw [q] at hd; revert hd; cases W (endB D j) <;> simp
      · left; exact pass_mono j q
    unfold stepW
    rw [hs]
    revert o
    cases q1 : passW D Sh j W (endA D j) <;> cases q2 : passW D Sh j W (endB D j) <;> simp [q1, q2]
  exact ⟨pass_from n (by omega) one.1, pass_from n (by omega) one.2⟩
theorem wet_count {n p : Nat} {D : Nat → Int × Int} {Sh W0 : Nat → Bool} (hD : ∀ j, j < n → endA D j < p ∧ endB D j < p) : ∀ s, Shuts n D Sh (wetW n D Sh W0 s) ∨ s ≤ cntW (wetW n D Sh W0 s) p
  | 0 => .inr (Nat.zero_le _)
  | s + 1 => by
    by_cases c : Shuts n D Sh (wetW n D Sh W0 s)
    · left
      show Shuts n D Sh (passW D Sh n _)
      rw [pass_closed c n (Nat.le_refl _)]; exact c
    · right
      have i : s ≤ cntW (wetW n D Sh W0 s) p := (wet_count hD s).resolve_left c
      have ⟨j, hj, hs, hd⟩ : ∃ j, j < n ∧ Sh j = false ∧ wetW n D Sh W0 s (endA D j) ≠ wetW n D Sh W0 s (endB D j) := by
        refine Classical.byContradiction fun q => c fun j hj hs => Classical.byContradiction fun r => q ⟨j, hj, hs, r⟩
      have jn := pass_joins hj hs hd
      have := cnt_lt (W := wetW n D Sh W0 s) (U := passW D Sh n (wetW n D Sh W0 s)) p (fun x _ h => pass_mono n h) (by
        cases q : wetW n D Sh W0 s (endA D j)
        · exact ⟨_, (hD j hj).1, q, jn.1⟩
        · exact ⟨_, (hD j hj).2, by rw [q] at hd; revert hd; cases wetW n D Sh W0 s (endB D j) <;> simp, jn.2⟩)
      show s + 1 ≤ cntW (passW D Sh n _) p
      omega
theorem wet_closed {n p : Nat} {D : Nat → Int × Int} {Sh W0 : Nat → Bool} (hD : ∀ j, j < n → endA D j < p ∧ endB D j < p) : Shuts n D Sh (wetW n D Sh W0 p) := by
  rcases wet_count (Sh := Sh) (W0 := W0) hD p with h | h
  · exact h
  · intro j hj _
    rw [cnt_all p h _ (hD j hj).1, cnt_all p h _ (hD j hj).2]
theorem pass_reach {n : Nat} {D : Nat → Int × Int} {Sh W0 W : Nat → Bool} (h : ∀ x, W x = true → Reach n D Sh W0 x) : ∀ k, k ≤ n → ∀ x, passW D Sh k W x = true → Reach n D Sh W0 x
  | 0, _, x, hx => h x hx
  | k + 1, hk, x, hx => by
    have i := pass_reach h k (by omega)
    change stepW _ _ _ _ _ = true at hx
    unfold stepW at hx
    split at hx
    · rename_i q
      simp only [Bool.and_eq_true, Bool.not_eq_true', bne_iff_ne, ne_eq] at q
      simp only [Bool.or_eq_true, beq_iff_eq] at hx
      have both : Reach n D Sh W0 (endA D k) ∧ Reach n D Sh W0 (endB D k) := by
        cases q1 : passW D Sh k W (endA D k)
        · have q2 : passW D Sh k W (endB D k) = true := by
            have := q.2; rw [q1] at this; revert this; cases passW D Sh k W (endB D k) <;> simp
          exact ⟨.back k (by omega) q.1 (i _ q2), i _ q2⟩
        · exact ⟨i _ q1, .there k (by omega) q.1 (i _ q1)⟩
      rcases hx with hx | hx | hx
      · exact i x hx
      · rw [hx]; exact both.1
      · rw [hx]; exact both.2
    · exact i x hx
theorem wet_reach {n p : Nat} {D : Nat → Int × Int} {Sh W0 : Nat → Bool} (hD : ∀ j, j < n → endA D j < p ∧ endB D j < p) (x : Nat) : wetW n D Sh W0 p x = true ↔ Reach n D Sh W0 x := by
  constructor
  · have : ∀ s x, wetW n D Sh W0 s x = true → Reach n D Sh W0 x := by
      intro s
      induction s with
      | zero => exact fun x h => .src x h
      | succ s ih => exact pass_reach ih n (Nat.le_refl _)
    exact this p x
  · intro h
    have c := wet_closed (Sh := Sh) (W0 := W0) hD
    refine h (fun x => wetW n D Sh W0 p x = true) (fun x h => ?_) (fun j hj hs ih => ?_) (fun j hj hs ih => ?_)
    · have : ∀ s, wetW n D Sh W0 s x = true := by
        intro s
        induction s with
        | zero => exact h
        | succ s ih => exact pass_mono n ih
      exact this p
    · show wetW n D Sh W0 p _ = true
      rw [← c j hj hs]; exact ih
    · show wetW n D Sh W0 p _ = true
      rw [c j hj hs]; exact ih
end Go.Proofs.Ytikcfpjfcpbfcaa
