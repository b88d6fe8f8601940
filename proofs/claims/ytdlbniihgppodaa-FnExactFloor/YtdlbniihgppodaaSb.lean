/-
What is proved: places in the order of a number each has, of one number by themselves; how one is put among those ahead of it.
-/
import Derived.Test.YtdlbniihgppodaaTn
import Derived.Test.YtdlbniihgppodaaI64
namespace Go.Proofs.Ytdlbniihgppodaa
set_option maxRecDepth 40000
open Go.ChangeShapes Go.WideShapes Go.ChangeAt Go.RowKit
set_option linter.unusedVariables false
set_option linter.unusedSimpArgs false

def ltx (C : Nat → Int) (i j : Nat) : Prop := C i < C j ∨ (C i = C j ∧ i < j)
theorem ltx_trans {C : Nat → Int} {i j k : Nat} (h : ltx C i j) (g : ltx C j k) : ltx C i k := by
  unfold ltx at *
  omega
theorem ltx_irr {C : Nat → Int} {i : Nat} (h : ltx C i i) : False := by unfold ltx at h; omega
/-- The first i of T are the places below i, in order; all others stand where they stood. -/
def InsB (C : Nat → Int) (n i : Nat) (T : Nat → Nat) : Prop := (∀ k l, k < l → l < i → ltx C (T k) (T l)) ∧ (∀ k, k < i → T k < i) ∧ (∀ j, j < i → ∃ k, k < i ∧ T k = j) ∧ ∀ k, i ≤ k → k < n → T k = k
/-- The place i on its way down stands at j. -/
def InsJ (C : Nat → Int) (n i j : Nat) (T : Nat → Nat) : Prop := j ≤ i ∧ T j = i ∧ (∀ k l, k < l → l ≤ i → k ≠ j → l ≠ j → ltx C (T k) (T l)) ∧ (∀ k, j < k → k ≤ i → C i < C (T k)) ∧ (∀ k, k ≤ i → k ≠ j → T k < i) ∧ (∀ x, x ≤ i → ∃ k, k ≤ i ∧ T k = x) ∧ ∀ k, i < k → k < n → T k = k
def swT (T : Nat → Nat) (j : Nat) (k : Nat) : Nat := if k = j then T (j - 1) else if k = j - 1 then T j else T k
theorem ins_begin {C : Nat → Int} {n i : Nat} {T : Nat → Nat} (h : InsB C n i T) (hi : i < n) : InsJ C n i i T := by
  obtain ⟨h1, h2, h3, h4⟩ := h
  have hT : T i = i := h4 i (Nat.le_refl _) hi
  refine ⟨Nat.le_refl _, hT, fun k l hkl hl nk nl => h1 k l hkl (by omega), fun k hk hk2 => by omega, fun k hk nk => h2 k (by omega), fun x hx => ?_, fun k hk hk2 => h4 k (by omega) hk2⟩
  by_cases e : x = i
  · exact ⟨i, Nat.le_refl _, by rw [hT, e]⟩
  · obtain ⟨k, hk, ek⟩ := h3 x (by omega)
    exact ⟨k, by omega, ek⟩
theorem ins_down {C : Nat → Int} {n i j : Nat} {T : Nat → Nat} (h : InsJ C n i j T) (hj : 0 < j) (hc : C (T j) < C (T (j - 1))) : InsJ C n i (j - 1) (swT T j) := by
  obtain ⟨h1, h2, h3, h4, h5, h6, h7⟩ := h
  rw [h2] at hc
  have s1 : swT T j (j - 1) = T j := by unfold swT; rw [if_neg (by omega), if_pos rfl]
  have s0 : swT T j j = T (j - 1) := by unfold swT; rw [if_pos rfl]
  have s2 : ∀ k, k ≠ j → k ≠ j - 1 → swT T j k = T k := fun k a b => by unfold swT; rw [if_neg a, if_neg b]
  refine ⟨by omega, by rw [s1, h2], fun k l hkl hl nk nl => ?_, fun k hk hk2 => ?_, fun k hk nk => ?_, fun x hx => ?_, fun k hk hk2 => ?_⟩
  · by_cases e1 : k = j
    · subst e1
      rw [s0, s2 l (by omega) nl]
      exact h3 (k - 1) l (by omega) hl (by omega) (by omega)
    · by_cases e2 : l = j
      · subst e2
        rw [s0, s2 k e1 nk]
        exact h3 k (l - 1) (by omega) (by omega) e1 (by omega)
      · rw [s2 k e1 nk, s2 l e2 nl]
        exact h3 k l hkl hl e1 e2
  · by_cases e1 : k = j
    · rw [e1, s0]; exact hc
    · rw [s2 k e1 (by omega)]; exact h4 k (by omega) hk2
  · by_cases e1 : k = j
    · rw [e1, s0]; exact h5 (j - 1) (by omega) (by omega)
    · rw [s2 k e1 nk]; exact h5 k hk e1
  · obtain ⟨k, hk, ek⟩ := h6 x hx
    by_cases e1 : k = j
    · exact ⟨j - 1, by omega, by rw [s1, ← e1, ek]⟩
    · by_cases e2 : k = j - 1
      · exact ⟨j, h1, by rw [s0, ← e2, ek]⟩
      · exact ⟨k, hk, by rw [s2 k e1 e2, ek]⟩
  · rw [s2 k (by omega) (by omega)]; exact h7 k hk hk2
theorem ins_end {C : Nat → Int} {n i j : Nat} {T : Nat → Nat} (h : InsJ C n i j T) (hc : j = 0 ∨ C (T (j - 1)) ≤ C (T j)) : InsB C n (i + 1) T := by
  obtain ⟨h1, h2, h3, h4, h5, h6, h7⟩ := h
  rw [h2] at hc
  refine ⟨fun k l hkl hl => ?_, fun k hk => ?_, fun x hx => ?_, fun k hk hk2 => h7 k (by omega) hk2⟩
  · by_cases e1 : k = j
    · subst e1
      rw [h2]
      exact Or.inl (h4 l hkl (by omega))
    · by_cases e2 : l = j
      · subst e2
        rw [h2]
        have hlast : ltx C (T (l - 1)) i := by
          rcases hc with hc | hc
          · omega
          · have := h5 (l - 1) (by omega) (by omega)
            unfold ltx; omega
        by_cases e3 : k = l - 1
        · rw [e3]; exact hlast
        · exact ltx_trans (h3 k (l - 1) (by omega) (by omega) e1 (by omega)) hlast
      · exact h3 k l hkl (by omega) e1 e2
  · by_cases e1 : k = j
    · rw [e1, h2]; omega
    · have := h5 k (by omega) e1; omega
  · obtain ⟨k, hk, ek⟩ := h6 x (by omega)
    exact ⟨k, by omega, ek⟩
theorem ins_first (C : Nat → Int) (n : Nat) {T : Nat → Nat} (hT : ∀ k, k < n → T k = k) (hn : 1 ≤ n) : InsB C n 1 T := by
  refine ⟨fun k l hkl hl => by omega, fun k hk => ?_, fun j hj => ?_, fun k hk hk2 => hT k hk2⟩
  · obtain rfl : k = 0 := by omega
    rw [hT 0 hn]; omega
  · obtain rfl : j = 0 := by omega
    exact ⟨0, by omega, hT 0 hn⟩
def cmpV (a b : Int) : Int := if a < b then -1 else if b < a then 1 else 0
theorem cmp_lt {a b : Int} (h : a < b) : cmpV a b = -1 := by unfold cmpV; rw [if_pos h]
theorem cmp_ge {a b : Int} (h : b ≤ a) : 0 ≤ cmpV a b ∧ cmpV a b ≤ 1 := by
  unfold cmpV
  rw [if_neg (by omega)]
  split <;> omega
/-- The places lie in the block b. -/
def DatT (w : World) (b n : Nat) (T : Nat → Nat) : Prop := b < w.heap.size ∧ (∀ o, o < n → w.frozen? ⟨b, o, none⟩ = false) ∧ ∀ k, k < n → w.cell? ⟨b, k, none⟩ = some (.int .i64 (T k : Int))
theorem DatT.drew {w w' : World} {b n : Nat} {T : Nat → Nat} (h : DatT w b n T) (hb : Below w.heap.size w w') : DatT w' b n T := ⟨Nat.lt_of_lt_of_le h.1 hb.size, fun o ho => (hb.frozen (p := ⟨b, o, none⟩) h.1).trans (h.2.1 o ho), fun k hk => (hb.cell (p := ⟨b, k, none⟩) h.1).trans (h.2.2 k hk)⟩
theorem dat_swap {w : World} {b n j m : Nat} {T : Nat → Nat} (h : DatT w b n T) (hj : j < n) (hm : j = m + 1) : DatT ((w.setCell ⟨b, j, none⟩ (.int .i64 (T m : Int))).setCell ⟨b, m, none⟩ (.int .i64 (T j : Int))) b n (swT T j) := by
  obtain ⟨h1, h2, h3⟩ := h
  refine ⟨by simpa using h1, fun o ho => by simpa [go_sem] using h2 o ho, fun k hk => ?_⟩
  have e1 : j - 1 = m := by omega
  unfold swT
  rw [e1]
  by_cases k1 : k = m
  · subst k1
    rw [if_neg (by omega), if_pos rfl]
    refine World.cell?_setCell_same' _ _ _ ?_
    rw [World.cell?_setCell_other _ _ _ _ (by intro z; cases z; omega), h3 k hk]; rfl
  · rw [World.cell?_setCell_other _ _ _ _ (by intro z; cases z; exact k1 rfl)]
    by_cases k2 : k = j
    · subst k2
      rw [if_pos rfl]
      exact World.cell?_setCell_same' _ _ _ (by rw [h3 k hk]; rfl)
    · rw [if_neg k2, if_neg k1, World.cell?_setCell_other _ _ _ _ (by intro z; cases z; exact k2 rfl)]
      exact h3 k hk
end Go.Proofs.Ytdlbniihgppodaa
