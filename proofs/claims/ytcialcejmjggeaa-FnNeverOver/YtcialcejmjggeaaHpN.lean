/-
What is proved: a heap that is told by which place stands where: what going down and going up keep and bring about, that its first is the least, in numbers.
-/
import Derived.Test.YtcialcejmjggeaaOpen
namespace Go.Proofs.Ytcialcejmjggeaa
set_option maxRecDepth 40000
open Go.RowKit
set_option linter.unusedVariables false
set_option linter.unusedSimpArgs false

def swp (P : Nat → Nat) (i j : Nat) : Nat → Nat := fun k => if k = i then P j else if k = j then P i else P k
def Hold (n : Nat) (P : Nat → Nat) (S : Nat → Prop) : Prop := (∀ i, i < n → S (P i)) ∧ (∀ a, S a → ∃ i, i < n ∧ P i = a) ∧ ∀ i j, i < n → j < n → P i = P j → i = j
def HeapG (K : Nat → Int) (lo n : Nat) (P : Nat → Nat) : Prop := ∀ k, 0 < k → k < n → lo ≤ (k - 1) / 2 → K (P ((k - 1) / 2)) ≤ K (P k)
def DownAt (K : Nat → Int) (lo n i : Nat) (P : Nat → Nat) : Prop := lo ≤ i ∧ (∀ k, 0 < k → k < n → lo ≤ (k - 1) / 2 → (k - 1) / 2 ≠ i → K (P ((k - 1) / 2)) ≤ K (P k)) ∧
  ∀ k, 0 < k → k < n → (k - 1) / 2 = i → 0 < i → lo ≤ (i - 1) / 2 → K (P ((i - 1) / 2)) ≤ K (P k)
def UpAt (K : Nat → Int) (n j : Nat) (P : Nat → Nat) : Prop := (∀ k, 0 < k → k < n → k ≠ j → K (P ((k - 1) / 2)) ≤ K (P k)) ∧
  ∀ k, 0 < k → k < n → (k - 1) / 2 = j → 0 < j → K (P ((j - 1) / 2)) ≤ K (P k)
theorem swp_l (P : Nat → Nat) (i j : Nat) : swp P i j i = P j := by unfold swp; simp
theorem swp_r (P : Nat → Nat) (i j : Nat) : swp P i j j = P i := by unfold swp; by_cases h : j = i <;> simp [h]
theorem swp_o (P : Nat → Nat) {i j k : Nat} (h1 : k ≠ i) (h2 : k ≠ j) : swp P i j k = P k := by unfold swp; simp [h1, h2]
theorem hold_swp {n : Nat} {P : Nat → Nat} {S : Nat → Prop} (h : Hold n P S) {i j : Nat} (hi : i < n) (hj : j < n) : Hold n (swp P i j) S := by
  obtain ⟨h1, h2, h3⟩ := h
  refine ⟨fun k hk => ?_, fun a ha => ?_, fun k l hk hl e => ?_⟩
  · unfold swp; split
    · exact h1 _ hj
    · split
      · exact h1 _ hi
      · exact h1 _ hk
  · obtain ⟨k, hk, rfl⟩ := h2 a ha
    by_cases ki : k = i
    · exact ⟨j, hj, by rw [swp_r, ki]⟩
    · by_cases kj : k = j
      · exact ⟨i, hi, by rw [swp_l, kj]⟩
      · exact ⟨k, hk, swp_o P ki kj⟩
  · by_cases ki : k = i
    · subst ki
      rw [swp_l] at e
      by_cases li : l = k
      · exact li.symm
      · by_cases lj : l = j
        · subst lj; rw [swp_r] at e; exact h3 _ _ hk hl e.symm
        · rw [swp_o P li lj] at e; exact absurd (h3 _ _ hj hl e) (fun q => lj q.symm)
    · by_cases kj : k = j
      · subst kj
        rw [swp_r] at e
        by_cases li : l = i
        · subst li; rw [swp_l] at e; exact h3 _ _ hk hl e.symm
        · by_cases lj : l = k
          · exact lj.symm
          · rw [swp_o P li lj] at e; exact absurd (h3 _ _ hi hl e) (fun q => li q.symm)
      · rw [swp_o P ki kj] at e
        by_cases li : l = i
        · subst li; rw [swp_l] at e; exact absurd (h3 _ _ hk hj e) kj
        · by_cases lj : l = j
          · subst lj; rw [swp_r] at e; exact absurd (h3 _ _ hk hi e) ki
          · rw [swp_o P li lj] at e; exact h3 _ _ hk hl e
theorem down_stop1 {K : Nat → Int} {lo n i : Nat} {P : Nat → Nat} (h : DownAt K lo n i P) (hn : n ≤ 2 * i + 1) : HeapG K lo n P := fun k k0 k1 k2 => h.2.1 k k0 k1 k2 (by omega)
theorem down_stop2 {K : Nat → Int} {lo n i j : Nat} {P : Nat → Nat} (h : DownAt K lo n i P) (hm : ∀ k, 0 < k → k < n → (k - 1) / 2 = i → K (P j) ≤ K (P k)) (hs : ¬ K (P j) < K (P i)) : HeapG K lo n P := fun k k0 k1 k2 => by
  by_cases e : (k - 1) / 2 = i
  · have := hm k k0 k1 e
    rw [e]; omega
  · exact h.2.1 k k0 k1 k2 e
theorem down_step {K : Nat → Int} {lo n i j : Nat} {P : Nat → Nat} (h : DownAt K lo n i P) (hj0 : 0 < j) (hjn : j < n) (hji : (j - 1) / 2 = i) (hm : ∀ k, 0 < k → k < n → (k - 1) / 2 = i → K (P j) ≤ K (P k)) (hs : K (P j) < K (P i)) : DownAt K lo n j (swp P i j) := by
  obtain ⟨h1, h2, h3⟩ := h
  have hij : i ≠ j := by omega
  refine ⟨by omega, fun k k0 k1 k2 k3 => ?_, fun k k0 k1 k2 _ k4 => ?_⟩
  · by_cases e : (k - 1) / 2 = i
    · rw [e, swp_l]
      by_cases ek : k = j
      · subst ek; rw [swp_r]; omega
      · rw [swp_o P (by omega) ek]; exact hm k k0 k1 e
    · rw [swp_o P e k3]
      by_cases ek : k = i
      · subst ek; rw [swp_l]; exact h3 j hj0 hjn hji k0 k2
      · have : k ≠ j := fun q => by subst q; exact e hji
        rw [swp_o P ek this]; exact h2 k k0 k1 k2 e
  · rw [hji, swp_l, swp_o P (by omega) (by omega)]
    have := h2 k k0 k1 (by omega) (by omega)
    rw [k2] at this; exact this
theorem down_begin {K : Nat → Int} {i n : Nat} {P : Nat → Nat} (h : HeapG K (i + 1) n P) : DownAt K i n i P := ⟨Nat.le_refl _, fun k k0 k1 k2 k3 => h k k0 k1 (by omega), fun k k0 k1 k2 k3 k4 => by omega⟩
theorem heap_end {K : Nat → Int} {i n : Nat} {P : Nat → Nat} (h : n ≤ 2 * i + 1) : HeapG K i n P := fun k k0 k1 k2 => by omega
theorem up_stop {K : Nat → Int} {n j : Nat} {P : Nat → Nat} (h : UpAt K n j P) (hs : j = 0 ∨ ¬ K (P j) < K (P ((j - 1) / 2))) : HeapG K 0 n P := fun k k0 k1 _ => by
  by_cases e : k = j
  · subst e; rcases hs with e | e <;> omega
  · exact h.1 k k0 k1 e
theorem up_step {K : Nat → Int} {n j i : Nat} {P : Nat → Nat} (h : UpAt K n j P) (hj0 : 0 < j) (hjn : j < n) (hi : i = (j - 1) / 2) (hs : K (P j) < K (P i)) : UpAt K n i (swp P i j) := by
  obtain ⟨h1, h2⟩ := h
  have hij : i ≠ j := by omega
  refine ⟨fun k k0 k1 k2 => ?_, fun k k0 k1 k2 k3 => ?_⟩
  · by_cases ek : k = j
    · subst ek; rw [← hi, swp_l, swp_r]; omega
    · rw [swp_o P k2 ek]
      by_cases e : (k - 1) / 2 = i
      · rw [e, swp_l]; have := h1 k k0 k1 ek; rw [e] at this; omega
      · by_cases e2 : (k - 1) / 2 = j
        · rw [e2, swp_r]; have := h2 k k0 k1 e2 hj0; rw [← hi] at this; exact this
        · rw [swp_o P e e2]; exact h1 k k0 k1 ek
  · have hpi := h1 i k3 (by omega) hij
    rw [swp_o P (by omega) (by omega)]
    by_cases ek : k = j
    · subst ek; rw [swp_r]; exact hpi
    · rw [swp_o P (by omega) ek]
      have := h1 k k0 k1 ek; rw [k2] at this; omega
theorem top_min {K : Nat → Int} {n : Nat} {P : Nat → Nat} (h : HeapG K 0 n P) : ∀ k, k < n → K (P 0) ≤ K (P k) := fun k => by
  induction k using Nat.strongRecOn with
  | ind k ih =>
    intro hk
    by_cases k0 : k = 0
    · subst k0; exact Int.le_refl _
    · exact Int.le_trans (ih ((k - 1) / 2) (by omega) (by omega)) (h k (by omega) hk (Nat.zero_le _))
theorem pop_start {K : Nat → Int} {m : Nat} {P : Nat → Nat} (h : HeapG K 0 (m + 1) P) : DownAt K 0 m 0 (swp P 0 m) := by
  refine ⟨Nat.le_refl _, fun k k0 k1 k2 k3 => ?_, fun k k0 k1 k2 k3 => by omega⟩
  rw [swp_o P (by omega) (by omega), swp_o P (by omega) (by omega)]
  exact h k k0 (by omega) (Nat.zero_le _)
theorem hold_pop {m : Nat} {P : Nat → Nat} {S : Nat → Prop} (h : Hold (m + 1) P S) : Hold m (swp P 0 m) (fun a => S a ∧ a ≠ P 0) := by
  obtain ⟨h1, h2, h3⟩ := hold_swp h (i := 0) (j := m) (by omega) (by omega)
  have e : swp P 0 m m = P 0 := swp_r P 0 m
  refine ⟨fun i hi => ⟨h1 i (by omega), fun q => ?_⟩, fun a ha => ?_, fun i j hi hj q => h3 i j (by omega) (by omega) q⟩
  · have := h3 i m (by omega) (by omega) (q.trans e.symm); omega
  · obtain ⟨i, hi, q⟩ := h2 a ha.1
    refine ⟨i, ?_, q⟩
    by_cases im : i = m
    · subst im; exact absurd (q.symm.trans e) ha.2
    · omega
theorem hold_push {n : Nat} {P : Nat → Nat} {S : Nat → Prop} {a : Nat} (h : Hold n P S) (ha : ¬ S a) : Hold (n + 1) (fun k => if k = n then a else P k) (fun b => S b ∨ b = a) := by
  obtain ⟨h1, h2, h3⟩ := h
  refine ⟨fun i hi => ?_, fun b hb => ?_, fun i j hi hj q => ?_⟩
  · by_cases e : i = n
    · right; simp [e]
    · left; simp only [e, if_false]; exact h1 i (by omega)
  · rcases hb with hb | rfl
    · obtain ⟨i, hi, q⟩ := h2 b hb
      exact ⟨i, by omega, by have : i ≠ n := by omega
                             simp [this, q]⟩
    · exact ⟨n, by omega, by simp⟩
  · by_cases ei : i = n <;> by_cases ej : j = n
    · omega
    · simp only [ei, ej, if_true, if_false] at q
      exact absurd (by rw [q]; exact h1 j (by omega)) ha
    · simp only [ei, ej, if_true, if_false] at q
      exact absurd (by rw [← q]; exact h1 i (by omega)) ha
    · simp only [ei, ej, if_false] at q
      exact h3 i j (by omega) (by omega) q
theorem up_start {K : Nat → Int} {n : Nat} {P : Nat → Nat} {a : Nat} (h : HeapG K 0 n P) : UpAt K (n + 1) n (fun k => if k = n then a else P k) := by
  refine ⟨fun k k0 k1 k2 => ?_, fun k k0 k1 k2 k3 => by omega⟩
  have e1 : (k - 1) / 2 ≠ n := by omega
  simp only [e1, k2, if_false]
  exact h k k0 (by omega) (Nat.zero_le _)
theorem hold_congr {n : Nat} {P : Nat → Nat} {S T : Nat → Prop} (h : Hold n P S) (e : ∀ a, S a ↔ T a) : Hold n P T := ⟨fun i hi => (e _).1 (h.1 i hi), fun a ha => h.2.1 a ((e a).2 ha), h.2.2⟩
end Go.Proofs.Ytcialcejmjggeaa
