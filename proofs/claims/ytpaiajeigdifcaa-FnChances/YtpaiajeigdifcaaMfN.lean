/-
What is proved: rotating a list, and merging two sorted parts of one by it, in numbers.
-/
import Derived.Test.YtpaiajeigdifcaaTn
namespace Go.Proofs.Ytpaiajeigdifcaa
set_option maxRecDepth 40000
open Go.ChangeShapes Go.WideShapes Go.ChangeAt Go.RowKit
set_option linter.unusedVariables false
set_option linter.unusedSimpArgs false

/-- Two parts of a list that stand next to one another, each in the other's place. -/
def rotF (V : Nat → Int) (a m b : Nat) (k : Nat) : Int := if k < a then V k else if k < a + (b - m) then V (k - a + m) else if k < b then V (k - (b - m)) else V k
/-- Two parts of the same length, each in the other's place. -/
def swrF (V : Nat → Int) (a b n : Nat) (k : Nat) : Int := if a ≤ k ∧ k < a + n then V (k - a + b) else if b ≤ k ∧ k < b + n then V (k - b + a) else V k
theorem vcong {V : Nat → Int} {x y : Nat} (h : x = y) : V x = V y := by rw [h]
theorem swr_zero (V : Nat → Int) (a b : Nat) : swrF V a b 0 = V := by
  funext k
  unfold swrF
  rw [if_neg (by omega), if_neg (by omega)]
/-- One more pair swapped. -/
theorem swr_on {V : Nat → Int} {a b n : Nat} (h : a + (n + 1) ≤ b) (k : Nat) : (if k = b + n then swrF V a b n (a + n) else if k = a + n then swrF V a b n (b + n) else swrF V a b n k) = swrF V a b (n + 1) k := by
  unfold swrF
  by_cases h1 : k = b + n
  · rw [if_pos h1, if_neg (by omega), if_neg (by omega), if_neg (by omega), if_pos (by omega)]
    exact vcong (by omega)
  · rw [if_neg h1]
    by_cases h2 : k = a + n
    · rw [if_pos h2, if_neg (by omega), if_neg (by omega), if_pos (by omega)]
      exact vcong (by omega)
    · rw [if_neg h2]
      by_cases h3 : a ≤ k ∧ k < a + n
      · rw [if_pos h3, if_pos (by omega)]
      · rw [if_neg h3]
        by_cases h4 : b ≤ k ∧ k < b + n
        · rw [if_pos h4, if_neg (by omega), if_pos (by omega)]
        · rw [if_neg h4, if_neg (by omega), if_neg (by omega)]
theorem rot_same (V : Nat → Int) {a m b : Nat} (h1 : a ≤ m) (h2 : m ≤ b) (h : a = m ∨ m = b) : rotF V a m b = V := by
  funext k
  unfold rotF
  by_cases k1 : k < a
  · rw [if_pos k1]
  rw [if_neg k1]
  by_cases k2 : k < a + (b - m)
  · rw [if_pos k2]; exact vcong (by omega)
  rw [if_neg k2]
  by_cases k3 : k < b
  · rw [if_pos k3]; exact vcong (by omega)
  · rw [if_neg k3]
/-- The left part is the longer one: its last ones are still to be rotated. -/
theorem rot_left (V : Nat → Int) {m i j : Nat} (hi : i ≤ m) (h : j < i) (hj : 0 < j) : rotF (swrF V (m - i) m j) (m - (i - j)) m (m + j) = rotF V (m - i) m (m + j) := by
  funext k
  unfold rotF swrF
  by_cases k1 : k < m - i
  · rw [if_pos (by omega), if_pos k1, if_neg (by omega), if_neg (by omega)]
  rw [if_neg k1]
  by_cases k2 : k < m - i + (m + j - m)
  · rw [if_pos k2, if_pos (by omega), if_pos (by omega)]
  rw [if_neg k2, if_neg (by omega)]
  by_cases k3 : k < m - (i - j) + (m + j - m)
  · rw [if_pos k3, if_neg (by omega), if_pos (by omega), if_pos (by omega)]
    exact vcong (by omega)
  rw [if_neg k3]
  by_cases k4 : k < m + j
  · rw [if_pos k4, if_pos k4, if_neg (by omega), if_neg (by omega)]
  · rw [if_neg k4, if_neg k4, if_neg (by omega), if_neg (by omega)]
theorem rot_right (V : Nat → Int) {m i j : Nat} (hi : i ≤ m) (h : i < j) (h0 : 0 < i) : rotF (swrF V (m - i) (m + j - i) i) (m - i) m (m + (j - i)) = rotF V (m - i) m (m + j) := by
  funext k
  unfold rotF swrF
  by_cases k1 : k < m - i
  · rw [if_pos k1, if_pos k1, if_neg (by omega), if_neg (by omega)]
  rw [if_neg k1, if_neg k1]
  by_cases k2 : k < m - i + (m + (j - i) - m)
  · rw [if_pos k2, if_neg (by omega), if_neg (by omega), if_pos (by omega)]
  rw [if_neg k2]
  by_cases k3 : k < m + (j - i)
  · rw [if_pos k3, if_pos (by omega), if_pos (by omega)]
    exact vcong (by omega)
  rw [if_neg k3]
  by_cases k4 : k < m + j
  · by_cases k6 : k < m - i + (m + j - m)
    · omega
    · rw [if_neg (by omega), if_pos (by omega), if_neg k6, if_pos k4]
      exact vcong (by omega)
  · rw [if_neg (by omega), if_neg (by omega), if_neg (by omega), if_neg k4]
theorem rot_end (V : Nat → Int) {m i : Nat} (hi : i ≤ m) : swrF V (m - i) m i = rotF V (m - i) m (m + i) := by
  funext k
  unfold rotF swrF
  by_cases k1 : k < m - i
  · rw [if_pos k1, if_neg (by omega), if_neg (by omega)]
  rw [if_neg k1]
  by_cases k2 : k < m - i + (m + i - m)
  · rw [if_pos k2, if_pos (by omega)]
  rw [if_neg k2]
  by_cases k3 : k < m + i
  · rw [if_pos k3, if_neg (by omega), if_pos (by omega)]; exact vcong (by omega)
  · rw [if_neg k3, if_neg (by omega), if_neg (by omega)]
/-- One more step of the first one to the right. -/
theorem rot_step {V : Nat → Int} {a k : Nat} (h : a ≤ k) (j : Nat) : (if j = k + 1 then rotF V a (a + 1) (k + 1) k else if j = k then rotF V a (a + 1) (k + 1) (k + 1) else rotF V a (a + 1) (k + 1) j) = rotF V a (a + 1) (k + 2) j := by
  unfold rotF
  by_cases h1 : j = k + 1
  · rw [if_pos h1, if_neg (by omega), if_neg (by omega), if_pos (by omega), if_neg (by omega), if_neg (by omega), if_pos (by omega)]
    exact vcong (by omega)
  rw [if_neg h1]
  by_cases h2 : j = k
  · rw [if_pos h2, if_neg (by omega), if_neg (by omega), if_neg (by omega), if_neg (by omega), if_pos (by omega)]
    exact vcong (by omega)
  rw [if_neg h2]
  by_cases h3 : j < a
  · rw [if_pos h3, if_pos h3]
  rw [if_neg h3, if_neg h3]
  by_cases h4 : j < a + (k + 1 - (a + 1))
  · rw [if_pos h4, if_pos (by omega)]
  · rw [if_neg h4, if_neg (by omega), if_neg (by omega), if_neg (by omega)]
/-- One more step of the last one to the left. -/
theorem rot_down {V : Nat → Int} {m k : Nat} (h : k + 1 ≤ m) (j : Nat) : (if j = k then rotF V (k + 1) m (m + 1) (k + 1) else if j = k + 1 then rotF V (k + 1) m (m + 1) k else rotF V (k + 1) m (m + 1) j) = rotF V k m (m + 1) j := by
  unfold rotF
  by_cases h1 : j = k
  · rw [if_pos h1, if_neg (by omega), if_pos (by omega), if_neg (by omega), if_pos (by omega)]
    exact vcong (by omega)
  rw [if_neg h1]
  by_cases h2 : j = k + 1
  · rw [if_pos h2, if_pos (by omega), if_neg (by omega), if_neg (by omega), if_pos (by omega)]
    exact vcong (by omega)
  rw [if_neg h2]
  by_cases h3 : j < k
  · rw [if_pos h3, if_pos (by omega)]
  rw [if_neg h3, if_neg (by omega), if_neg (by omega), if_neg (show ¬ j < k + (m + 1 - m) by omega)]
def SortS (lt : Int → Int → Prop) (V : Nat → Int) (lo hi : Nat) : Prop := ∀ i j, lo ≤ i → i < j → j < hi → lt (V i) (V j)
def SameS (V W : Nat → Int) (lo hi : Nat) : Prop := (∀ i, lo ≤ i → i < hi → ∃ j, lo ≤ j ∧ j < hi ∧ W i = V j) ∧ (∀ j, lo ≤ j → j < hi → ∃ i, lo ≤ i ∧ i < hi ∧ W i = V j)
def OutS (V W : Nat → Int) (lo hi : Nat) : Prop := ∀ k, k < lo ∨ hi ≤ k → W k = V k
def CrossS (V : Nat → Int) (a m b : Nat) : Prop := ∀ i j, a ≤ i → i < m → m ≤ j → j < b → V i < V j
/-- All of a first part stand ahead of all of a second one. -/
def SepS (lt : Int → Int → Prop) (V : Nat → Int) (a m b : Nat) : Prop := ∀ i j, a ≤ i → i < m → m ≤ j → j < b → lt (V i) (V j)
theorem SameS.refl (V : Nat → Int) (lo hi : Nat) : SameS V V lo hi := ⟨fun i h1 h2 => ⟨i, h1, h2, rfl⟩, fun j h1 h2 => ⟨j, h1, h2, rfl⟩⟩
theorem OutS.refl (V : Nat → Int) (lo hi : Nat) : OutS V V lo hi := fun _ _ => rfl
theorem SameS.trans {V W X : Nat → Int} {lo hi : Nat} (h : SameS V W lo hi) (g : SameS W X lo hi) : SameS V X lo hi := by
  refine ⟨fun i h1 h2 => ?_, fun j h1 h2 => ?_⟩
  · obtain ⟨j, a, b, e⟩ := g.1 i h1 h2
    obtain ⟨k, c, d, f⟩ := h.1 j a b
    exact ⟨k, c, d, e.trans f⟩
  · obtain ⟨i, a, b, e⟩ := h.2 j h1 h2
    obtain ⟨k, c, d, f⟩ := g.2 i a b
    exact ⟨k, c, d, f.trans e⟩
theorem OutS.trans {V W X : Nat → Int} {lo hi : Nat} (h : OutS V W lo hi) (g : OutS W X lo hi) : OutS V X lo hi := fun k hk => (g k hk).trans (h k hk)
theorem OutS.wide {V W : Nat → Int} {lo hi lo' hi' : Nat} (h : OutS V W lo hi) (h1 : lo' ≤ lo) (h2 : hi ≤ hi') : OutS V W lo' hi' := fun k hk => h k (by omega)
theorem SameS.sub {V W : Nat → Int} {lo hi a b : Nat} (h : SameS V W lo hi) (o : OutS V W lo hi) (h1 : a ≤ lo) (h2 : hi ≤ b) (h3 : lo ≤ hi) : SameS V W a b := by
  refine ⟨fun i g1 g2 => ?_, fun j g1 g2 => ?_⟩
  · by_cases q : lo ≤ i ∧ i < hi
    · obtain ⟨j, x, y, e⟩ := h.1 i q.1 q.2
      exact ⟨j, by omega, by omega, e⟩
    · exact ⟨i, g1, g2, o i (by omega)⟩
  · by_cases q : lo ≤ j ∧ j < hi
    · obtain ⟨i, x, y, e⟩ := h.2 j q.1 q.2
      exact ⟨i, by omega, by omega, e⟩
    · exact ⟨j, g1, g2, o j (by omega)⟩
theorem rot_out (V : Nat → Int) {a m b : Nat} (h1 : a ≤ m) (h2 : m ≤ b) : OutS V (rotF V a m b) a b := fun k hk => by
  unfold rotF
  by_cases q : k < a
  · rw [if_pos q]
  · rw [if_neg q, if_neg (by omega), if_neg (by omega)]
theorem rot_A (V : Nat → Int) {a m b k : Nat} (h1 : a ≤ m) (h2 : m ≤ b) (k1 : a ≤ k) (k2 : k < a + (b - m)) : rotF V a m b k = V (k - a + m) := by
  unfold rotF
  rw [if_neg (by omega), if_pos k2]
theorem rot_B (V : Nat → Int) {a m b k : Nat} (h1 : a ≤ m) (h2 : m ≤ b) (k1 : a + (b - m) ≤ k) (k2 : k < b) : rotF V a m b k = V (k - (b - m)) := by
  unfold rotF
  rw [if_neg (by omega), if_neg (by omega), if_pos k2]
theorem rot_sameS (V : Nat → Int) {a m b : Nat} (h1 : a ≤ m) (h2 : m ≤ b) : SameS V (rotF V a m b) a b := by
  refine ⟨fun i g1 g2 => ?_, fun j g1 g2 => ?_⟩
  · by_cases q : i < a + (b - m)
    · exact ⟨i - a + m, by omega, by omega, rot_A V h1 h2 g1 q⟩
    · exact ⟨i - (b - m), by omega, by omega, rot_B V h1 h2 (by omega) g2⟩
  · by_cases q : j < m
    · exact ⟨j + (b - m), by omega, by omega, by rw [rot_B V h1 h2 (by omega) (by omega)]; exact vcong (by omega)⟩
    · exact ⟨j - m + a, by omega, by omega, by rw [rot_A V h1 h2 (by omega) (by omega)]; exact vcong (by omega)⟩
/-- Two sorted parts, all of the one ahead of all of the other. -/
theorem sort_join {lt : Int → Int → Prop} {V : Nat → Int} {a m b : Nat} (h1 : SortS lt V a m) (h2 : SortS lt V m b) (h : SepS lt V a m b) : SortS lt V a b := fun i j g1 g2 g3 => by
  by_cases q : j < m
  · exact h1 i j g1 g2 q
  · by_cases q2 : i < m
    · exact h i j g1 q2 (by omega) g3
    · exact h2 i j (by omega) g2 g3
/-- What a step of a merge comes to: where the parts are cut at s and e, and rotated. -/
theorem merge_cut {lt : Int → Int → Prop} (tr : ∀ x y z, lt x y → lt y z → lt x z) {V : Nat → Int} {a s m e b : Nat} (h1 : a ≤ s) (h2 : s ≤ m) (h3 : m ≤ e) (h4 : e ≤ b) (hL : SortS lt V a m) (hR : SortS lt V m b) (c1 : a < s → e < b → lt (V (s - 1)) (V e)) (c2 : m < e → s < m → lt (V (e - 1)) (V s)) :
    SepS lt (rotF V s m e) a (s + (e - m)) b ∧ SortS lt (rotF V s m e) a s ∧ SortS lt (rotF V s m e) s (s + (e - m)) ∧ SortS lt (rotF V s m e) (s + (e - m)) e ∧ SortS lt (rotF V s m e) e b := by
  have o := rot_out V h2 h3
  have le : ∀ i j, a ≤ i → i ≤ j → j < m → lt (V i) (V j) ∨ i = j := fun i j g1 g2 g3 => by
    by_cases q : i = j
    · exact Or.inr q
    · exact Or.inl (hL i j g1 (by omega) g3)
  have re : ∀ i j, m ≤ i → i ≤ j → j < b → lt (V i) (V j) ∨ i = j := fun i j g1 g2 g3 => by
    by_cases q : i = j
    · exact Or.inr q
    · exact Or.inl (hR i j g1 (by omega) g3)
  -- L1 ahead of R2, R1 ahead of L2
  have k1 : ∀ i j, a ≤ i → i < s → e ≤ j → j < b → lt (V i) (V j) := fun i j g1 g2 g3 g4 => by
    have c := c1 (by omega) (by omega)
    have p : lt (V i) (V e) := by
      rcases le i (s - 1) g1 (by omega) (by omega) with q | q
      · exact tr _ _ _ q c
      · rw [q]; exact c
    rcases re e j (by omega) g3 g4 with q | q
    · exact tr _ _ _ p q
    · rw [← q]; exact p
  have k2 : ∀ i j, m ≤ i → i < e → s ≤ j → j < m → lt (V i) (V j) := fun i j g1 g2 g3 g4 => by
    have c := c2 (by omega) (by omega)
    have p : lt (V i) (V s) := by
      rcases re i (e - 1) g1 (by omega) (by omega) with q | q
      · exact tr _ _ _ q c
      · rw [q]; exact c
    rcases le s j (by omega) g3 g4 with q | q
    · exact tr _ _ _ p q
    · rw [← q]; exact p
  refine ⟨fun i j g1 g2 g3 g4 => ?_, fun i j g1 g2 g3 => ?_, fun i j g1 g2 g3 => ?_, fun i j g1 g2 g3 => ?_, fun i j g1 g2 g3 => ?_⟩
  · by_cases qi : i < s
    · rw [o i (Or.inl qi)]
      by_cases qj : j < e
      · rw [rot_B V h2 h3 g3 qj]; exact hL _ _ g1 (by omega) (by omega)
      · rw [o j (Or.inr (by omega))]; exact k1 i j g1 qi (by omega) g4
    · rw [rot_A V h2 h3 (by omega) g2]
      by_cases qj : j < e
      · rw [rot_B V h2 h3 g3 qj]; exact k2 _ _ (by omega) (by omega) (by omega) (by omega)
      · rw [o j (Or.inr (by omega))]; exact hR _ _ (by omega) (by omega) g4
  · rw [o i (Or.inl (by omega)), o j (Or.inl (by omega))]; exact hL i j g1 g2 (by omega)
  · rw [rot_A V h2 h3 g1 (by omega), rot_A V h2 h3 (by omega) g3]; exact hR _ _ (by omega) (by omega) (by omega)
  · rw [rot_B V h2 h3 g1 (by omega), rot_B V h2 h3 (by omega) g3]; exact hL _ _ (by omega) (by omega) (by omega)
  · rw [o i (Or.inr (by omega)), o j (Or.inr (by omega))]; exact hR i j (by omega) g2 g3
theorem SortS.one (lt : Int → Int → Prop) (V : Nat → Int) {lo hi : Nat} (h : hi ≤ lo + 1) : SortS lt V lo hi := fun i j g1 g2 g3 => by omega
theorem SortS.part {lt : Int → Int → Prop} {V : Nat → Int} {lo hi a b : Nat} (h : SortS lt V lo hi) (h1 : lo ≤ a) (h2 : b ≤ hi) : SortS lt V a b := fun i j g1 g2 g3 => h i j (by omega) g2 (by omega)
theorem SortS.out {lt : Int → Int → Prop} {V W : Nat → Int} {lo hi a b : Nat} (h : SortS lt V a b) (o : OutS V W lo hi) (g : b ≤ lo ∨ hi ≤ a) : SortS lt W a b := fun i j g1 g2 g3 => by rw [o i (by omega), o j (by omega)]; exact h i j g1 g2 g3
/-- The data in the block b. -/
def DatF (w : World) (b n : Nat) (V : Nat → Int) : Prop := b < w.heap.size ∧ (∀ o, w.frozen? ⟨b, o, none⟩ = false) ∧ ∀ k, k < n → w.cell? ⟨b, k, none⟩ = some (.int .u32 (V k))
theorem DatF.below {w w' : World} {b n : Nat} {V : Nat → Int} (h : DatF w b n V) (hb : Below w.heap.size w w') : DatF w' b n V := ⟨Nat.lt_of_lt_of_le h.1 hb.size, fun o => (hb.frozen (p := ⟨b, o, none⟩) h.1).trans (h.2.1 o), fun k hk => (hb.cell (p := ⟨b, k, none⟩) h.1).trans (h.2.2 k hk)⟩
theorem DatF.swap {w : World} {b n i j : Nat} {V : Nat → Int} (h : DatF w b n V) (hi : i < n) (hj : j < n) (ne : i ≠ j) : DatF ((w.setCell ⟨b, i, none⟩ (.int .u32 (V j))).setCell ⟨b, j, none⟩ (.int .u32 (V i))) b n (fun k => if k = j then V i else if k = i then V j else V k) := by
  obtain ⟨h1, h2, h3⟩ := h
  refine ⟨by simpa using h1, fun o => by simp [go_sem, h2], fun k hk => ?_⟩
  by_cases q : k = j
  · subst q
    simp [go_sem, h3 _ hj, ne.symm]
  · by_cases q2 : k = i
    · subst q2
      simp [go_sem, h3 _ hi, ne]
    · simp [go_sem, h3 _ hk, q, q2]
theorem DatF.congr {w : World} {b n : Nat} {V W : Nat → Int} (h : DatF w b n V) (e : ∀ k, k < n → V k = W k) : DatF w b n W := ⟨h.1, h.2.1, fun k hk => by rw [← e k hk]; exact h.2.2 k hk⟩
end Go.Proofs.Ytpaiajeigdifcaa
