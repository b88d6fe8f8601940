/-
What is proved: sets of basics as numbers and as rising lists; their order; lists of cuts in numbers.
-/
import Derived.Test.YtpaiajeigdifcaaQcA
namespace Go.Proofs.Ytpaiajeigdifcaa
set_option maxRecDepth 40000
open Go.ChangeShapes Go.WideShapes Go.ChangeAt Go.RowKit
set_option linter.unusedVariables false
set_option linter.unusedSimpArgs false

def lsT (b : Nat) : Nat → List Int
  | 0 => []
  | k + 1 => if b.testBit k = true then lsT b k ++ [(k : Int)] else lsT b k
def rvN (b : Nat) : Nat → Nat
  | 0 => 0
  | k + 1 => rvN b k + (if b.testBit k = true then 2 ^ (9 - k) else 0)
theorem rev_all : ((List.range 1024).all fun x => (revF (x : Int) == ((4194304 * rvN x 10 : Nat) : Int)) && (popS x == (lsT x 10).length)) = true := by kernel_rfl
theorem rev_at {x : Nat} (hx : x < 1024) : revF (x : Int) = ((4194304 * rvN x 10 : Nat) : Int) ∧ popS x = (lsT x 10).length := by
  have h := List.all_eq_true.1 rev_all x (List.mem_range.2 hx)
  rw [Bool.and_eq_true] at h
  exact ⟨by simpa using h.1, by simpa using h.2⟩
theorem ls_in {b k : Nat} : ∀ y, y ∈ lsT b k → 0 ≤ y ∧ y < (k : Int) := by
  induction k with
  | zero => intro y hy; cases hy
  | succ k ih =>
    intro y hy
    unfold lsT at hy
    split at hy
    · rcases List.mem_append.1 hy with h | h
      · have := ih y h; omega
      · have : y = (k : Int) := by simpa using h
        omega
    · have := ih y hy; omega
theorem ls_cut (b i : Nat) : ∀ k, i ≤ k → ∃ R, lsT b k = lsT b i ++ R ∧ ∀ y, y ∈ R → (i : Int) ≤ y := by
  intro k
  induction k with
  | zero => intro h; obtain rfl : i = 0 := by omega
            exact ⟨[], rfl, fun y hy => by cases hy⟩
  | succ k ih =>
    intro h
    by_cases e : i = k + 1
    · subst e; exact ⟨[], (List.append_nil _).symm, fun y hy => by cases hy⟩
    · obtain ⟨R, h1, h2⟩ := ih (by omega)
      show ∃ R, (if b.testBit k = true then lsT b k ++ [(k : Int)] else lsT b k) = lsT b i ++ R ∧ _
      split
      · refine ⟨R ++ [(k : Int)], by rw [h1, List.append_assoc], fun y hy => ?_⟩
        rcases List.mem_append.1 hy with q | q
        · exact h2 y q
        · have : y = (k : Int) := by simpa using q
          omega
      · exact ⟨R, h1, h2⟩
theorem ls_same {b c : Nat} : ∀ {i : Nat}, (∀ j, j < i → b.testBit j = c.testBit j) → lsT b i = lsT c i := by
  intro i
  induction i with
  | zero => intro _; rfl
  | succ i ih => intro h; unfold lsT; rw [ih (fun j hj => h j (by omega)), h i (by omega)]
theorem rv_same {b c : Nat} : ∀ {i : Nat}, (∀ j, j < i → b.testBit j = c.testBit j) → rvN b i = rvN c i := by
  intro i
  induction i with
  | zero => intro _; rfl
  | succ i ih => intro h; unfold rvN; rw [ih (fun j hj => h j (by omega)), h i (by omega)]
theorem rv_mono (b i : Nat) : ∀ k, i ≤ k → rvN b i ≤ rvN b k := by
  intro k
  induction k with
  | zero => intro h; obtain rfl : i = 0 := by omega
            exact Nat.le_refl _
  | succ k ih =>
    intro h
    by_cases e : i = k + 1
    · subst e; exact Nat.le_refl _
    · have := ih (by omega)
      show _ ≤ rvN b k + _
      omega
theorem rv_tail (b i : Nat) : ∀ k, i ≤ k → k ≤ 10 → rvN b k + 2 ^ (10 - k) ≤ rvN b i + 2 ^ (10 - i) := by
  intro k
  induction k with
  | zero => intro h _; obtain rfl : i = 0 := by omega
            exact Nat.le_refl _
  | succ k ih =>
    intro h hk
    by_cases e : i = k + 1
    · subst e; exact Nat.le_refl _
    · have h1 := ih (by omega) (by omega)
      have h2 : 2 ^ (10 - k) = 2 ^ (9 - k) + 2 ^ (9 - k) := by rw [show 10 - k = 9 - k + 1 by omega, Nat.pow_succ]; omega
      have h3 : 10 - (k + 1) = 9 - k := by omega
      have h4 : 0 < 2 ^ (9 - k) := Nat.two_pow_pos _
      rw [h3]
      show rvN b k + (if b.testBit k = true then 2 ^ (9 - k) else 0) + _ ≤ _
      split <;> omega
theorem first_diff (b c : Nat) : ∀ n, (∀ j, j < n → b.testBit j = c.testBit j) ∨ ∃ i, i < n ∧ (∀ j, j < i → b.testBit j = c.testBit j) ∧ b.testBit i ≠ c.testBit i := by
  intro n
  induction n with
  | zero => exact Or.inl (fun j h => by omega)
  | succ n ih =>
    rcases ih with h | ⟨i, h1, h2, h3⟩
    · by_cases e : b.testBit n = c.testBit n
      · exact Or.inl (fun j hj => by
          by_cases q : j = n
          · rw [q]; exact e
          · exact h j (by omega))
      · exact Or.inr ⟨n, by omega, h, e⟩
    · exact Or.inr ⟨i, by omega, h2, h3⟩
theorem bits_eq {b c : Nat} (hb : b < 1024) (hc : c < 1024) (h : ∀ j, j < 10 → b.testBit j = c.testBit j) : b = c := by
  refine Nat.eq_of_testBit_eq fun j => ?_
  by_cases q : j < 10
  · exact h j q
  · have e : 1024 ≤ 2 ^ j := (Nat.pow_le_pow_right (by decide) (by omega) : 2 ^ 10 ≤ 2 ^ j)
    rw [Nat.testBit_lt_two_pow (by omega), Nat.testBit_lt_two_pow (by omega)]
theorem ls_all {b x : Nat} (hb : b < 2 ^ x) (hx : x ≤ 10) : lsT b 10 = lsT b x := by
  have key : ∀ k, x ≤ k → lsT b k = lsT b x := by
    intro k
    induction k with
    | zero => intro h; obtain rfl : x = 0 := by omega
              rfl
    | succ k ih =>
      intro h
      by_cases e : x = k + 1
      · rw [e]
      · have h2 : 2 ^ x ≤ 2 ^ k := Nat.pow_le_pow_right (by decide) (by omega)
        show (if b.testBit k = true then lsT b k ++ [(k : Int)] else lsT b k) = _
        rw [Nat.testBit_lt_two_pow (by omega), if_neg (by decide), ih (by omega)]
  exact key 10 hx
theorem ls_len (b : Nat) : ∀ k, (lsT b k).length ≤ k := by
  intro k
  induction k with
  | zero => exact Nat.le_refl _
  | succ k ih =>
    unfold lsT
    split
    · rw [List.length_append]; simp; exact ih
    · omega
theorem pop_le {b x : Nat} (hb : b < 2 ^ x) (hx : x ≤ 10) : popS b ≤ x := by
  have h1 : 2 ^ x ≤ 2 ^ 10 := Nat.pow_le_pow_right (by decide) hx
  rw [(rev_at (by omega)).2, ls_all hb hx]
  exact ls_len b x
theorem nth_left {A R : List Int} {j : Nat} (h : j < A.length) : nthI (A ++ R) j = nthI A j := by
  unfold nthI
  simp [List.getD_eq_getElem?_getD, List.getElem?_append_left h]
theorem nth_mid (A R : List Int) (y : Int) : nthI (A ++ y :: R) A.length = y := by
  unfold nthI
  simp [List.getD_eq_getElem?_getD]
theorem nth_mem {L : List Int} {j : Nat} (h : j < L.length) : nthI L j ∈ L := by
  unfold nthI
  rw [List.getD_eq_getElem?_getD, List.getElem?_eq_getElem h]
  exact List.getElem_mem h
/-- Is a list ahead of another one as long? -/
def lesL (A B : Nat → Int) (n : Nat) : Prop := ∃ p, p < n ∧ (∀ q, q < p → A q = B q) ∧ A p < B p
theorem les_anti {A B : Nat → Int} {n : Nat} (h : lesL A B n) (g : lesL B A n) : False := by
  obtain ⟨p, p1, p2, p3⟩ := h
  obtain ⟨q, q1, q2, q3⟩ := g
  rcases Nat.lt_trichotomy p q with e | e | e
  · have := q2 p e; omega
  · subst e; omega
  · have := p2 q e; omega
theorem lt_diff {b c i : Nat} (hb : b < 1024) (hc : c < 1024) (hp : popS b = popS c) (hi : i < 10) (hs : ∀ j, j < i → b.testBit j = c.testBit j) (h1 : b.testBit i = true) (h2 : c.testBit i = false) : lesL (nthI (lsT b 10)) (nthI (lsT c 10)) (popS b) ∧ ltF (b : Int) (c : Int) := by
  obtain ⟨rb, pb⟩ := rev_at hb
  obtain ⟨rc, pc⟩ := rev_at hc
  constructor
  · obtain ⟨R, r1, r2⟩ := ls_cut b (i + 1) 10 (by omega)
    obtain ⟨T, t1, t2⟩ := ls_cut c (i + 1) 10 (by omega)
    have e1 : lsT b (i + 1) = lsT b i ++ [(i : Int)] := by show (if b.testBit i = true then lsT b i ++ [(i : Int)] else lsT b i) = _; rw [if_pos h1]
    have e2 : lsT c (i + 1) = lsT b i := by show (if c.testBit i = true then lsT c i ++ [(i : Int)] else lsT c i) = _; rw [h2, if_neg (by decide), ls_same hs]
    rw [e1, List.append_assoc] at r1
    rw [e2] at t1
    have hl : (lsT b i).length + 1 + R.length = (lsT b i).length + T.length := by
      have := pb.symm.trans (hp.trans pc)
      rw [r1, t1] at this
      simp at this
      omega
    refine ⟨(lsT b i).length, by rw [pb, r1]; simp, fun q hq => ?_, ?_⟩
    · rw [r1, t1, nth_left hq, nth_left hq]
    · rw [r1]
      show nthI (lsT b i ++ (i : Int) :: R) _ < _
      rw [nth_mid, t1]
      cases T with
      | nil => simp at hl; omega
      | cons y T =>
        rw [nth_mid]
        have := t2 y (List.mem_cons_self ..)
        omega
  · right
    refine ⟨by show (popS ((b : Int).toNat) : Int) = (popS ((c : Int).toNat) : Int); simp [hp], Or.inl ?_⟩
    rw [rb, rc]
    have a1 := rv_same hs
    have a2 := rv_mono b (i + 1) 10 (by omega)
    have a3 := rv_tail c (i + 1) 10 (by omega) (Nat.le_refl _)
    have a4 : rvN b (i + 1) = rvN b i + 2 ^ (9 - i) := by show rvN b i + (if b.testBit i = true then 2 ^ (9 - i) else 0) = _; rw [if_pos h1]
    have a5 : rvN c (i + 1) = rvN c i := by show rvN c i + (if c.testBit i = true then 2 ^ (9 - i) else 0) = _; rw [h2]; rfl
    have a6 : 10 - (i + 1) = 9 - i := by omega
    have a7 : 2 ^ (10 - 10) = 1 := rfl
    rw [a6, a7] at a3
    omega
theorem les_is {b c : Nat} (hb : b < 1024) (hc : c < 1024) (hp : popS b = popS c) : lesL (nthI (lsT b 10)) (nthI (lsT c 10)) (popS b) ↔ ltF (b : Int) (c : Int) := by
  rcases first_diff b c 10 with h | ⟨i, h1, h2, h3⟩
  · have e := bits_eq hb hc h
    subst e
    exact ⟨fun ⟨p, _, _, q⟩ => by omega, fun q => absurd q (ltF_irr _)⟩
  · cases e1 : b.testBit i
    · have e2 : c.testBit i = true := by cases e2 : c.testBit i
                                         · rw [e1, e2] at h3; exact absurd rfl h3
                                         · rfl
      obtain ⟨k1, k2⟩ := lt_diff hc hb hp.symm h1 (fun j hj => (h2 j hj).symm) e2 e1
      rw [← hp] at k1
      exact ⟨fun q => (les_anti q k1).elim, fun q => absurd (ltF_tr _ _ _ q k2) (ltF_irr _)⟩
    · have e2 : c.testBit i = false := by cases e2 : c.testBit i
                                          · rfl
                                          · rw [e1, e2] at h3; exact absurd rfl h3
      obtain ⟨k1, k2⟩ := lt_diff hb hc hp h1 h2 e1 e2
      exact ⟨fun _ => k2, fun _ => k1⟩
/-- The numbers below N of which P holds, in their order. -/
def CutG (P : Nat → Bool) (N m : Nat) (W : Nat → Int) : Prop := SortS ltF W 0 m ∧ (∀ i, i < m → ∃ j : Nat, j < N ∧ W i = (j : Int) ∧ P j = true) ∧ ∀ j : Nat, j < N → P j = true → ∃ i, i < m ∧ W i = (j : Int)
def CutR (ok : Bool) (P : Nat → Bool) (N m : Nat) (W : Nat → Int) : Prop := (ok = true → CutG P N m W) ∧ (ok = false → m = 0)
theorem cut_same {P : Nat → Bool} {N k l : Nat} {W U : Nat → Int} (h : CutG P N k W) (g : CutG P N l U) : ∀ i, i < k → i < l → W i = U i := by
  intro i
  induction i using Nat.strongRecOn with
  | _ i ih =>
    intro hk hl
    obtain ⟨a, a1, a2, a3⟩ := h.2.1 i hk
    obtain ⟨b, b1, b2, b3⟩ := g.2.1 i hl
    obtain ⟨p, p1, p2⟩ := g.2.2 a a1 a3
    obtain ⟨q, q1, q2⟩ := h.2.2 b b1 b3
    have ep : U p = W i := p2.trans a2.symm
    have eq : W q = U i := q2.trans b2.symm
    by_cases c1 : p < i
    · have := ih p c1 (by omega) p1
      have l1 := h.1 p i (Nat.zero_le _) c1 hk
      rw [this, ep] at l1
      exact absurd l1 (ltF_irr _)
    · by_cases c2 : q < i
      · have := ih q c2 q1 (by omega)
        have l1 := g.1 q i (Nat.zero_le _) c2 hl
        rw [← this, eq] at l1
        exact absurd l1 (ltF_irr _)
      · by_cases d1 : p = i
        · rw [← ep, d1]
        · by_cases d2 : q = i
          · rw [← eq, d2]
          · have l1 := g.1 i p (Nat.zero_le _) (by omega) p1
            have l2 := h.1 i q (Nat.zero_le _) (by omega) q1
            rw [ep] at l1
            rw [eq] at l2
            exact absurd (ltF_tr _ _ _ l1 l2) (ltF_irr _)
theorem cut_len {P : Nat → Bool} {N k l : Nat} {W U : Nat → Int} (h : CutG P N k W) (g : CutG P N l U) : k ≤ l := by
  by_cases c : k ≤ l
  · exact c
  · obtain ⟨a, a1, a2, a3⟩ := h.2.1 l (by omega)
    obtain ⟨p, p1, p2⟩ := g.2.2 a a1 a3
    have e := cut_same h g p (by omega) p1
    have l1 := h.1 p l (Nat.zero_le _) p1 (by omega)
    rw [e, p2, a2] at l1
    exact absurd l1 (ltF_irr _)
theorem pigeon : ∀ (n k : Nat) (f : Nat → Nat), (∀ i, i < k → f i < n) → (∀ i j, i < j → j < k → f i ≠ f j) → k ≤ n := by
  intro n
  induction n with
  | zero =>
    intro k f h _
    by_cases c : k = 0
    · omega
    · have := h 0 (by omega); omega
  | succ n ih =>
    intro k f h g
    by_cases c : k = 0
    · omega
    · obtain ⟨l, rfl⟩ : ∃ l, k = l + 1 := ⟨k - 1, by omega⟩
      have := ih l (fun i => if f i = n then f l else f i) (fun i hi => by
        have a := h i (by omega)
        have b := h l (by omega)
        have d := g i l hi (by omega)
        show (if f i = n then f l else f i) < n
        split <;> omega) (fun i j hi hj => by
        have a := g i j hi (by omega)
        have b := g j l hj (by omega)
        have d := g i l (by omega) (by omega)
        show (if f i = n then f l else f i) ≠ (if f j = n then f l else f j)
        split <;> split <;> omega)
      omega
theorem cut_le {P : Nat → Bool} {N k : Nat} {W : Nat → Int} (h : SortS ltF W 0 k) (h2 : ∀ i, i < k → ∃ j : Nat, j < N ∧ W i = (j : Int)) : k ≤ N := by
  refine pigeon N k (fun i => (W i).toNat) (fun i hi => ?_) (fun i j hi hj => ?_)
  · obtain ⟨a, a1, a2⟩ := h2 i hi
    show (W i).toNat < N
    omega
  · obtain ⟨a, a1, a2⟩ := h2 i (by omega)
    obtain ⟨b, b1, b2⟩ := h2 j hj
    intro e
    have e : (W i).toNat = (W j).toNat := e
    have l1 := h i j (Nat.zero_le _) hi hj
    rw [show W j = W i by omega] at l1
    exact absurd l1 (ltF_irr _)
theorem cut_ex (ok : Bool) (P : Nat → Bool) (N : Nat) : ∃ (K : Nat) (F : Nat → Int), K ≤ N ∧ (∀ i, i < K → ∃ j : Nat, j < N ∧ F i = (j : Int)) ∧ ∀ k W, CutR ok P N k W → k = K ∧ ∀ i, i < k → W i = F i := by
  cases e : ok
  · exact ⟨0, fun _ => 0, Nat.zero_le _, fun i hi => by omega, fun k W h => by have := h.2 rfl; subst this; exact ⟨rfl, fun i hi => by omega⟩⟩
  · rcases Classical.em (∃ k W, CutG P N k W) with ⟨K, F, h⟩ | h
    · exact ⟨K, F, cut_le (P := P) h.1 (fun i hi => by obtain ⟨j, a, b, _⟩ := h.2.1 i hi; exact ⟨j, a, b⟩), fun i hi => by obtain ⟨j, a, b, _⟩ := h.2.1 i hi; exact ⟨j, a, b⟩, fun k W g => ⟨Nat.le_antisymm (cut_len (g.1 rfl) h) (cut_len h (g.1 rfl)), fun i hi => cut_same (g.1 rfl) h i hi (by have := cut_len (g.1 rfl) h; omega)⟩⟩
    · exact ⟨0, fun _ => 0, Nat.zero_le _, fun i hi => by omega, fun k W g => absurd ⟨k, W, g.1 rfl⟩ h⟩
/-- Those below k, as they come. -/
def CutA (P : Nat → Bool) (k m : Nat) (U : Nat → Int) : Prop := m ≤ k ∧ SortS (· < ·) U 0 m ∧ (∀ i, i < m → ∃ j : Nat, j < k ∧ U i = (j : Int) ∧ P j = true) ∧ ∀ j : Nat, j < k → P j = true → ∃ i, i < m ∧ U i = (j : Int)
theorem cutA_zero (P : Nat → Bool) (U : Nat → Int) : CutA P 0 0 U := ⟨Nat.le_refl _, fun i j _ _ h => by omega, fun i h => by omega, fun j h => by omega⟩
theorem cutA_keep {P : Nat → Bool} {k m : Nat} {U : Nat → Int} (h : CutA P k m U) (hk : P k = false) : CutA P (k + 1) m U := by
  obtain ⟨a, b, c, d⟩ := h
  refine ⟨by omega, b, fun i hi => ?_, fun j hj hd => ?_⟩
  · obtain ⟨j, j1, j2⟩ := c i hi
    exact ⟨j, by omega, j2⟩
  · by_cases q : j = k
    · subst q; rw [hk] at hd; cases hd
    · exact d j (by omega) hd
theorem cutA_more {P : Nat → Bool} {k m : Nat} {U U' : Nat → Int} (h : CutA P k m U) (hk : P k = true) (e1 : ∀ i, i < m → U' i = U i) (e2 : U' m = (k : Int)) : CutA P (k + 1) (m + 1) U' := by
  obtain ⟨a, b, c, d⟩ := h
  refine ⟨by omega, fun i j _ g2 g3 => ?_, fun i hi => ?_, fun j hj hd => ?_⟩
  · rw [e1 i (by omega)]
    by_cases q : j < m
    · rw [e1 j q]; exact b i j (Nat.zero_le _) g2 q
    · obtain rfl : j = m := by omega
      rw [e2]
      obtain ⟨x, x1, x2, _⟩ := c i (by omega)
      omega
  · by_cases q : i < m
    · obtain ⟨j, j1, j2⟩ := c i q
      exact ⟨j, by omega, by rw [e1 i q]; exact j2⟩
    · obtain rfl : i = m := by omega
      exact ⟨k, by omega, e2, hk⟩
  · by_cases q : j = k
    · subst q; exact ⟨m, by omega, e2⟩
    · obtain ⟨i, i1, i2⟩ := d j (by omega) hd
      exact ⟨i, by omega, by rw [e1 i i1]; exact i2⟩
theorem cutA_sorted {P : Nat → Bool} {n m : Nat} {U W : Nat → Int} (h : CutA P n m U) (h1 : SortS ltF W 0 m) (h2 : SameS U W 0 m) : CutG P n m W := by
  obtain ⟨a, b, c, d⟩ := h
  refine ⟨h1, fun i hi => ?_, fun j hj hd => ?_⟩
  · obtain ⟨x, _, x2, x3⟩ := h2.1 i (Nat.zero_le _) hi
    rw [x3]; exact c x x2
  · obtain ⟨i, i1, i2⟩ := d j hj hd
    obtain ⟨x, _, x2, x3⟩ := h2.2 i (Nat.zero_le _) i1
    exact ⟨x, x2, x3.trans i2⟩
/-- How far the specification has come: all of fewer than z, and of z those below k; f of them have fewer than z. -/
def CutZ (P : Nat → Bool) (N z k f m : Nat) (W : Nat → Int) : Prop := f ≤ m ∧ SortS ltF W 0 m ∧ (∀ i, i < f → ∃ j : Nat, j < N ∧ W i = (j : Int) ∧ P j = true ∧ popS j < z) ∧ (∀ i, f ≤ i → i < m → ∃ j : Nat, j < N ∧ W i = (j : Int) ∧ P j = true ∧ popS j = z ∧ j < k) ∧ ∀ j : Nat, j < N → P j = true → (popS j < z ∨ (popS j = z ∧ j < k)) → ∃ i, i < m ∧ W i = (j : Int)
theorem cutZ_zero (P : Nat → Bool) (N : Nat) (W : Nat → Int) : CutZ P N 0 0 0 0 W := ⟨Nat.le_refl _, fun i j _ _ h => by omega, fun i h => by omega, fun i _ h => by omega, fun j _ _ h => by omega⟩
theorem cutZ_skip {P : Nat → Bool} {N z k f m : Nat} {W : Nat → Int} (h : CutZ P N z k f m W) (hk : popS k ≠ z ∨ P k = false) : CutZ P N z (k + 1) f m W := by
  obtain ⟨a, b, c, d, e⟩ := h
  refine ⟨a, b, c, fun i h1 h2 => ?_, fun j h1 h2 h3 => ?_⟩
  · obtain ⟨j, j1, j2, j3, j4, j5⟩ := d i h1 h2
    exact ⟨j, j1, j2, j3, j4, by omega⟩
  · by_cases q : j = k
    · subst q
      rcases hk with g | g
      · exact e j h1 h2 (by omega)
      · rw [g] at h2; cases h2
    · exact e j h1 h2 (by omega)
theorem cutZ_next {P : Nat → Bool} {N z f m : Nat} {W : Nat → Int} (h : CutZ P N z N f m W) : CutZ P N (z + 1) 0 m m W := by
  obtain ⟨a, b, c, d, e⟩ := h
  refine ⟨Nat.le_refl _, b, fun i h1 => ?_, fun i h1 h2 => by omega, fun j h1 h2 h3 => e j h1 h2 (by omega)⟩
  by_cases q : i < f
  · obtain ⟨j, j1, j2, j3, j4⟩ := c i q
    exact ⟨j, j1, j2, j3, by omega⟩
  · obtain ⟨j, j1, j2, j3, j4, j5⟩ := d i (by omega) h1
    exact ⟨j, j1, j2, j3, by omega⟩
def insF (W : Nat → Int) (a : Nat) (x : Int) (i : Nat) : Int := if i < a then W i else if i = a then x else W (i - 1)
theorem cutZ_in {P : Nat → Bool} {N z k f m : Nat} {W : Nat → Int} (h : CutZ P N z k f m W) {i : Nat} (hi : i < m) : ∃ j : Nat, j < N ∧ W i = (j : Int) := by
  obtain ⟨a, b, c, d, e⟩ := h
  by_cases q : i < f
  · obtain ⟨j, j1, j2, _⟩ := c i q; exact ⟨j, j1, j2⟩
  · obtain ⟨j, j1, j2, _⟩ := d i (by omega) hi; exact ⟨j, j1, j2⟩
theorem cutZ_le {P : Nat → Bool} {N z k f m : Nat} {W : Nat → Int} (h : CutZ P N z k f m W) : m ≤ N := cut_le (P := P) h.2.1 (fun i hi => cutZ_in h hi)
theorem cutZ_ins {P : Nat → Bool} {N z k f m a : Nat} {W : Nat → Int} (h : CutZ P N z k f m W) (hk : k < N) (hp : P k = true) (hz : popS k = z) (ha : f ≤ a) (hm : a ≤ m) (h1 : ∀ i, a ≤ i → i < m → ltF (k : Int) (W i)) (h2 : f < a → ¬ ltF (k : Int) (W (a - 1))) : CutZ P N z (k + 1) f (m + 1) (insF W a (k : Int)) := by
  obtain ⟨p, b, c, d, e⟩ := h
  have hl : ∀ i, i < a → ltF (W i) (k : Int) := by
    intro i hi
    by_cases q : i < f
    · obtain ⟨j, j1, j2, j3, j4⟩ := c i q
      rw [j2]
      left
      show (popS ((j : Int).toNat) : Int) < (popS ((k : Int).toNat) : Int)
      simp only [Int.toNat_natCast]
      omega
    · have last : ltF (W (a - 1)) (k : Int) := by
        obtain ⟨j, j1, j2, j3, j4, j5⟩ := d (a - 1) (by omega) (by omega)
        have := h2 (by omega)
        rw [j2] at this ⊢
        exact ltF_tot _ _ (by omega) this
      by_cases q2 : i = a - 1
      · rw [q2]; exact last
      · exact ltF_tr _ _ _ (b i (a - 1) (Nat.zero_le _) (by omega) (by omega)) last
  refine ⟨by omega, fun i j _ g2 g3 => ?_, fun i hi => ?_, fun i g1 g2 => ?_, fun j g1 g2 g3 => ?_⟩
  · unfold insF
    by_cases q1 : i < a
    · rw [if_pos q1]
      by_cases q2 : j < a
      · rw [if_pos q2]; exact b i j (Nat.zero_le _) g2 (by omega)
      · rw [if_neg q2]
        by_cases q3 : j = a
        · rw [if_pos q3]; exact hl i q1
        · rw [if_neg q3]; exact b i (j - 1) (Nat.zero_le _) (by omega) (by omega)
    · rw [if_neg q1, if_neg (show ¬ j < a by omega), if_neg (show ¬ j = a by omega)]
      by_cases q3 : i = a
      · rw [if_pos q3]; exact h1 (j - 1) (by omega) (by omega)
      · rw [if_neg q3]; exact b (i - 1) (j - 1) (Nat.zero_le _) (by omega) (by omega)
  · unfold insF
    rw [if_pos (by omega)]
    exact c i hi
  · unfold insF
    by_cases q1 : i < a
    · rw [if_pos q1]
      obtain ⟨j, j1, j2, j3, j4, j5⟩ := d i g1 (by omega)
      exact ⟨j, j1, j2, j3, j4, by omega⟩
    · rw [if_neg q1]
      by_cases q3 : i = a
      · rw [if_pos q3]; exact ⟨k, hk, rfl, hp, hz, by omega⟩
      · rw [if_neg q3]
        obtain ⟨j, j1, j2, j3, j4, j5⟩ := d (i - 1) (by omega) (by omega)
        exact ⟨j, j1, j2, j3, j4, by omega⟩
  · by_cases q : j = k
    · subst q; exact ⟨a, by omega, by unfold insF; rw [if_neg (by omega), if_pos rfl]⟩
    · obtain ⟨i, i1, i2⟩ := e j g1 g2 (by omega)
      by_cases q1 : i < a
      · exact ⟨i, by omega, by unfold insF; rw [if_pos q1]; exact i2⟩
      · exact ⟨i + 1, by omega, by unfold insF; rw [if_neg (by omega), if_neg (by omega)]; exact i2⟩
theorem cutZ_end {P : Nat → Bool} {N z m : Nat} {W : Nat → Int} (h : CutZ P N z 0 m m W) (hz : ∀ j, j < N → popS j < z) : CutG P N m W := by
  obtain ⟨a, b, c, d, e⟩ := h
  refine ⟨b, fun i hi => ?_, fun j h1 h2 => e j h1 h2 (Or.inl (hz j h1))⟩
  obtain ⟨j, j1, j2, j3, _⟩ := c i hi
  exact ⟨j, j1, j2, j3⟩
end Go.Proofs.Ytpaiajeigdifcaa
