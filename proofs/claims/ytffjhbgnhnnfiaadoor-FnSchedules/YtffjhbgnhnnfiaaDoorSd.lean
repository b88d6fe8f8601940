/-
What is proved: how a schedule goes on from end to end, in numbers; that it comes to its end, and where.
-/
import Derived.Test.YtffjhbgnhnnfiaaDoorSc
namespace Go.Proofs.YtffjhbgnhnnfiaaDoor
set_option maxRecDepth 40000
open Go.ChangeShapes Go.WideShapes Go.ChangeAt Go.RowKit
set_option linter.unusedVariables false
set_option linter.unusedSimpArgs false

/-- What stands for a job that has not begun. -/
def nob : Int := 1000000000
def updJ (I : Nat → Int) (k : Nat) (x : Int) (j : Nat) : Int := if j = k then x else I j
theorem upd_at (I : Nat → Int) (k : Nat) (x : Int) : updJ I k x k = x := if_pos rfl
theorem upd_far {I : Nat → Int} {k j : Nat} {x : Int} (h : j ≠ k) : updJ I k x j = I j := if_neg h
def mayB (n : Nat) (X : Nat → Int) (K : Nat → Nat) (V : Nat → Nat → Int) (cr : Int) (t : Int) (I : Nat → Int) (k : Nat) : Bool := decide (I k = nob) && (decide (rdyF X I (V k) (K k) ≤ t) && decide (busI X I t n < cr))
/-- What begins at a tick, by the places below k. -/
def pasF (n : Nat) (X : Nat → Int) (K : Nat → Nat) (V : Nat → Nat → Int) (cr : Int) (t : Int) (I : Nat → Int) : Nat → Nat → Int
  | 0 => I
  | k + 1 => if mayB n X K V cr t (pasF n X K V cr t I k) k = true then updJ (pasF n X K V cr t I k) k t else pasF n X K V cr t I k
theorem pas_yes (n : Nat) (X : Nat → Int) (K : Nat → Nat) (V : Nat → Nat → Int) (cr : Int) (t : Int) (I : Nat → Int) {k : Nat} (h : mayB n X K V cr t (pasF n X K V cr t I k) k = true) : pasF n X K V cr t I (k + 1) = updJ (pasF n X K V cr t I k) k t := if_pos h
theorem pas_no (n : Nat) (X : Nat → Int) (K : Nat → Nat) (V : Nat → Nat → Int) (cr : Int) (t : Int) (I : Nat → Int) {k : Nat} (h : mayB n X K V cr t (pasF n X K V cr t I k) k = false) : pasF n X K V cr t I (k + 1) = pasF n X K V cr t I k := if_neg (by rw [h]; decide)
theorem pas_same (n : Nat) (X : Nat → Int) (K : Nat → Nat) (V : Nat → Nat → Int) (cr : Int) (t : Int) (I : Nat → Int) : ∀ k j, k ≤ j → pasF n X K V cr t I k j = I j := by
  intro k
  induction k with
  | zero => intro j _; rfl
  | succ k ih =>
    intro j hj
    cases hm : mayB n X K V cr t (pasF n X K V cr t I k) k
    · rw [pas_no n X K V cr t I hm]; exact ih j (by omega)
    · rw [pas_yes n X K V cr t I hm, upd_far (by omega)]; exact ih j (by omega)
theorem pas_old (n : Nat) (X : Nat → Int) (K : Nat → Nat) (V : Nat → Nat → Int) (cr : Int) (t : Int) (I : Nat → Int) : ∀ k j, I j ≠ nob → pasF n X K V cr t I k j = I j := by
  intro k
  induction k with
  | zero => intro j _; rfl
  | succ k ih =>
    intro j hj
    by_cases e : j = k
    · subst e
      have := pas_same n X K V cr t I j j (Nat.le_refl _)
      have hm : mayB n X K V cr t (pasF n X K V cr t I j) j = false := by unfold mayB; rw [this, decide_eq_false hj]; rfl
      rw [pas_no n X K V cr t I hm]
      exact this
    · cases hm : mayB n X K V cr t (pasF n X K V cr t I k) k
      · rw [pas_no n X K V cr t I hm]; exact ih j hj
      · rw [pas_yes n X K V cr t I hm, upd_far e]; exact ih j hj
theorem pas_stay (n : Nat) (X : Nat → Int) (K : Nat → Nat) (V : Nat → Nat → Int) (cr : Int) (t : Int) (I : Nat → Int) : ∀ d k j, j < k → pasF n X K V cr t I (k + d) j = pasF n X K V cr t I k j := by
  intro d
  induction d with
  | zero => intro k j _; rfl
  | succ d ih =>
    intro k j hj
    cases hm : mayB n X K V cr t (pasF n X K V cr t I (k + d)) (k + d)
    · rw [show k + (d + 1) = (k + d) + 1 from rfl, pas_no n X K V cr t I hm]; exact ih k j hj
    · rw [show k + (d + 1) = (k + d) + 1 from rfl, pas_yes n X K V cr t I hm, upd_far (by omega)]; exact ih k j hj
theorem pas_or (n : Nat) (X : Nat → Int) (K : Nat → Nat) (V : Nat → Nat → Int) (cr : Int) (t : Int) (I : Nat → Int) : ∀ k j, pasF n X K V cr t I k j = I j ∨ (I j = nob ∧ pasF n X K V cr t I k j = t) := by
  intro k
  induction k with
  | zero => intro j; exact Or.inl rfl
  | succ k ih =>
    intro j
    by_cases e : I j = nob
    · cases hm : mayB n X K V cr t (pasF n X K V cr t I k) k
      · rw [pas_no n X K V cr t I hm]; exact ih j
      · rw [pas_yes n X K V cr t I hm]
        by_cases q : j = k
        · subst q; right; exact ⟨e, upd_at _ _ _⟩
        · rw [upd_far q]; exact ih j
    · left; exact pas_old n X K V cr t I (k + 1) j e
theorem pas_all (n : Nat) (X : Nat → Int) (K : Nat → Nat) (V : Nat → Nat → Int) (cr : Int) (t : Int) (I : Nat → Int) (h : ∀ j, j < n → I j ≠ nob) : ∀ j, j < n → pasF n X K V cr t I n j = I j := fun j hj => pas_old n X K V cr t I n j (h j hj)
def cntF (X I : Nat → Int) (t : Int) : Nat → Nat
  | 0 => 0
  | k + 1 => cntF X I t k + if t < I k + X k then 1 else 0
theorem cnt_le (X I : Nat → Int) (t : Int) : ∀ k, cntF X I t k ≤ k := by
  intro k
  induction k with
  | zero => exact Nat.le_refl _
  | succ k ih => show cntF X I t k + _ ≤ _; split <;> omega
theorem cnt_same {X I J : Nat → Int} {t : Int} : ∀ k, (∀ j, j < k → (t < I j + X j ↔ t < J j + X j)) → cntF X I t k = cntF X J t k := by
  intro k
  induction k with
  | zero => intro _; rfl
  | succ k ih =>
    intro h
    show cntF X I t k + _ = cntF X J t k + _
    rw [ih (fun j hj => h j (by omega))]
    by_cases q : t < I k + X k
    · rw [if_pos q, if_pos ((h k (by omega)).1 q)]
    · rw [if_neg q, if_neg (fun z => q ((h k (by omega)).2 z))]
theorem cnt_mono {X I : Nat → Int} {t u : Int} (h : t ≤ u) : ∀ k, cntF X I u k ≤ cntF X I t k := by
  intro k
  induction k with
  | zero => exact Nat.le_refl _
  | succ k ih => show cntF X I u k + _ ≤ cntF X I t k + _; split <;> split <;> omega
theorem cnt_less {X I : Nat → Int} {t u : Int} (h : t ≤ u) {j : Nat} : ∀ k, j < k → t < I j + X j → I j + X j ≤ u → cntF X I u k < cntF X I t k := by
  intro k
  induction k with
  | zero => intro hj; omega
  | succ k ih =>
    intro hj h1 h2
    show cntF X I u k + _ < cntF X I t k + _
    by_cases e : j = k
    · subst e
      have := cnt_mono (X := X) (I := I) h j
      rw [if_neg (by omega), if_pos h1]
      omega
    · have := ih (by omega) h1 h2
      split <;> split <;> omega
theorem cnt_pos {X I : Nat → Int} {t : Int} {j : Nat} : ∀ k, j < k → t < I j + X j → 0 < cntF X I t k := by
  intro k
  induction k with
  | zero => intro hj; omega
  | succ k ih =>
    intro hj h1
    show 0 < cntF X I t k + _
    by_cases e : j = k
    · subst e; rw [if_pos h1]; omega
    · have := ih (by omega) h1; omega
def mnI (a b : Int) : Int := if b < a then b else a
/-- The first end behind a tick, as the program and as the specification look for it. -/
def nxI (X I : Nat → Int) (t : Int) : Nat → Int
  | 0 => nob
  | k + 1 => if t < I k + X k then mnI (nxI X I t k) (I k + X k) else nxI X I t k
def sOf (I : Nat → Int) (j : Nat) : Int := if I j = nob then -1 else I j
def nxS (X S : Nat → Int) (t : Int) : Nat → Int
  | 0 => t
  | k + 1 => if (0 ≤ S k ∧ t < S k + X k) ∧ (nxS X S t k = t ∨ S k + X k < nxS X S t k) then S k + X k else nxS X S t k
def GoodI (n : Nat) (X I : Nat → Int) (t : Int) : Prop := (0 ≤ t ∧ t ≤ 41000) ∧ ∀ j, j < n → (1 ≤ X j ∧ X j ≤ 1000) ∧ (I j = nob ∨ (0 ≤ I j ∧ I j ≤ t))
theorem nx_is {n : Nat} {X I : Nat → Int} {t : Int} (h : GoodI n X I t) : ∀ k, k ≤ n → (nxI X I t k = nob ∧ nxS X (sOf I) t k = t ∧ ∀ j, j < k → I j = nob ∨ I j + X j ≤ t) ∨ (t < nxI X I t k ∧ nxI X I t k ≤ t + 1000 ∧ nxS X (sOf I) t k = nxI X I t k ∧ ∃ j, j < k ∧ I j ≠ nob ∧ I j + X j = nxI X I t k) := by
  intro k
  induction k with
  | zero => intro _; left; exact ⟨rfl, rfl, fun j hj => by omega⟩
  | succ k ih =>
    intro hk
    obtain ⟨⟨t0, t1⟩, hG⟩ := h
    obtain ⟨⟨x0, x1⟩, hI⟩ := hG k (by omega)
    have nbv : nob = 1000000000 := rfl
    have e1 : nxI X I t (k + 1) = if t < I k + X k then mnI (nxI X I t k) (I k + X k) else nxI X I t k := rfl
    have e2 : nxS X (sOf I) t (k + 1) = if (0 ≤ sOf I k ∧ t < sOf I k + X k) ∧ (nxS X (sOf I) t k = t ∨ sOf I k + X k < nxS X (sOf I) t k) then sOf I k + X k else nxS X (sOf I) t k := rfl
    rcases hI with hb | ⟨b0, b1⟩
    · have s1 : sOf I k = -1 := if_pos hb
      rw [if_neg (by omega)] at e2
      rw [hb, if_pos (by omega)] at e1
      rcases ih (by omega) with ⟨a1, a2, a3⟩ | ⟨a1, a2, a3, j, a4, a5, a6⟩
      · left
        rw [a1] at e1
        refine ⟨by rw [e1]; unfold mnI; rw [if_neg (by omega)], by rw [e2, a2], fun j hj => ?_⟩
        by_cases q : j = k
        · subst q; exact Or.inl hb
        · exact a3 j (by omega)
      · right
        have e3 : nxI X I t (k + 1) = nxI X I t k := by rw [e1]; unfold mnI; rw [if_neg (by omega)]
        rw [e3, e2]
        exact ⟨a1, a2, a3, j, by omega, a5, a6⟩
    · have hnb : I k ≠ nob := by omega
      have s1 : sOf I k = I k := if_neg hnb
      rw [s1] at e2
      by_cases q : t < I k + X k
      · rw [if_pos q] at e1
        rcases ih (by omega) with ⟨a1, a2, a3⟩ | ⟨a1, a2, a3, j, a4, a5, a6⟩
        · right
          have e3 : nxI X I t (k + 1) = I k + X k := by rw [e1, a1]; unfold mnI; rw [if_pos (by omega)]
          rw [if_pos ⟨⟨b0, q⟩, Or.inl a2⟩] at e2
          rw [e3, e2]
          exact ⟨q, by omega, rfl, k, by omega, hnb, rfl⟩
        · right
          by_cases q2 : I k + X k < nxI X I t k
          · have e3 : nxI X I t (k + 1) = I k + X k := by rw [e1]; unfold mnI; rw [if_pos q2]
            rw [if_pos ⟨⟨b0, q⟩, Or.inr (by omega)⟩] at e2
            rw [e3, e2]
            exact ⟨q, by omega, rfl, k, by omega, hnb, rfl⟩
          · have e3 : nxI X I t (k + 1) = nxI X I t k := by rw [e1]; unfold mnI; rw [if_neg q2]
            rw [if_neg (by omega)] at e2
            rw [e3, e2]
            exact ⟨a1, a2, a3, j, by omega, a5, a6⟩
      · rw [if_neg q] at e1
        rw [if_neg (by omega)] at e2
        rcases ih (by omega) with ⟨a1, a2, a3⟩ | ⟨a1, a2, a3, j, a4, a5, a6⟩
        · left
          rw [e1, e2]
          refine ⟨a1, a2, fun j hj => ?_⟩
          by_cases q3 : j = k
          · subst q3; exact Or.inr (by omega)
          · exact a3 j (by omega)
        · right
          rw [e1, e2]
          exact ⟨a1, a2, a3, j, by omega, a5, a6⟩
/-- One round: what begins, then on to the next end. -/
def itr (n : Nat) (X : Nat → Int) (K : Nat → Nat) (V : Nat → Nat → Int) (cr : Int) : Nat → (Nat → Int) × Int
  | 0 => (fun _ => nob, 0)
  | r + 1 => (pasF n X K V cr (itr n X K V cr r).2 (itr n X K V cr r).1 n, nxI X (pasF n X K V cr (itr n X K V cr r).2 (itr n X K V cr r).1 n) (itr n X K V cr r).2 n)
def afterF (n : Nat) (X : Nat → Int) (K : Nat → Nat) (V : Nat → Nat → Int) (cr : Int) (r : Nat) : Nat → Int := pasF n X K V cr (itr n X K V cr r).2 (itr n X K V cr r).1 n
def RunI (n : Nat) (X I : Nat → Int) (t : Int) : Prop := (0 ≤ t ∧ t + 1000 * (cntF X I t n : Int) ≤ 1000 * (n : Int)) ∧ (∀ j, j < n → (1 ≤ X j ∧ X j ≤ 1000) ∧ (I j = nob ∨ (0 ≤ I j ∧ I j ≤ t))) ∧ (t = 0 ∨ ∃ j, j < n ∧ I j ≠ nob ∧ I j + X j = t)
theorem run_good {n : Nat} {X I : Nat → Int} {t : Int} (hn : n ≤ 40) (h : RunI n X I t) : GoodI n X I t := ⟨by have := h.1; omega, h.2.1⟩
theorem run_pass {n : Nat} {X : Nat → Int} {K : Nat → Nat} {V : Nat → Nat → Int} {cr : Int} {I : Nat → Int} {t : Int} (hn : n ≤ 40) (h : RunI n X I t) : RunI n X (pasF n X K V cr t I n) t := by
  have nbv : nob = 1000000000 := rfl
  have hg := run_good hn h
  obtain ⟨⟨t0, t1⟩, h2, h3⟩ := h
  have hc : cntF X (pasF n X K V cr t I n) t n = cntF X I t n := cnt_same n fun j hj => by
    have q := (h2 j hj).1
    rcases pas_or n X K V cr t I n j with e | ⟨e1, e2⟩
    · rw [e]
    · rw [e1, e2]
      have := hg.1
      omega
  refine ⟨⟨t0, by rw [hc]; exact t1⟩, fun j hj => ⟨(h2 j hj).1, ?_⟩, ?_⟩
  · rcases pas_or n X K V cr t I n j with e | ⟨e1, e2⟩
    · rw [e]; exact (h2 j hj).2
    · rw [e2]; right; omega
  · rcases h3 with h3 | ⟨j, hj, a, b⟩
    · exact Or.inl h3
    · right; exact ⟨j, hj, by rw [pas_old n X K V cr t I n j a]; exact a, by rw [pas_old n X K V cr t I n j a]; exact b⟩
theorem run_next {n : Nat} {X I : Nat → Int} {t u : Int} (h : RunI n X I t) (h1 : t < u) (h2 : u ≤ t + 1000) (h3 : ∃ j, j < n ∧ I j ≠ nob ∧ I j + X j = u) : RunI n X I u ∧ cntF X I u n < cntF X I t n := by
  obtain ⟨⟨t0, t1⟩, a, b⟩ := h
  obtain ⟨j, hj, q1, q2⟩ := h3
  have hc := cnt_less (X := X) (I := I) (t := t) (u := u) (by omega) n hj (by omega) (by omega)
  refine ⟨⟨⟨by omega, by omega⟩, fun j hj => ⟨(a j hj).1, ?_⟩, Or.inr ⟨j, hj, q1, q2⟩⟩, hc⟩
  rcases (a j hj).2 with q | q
  · exact Or.inl q
  · exact Or.inr (by omega)
/-- Where all ends that there are lie behind, all have begun. -/
theorem pass_done {n : Nat} {X : Nat → Int} {K : Nat → Nat} {V : Nat → Nat → Int} {cr : Int} {I : Nat → Int} {t : Int} (hn : n ≤ 40) (hcr : 1 ≤ cr) (hV : ∀ j, j < n → ∀ i, i < K j → 0 ≤ V j i ∧ V j i < (j : Int)) (h : RunI n X I t)
    (he : ∀ j, j < n → pasF n X K V cr t I n j = nob ∨ pasF n X K V cr t I n j + X j ≤ t) : ∀ i, i < n → pasF n X K V cr t I n i ≠ nob := by
  have nbv : nob = 1000000000 := rfl
  have hg := run_good hn h
  have main : ∀ m i, i < m → i < n → pasF n X K V cr t I n i ≠ nob := by
    intro m
    induction m with
    | zero => intro i hi; omega
    | succ m ih =>
      intro i hi hin hnb
      have ihm : ∀ a, a < i → pasF n X K V cr t I n a ≠ nob := fun a ha => ih a (by omega) (by omega)
      have est : ∀ a, a < i → pasF n X K V cr t I i a = pasF n X K V cr t I n a := fun a ha => by
        have := pas_stay n X K V cr t I (n - i) i a ha
        rw [show i + (n - i) = n by omega] at this
        exact this.symm
      have hmay : mayB n X K V cr t (pasF n X K V cr t I i) i = true := by
        have e0 : pasF n X K V cr t I i i = nob := by
          rw [pas_same n X K V cr t I i i (Nat.le_refl _)]
          rcases pas_or n X K V cr t I n i with e | ⟨e1, e2⟩
          · rw [← e]; exact hnb
          · exact e1
        have e1 : rdyF X (pasF n X K V cr t I i) (V i) (K i) ≤ t := (rdy_free hg.1.1 (K i)).2 fun q hq => by
          have hv := hV i hin q hq
          have ha : (V i q).toNat < i := by omega
          rw [est _ ha]
          rcases he (V i q).toNat (by omega) with z | z
          · exact absurd z (ihm _ ha)
          · exact z
        have e2 : busI X (pasF n X K V cr t I i) t n = 0 := by
          have : ∀ k, k ≤ n → busI X (pasF n X K V cr t I i) t k = 0 := by
            intro k
            induction k with
            | zero => intro _; rfl
            | succ k ihk =>
              intro hk
              show busI X _ t k + _ = 0
              rw [ihk (by omega)]
              have hx := (hg.2 k (by omega)).1
              rw [if_neg (fun z => ?_)]
              · rfl
              · have zz := inB_yes z
                by_cases q : pasF n X K V cr t I i k = nob
                · have := hg.1; omega
                · have q2 : pasF n X K V cr t I n k = pasF n X K V cr t I i k := by
                    rcases pas_or n X K V cr t I i k with e | ⟨e3, e4⟩
                    · rw [e] at q ⊢
                      exact pas_old n X K V cr t I n k q
                    · have hki : k < i := by
                        rcases Nat.lt_or_ge k i with h5 | h5
                        · exact h5
                        · have := pas_same n X K V cr t I i k h5; omega
                      exact (est k hki).symm
                  rcases he k (by omega) with z1 | z1
                  · rw [q2] at z1; exact q z1
                  · rw [q2] at z1; omega
          exact this n (Nat.le_refl _)
        unfold mayB
        rw [decide_eq_true e0, decide_eq_true e1, decide_eq_true (show busI X (pasF n X K V cr t I i) t n < cr by omega)]
        rfl
      have e3 : pasF n X K V cr t I (i + 1) i = t := by
        rw [pas_yes n X K V cr t I hmay]
        exact upd_at _ _ _
      have e4 : pasF n X K V cr t I n i = t := by
        have := pas_stay n X K V cr t I (n - (i + 1)) (i + 1) i (by omega)
        rw [show i + 1 + (n - (i + 1)) = n by omega] at this
        rw [this, e3]
      have := hg.1
      omega
  intro i hi
  exact main n i hi hi
end Go.Proofs.YtffjhbgnhnnfiaaDoor
