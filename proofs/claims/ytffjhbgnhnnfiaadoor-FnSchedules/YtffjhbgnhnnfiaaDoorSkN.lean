/-
What is proved: in numbers: the schedule is one, and ends not ahead of the critical row, just then with as many crews as jobs; no schedule ends ahead of it.
-/
import Derived.Test.YtffjhbgnhnnfiaaDoorSdI
import Derived.Test.YtffjhbgnhnnfiaaDoorSc
namespace Go.Proofs.YtffjhbgnhnnfiaaDoor
set_option maxRecDepth 40000
open Go.ChangeShapes Go.WideShapes Go.ChangeAt Go.RowKit
set_option linter.unusedVariables false
set_option linter.unusedSimpArgs false

theorem rdy_ge {X B v : Nat → Int} : ∀ k i, i < k → B (v i).toNat + X (v i).toNat ≤ rdyF X B v k ∧ 0 ≤ rdyF X B v k := by
  intro k
  induction k with
  | zero => intro i hi; omega
  | succ k ih =>
    intro i hi
    have h1 := mx_ge2 (rdyF X B v k) (B (v k).toNat + X (v k).toNat)
    show _ ≤ mxI _ _ ∧ 0 ≤ mxI _ _
    have h0 : 0 ≤ rdyF X B v k := by
      rcases Nat.eq_zero_or_pos k with q | q
      · subst q; exact Int.le_refl _
      · exact (ih 0 q).2
    refine ⟨?_, by omega⟩
    by_cases e : i = k
    · subst e; exact h1.2
    · have := (ih i (by omega)).1; omega
theorem rdy_hit {X B v : Nat → Int} : ∀ k, rdyF X B v k = 0 ∨ ∃ i, i < k ∧ rdyF X B v k = B (v i).toNat + X (v i).toNat := by
  intro k
  induction k with
  | zero => exact Or.inl rfl
  | succ k ih =>
    show mxI _ _ = 0 ∨ ∃ i, i < k + 1 ∧ mxI _ _ = _
    unfold mxI
    split
    · exact Or.inr ⟨k, by omega, rfl⟩
    · rcases ih with q | ⟨i, hi, q⟩
      · exact Or.inl q
      · exact Or.inr ⟨i, by omega, q⟩
theorem rdy_mono {X B B' v : Nat → Int} : ∀ k, (∀ i, i < k → B (v i).toNat ≤ B' (v i).toNat) → rdyF X B v k ≤ rdyF X B' v k := by
  intro k
  induction k with
  | zero => intro _; exact Int.le_refl _
  | succ k ih =>
    intro h
    have h1 := ih (fun i hi => h i (by omega))
    have h2 := h k (by omega)
    show mxI _ _ ≤ mxI _ _
    have h3 := mx_ge2 (rdyF X B' v k) (B' (v k).toNat + X (v k).toNat)
    exact mx_le (by omega) (by omega)
theorem last_mono {X B B' : Nat → Int} : ∀ k, (∀ i, i < k → B i ≤ B' i) → lastF X B k ≤ lastF X B' k := by
  intro k
  induction k with
  | zero => intro _; exact Int.le_refl _
  | succ k ih =>
    intro h
    have h1 := ih (fun i hi => h i (by omega))
    have h2 := h k (by omega)
    show mxI _ _ ≤ mxI _ _
    have h3 := mx_ge2 (lastF X B' k) (B' k + X k)
    exact mx_le (by omega) (by omega)
theorem last_nn {X B : Nat → Int} : ∀ k, 0 ≤ lastF X B k := by
  intro k
  induction k with
  | zero => exact Int.le_refl _
  | succ k ih => show 0 ≤ mxI _ _; exact mx_ge ih
theorem bus_cong {X B B' : Nat → Int} {t : Int} : ∀ k, (∀ i, i < k → B i = B' i) → busI X B t k = busI X B' t k := by
  intro k
  induction k with
  | zero => intro _; rfl
  | succ k ih => intro h; show busI X B t k + _ = busI X B' t k + _; rw [ih (fun i hi => h i (by omega)), h k (by omega)]
theorem bus_old {X I : Nat → Int} {k : Nat} {s t : Int} (hk : I k = nob) (hs : s < t) (ht : t ≤ 100000) : ∀ m, busI X (updJ I k t) s m = busI X I s m := by
  have nbv : nob = 1000000000 := rfl
  intro m
  induction m with
  | zero => rfl
  | succ m ih =>
    show busI X (updJ I k t) s m + _ = busI X I s m + _
    rw [ih]
    by_cases e : m = k
    · subst e
      rw [upd_at, hk, if_neg (fun q => by have := inB_yes q; omega), if_neg (fun q => by have := inB_yes q; omega)]
    · rw [upd_far e]
theorem bus_new {X I : Nat → Int} {k : Nat} {t : Int} (hk : I k = nob) (ht : t ≤ 100000) : ∀ m, busI X (updJ I k t) t m ≤ busI X I t m + (if k < m then 1 else 0) := by
  have nbv : nob = 1000000000 := rfl
  intro m
  induction m with
  | zero => exact Int.le_refl _
  | succ m ih =>
    show busI X (updJ I k t) t m + _ ≤ busI X I t m + _ + _
    by_cases e : m = k
    · subst e
      rw [if_neg (by omega)] at ih
      rw [if_pos (show m < m + 1 by omega), hk, if_neg (c := inB nob (nob + X m - 1) t = true) (fun q => by have := inB_yes q; omega)]
      split <;> omega
    · rw [upd_far e]
      by_cases q : k < m
      · rw [if_pos q] at ih
        rw [if_pos (show k < m + 1 by omega)]
        omega
      · rw [if_neg q] at ih
        rw [if_neg (show ¬ k < m + 1 by omega)]
        omega
theorem bus_few {X I : Nat → Int} {k : Nat} {t : Int} (hk : I k = nob) (ht : t ≤ 100000) : ∀ m, k < m → busI X I t m ≤ (m : Int) - 1 := by
  have nbv : nob = 1000000000 := rfl
  intro m
  induction m with
  | zero => intro h; omega
  | succ m ih =>
    intro h
    show busI X I t m + _ ≤ _
    by_cases e : m = k
    · subst e
      have := (bus_in (X := X) (B := I) (t := t) m).2.2.2
      rw [hk, if_neg (fun q => by have := inB_yes q; omega)]
      omega
    · have := ih (by omega)
      split <;> omega
def InvJ (n : Nat) (X : Nat → Int) (K : Nat → Nat) (V : Nat → Nat → Int) (cr : Int) (I : Nat → Int) : Prop := ∀ j, j < n → I j ≠ nob → rdyF X I (V j) (K j) ≤ I j ∧ busI X I (I j) n ≤ cr
def EarJ (n : Nat) (X : Nat → Int) (K : Nat → Nat) (V : Nat → Nat → Int) (I : Nat → Int) (t : Int) : Prop := (∀ j, j < n → I j ≠ nob → I j = rdyF X I (V j) (K j)) ∧ ∀ j, j < n → I j = nob → t ≤ rdyF X I (V j) (K j)
def PreJ (n : Nat) (K : Nat → Nat) (V : Nat → Nat → Int) : Prop := ∀ j, j < n → ∀ i, i < K j → 0 ≤ V j i ∧ V j i < (j : Int)
theorem may_yes {n : Nat} {X : Nat → Int} {K : Nat → Nat} {V : Nat → Nat → Int} {cr : Int} {t : Int} {I : Nat → Int} {k : Nat} (h : mayB n X K V cr t I k = true) : I k = nob ∧ rdyF X I (V k) (K k) ≤ t ∧ busI X I t n < cr := by
  unfold mayB at h
  simp only [Bool.and_eq_true, decide_eq_true_iff] at h
  exact h
/-- None that has begun comes behind one that has not. -/
theorem pre_begun {n : Nat} {X : Nat → Int} {K : Nat → Nat} {V : Nat → Nat → Int} {I : Nat → Int} {t : Int} (hg : GoodI n X I t) (hp : PreJ n K V) {j : Nat} (hj : j < n) {h : Int} (h0 : 0 ≤ h) (h1 : h ≤ 100000) (hr : rdyF X I (V j) (K j) ≤ h) : ∀ i, i < K j → I (V j i).toNat ≠ nob := fun i hi e => by
  have nbv : nob = 1000000000 := rfl
  have q := (rdy_free h0 (K j)).1 hr i hi
  have hv := hp j hj i hi
  have hx := (hg.2 (V j i).toNat (by omega)).1
  rw [e] at q
  omega
theorem inv_upd {n : Nat} {X : Nat → Int} {K : Nat → Nat} {V : Nat → Nat → Int} {cr : Int} {t : Int} {I : Nat → Int} {k : Nat} (hk : k < n) (hg : GoodI n X I t) (hp : PreJ n K V) (h : InvJ n X K V cr I) (hm : mayB n X K V cr t I k = true) : InvJ n X K V cr (updJ I k t) := by
  have nbv : nob = 1000000000 := rfl
  obtain ⟨m1, m2, m3⟩ := may_yes hm
  have hb := bus_new (X := X) m1 (show t ≤ 100000 by have := hg.1; omega) n
  rw [if_pos hk] at hb
  intro j hj hjb
  by_cases e : j = k
  · subst e
    rw [upd_at]
    refine ⟨?_, by omega⟩
    rw [rdy_same (K j) (B' := I) (fun i hi => upd_far (by have := hp j hj i hi; omega))]
    exact m2
  · rw [upd_far e] at hjb ⊢
    obtain ⟨h1, h2⟩ := h j hj hjb
    have hj2 : 0 ≤ I j ∧ I j ≤ t := (hg.2 j hj).2.resolve_left hjb
    have hpb := pre_begun hg hp hj hj2.1 (by have := hg.1; omega) h1
    refine ⟨?_, ?_⟩
    · rw [rdy_same (K j) (B' := I) (fun i hi => upd_far (fun z => hpb i hi (by rw [z]; exact m1)))]
      exact h1
    · by_cases q : I j = t
      · rw [q]; omega
      · rw [bus_old m1 (by omega) (by have := hg.1; omega)]
        exact h2
theorem ear_upd {n : Nat} {X : Nat → Int} {K : Nat → Nat} {V : Nat → Nat → Int} {cr : Int} {t : Int} {I : Nat → Int} {k : Nat} (hk : k < n) (hg : GoodI n X I t) (hp : PreJ n K V) (h : EarJ n X K V I t) (hm : mayB n X K V cr t I k = true) : EarJ n X K V (updJ I k t) t := by
  have nbv : nob = 1000000000 := rfl
  obtain ⟨m1, m2, m3⟩ := may_yes hm
  refine ⟨fun j hj hjb => ?_, fun j hj hjb => ?_⟩
  · by_cases e : j = k
    · subst e
      rw [upd_at, rdy_same (K j) (B' := I) (fun i hi => upd_far (by have := hp j hj i hi; omega))]
      have := h.2 j hj m1
      omega
    · rw [upd_far e] at hjb ⊢
      have h1 := h.1 j hj hjb
      have hj2 : 0 ≤ I j ∧ I j ≤ t := (hg.2 j hj).2.resolve_left hjb
      have hpb := pre_begun hg hp hj hj2.1 (by have := hg.1; omega) (Int.le_of_eq h1.symm)
      rw [rdy_same (K j) (B' := I) (fun i hi => upd_far (fun z => hpb i hi (by rw [z]; exact m1)))]
      exact h1
  · by_cases e : j = k
    · subst e; rw [upd_at] at hjb; have := hg.1; omega
    · rw [upd_far e] at hjb
      by_cases q : ∃ i, i < K j ∧ (V j i).toNat = k
      · obtain ⟨i, hi, hik⟩ := q
        have h1 := (rdy_ge (X := X) (B := updJ I k t) (v := V j) (K j) i hi).1
        rw [hik, upd_at] at h1
        have := (hg.2 k hk).1
        omega
      · rw [rdy_same (K j) (B' := I) (fun i hi => upd_far (fun z => q ⟨i, hi, z⟩))]
        exact h.2 j hj hjb
theorem pas_good {n : Nat} {X : Nat → Int} {K : Nat → Nat} {V : Nat → Nat → Int} {cr : Int} {t : Int} {I : Nat → Int} (hg : GoodI n X I t) (k : Nat) : GoodI n X (pasF n X K V cr t I k) t := ⟨hg.1, fun j hj => ⟨(hg.2 j hj).1, by
  rcases pas_or n X K V cr t I k j with e | ⟨e1, e2⟩
  · rw [e]; exact (hg.2 j hj).2
  · rw [e2]; right; have := hg.1; omega⟩⟩
theorem inv_pass {n : Nat} {X : Nat → Int} {K : Nat → Nat} {V : Nat → Nat → Int} {cr : Int} {t : Int} {I : Nat → Int} (hg : GoodI n X I t) (hp : PreJ n K V) (h : InvJ n X K V cr I) : ∀ k, k ≤ n → InvJ n X K V cr (pasF n X K V cr t I k) := by
  intro k
  induction k with
  | zero => intro _; exact h
  | succ k ih =>
    intro hk
    cases hm : mayB n X K V cr t (pasF n X K V cr t I k) k
    · rw [pas_no n X K V cr t I hm]; exact ih (by omega)
    · rw [pas_yes n X K V cr t I hm]; exact inv_upd (by omega) (pas_good hg k) hp (ih (by omega)) hm
theorem ear_pass {n : Nat} {X : Nat → Int} {K : Nat → Nat} {V : Nat → Nat → Int} {cr : Int} {t : Int} {I : Nat → Int} (hg : GoodI n X I t) (hp : PreJ n K V) (h : EarJ n X K V I t) : ∀ k, k ≤ n → EarJ n X K V (pasF n X K V cr t I k) t := by
  intro k
  induction k with
  | zero => intro _; exact h
  | succ k ih =>
    intro hk
    cases hm : mayB n X K V cr t (pasF n X K V cr t I k) k
    · rw [pas_no n X K V cr t I hm]; exact ih (by omega)
    · rw [pas_yes n X K V cr t I hm]; exact ear_upd (by omega) (pas_good hg k) hp (ih (by omega)) hm
/-- With crews enough, what has not begun behind a pass was not free at it. -/
theorem ear_left {n : Nat} {X : Nat → Int} {K : Nat → Nat} {V : Nat → Nat → Int} {cr : Int} {t : Int} {I : Nat → Int} (hg : GoodI n X I t) (hp : PreJ n K V) (hc : (n : Int) ≤ cr) {j : Nat} (hj : j < n) (hnb : pasF n X K V cr t I n j = nob) : t < rdyF X (pasF n X K V cr t I n) (V j) (K j) := by
  have e0 : pasF n X K V cr t I j j = nob := by
    rw [pas_same n X K V cr t I j j (Nat.le_refl _)]
    rcases pas_or n X K V cr t I n j with e | ⟨e1, e2⟩
    · rw [← e]; exact hnb
    · exact e1
  have est : ∀ a, a < j → pasF n X K V cr t I n a = pasF n X K V cr t I j a := fun a ha => by
    have := pas_stay n X K V cr t I (n - j) j a ha
    rw [show j + (n - j) = n by omega] at this
    exact this
  rw [rdy_same (K j) (B' := pasF n X K V cr t I j) (fun i hi => est _ (by have := hp j hj i hi; omega))]
  rcases Int.lt_or_le t (rdyF X (pasF n X K V cr t I j) (V j) (K j)) with q | q
  · exact q
  · exfalso
    have hb := bus_few (X := X) e0 (show t ≤ 100000 by have := hg.1; omega) n hj
    have hm : mayB n X K V cr t (pasF n X K V cr t I j) j = true := by
      unfold mayB
      simp only [Bool.and_eq_true, decide_eq_true_iff]
      exact ⟨e0, q, by omega⟩
    have h1 := pas_yes n X K V cr t I hm
    have h2 := pas_stay n X K V cr t I (n - (j + 1)) (j + 1) j (by omega)
    rw [show j + 1 + (n - (j + 1)) = n by omega, h1, upd_at] at h2
    have nbv : nob = 1000000000 := rfl
    have := hg.1
    omega
theorem nx_le {X I : Nat → Int} {t : Int} {p : Nat} : ∀ k, p < k → t < I p + X p → nxI X I t k ≤ I p + X p := by
  intro k
  induction k with
  | zero => intro h; omega
  | succ k ih =>
    intro h1 h2
    show (if t < I k + X k then mnI (nxI X I t k) (I k + X k) else nxI X I t k) ≤ _
    by_cases e : p = k
    · subst e
      rw [if_pos h2]
      unfold mnI
      split <;> omega
    · have := ih (by omega) h2
      split
      · unfold mnI; split <;> omega
      · exact this
theorem ear_next {n : Nat} {X : Nat → Int} {K : Nat → Nat} {V : Nat → Nat → Int} {cr : Int} {I : Nat → Int} {t u : Int} (hg : GoodI n X I t) (hp : PreJ n K V) (h : EarJ n X K V I t) (hl : ∀ j, j < n → I j = nob → t < rdyF X I (V j) (K j)) (hu : u = nxI X I t n) (h2 : u ≤ t + 1000) : EarJ n X K V I u := by
  have nbv : nob = 1000000000 := rfl
  refine ⟨h.1, fun j hj hjb => ?_⟩
  have h1 := hl j hj hjb
  rcases rdy_hit (X := X) (B := I) (v := V j) (K j) with q | ⟨i, hi, q⟩
  · have := hg.1; omega
  · rw [q]
    rw [q] at h1
    have hv := hp j hj i hi
    rw [hu]
    exact nx_le n (by omega) h1
theorem run_all {n : Nat} {X : Nat → Int} {K : Nat → Nat} {V : Nat → Nat → Int} {cr : Int} (hn : n ≤ 40) (hc : 1 ≤ cr) (hx : ∀ j, j < n → 1 ≤ X j ∧ X j ≤ 1000) (hp : PreJ n K V) : ∀ r, (RunI n X (itr n X K V cr r).1 (itr n X K V cr r).2 ∧ InvJ n X K V cr (itr n X K V cr r).1 ∧ ((n : Int) ≤ cr → EarJ n X K V (itr n X K V cr r).1 (itr n X K V cr r).2) ∧ r + cntF X (itr n X K V cr r).1 (itr n X K V cr r).2 n ≤ n) ∨ ∃ q, (∀ j, j < n → (itr n X K V cr q).1 j ≠ nob) ∧ InvJ n X K V cr (itr n X K V cr q).1 ∧ ((n : Int) ≤ cr → ∀ j, j < n → (itr n X K V cr q).1 j = rdyF X (itr n X K V cr q).1 (V j) (K j)) ∧ ∀ j, j < n → 0 ≤ (itr n X K V cr q).1 j ∧ (itr n X K V cr q).1 j ≤ 41000 := by
  have nbv : nob = 1000000000 := rfl
  intro r
  induction r with
  | zero =>
    left
    have hcn := cnt_le X (fun _ => nob) 0 n
    refine ⟨⟨⟨Int.le_refl _, ?_⟩, fun j hj => ⟨hx j hj, Or.inl rfl⟩, Or.inl rfl⟩, fun j hj h => absurd rfl h, fun _ => ⟨fun j hj h => absurd rfl h, fun j hj _ => ?_⟩, ?_⟩
    · show 0 + 1000 * ((cntF X (fun _ => nob) 0 n : Nat) : Int) ≤ _
      omega
    · show (0 : Int) ≤ _
      rcases Nat.eq_zero_or_pos (K j) with q | q
      · rw [q]; exact Int.le_refl _
      · exact (rdy_ge (K j) 0 q).2
    · show 0 + cntF X (fun _ => nob) 0 n ≤ n
      omega
  | succ r ih =>
    rcases ih with ⟨h1, h2, h3, h4⟩ | h
    · have hg := run_good hn h1
      have hr := run_pass (K := K) (V := V) (cr := cr) hn h1
      have hg2 := pas_good (K := K) (V := V) (cr := cr) hg n
      have hi := inv_pass hg hp h2 n (Nat.le_refl _)
      have hcs : cntF X (pasF n X K V cr (itr n X K V cr r).2 (itr n X K V cr r).1 n) (itr n X K V cr r).2 n = cntF X (itr n X K V cr r).1 (itr n X K V cr r).2 n := cnt_same n fun j hj => by
        have q := (hg.2 j hj).1
        rcases pas_or n X K V cr (itr n X K V cr r).2 (itr n X K V cr r).1 n j with e | ⟨e1, e2⟩
        · rw [e]
        · rw [e1, e2]
          have := hg.1
          omega
      have he : (n : Int) ≤ cr → EarJ n X K V (pasF n X K V cr (itr n X K V cr r).2 (itr n X K V cr r).1 n) (itr n X K V cr r).2 := fun hcr => ear_pass hg hp (h3 hcr) n (Nat.le_refl _)
      rcases nx_is hg2 n (Nat.le_refl _) with ⟨q1, q2, q3⟩ | ⟨q1, q2, q3, q4⟩
      · right
        have hd := pass_done hn hc hp h1 q3
        refine ⟨r + 1, hd, hi, fun hcr j hj => (he hcr).1 j hj (hd j hj), fun j hj => ?_⟩
        have h5 : 0 ≤ pasF n X K V cr (itr n X K V cr r).2 (itr n X K V cr r).1 n j ∧ pasF n X K V cr (itr n X K V cr r).2 (itr n X K V cr r).1 n j ≤ (itr n X K V cr r).2 := (hg2.2 j hj).2.resolve_left (hd j hj)
        show 0 ≤ pasF n X K V cr (itr n X K V cr r).2 (itr n X K V cr r).1 n j ∧ pasF n X K V cr (itr n X K V cr r).2 (itr n X K V cr r).1 n j ≤ 41000
        have := hg.1
        omega
      · left
        obtain ⟨a1, a2⟩ := run_next hr q1 q2 q4
        refine ⟨a1, hi, fun hcr => ear_next (cr := cr) hg2 hp (he hcr) (fun j hj hjb => ear_left hg hp hcr hj hjb) rfl q2, ?_⟩
        show r + 1 + cntF X (pasF n X K V cr (itr n X K V cr r).2 (itr n X K V cr r).1 n) (nxI X (pasF n X K V cr (itr n X K V cr r).2 (itr n X K V cr r).1 n) (itr n X K V cr r).2 n) n ≤ n
        omega
    · exact Or.inr h
theorem run_some {n : Nat} {X : Nat → Int} {K : Nat → Nat} {V : Nat → Nat → Int} {cr : Int} (hn : n ≤ 40) (hc : 1 ≤ cr) (hx : ∀ j, j < n → 1 ≤ X j ∧ X j ≤ 1000) (hp : PreJ n K V) : ∃ q, (∀ j, j < n → (itr n X K V cr q).1 j ≠ nob) ∧ InvJ n X K V cr (itr n X K V cr q).1 ∧ ((n : Int) ≤ cr → ∀ j, j < n → (itr n X K V cr q).1 j = rdyF X (itr n X K V cr q).1 (V j) (K j)) ∧ ∀ j, j < n → 0 ≤ (itr n X K V cr q).1 j ∧ (itr n X K V cr q).1 j ≤ 41000 := by
  rcases run_all (cr := cr) hn hc hx hp (n + 1) with ⟨_, _, _, h⟩ | h
  · omega
  · exact h
theorem pre_jobs {n : Nat} {X : Nat → Int} {K : Nat → Nat} {V : Nat → Nat → Int} (h : jobsB n X K V = true) : n ≤ 40 ∧ (∀ j, j < n → 1 ≤ X j ∧ X j ≤ 1000) ∧ PreJ n K V := by
  obtain ⟨h1, h2⟩ := jobs_yes h
  refine ⟨h1, fun j hj => (job_yes (h2 j hj)).1, fun j hj i hi => ?_⟩
  have := (job_yes (h2 j hj)).2.2 i hi
  omega
theorem is_crit {n : Nat} {X : Nat → Int} {K : Nat → Nat} {V : Nat → Nat → Int} {I : Nat → Int} (hp : PreJ n K V) (h : ∀ j, j < n → I j = rdyF X I (V j) (K j)) : ∀ k j, j < k → j < n → I j = crT X K V n j := by
  intro k
  induction k with
  | zero => intro j hj; omega
  | succ k ih =>
    intro j hj hjn
    rw [h j hjn, crT_at X K V (show j + 1 ≤ n by omega) (Nat.lt_succ_self j), crT_new]
    refine rdy_same (K j) fun i hi => ?_
    have hv := hp j hjn i hi
    rw [ih _ (by omega) (by omega), crT_at X K V (show j ≤ n by omega) (by omega)]
theorem crit_low {n : Nat} {X : Nat → Int} {K : Nat → Nat} {V : Nat → Nat → Int} {B : Nat → Int} (hp : PreJ n K V) (h : ∀ j, j < n → rdyF X B (V j) (K j) ≤ B j) : ∀ k j, j < k → j < n → crT X K V n j ≤ B j := by
  intro k
  induction k with
  | zero => intro j hj; omega
  | succ k ih =>
    intro j hj hjn
    rw [crT_at X K V (show j + 1 ≤ n by omega) (Nat.lt_succ_self j), crT_new]
    refine Int.le_trans (rdy_mono (K j) fun i hi => ?_) (h j hjn)
    have hv := hp j hjn i hi
    rw [← crT_at X K V (show j ≤ n by omega) (by omega)]
    exact ih _ (by omega) (by omega)
theorem sch_yes {n : Nat} {X : Nat → Int} {K : Nat → Nat} {V : Nat → Nat → Int} {cr : Int} {m : Nat} {B : Nat → Int} (h : schB n X K V cr m B = true) : jobsB n X K V = true ∧ m = n ∧ (∀ j, j < n → rdyF X B (V j) (K j) ≤ B j) ∧ ∀ j, j < m → 0 ≤ B j ∧ B j ≤ 100000 := by
  unfold schB at h
  simp only [Bool.and_eq_true, decide_eq_true_iff] at h
  obtain ⟨h1, h2, h3, h4, h5⟩ := h
  refine ⟨h1, h3, fun j hj => ?_, allIn_yes h4.symm⟩
  have := h5 j hj
  unfold plnB at this
  simp only [Bool.and_eq_true, decide_eq_true_iff] at this
  exact this.1
/-- No schedule ends ahead of the critical row. -/
theorem sch_last {n : Nat} {X : Nat → Int} {K : Nat → Nat} {V : Nat → Nat → Int} {cr : Int} {m : Nat} {B : Nat → Int} (h : schB n X K V cr m B = true) : m = n ∧ criV n X K V ≤ lastF X B m := by
  obtain ⟨h1, rfl, h3, _⟩ := sch_yes h
  obtain ⟨_, _, hp⟩ := pre_jobs h1
  refine ⟨rfl, ?_⟩
  rw [cri_yes h1]
  exact last_mono m fun i hi => crit_low hp h3 (i + 1) i (by omega) hi
/-- The schedule is one, ends not ahead of the critical row, and just then where there are crews enough. -/
theorem sched_right {n : Nat} {X : Nat → Int} {K : Nat → Nat} {V : Nat → Nat → Int} {cr : Int} {FI : Nat → Int} (hs : sdB n X K V cr = true) (HF : ∀ r, (∀ j, j < n → (itr n X K V cr r).1 j ≠ nob) → ∀ j, j < n → (itr n X K V cr r).1 j = FI j) : schB n X K V cr n FI = true ∧ ((n : Int) ≤ cr → lastF X FI n = criV n X K V) ∧ (∀ j, j < n → 0 ≤ FI j ∧ FI j ≤ 41000) ∧ ∀ j, j < n → 1 ≤ X j ∧ X j ≤ 1000 := by
  unfold sdB at hs
  rw [Bool.and_eq_true] at hs
  obtain ⟨hj, hcr⟩ := hs
  have hc := inB_yes hcr
  obtain ⟨hn, hx, hp⟩ := pre_jobs hj
  obtain ⟨q, q1, q2, q3, q4⟩ := run_some (cr := cr) hn hc.1 hx hp
  have hF := HF q q1
  have hr : ∀ j, j < n → rdyF X FI (V j) (K j) = rdyF X (itr n X K V cr q).1 (V j) (K j) := fun j hj => rdy_same (K j) fun i hi => (hF _ (by have := hp j hj i hi; omega)).symm
  refine ⟨?_, fun hcn => ?_, fun j hj => by rw [← hF j hj]; exact q4 j hj, hx⟩
  · unfold schB
    have h1 : allInB 0 100000 FI n = true := decide_eq_true fun j hj => by
      have := q4 j hj
      rw [hF j hj] at this
      omega
    have h2 : ∀ j, j < n → plnB n X K V cr FI j = true := fun j hj => by
      obtain ⟨a1, a2⟩ := q2 j hj (q1 j hj)
      unfold plnB
      rw [hr j hj, ← hF j hj, bus_cong (B := FI) (B' := (itr n X K V cr q).1) n (fun i hi => (hF i hi).symm), decide_eq_true a1, decide_eq_true a2]
      rfl
    rw [hj, hcr, h1, decide_eq_true (rfl : n = n), decide_eq_true h2]
    rfl
  · rw [cri_yes hj]
    refine last_same n fun i hi => ?_
    rw [← hF i hi]
    exact is_crit hp (q3 hcn) (i + 1) i (by omega) hi
end Go.Proofs.YtffjhbgnhnnfiaaDoor
