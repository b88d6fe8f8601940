/-
What is proved: a step keeps a board right; what is told was quiet or gone ahead of it, and is new behind it; what the first one of a group is.
-/
import Derived.Test.YtlbbdifmjdpfiaaBqNz
import Derived.Test.YtlbbdifmjdpfiaaFstz
namespace Go.Proofs.Ytlbbdifmjdpfiaa
set_option maxRecDepth 40000
open Go.ChangeShapes Go.WideShapes Go.ChangeAt Go.RowKit
set_option linter.unusedVariables false
set_option linter.unusedSimpArgs false

def uniqB (n : Nat) (V : Nat → Int × Int × Int × Bool × Int) : Prop := ∀ i j, i < n → j < n → i ≠ j → (V i).2.2.2.1 = true → (V j).2.2.2.1 = true → (V i).1 ≠ (V j).1
theorem led_iff {V : Nat → Int × Int × Int × Bool × Int} {g : Int} : ∀ k, ledB V k g = true ↔ ∃ j, j < k ∧ (V j).2.2.2.1 = true ∧ (V j).1 = g := by
  intro k
  induction k with
  | zero => exact ⟨fun h => (by cases h), fun ⟨j, h, _⟩ => absurd h (Nat.not_lt_zero _)⟩
  | succ k ih =>
    simp only [ledB, Bool.or_eq_true, Bool.and_eq_true, decide_eq_true_iff, ih]
    constructor
    · rintro (⟨j, h1, h2, h3⟩ | ⟨h2, h3⟩)
      · exact ⟨j, by omega, h2, h3⟩
      · exact ⟨k, by omega, h2, h3⟩
    · rintro ⟨j, h1, h2, h3⟩
      by_cases e : j = k
      · subst e; exact .inr ⟨h2, h3⟩
      · exact .inl ⟨j, by omega, h2, h3⟩
def goodB (n : Nat) (V : Nat → Int × Int × Int × Bool × Int) : Prop := (∀ j, j < n → almB (V j) = true) ∧ uniqB n V
theorem ok_good {V : Nat → Int × Int × Int × Bool × Int} : ∀ n, okB V n = true ↔ goodB n V := by
  intro n
  induction n with
  | zero => exact ⟨fun _ => ⟨fun j h => absurd h (Nat.not_lt_zero _), fun i j h => absurd h (Nat.not_lt_zero _)⟩, fun _ => rfl⟩
  | succ n ih =>
    have e : okB V (n + 1) = (okB V n && (almB (V n) && !((V n).2.2.2.1 && ledB V n (V n).1))) := rfl
    rw [e, Bool.and_eq_true, ih, Bool.and_eq_true]
    constructor
    · rintro ⟨⟨h1, h2⟩, h3, h4⟩
      have h5 : (V n).2.2.2.1 = true → ledB V n (V n).1 = false := fun q => by
        rw [q] at h4
        simpa using h4
      have h6 : ∀ i, i < n → (V i).2.2.2.1 = true → (V n).2.2.2.1 = true → (V i).1 ≠ (V n).1 := fun i hi a b c => by
        have := (led_iff (V := V) (g := (V n).1) n).2 ⟨i, hi, a, c⟩
        rw [h5 b] at this
        cases this
      refine ⟨fun j hj => ?_, fun i j hi hj ne a b => ?_⟩
      · by_cases q : j = n
        · subst q; exact h3
        · exact h1 j (by omega)
      · by_cases q : j = n
        · subst q; exact h6 i (by omega) a b
        · by_cases q2 : i = n
          · subst q2; exact fun z => h6 j (by omega) b a z.symm
          · exact h2 i j (by omega) (by omega) ne a b
    · rintro ⟨h1, h2⟩
      refine ⟨⟨fun j hj => h1 j (by omega), fun i j hi hj => h2 i j (by omega) (by omega)⟩, h1 n (by omega), ?_⟩
      cases q : (V n).2.2.2.1
      · rfl
      · cases q2 : ledB V n (V n).1
        · rfl
        · obtain ⟨j, h3, h4, h5⟩ := (led_iff n).1 q2
          exact absurd h5 (h2 j n (by omega) (by omega) (by omega) h4 q)
theorem board_good {x : Int} {n : Nat} {V : Nat → Int × Int × Int × Bool × Int} : boardB x n V = true ↔ (0 ≤ x ∧ x ≤ 1000000000) ∧ n ≤ 60 ∧ goodB n V := by
  constructor
  · intro h
    obtain ⟨h1, h2, h3⟩ := board_yes h
    exact ⟨h1, h2, (ok_good n).1 h3⟩
  · rintro ⟨h1, h2, h3⟩
    unfold boardB
    rw [(ok_good n).2 h3, decide_eq_true h2, show inB 0 1000000000 x = true from decide_eq_true h1]
    rfl
theorem alm_set {G O T U : Int} {F : Bool} (h1 : 1 ≤ G ∧ G ≤ 9) (h2 : 0 ≤ O ∧ O ≤ 255) (h3 : 0 ≤ T ∧ T ≤ 3) (h4 : 0 ≤ U ∧ U ≤ 1000001000) (h5 : T = 0 → F = false) : almB (G, O, T, F, U) = true := by
  unfold almB inB
  simp only [Bool.and_eq_true, Bool.or_eq_true, decide_eq_true_iff]
  refine ⟨h1, h2, h3, h4, ?_⟩
  by_cases e : T = 0
  · right; rw [h5 e]; rfl
  · left; simpa using e
theorem good_upd {n j : Nat} {V : Nat → Int × Int × Int × Bool × Int} {z : Int × Int × Int × Bool × Int} (h : goodB n V) (hj : j < n) (ha : almB z = true) (hu : z.2.2.2.1 = true → ((V j).2.2.2.1 = true ∧ z.1 = (V j).1) ∨ ∀ i, i < n → (V i).1 = z.1 → (V i).2.2.2.1 = false) : goodB n (upd V j z) := by
  have one : ∀ i, i < n → i ≠ j → (V i).2.2.2.1 = true → z.2.2.2.1 = true → (V i).1 ≠ z.1 := fun i hi ne a b c => by
    rcases hu b with ⟨q1, q2⟩ | q
    · exact h.2 i j hi hj ne a q1 (c.trans q2)
    · rw [q i hi c] at a; cases a
  refine ⟨fun i hi => ?_, fun i k hi hk ne a b => ?_⟩
  · by_cases e : i = j
    · subst e; rw [upd_at]; exact ha
    · rw [upd_off _ _ e]; exact h.1 i hi
  · by_cases e : i = j
    · subst e
      rw [upd_at] at a ⊢
      rw [upd_off _ _ (fun z => ne z.symm)] at b ⊢
      exact fun c => one k hk (fun z => ne z.symm) b a c.symm
    · rw [upd_off _ _ e] at a ⊢
      by_cases e2 : k = j
      · subst e2
        rw [upd_at] at b ⊢
        exact one i hi e a b
      · rw [upd_off _ _ e2] at b ⊢
        exact h.2 i k hi hk ne a b
theorem good_sh {n : Nat} {x : Int} {V : Nat → Int × Int × Int × Bool × Int} {Sh : Nat → Int × Int} (h : goodB n V) (hx : 0 ≤ x ∧ x ≤ 1000000000) : ∀ k, (∀ j, j < k → shfB n (Sh j) = true) → goodB n (shV x V Sh k) := by
  intro k
  induction k with
  | zero => intro _; exact h
  | succ k ih =>
    intro hs
    have g := ih fun j hj => hs j (by omega)
    have q := hs k (by omega)
    unfold shfB at q
    rw [Bool.and_eq_true] at q
    obtain ⟨q1, q2⟩ := inB_yes q.1
    obtain ⟨q3, q4⟩ := inB_yes q.2
    have hl : (Sh k).1.toNat < n := by omega
    have a := alm_yes (g.1 _ hl)
    exact good_upd g hl (alm_set a.1 a.2.1 a.2.2.1 (by omega) a.2.2.2.2) fun b => .inl ⟨b, rfl⟩
theorem good_se {n : Nat} {V : Nat → Int × Int × Int × Bool × Int} {Se : Nat → Int} (h : goodB n V) : ∀ k, (∀ j, j < k → 0 ≤ Se j ∧ Se j ≤ (n : Int) - 1) → goodB n (seV V Se k) := by
  intro k
  induction k with
  | zero => intro _; exact h
  | succ k ih =>
    intro hs
    have g := ih fun j hj => hs j (by omega)
    have q := hs k (by omega)
    have hl : (Se k).toNat < n := by omega
    have a := alm_yes (g.1 _ hl)
    show goodB n (upd (seV V Se k) (Se k).toNat (seenF (seV V Se k (Se k).toNat)))
    unfold seenF
    split
    · next e => exact good_upd g hl (alm_set a.1 a.2.1 (by omega) a.2.2.2.1 (fun z => by omega)) fun b => .inl ⟨b, rfl⟩
    · split
      · exact good_upd g hl (alm_set a.1 a.2.1 (by omega) a.2.2.2.1 (fun _ => rfl)) fun b => by cases b
      · exact good_upd g hl (g.1 _ hl) fun b => .inl ⟨b, rfl⟩
theorem alo_yes {V : Nat → Int × Int × Int × Bool × Int} {n : Nat} {g : Int} (h : aloB V n g = true) : ∀ j, j < n → (V j).1 = g → (V j).2.2.1 = 0 := fun j hj e => by
  have := of_decide_eq_true h j hj
  exact Classical.byContradiction fun z => this ⟨e, z⟩
theorem good_li {n : Nat} {V : Nat → Int × Int × Int × Bool × Int} {Th : Nat → Bool} {mo x : Int} (h : goodB n V) : ∀ k, k ≤ n → goodB n (liV V n Th mo x k) := by
  intro k
  induction k with
  | zero => intro _; exact h
  | succ k ih =>
    intro hk
    have g := ih (by omega)
    have hl : k < n := by omega
    have a := alm_yes (g.1 _ hl)
    show goodB n (upd (liV V n Th mo x k) k (lisF (liV V n Th mo x k k) (heaB (liV V n Th mo x k k) (Th k) mo x) (aloB (liV V n Th mo x k) n (liV V n Th mo x k k).1)))
    unfold lisF
    split
    · split
      · refine good_upd g hl (alm_set a.1 a.2.1 (by omega) a.2.2.2.1 (fun z => by omega)) fun b => .inr fun i hi e => ?_
        have q := alo_yes b i hi e
        exact (alm_yes (g.1 i hi)).2.2.2.2 q
      · split
        · exact good_upd g hl (alm_set a.1 a.2.1 (by omega) a.2.2.2.1 (fun z => by omega)) fun b => .inl ⟨b, rfl⟩
        · exact good_upd g hl (g.1 _ hl) fun b => .inl ⟨b, rfl⟩
    · split
      · exact good_upd g hl (alm_set a.1 a.2.1 (by omega) a.2.2.2.1 (fun z => by omega)) fun b => .inl ⟨b, rfl⟩
      · split
        · exact good_upd g hl (alm_set a.1 a.2.1 (by omega) a.2.2.2.1 (fun _ => rfl)) fun b => by cases b
        · exact good_upd g hl (g.1 _ hl) fun b => .inl ⟨b, rfl⟩
theorem stp_yes {x : Int} {n : Nat} {V : Nat → Int × Int × Int × Bool × Int} {mo : Int} {nt ns : Nat} {Se : Nat → Int} {nh : Nat} {Sh : Nat → Int × Int} (h : stpB x n V mo nt ns Se nh Sh = true) : boardB x n V = true ∧ nt = n ∧ (∀ j, j < ns → 0 ≤ Se j ∧ Se j ≤ (n : Int) - 1) ∧ (∀ j, j < nh → shfB n (Sh j) = true) ∧ x ≠ 1000000000 := by
  unfold stpB scnB shsB allInB at h
  simp only [Bool.and_eq_true, decide_eq_true_iff, Bool.not_eq_true', decide_eq_false_iff_not] at h
  obtain ⟨h1, ⟨h2, h3, h4, h5, h6, h7⟩, h8⟩ := h
  exact ⟨h1, h3, fun j hj => by simpa using h5 j hj, h7, h8⟩
theorem step_board {x : Int} {n : Nat} {V : Nat → Int × Int × Int × Bool × Int} {mo : Int} {nt : Nat} {Th : Nat → Bool} {ns : Nat} {Se : Nat → Int} {nh : Nat} {Sh : Nat → Int × Int} (h : stpB x n V mo nt ns Se nh Sh = true) : boardB (x + 1) n (stV x n V mo nt Th ns Se nh Sh) = true := by
  obtain ⟨h1, h2, h3, h4, h5⟩ := stp_yes h
  obtain ⟨b1, b2, b3⟩ := board_good.1 h1
  exact board_good.2 ⟨by omega, b2, good_li (good_se (good_sh b3 (by omega) nh h4) ns h3) n (Nat.le_refl _)⟩
/-- No alarm that was new or seen is told. -/
theorem li_at (V : Nat → Int × Int × Int × Bool × Int) (n : Nat) (Th : Nat → Bool) (mo x : Int) : ∀ k j, k ≤ j → liV V n Th mo x k j = V j := by
  intro k
  induction k with
  | zero => intro j _; rfl
  | succ k ih =>
    intro j h
    show upd _ k _ j = _
    rw [upd_off _ _ (by omega)]
    exact ih j (by omega)
theorem li_done (V : Nat → Int × Int × Int × Bool × Int) (n : Nat) (Th : Nat → Bool) (mo x : Int) (j : Nat) : ∀ k, j < k → liV V n Th mo x k j = liV V n Th mo x (j + 1) j := by
  intro k
  induction k with
  | zero => intro h; omega
  | succ k ih =>
    intro h
    by_cases e : j = k
    · subst e; rfl
    · show upd _ k _ j = _
      rw [upd_off _ _ e]
      exact ih (by omega)
theorem li_told {V : Nat → Int × Int × Int × Bool × Int} {n : Nat} {Th : Nat → Bool} {mo x v : Int} {m : Nat} : ∀ k, k ≤ m → v ∈ liL V n Th mo x k → ∃ j : Nat, v = (j : Int) ∧ j < k ∧ ((V j).2.2.1 = 0 ∨ (V j).2.2.1 = 3) ∧ (liV V n Th mo x m j).2.2.1 = 1 := by
  intro k
  induction k with
  | zero => intro _ h; cases h
  | succ k ih =>
    intro hk h
    unfold liL at h
    have go : v ∈ liL V n Th mo x k → ∃ j : Nat, v = (j : Int) ∧ j < k + 1 ∧ ((V j).2.2.1 = 0 ∨ (V j).2.2.1 = 3) ∧ (liV V n Th mo x m j).2.2.1 = 1 := fun q => by
      obtain ⟨j, h1, h2, h3⟩ := ih (by omega) q
      exact ⟨j, h1, by omega, h3⟩
    split at h
    · next t =>
      rcases List.mem_append.1 h with q | q
      · exact go q
      · have e : v = (k : Int) := by simpa using q
        subst e
        rw [li_at V n Th mo x k k (Nat.le_refl _)] at t
        unfold telB at t
        simp only [Bool.and_eq_true, Bool.or_eq_true, decide_eq_true_iff] at t
        refine ⟨k, rfl, by omega, t.2, ?_⟩
        rw [li_done V n Th mo x k m (by omega)]
        show (upd _ k _ k).2.2.1 = 1
        rw [upd_at, li_at V n Th mo x k k (Nat.le_refl _)]
        unfold lisF
        rw [if_pos t.1]
        split
        · rfl
        · next z =>
          rw [if_pos (t.2.resolve_left z)]
    · exact go h
theorem sh_state (V : Nat → Int × Int × Int × Bool × Int) (x : Int) (Sh : Nat → Int × Int) (j : Nat) : ∀ k, (shV x V Sh k j).2.2.1 = (V j).2.2.1 := by
  intro k
  induction k with
  | zero => rfl
  | succ k ih =>
    show (upd _ _ _ j).2.2.1 = _
    by_cases e : j = (Sh k).1.toNat
    · subst e; rw [upd_at]; exact ih
    · rw [upd_off _ _ e]; exact ih
theorem se_state {V : Nat → Int × Int × Int × Bool × Int} {Se : Nat → Int} {j : Nat} (h : (V j).2.2.1 = 1 ∨ (V j).2.2.1 = 2) : ∀ k, (seV V Se k j).2.2.1 = 1 ∨ (seV V Se k j).2.2.1 = 2 := by
  intro k
  induction k with
  | zero => exact h
  | succ k ih =>
    show (upd _ _ _ j).2.2.1 = 1 ∨ (upd _ _ _ j).2.2.1 = 2
    by_cases e : j = (Se k).toNat
    · subst e
      rw [upd_at]
      unfold seenF
      split
      · exact .inr rfl
      · split
        · next z => rcases ih with q | q <;> rw [q] at z <;> cases z
        · exact ih
    · rw [upd_off _ _ e]; exact ih
theorem step_told {x : Int} {n : Nat} {V : Nat → Int × Int × Int × Bool × Int} {mo : Int} {nt : Nat} {Th : Nat → Bool} {ns : Nat} {Se : Nat → Int} {nh : Nat} {Sh : Nat → Int × Int} {v : Int} (hv : v ∈ stT x n V mo nt Th ns Se nh Sh) : ∃ j : Nat, v = (j : Int) ∧ j < n ∧ (V j).2.2.1 ≠ 1 ∧ (V j).2.2.1 ≠ 2 ∧ (stV x n V mo nt Th ns Se nh Sh j).2.2.1 = 1 := by
  unfold stT at hv
  split at hv
  · obtain ⟨j, h1, h2, h3, h4⟩ := li_told n (Nat.le_refl _) hv
    have no : ¬ ((V j).2.2.1 = 1 ∨ (V j).2.2.1 = 2) := fun z => by
      rw [← sh_state V (x + 1) Sh j nh] at z
      have := se_state (Se := Se) z ns
      omega
    exact ⟨j, h1, h2, fun z => no (.inl z), fun z => no (.inr z), h4⟩
  · cases hv
theorem fir_spec {V : Nat → Int × Int × Int × Bool × Int} {g : Int} : ∀ n, (firTo V g n = -1 ∧ ∀ k, k < n → hitB (V k) g = false) ∨ ∃ k : Nat, k < n ∧ firTo V g n = (k : Int) ∧ hitB (V k) g = true := by
  intro n
  induction n with
  | zero => exact .inl ⟨rfl, fun k h => absurd h (Nat.not_lt_zero _)⟩
  | succ n ih =>
    rcases ih with ⟨h1, h2⟩ | ⟨k, h1, h2, h3⟩
    · cases e : hitB (V n) g
      · refine .inl ⟨fir_on h1 e, fun k hk => ?_⟩
        by_cases q : k = n
        · subst q; exact e
        · exact h2 k (by omega)
      · exact .inr ⟨n, by omega, fir_hit h1 e (Nat.le_refl _), e⟩
    · refine .inr ⟨k, by omega, ?_, h3⟩
      show (if firTo V g n = -1 then _ else _) = _
      rw [if_neg (by rw [h2]; omega), h2]
theorem fir_use {x : Int} {n : Nat} {V : Nat → Int × Int × Int × Bool × Int} {g : Int} (h : boardB x n V = true) : (firV x n V g = -1) ∨ ∃ k : Nat, k < n ∧ firV x n V g = (k : Int) ∧ (V k).1 = g ∧ (V k).2.2.2.1 = true ∧ (V k).2.2.1 ≠ 0 := by
  unfold firV
  rw [if_pos h]
  rcases fir_spec (V := V) (g := g) n with ⟨h1, h2⟩ | ⟨k, h1, h2, h3⟩
  · exact .inl h1
  · unfold hitB at h3
    rw [Bool.and_eq_true, decide_eq_true_iff] at h3
    refine .inr ⟨k, h1, h2, h3.2, h3.1, fun z => ?_⟩
    have a := (alm_yes ((board_good.1 h).2.2.1 k h1)).2.2.2.2 z
    rw [a] at h3
    cases h3.1
/-- Along a run. -/
theorem run_at {x : Int} {n : Nat} {V : Nat → Int × Int × Int × Bool × Int} {m : Nat} {Z : Nat → Int × Nat × (Nat → Bool) × Nat × (Nat → Int) × Nat × (Nat → Int × Int)} (h : bqB x n V m Z = true) : (∀ k, k < m → bqO x n V Z k = true) ∧ ∀ k, k ≤ m → boardB (x + (k : Int)) n (bqV x n V Z k) = true := by
  unfold bqB at h
  simp only [Bool.and_eq_true, decide_eq_true_iff] at h
  obtain ⟨h1, h2, h3⟩ := h
  have ho : ∀ k, k < m → bqO x n V Z k = true := fun k hk => by
    cases e : bqO x n V Z k
    · have : bqT x n V Z (k + 1) = false := by simp [bqT, e]
      rw [bqT_no (show k + 1 ≤ m by omega) this] at h3
      cases h3
    · rfl
  refine ⟨ho, fun k => ?_⟩
  induction k with
  | zero => intro _; simpa [bqV] using h1
  | succ k ih =>
    intro hk
    have e := step_board (Th := (Z k).2.2.1) (ho k (by omega))
    rw [show x + ((k + 1 : Nat) : Int) = x + (k : Int) + 1 by omega]
    exact e
end Go.Proofs.Ytlbbdifmjdpfiaa
