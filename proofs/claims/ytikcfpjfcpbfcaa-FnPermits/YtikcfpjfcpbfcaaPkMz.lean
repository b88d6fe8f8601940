/-
What is proved: a permit put into a book, and taken out again, in numbers: tags, cutting off, what comes free.
-/
import Derived.Test.YtikcfpjfcpbfcaaZcH
import Derived.Test.YtikcfpjfcpbfcaaFeNz
namespace Go.Proofs.Ytikcfpjfcpbfcaa
set_option maxRecDepth 40000
open Go.ChangeShapes Go.WideShapes Go.ChangeAt Go.RowKit
set_option linter.unusedVariables false
set_option linter.unusedSimpArgs false

theorem inF_sk {α : Type} (q : Nat) (x : α) (F : Nat → α) : (fun i => inF q x F (sk q i)) = F := by
  funext i
  by_cases h : i < q
  · rw [sk_lt h, inF_lt h]
  · rw [sk_ge (by omega), inF_gt (by omega)]; rfl
theorem inF_x {α : Type} {q : Nat} {x : α} {F : Nat → α} (i : Nat) : (i < q ∧ inF q x F i = F i) ∨ (i = q ∧ inF q x F i = x) ∨ (q < i ∧ inF q x F i = F (i - 1)) := by
  rcases Nat.lt_trichotomy i q with h | h | h
  · exact .inl ⟨h, inF_lt h⟩
  · subst h; exact .inr (.inl ⟨rfl, inF_eq⟩)
  · exact .inr (.inr ⟨h, inF_gt h⟩)
theorem ref_zero {p : Int} {n : Nat} {D : Nat → Int × Int} {m : Nat} {S : Nat → Int} {nb : Nat} {X Y : Nat → Int} {id pl : Int} {k : Nat} {v : Nat → Int} (h : refV p n D m S nb X Y id pl k v = 0) : fmB p n id pl k v = true ∧ hasB X nb id = false ∧ freeB Y nb pl = true ∧ cutB p n D m S k v pl = true ∧ nb < 20 := by
  unfold refV at h
  split at h
  case isFalse => exact absurd h (by decide)
  next h1 =>
  split at h
  case isTrue => exact absurd h (by decide)
  next h2 =>
  split at h
  case isFalse => exact absurd h (by decide)
  next h3 =>
  split at h
  case isFalse => exact absurd h (by decide)
  next h4 =>
  split at h
  case isTrue => exact absurd h (by decide)
  next h5 => exact ⟨h1, by simpa using h2, h3, h4, by omega⟩
theorem bok_ins {p : Int} {n : Nat} {D : Nat → Int × Int} {m : Nat} {S : Nat → Int} {nb : Nat} {X Y : Nat → Int} {K : Nat → Nat} {V : Nat → Nat → Int} {id pl : Int} {kp : Nat} {vp : Nat → Int} {q : Nat} (h : bokB p n D m S nb X Y K V = true) (hr : refV p n D m S nb X Y id pl kp vp = 0) (hq : InsAt nb X id q) : bokB p n D m S (nb + 1) (inF q id X) (inF q pl Y) (inF q kp K) (inF q vp V) = true := by
  obtain ⟨h1, h2, h3⟩ := bok_yes h
  obtain ⟨r1, r2, r3, r4, r5⟩ := ref_zero hr
  obtain ⟨q1, q2, q3⟩ := hq
  have ff := of_decide_eq_true r3
  have fx : ∀ i, i < nb → lsB X i = true ∧ ∀ j, j < i → Y j ≠ Y i := fun i hi => ⟨(pm_yes (h3 i hi)).2.2.1, of_decide_eq_true (pm_yes (h3 i hi)).2.2.2⟩
  unfold bokB
  simp only [Bool.and_eq_true, decide_eq_true_iff]
  refine ⟨h1, by omega, fun i hi => ?_⟩
  have hf : ∀ j, j < i → inF q pl Y j ≠ inF q pl Y i := by
    intro j hj
    rcases inF_x (q := q) (x := pl) (F := Y) i with ⟨a, e⟩ | ⟨a, e⟩ | ⟨a, e⟩ <;> rcases inF_x (q := q) (x := pl) (F := Y) j with ⟨b, g⟩ | ⟨b, g⟩ | ⟨b, g⟩ <;> rw [e, g]
    · exact (fx i (by omega)).2 j hj
    · omega
    · omega
    · exact ff j (by omega)
    · omega
    · omega
    · exact (fx (i - 1) (by omega)).2 j (by omega)
    · exact fun z => ff (i - 1) (by omega) z.symm
    · exact (fx (i - 1) (by omega)).2 (j - 1) (by omega)
  have hl : lsB (inF q id X) i = true := by
    refine decide_eq_true ?_
    rcases Nat.eq_zero_or_pos i with z | z
    · exact .inl z
    refine .inr ?_
    rcases inF_x (q := q) (x := id) (F := X) i with ⟨a, e⟩ | ⟨a, e⟩ | ⟨a, e⟩ <;> rcases inF_x (q := q) (x := id) (F := X) (i - 1) with ⟨b, g⟩ | ⟨b, g⟩ | ⟨b, g⟩ <;> rw [e, g]
    · rcases of_decide_eq_true (fx i (by omega)).1 with q_ | q_
      · omega
      · exact q_
    · omega
    · omega
    · exact q2 (i - 1) (by omega)
    · omega
    · omega
    · omega
    · exact q3 (i - 1) (by omega) (by omega)
    · rcases of_decide_eq_true (fx (i - 1) (by omega)).1 with q_ | q_
      · omega
      · exact q_
  unfold pmB
  simp only [Bool.and_eq_true]
  rcases Nat.lt_trichotomy i q with a | a | a
  · obtain ⟨g1, g2, -, -⟩ := pm_yes (h3 i (by omega))
    rw [inF_lt a (F := X), inF_lt a (F := Y), inF_lt a (F := K), inF_lt a (F := V)]
    refine ⟨g1, g2, hl, decide_eq_true fun j hj => ?_⟩
    have := hf j hj
    rwa [inF_lt a (F := Y)] at this
  · subst a
    rw [inF_eq, inF_eq, inF_eq, inF_eq]
    refine ⟨r1, r4, hl, decide_eq_true fun j hj => ?_⟩
    have := hf j hj
    rwa [inF_eq] at this
  · obtain ⟨g1, g2, -, -⟩ := pm_yes (h3 (i - 1) (by omega))
    rw [inF_gt a (F := X), inF_gt a (F := Y), inF_gt a (F := K), inF_gt a (F := V)]
    refine ⟨g1, g2, hl, decide_eq_true fun j hj => ?_⟩
    have := hf j hj
    rwa [inF_gt a (F := Y)] at this
theorem hit_ins {nb : Nat} {X : Nat → Int} {id : Int} {q : Nat} (h : InsAt nb X id q) : HitAt (nb + 1) (inF q id X) id q := by
  obtain ⟨q1, q2, q3⟩ := h
  refine ⟨by omega, fun j hj => ?_⟩
  rcases inF_x (q := q) (x := id) (F := X) j with ⟨a, e⟩ | ⟨a, e⟩ | ⟨a, e⟩ <;> rw [e]
  · have := q2 j a
    constructor <;> intro z <;> omega
  · exact ⟨fun _ => a, fun _ => rfl⟩
  · have := q3 (j - 1) (by omega) (by omega)
    constructor <;> intro z <;> omega
theorem hit_out {nb : Nat} {X : Nat → Int} {id : Int} {q : Nat} (h : InsAt nb X id q) : HitAt nb X id nb := by
  obtain ⟨q1, q2, q3⟩ := h
  refine ⟨Nat.le_refl _, fun j hj => ?_⟩
  by_cases z : j < q
  · have := q2 j z
    constructor <;> intro y <;> omega
  · have := q3 j (by omega) hj
    constructor <;> intro y <;> omega
def oneB (V : Nat → Int) (k v : Nat) : Int := if hasB V k (v : Int) = true then 1 else 0
theorem cnt_ins_lo (K : Nat → Nat) (V : Nat → Nat → Int) (q k : Nat) (vp : Nat → Int) (v : Nat) : ∀ j, j ≤ q → cntP (inF q k K) (inF q vp V) j v = cntP K V j v := by
  intro j
  induction j with
  | zero => intro _; rfl
  | succ j ih =>
    intro h
    unfold cntP
    rw [ih (by omega), inF_lt (F := K) (by omega), inF_lt (F := V) (by omega)]
theorem cnt_ins (K : Nat → Nat) (V : Nat → Nat → Int) (q k : Nat) (vp : Nat → Int) (v : Nat) : ∀ j, q ≤ j → cntP (inF q k K) (inF q vp V) (j + 1) v = cntP K V j v + oneB vp k v := by
  intro j
  induction j with
  | zero =>
    intro h
    obtain rfl : q = 0 := by omega
    show cntP (inF 0 k K) (inF 0 vp V) 0 v + (if hasB (inF 0 vp V 0) (inF 0 k K 0) (v : Int) = true then 1 else 0) = 0 + oneB vp k v
    rw [cnt_ins_lo K V 0 k vp v 0 (Nat.le_refl _), inF_eq, inF_eq]
    rfl
  | succ j ih =>
    intro h
    by_cases e : q = j + 1
    · subst e
      rw [cntP, cnt_ins_lo K V (j + 1) k vp v (j + 1) (Nat.le_refl _), inF_eq, inF_eq]
      rfl
    · rw [cntP, ih (by omega), inF_gt (F := K) (by omega), inF_gt (F := V) (by omega), Nat.add_sub_cancel]
      show _ = (cntP K V j v + _) + _
      omega
/-- The sum of a function over the numbers below a bound. -/
def suI (f : Nat → Int) : Nat → Int
  | 0 => 0
  | k + 1 => suI f k + f k
theorem suI_zero (n : Nat) : suI (fun _ => 0) n = 0 := by
  induction n with
  | zero => rfl
  | succ n ih => unfold suI; rw [ih]; rfl
theorem suI_add (f g : Nat → Int) (k : Nat) : suI (fun v => f v + g v) k = suI f k + suI g k := by
  induction k with
  | zero => rfl
  | succ k ih => unfold suI; rw [ih]; omega
theorem suI_congr {f g : Nat → Int} (k : Nat) (h : ∀ v, v < k → f v = g v) : suI f k = suI g k := by
  induction k with
  | zero => rfl
  | succ k ih => unfold suI; rw [ih fun v hv => h v (by omega), h k (by omega)]
theorem suI_at {x n : Nat} : ∀ k, suI (fun v => if v = x then (1 : Int) else 0) k = if x < k then 1 else 0 := by
  intro k
  induction k with
  | zero => rfl
  | succ k ih =>
    unfold suI
    rw [ih]
    split <;> split <;> split <;> omega
theorem suI_in {f : Nat → Int} {B : Int} (k : Nat) (h : ∀ v, v < k → 0 ≤ f v ∧ f v ≤ B) : 0 ≤ suI f k ∧ suI f k ≤ B * (k : Int) := by
  induction k with
  | zero => unfold suI; simp
  | succ k ih =>
    have := ih fun v hv => h v (by omega)
    have := h k (by omega)
    unfold suI
    have e : B * ((k + 1 : Nat) : Int) = B * (k : Int) + B := by rw [Int.natCast_add, Int.mul_add]; simp
    omega
theorem one_sum {U : Nat → Int} {n : Nat} : ∀ k, risB U k = true → (∀ j, j < k → 0 ≤ U j ∧ U j < (n : Int)) → suI (fun v => oneB U k v) n = (k : Int) := by
  intro k
  induction k with
  | zero =>
    intro _ _
    have : ∀ v, v < n → oneB U 0 v = 0 := fun v _ => if_neg (by unfold hasB; simp)
    rw [suI_congr n this]
    exact suI_zero n
  | succ k ih =>
    intro hr hb
    have hr2 : risB U k = true := decide_eq_true fun j h1 h2 => of_decide_eq_true hr j (by omega) (by omega)
    obtain ⟨x, hx⟩ : ∃ x : Nat, U k = (x : Int) := ⟨(U k).toNat, by have := (hb k (by omega)).1; omega⟩
    have hxn : x < n := by have := (hb k (by omega)).2; omega
    have : ∀ v, v < n → oneB U (k + 1) v = oneB U k v + (if v = x then 1 else 0) := by
      intro v _
      by_cases e : v = x
      · subst e
        have h1 : hasB U (k + 1) (v : Int) = true := decide_eq_true ⟨k, by omega, hx⟩
        have h2 : hasB U k (v : Int) = false := by rw [← hx]; exact ris_has hr (by omega)
        unfold oneB
        rw [h1, h2]; simp
      · rw [if_neg e]
        unfold oneB
        rw [has_succ (by rw [hx]; omega)]; simp
    rw [suI_congr n this, suI_add, ih hr2 fun j hj => hb j (by omega), suI_at (n := n), if_pos hxn]
    simp
theorem cnt_sum {K : Nat → Nat} {V : Nat → Nat → Int} {n : Nat} : ∀ nb, (∀ i, i < nb → risB (V i) (K i) = true ∧ ∀ j, j < K i → 0 ≤ V i j ∧ V i j < (n : Int)) → suI (fun v => cntP K V nb v) n = suI (fun i => (K i : Int)) nb := by
  intro nb
  induction nb with
  | zero =>
    intro _
    exact suI_zero n
  | succ nb ih =>
    intro h
    have e : (fun v => cntP K V (nb + 1) v) = fun v => cntP K V nb v + oneB (V nb) (K nb) v := rfl
    rw [e, suI_add, ih fun i hi => h i (by omega), one_sum (K nb) (h nb (by omega)).1 (h nb (by omega)).2]
    rfl
/-- The valves that carry a tag, in order. -/
def tgL (c : Nat → Int) : Nat → List Int
  | 0 => []
  | k + 1 => if 0 < c k then tgL c k ++ [(k : Int)] else tgL c k
theorem tgL_mem {c : Nat → Int} {v : Nat} : ∀ k, v < k → 0 < c v → (v : Int) ∈ tgL c k := by
  intro k
  induction k with
  | zero => intro h; omega
  | succ k ih =>
    intro h1 h2
    unfold tgL
    by_cases e : v = k
    · subst e; rw [if_pos h2]; simp
    · have := ih (by omega) h2
      split
      · exact List.mem_append_left _ this
      · exact this
theorem mem_hasW {l : List Int} {v : Nat} (h : (v : Int) ∈ l) : hasW (nthI l) l.length v = true := by
  obtain ⟨j, hj, e⟩ := List.getElem_of_mem h
  refine hasW_iff.2 ⟨j, hj, ?_⟩
  unfold nthI
  rw [List.getD_eq_getElem?_getD, List.getElem?_eq_getElem hj, e]
  rfl
theorem reach_more {n : Nat} {D : Nat → Int × Int} {A B W0 : Nat → Bool} {x : Nat} (hs : ∀ j, j < n → A j = true → B j = true) (h : Reach n D B W0 x) : Reach n D A W0 x := by
  intro T h1 h2 h3
  have go : ∀ j, j < n → B j = false → A j = false := fun j hj e => by
    cases z : A j
    · rfl
    · rw [hs j hj z] at e; cases e
  exact h T h1 (fun j hj e => h2 j hj (go j hj e)) (fun j hj e => h3 j hj (go j hj e))
theorem cut_more {p : Int} {n : Nat} {D : Nat → Int × Int} {m : Nat} {S : Nat → Int} {k l : Nat} {Q R : Nat → Int} {x : Int} (h : cutB p n D m S k Q x = true) (hs : ∀ j, j < n → hasW Q k j = true → hasW R l j = true) : cutB p n D m S l R x = true := by
  obtain ⟨h1, h2⟩ := cutB_yes h
  rw [cut_reach h1 h2] at h ⊢
  exact fun z => h (reach_more hs z)
theorem cnt_pos {K : Nat → Nat} {V : Nat → Nat → Int} {i v : Nat} (h : hasB (V i) (K i) (v : Int) = true) : ∀ nb, i < nb → 0 < cntP K V nb v := by
  intro nb
  induction nb with
  | zero => intro q; omega
  | succ nb ih =>
    intro q
    have h0 := (cntP_in K V nb v).1
    unfold cntP
    by_cases e : i = nb
    · subst e; rw [if_pos h]; omega
    · have := ih (by omega)
      split <;> omega
theorem cut_tags {p : Int} {n : Nat} {D : Nat → Int × Int} {m : Nat} {S : Nat → Int} {nb : Nat} {X Y : Nat → Int} {K : Nat → Nat} {V : Nat → Nat → Int} (h : bokB p n D m S nb X Y K V = true) {i : Nat} (hi : i < nb) : cutB p n D m S (tgL (fun v => cntP K V nb v) n).length (nthI (tgL (fun v => cntP K V nb v) n)) (Y i) = true := by
  obtain ⟨h1, h2, h3⟩ := bok_yes h
  refine cut_more (pm_yes (h3 i hi)).2.1 fun j hj e => mem_hasW (tgL_mem n hj (cnt_pos (i := i) ?_ nb hi))
  obtain ⟨r, hr, e⟩ := hasW_iff.1 e
  exact decide_eq_true ⟨r, hr, e⟩
theorem fre_mem {U T : Nat → Int} {v : Nat} : ∀ k, (∀ j, j < k → 0 ≤ U j) → ((v : Int) ∈ freL U T k ↔ hasB U k (v : Int) = true ∧ T v = 0) := by
  intro k
  induction k with
  | zero => intro _; simp [freL, hasB]
  | succ k ih =>
    intro h
    have ih := ih fun j hj => h j (by omega)
    obtain ⟨x, hx⟩ : ∃ x : Nat, U k = (x : Int) := ⟨(U k).toNat, by have := h k (by omega); omega⟩
    unfold freL
    rw [hx, Int.toNat_natCast]
    by_cases e : v = x
    · subst e
      have h1 : hasB U (k + 1) (v : Int) = true := decide_eq_true ⟨k, by omega, hx⟩
      rw [h1]
      by_cases t : T v = 0
      · rw [if_pos t]; simp [t]
      · rw [if_neg t, ih]; simp [t]
    · rw [has_succ (by rw [hx]; omega)]
      have ne : ¬ (v : Int) = (x : Int) := by omega
      split
      · rw [List.mem_append, ih]; simp [ne]
      · exact ih
theorem mem_hasB {l : List Int} {x : Int} : hasB (nthI l) l.length x = true ↔ x ∈ l := by
  unfold hasB
  rw [decide_eq_true_iff]
  constructor
  · rintro ⟨j, hj, e⟩
    unfold nthI at e
    rw [List.getD_eq_getElem?_getD, List.getElem?_eq_getElem hj] at e
    rw [← e]
    exact List.getElem_mem hj
  · intro h
    obtain ⟨j, hj, e⟩ := List.getElem_of_mem h
    refine ⟨j, hj, ?_⟩
    unfold nthI
    rw [List.getD_eq_getElem?_getD, List.getElem?_eq_getElem hj, e]
    rfl
theorem free_is {K : Nat → Nat} {V : Nat → Nat → Int} {nb q k : Nat} {vp : Nat → Int} {v : Nat} (hq : q ≤ nb) (hv : ∀ j, j < k → 0 ≤ vp j) : hasB (nthI (freL vp (cntP K V nb) k)) (freL vp (cntP K V nb) k).length (v : Int) = (decide (cntP K V nb v = 0) && decide (0 < cntP (inF q k K) (inF q vp V) (nb + 1) v)) := by
  rw [cnt_ins K V q k vp v nb hq]
  have h0 := (cntP_in K V nb v).1
  have he : (hasB (nthI (freL vp (cntP K V nb) k)) (freL vp (cntP K V nb) k).length (v : Int) = true) ↔ (decide (cntP K V nb v = 0) && decide (0 < cntP K V nb v + oneB vp k v)) = true := by
    rw [mem_hasB, fre_mem k hv]
    unfold oneB
    simp only [Bool.and_eq_true, decide_eq_true_iff]
    cases hasB vp k (v : Int)
    · simp; omega
    · simp; omega
  cases a : hasB (nthI (freL vp (cntP K V nb) k)) (freL vp (cntP K V nb) k).length (v : Int)
  · cases b : (decide (cntP K V nb v = 0) && decide (0 < cntP K V nb v + oneB vp k v))
    · rfl
    · rw [he.2 b] at a; cases a
  · rw [he.1 a]
end Go.Proofs.Ytikcfpjfcpbfcaa
