/-
What is proved: a cut's list is its set, without one of its basics it is the set without it; a failing set contains a least one.
-/
import Derived.Test.YtpaiajeigdifcaaCxJz
import Derived.Test.YtpaiajeigdifcaaQcC
namespace Go.Proofs.Ytpaiajeigdifcaa
set_option maxRecDepth 40000
open Go.ChangeShapes Go.WideShapes Go.ChangeAt Go.RowKit
set_option linter.unusedVariables false
set_option linter.unusedSimpArgs false

theorem less_all : ((List.range 1024).all fun b => (List.range 10).all fun i => !b.testBit i || (List.range 10).all fun j => (b - 2 ^ i).testBit j == (b.testBit j && (j != i))) = true := by kernel_rfl
theorem less_bit {b i j : Nat} (hb : b < 1024) (hi : i < 10) (hj : j < 10) (h : b.testBit i = true) : (b - 2 ^ i).testBit j = (b.testBit j && (j != i)) := by
  have h1 := List.all_eq_true.1 (List.all_eq_true.1 less_all b (List.mem_range.2 hb)) i (List.mem_range.2 hi)
  rw [h] at h1
  have h2 : ((List.range 10).all fun j => (b - 2 ^ i).testBit j == (b.testBit j && (j != i))) = true := by simpa using h1
  have h3 := List.all_eq_true.1 h2 j (List.mem_range.2 hj)
  simpa using h3
theorem bit_lt {b x i : Nat} (hb : b < 2 ^ x) (h : b.testBit i = true) : i < x := by
  rcases Nat.lt_or_ge i x with q | q
  · exact q
  · have : 2 ^ x ≤ 2 ^ i := Nat.pow_le_pow_right (by decide) q
    rw [Nat.testBit_lt_two_pow (by omega)] at h
    cases h
theorem ls_rise {b : Nat} : ∀ k r r', r < r' → r' < (lsT b k).length → nthI (lsT b k) r < nthI (lsT b k) r' := by
  intro k
  induction k with
  | zero => intro r r' _ h; simp [lsT] at h
  | succ k ih =>
    intro r r' h1 h2
    unfold lsT at h2 ⊢
    split at h2
    · rename_i q
      rw [if_pos q]
      rw [List.length_append] at h2
      simp at h2
      by_cases e : r' < (lsT b k).length
      · rw [nth_left (by omega), nth_left e]
        exact ih r r' h1 e
      · have e' : r' = (lsT b k).length := by omega
        rw [nth_left (by omega), e', nth_mid]
        exact (ls_in _ (nth_mem (by omega))).2
    · rename_i q
      rw [if_neg q]
      exact ih r r' h1 h2
theorem ls_inj {b r r' : Nat} (hb : b < 1024) (h1 : r < popS b) (h2 : r' < popS b) (e : nthI (lsT b 10) r = nthI (lsT b 10) r') : r = r' := by
  rw [(rev_at hb).2] at h1 h2
  rcases Nat.lt_trichotomy r r' with q | q | q
  · have := ls_rise 10 r r' q h2; omega
  · exact q
  · have := ls_rise 10 r' r q h1; omega
theorem set_ls {b x : Nat} (hb : b < 2 ^ x) (hx : x ≤ 10) : setN x (nthI (lsT b 10)) (popS b) = b := by
  have h1 : b < 1024 := Nat.lt_of_lt_of_le hb (Nat.pow_le_pow_right (by decide) hx : 2 ^ x ≤ 2 ^ 10)
  refine Nat.eq_of_testBit_eq fun i => Bool.eq_iff_iff.2 ?_
  rw [set_bit]
  constructor
  · rintro ⟨r, r1, r2, r3⟩
    obtain ⟨i', _, h2, h3⟩ := ls_at hb hx r1
    have : i' = i := by omega
    rw [← this]; exact h3
  · intro h
    have hi := bit_lt hb h
    obtain ⟨r, r1, r2⟩ := ls_hit h1 (show i < 10 by omega) h
    exact ⟨r, r1, r2, hi⟩
/-- The list without its place k. -/
def dropU (U : Nat → Int) (k r : Nat) : Int := if r < k then U r else U (r + 1)
theorem set_drop {b x k i : Nat} (hb : b < 2 ^ x) (hx : x ≤ 10) (hk : k < popS b) (hi : nthI (lsT b 10) k = (i : Int)) : setN x (dropU (nthI (lsT b 10)) k) (popS b - 1) = b - 2 ^ i := by
  have h1 : b < 1024 := Nat.lt_of_lt_of_le hb (Nat.pow_le_pow_right (by decide) hx : 2 ^ x ≤ 2 ^ 10)
  obtain ⟨i', i1, i2, i3⟩ := ls_at hb hx hk
  have e : i' = i := by omega
  subst e
  refine Nat.eq_of_testBit_eq fun j => Bool.eq_iff_iff.2 ?_
  rw [set_bit]
  constructor
  · rintro ⟨r, r1, r2, r3⟩
    rw [less_bit h1 (by omega) (by omega) i3]
    unfold dropU at r2
    by_cases q : r < k
    · rw [if_pos q] at r2
      obtain ⟨j', _, j2, j3⟩ := ls_at hb hx (show r < popS b by omega)
      have ej : j' = j := by omega
      subst ej
      have ne : j' ≠ i' := fun z => by
        subst z
        have := ls_inj h1 (show r < popS b by omega) hk (by rw [r2, hi])
        omega
      simp [j3, ne]
    · rw [if_neg q] at r2
      obtain ⟨j', _, j2, j3⟩ := ls_at hb hx (show r + 1 < popS b by omega)
      have ej : j' = j := by omega
      subst ej
      have ne : j' ≠ i' := fun z => by
        subst z
        have := ls_inj h1 (show r + 1 < popS b by omega) hk (by rw [r2, hi])
        omega
      simp [j3, ne]
  · intro h
    have hl : b - 2 ^ i' < 2 ^ x := Nat.lt_of_le_of_lt (Nat.sub_le _ _) hb
    have hj := bit_lt hl h
    rw [less_bit h1 (by omega) (by omega) i3, Bool.and_eq_true] at h
    have ne : j ≠ i' := by simpa using h.2
    obtain ⟨r, r1, r2⟩ := ls_hit h1 (show j < 10 by omega) h.1
    have nr : r ≠ k := fun z => by subst z; rw [hi] at r2; omega
    by_cases q : r < k
    · exact ⟨r, by omega, by unfold dropU; rw [if_pos q]; exact r2, hj⟩
    · exact ⟨r - 1, by omega, by unfold dropU; rw [if_neg (by omega), show r - 1 + 1 = r by omega]; exact r2, hj⟩
theorem least_in {x n : Nat} {X : Nat → Int} {K : Nat → Nat} {V : Nat → Nat → Int} (hx : x ≤ 10) : ∀ b, b < 2 ^ x → faB b x n X K V = true → ∃ c, c < 2 ^ x ∧ mnB x n X K V c = true ∧ ∀ i, c.testBit i = true → b.testBit i = true := by
  intro b
  induction b using Nat.strongRecOn with
  | _ b ih =>
    intro hb hf
    have h1 : b < 1024 := Nat.lt_of_lt_of_le hb (Nat.pow_le_pow_right (by decide) hx : 2 ^ x ≤ 2 ^ 10)
    cases q : lsB x n X K V b
    · have q2 := of_decide_eq_false q
      obtain ⟨i, hi⟩ : ∃ i, ¬ (i < x → b.testBit i = true → faB (b - 2 ^ i) x n X K V = false) := Classical.not_forall.1 q2
      have i1 : i < x := Classical.byContradiction fun z => hi (fun z' => absurd z' z)
      have i2 : b.testBit i = true := Classical.byContradiction fun z => hi (fun _ z' => absurd z' z)
      have i3 : faB (b - 2 ^ i) x n X K V = true := by
        cases z : faB (b - 2 ^ i) x n X K V
        · exact absurd (fun _ _ => z) hi
        · rfl
      have hp : 0 < 2 ^ i := Nat.two_pow_pos i
      have hle := bit_le i2
      obtain ⟨c, c1, c2, c3⟩ := ih (b - 2 ^ i) (by omega) (by omega) i3
      refine ⟨c, c1, c2, fun j hj => ?_⟩
      have h2 := c3 j hj
      have hj' := bit_lt c1 hj
      rw [less_bit h1 (by omega) (by omega) i2, Bool.and_eq_true] at h2
      exact h2.1
    · exact ⟨b, hb, by unfold mnB; rw [hf, q]; rfl, fun i h => h⟩
/-- Are all of the list's numbers in another list? -/
def allW (U : Nat → Int) (l : Nat) (A : Nat → Int) (k : Nat) : Prop := ∀ r, r < k → ∃ q, q < l ∧ U q = A r
theorem cuts_some {x : Int} {n : Nat} {X : Nat → Int} {K : Nat → Nat} {V : Nat → Nat → Int} {m l : Nat} {W U : Nat → Int} (h : CutR (treeB x n X K V) (mnB x.toNat n X K V) (2 ^ x.toNat) m W) : fyB x n X K V l U = true ↔ ∃ i, i < m ∧ allW U l (vvW W i) (kkW W i) := by
  unfold fyB
  cases e : treeB x n X K V
  · have := h.2 e
    subst this
    exact ⟨fun q => (by cases q), fun ⟨i, hi, _⟩ => by omega⟩
  · obtain ⟨⟨x0, x1⟩, -, -⟩ := tree_yes e
    have g := h.1 e
    have hx : x.toNat ≤ 10 := by omega
    rw [Bool.true_and]
    constructor
    · intro hf
      obtain ⟨c, c1, c2, c3⟩ := least_in hx _ (set_lt _ _ _) hf
      obtain ⟨i, i1, i2⟩ := g.2.2 c c1 c2
      refine ⟨i, i1, fun r hr => ?_⟩
      rw [kk_at i2] at hr
      rw [vv_at i2]
      obtain ⟨j, j1, j2, j3⟩ := ls_at c1 hx hr
      obtain ⟨q, q1, q2, _⟩ := (set_bit _ _ _ _).1 (c3 j j3)
      exact ⟨q, q1, q2.trans j2.symm⟩
    · rintro ⟨i, i1, i2⟩
      obtain ⟨c, c1, c2, c3⟩ := g.2.1 i i1
      rw [kk_at c2, vv_at c2] at i2
      unfold mnB at c3
      rw [Bool.and_eq_true] at c3
      refine fl_mono (fun j hj => ?_) n _ c3.1
      have hj' := bit_lt c1 hj
      have h10 : c < 1024 := Nat.lt_of_lt_of_le c1 (Nat.pow_le_pow_right (by decide) hx : 2 ^ x.toNat ≤ 2 ^ 10)
      obtain ⟨r, r1, r2⟩ := ls_hit h10 (show j < 10 by omega) hj
      obtain ⟨q, q1, q2⟩ := i2 r r1
      exact (set_bit _ _ _ _).2 ⟨q, q1, q2.trans r2, hj'⟩
theorem cut_fails {x : Int} {n : Nat} {X : Nat → Int} {K : Nat → Nat} {V : Nat → Nat → Int} {m : Nat} {W : Nat → Int} (h : CutR (treeB x n X K V) (mnB x.toNat n X K V) (2 ^ x.toNat) m W) {i : Nat} (hi : i < m) : fyB x n X K V (kkW W i) (vvW W i) = true ∧ ∀ k, k < kkW W i → fyB x n X K V (kkW W i - 1) (dropU (vvW W i) k) = false := by
  cases e : treeB x n X K V
  · have := h.2 e; omega
  · obtain ⟨⟨x0, x1⟩, -, -⟩ := tree_yes e
    have hx : x.toNat ≤ 10 := by omega
    obtain ⟨c, c1, c2, c3⟩ := (h.1 e).2.1 i hi
    rw [kk_at c2, vv_at c2]
    unfold mnB at c3
    rw [Bool.and_eq_true] at c3
    refine ⟨by unfold fyB; rw [e, set_ls c1 hx, c3.1]; rfl, fun k hk => ?_⟩
    obtain ⟨j, j1, j2, j3⟩ := ls_at c1 hx hk
    unfold fyB
    rw [e, set_drop c1 hx hk j2, of_decide_eq_true c3.2 j j1 j3]
    rfl
end Go.Proofs.Ytpaiajeigdifcaa
