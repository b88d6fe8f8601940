/-
What is proved: which machines are shed, in their order, in numbers; that the first of a heap by this order is the next one.
-/
import Derived.Test.YtcialcejmjggeaaHpN
import Derived.Test.YtcialcejmjggeaaPw
namespace Go.Proofs.Ytcialcejmjggeaa
set_option maxRecDepth 40000
open Go.RowKit
set_option linter.unusedVariables false
set_option linter.unusedSimpArgs false

def kShed (V : Nat → Int) (a : Nat) : Int := -(V (a * 4 + 3) * 64 + a)
def kStart (V : Nat → Int) (a : Nat) : Int := V (a * 4 + 3) * 64 + a
def runG (V : Nat → Int) (G : Nat → Bool) : Nat → Int
  | 0 => 0
  | m + 1 => runG V G m + if G m then 0 else V (m * 4)
def bestG (V : Nat → Int) (G : Nat → Bool) : Nat → Int
  | 0 => -1
  | m + 1 => if G m then bestG V G m else if bestG V G m < 0 ∨ V ((bestG V G m).toNat * 4 + 3) ≤ V (m * 4 + 3) then m else bestG V G m
def freeG (G : Nat → Bool) : Nat → Nat
  | 0 => 0
  | m + 1 => freeG G m + if G m then 0 else 1
def shG (V : Nat → Int) (n : Nat) : Nat → Nat → Bool
  | 0 => fun _ => false
  | j + 1 => fun a => shG V n j a || decide ((a : Int) = bestG V (shG V n j) n)
def shU (V : Nat → Int) (n j : Nat) : Int := bestG V (shG V n j) n
def shK (V : Nat → Int) (n : Nat) (most : Int) : Nat → Nat → Nat
  | 0, j => j
  | f + 1, j => if runG V (shG V n j) n ≤ most then j else shK V n most f (j + 1)
theorem best_is (V : Nat → Int) (G : Nat → Bool) : ∀ m, (bestG V G m = -1 ∧ ∀ a, a < m → G a = true) ∨ (∃ b : Nat, bestG V G m = b ∧ b < m ∧ G b = false ∧ ∀ a, a < m → G a = false → V (a * 4 + 3) < V (b * 4 + 3) ∨ (V (a * 4 + 3) = V (b * 4 + 3) ∧ a ≤ b))
  | 0 => .inl ⟨rfl, fun a h => by omega⟩
  | m + 1 => by
    unfold bestG
    cases hg : G m
    · simp only [Bool.false_eq_true, if_false]
      rcases best_is V G m with ⟨e, h⟩ | ⟨b, e, hb, hgb, h⟩
      · rw [e]
        right
        refine ⟨m, by simp, by omega, hg, fun a ha ga => ?_⟩
        by_cases q : a = m
        · subst q; right; exact ⟨rfl, Nat.le_refl _⟩
        · rw [h a (by omega)] at ga; cases ga
      · rw [e]
        have z : ¬ ((b : Int) < 0) := by omega
        simp only [z, false_or, Int.toNat_natCast]
        right
        by_cases c : V (b * 4 + 3) ≤ V (m * 4 + 3)
        · rw [if_pos c]
          refine ⟨m, rfl, by omega, hg, fun a ha ga => ?_⟩
          by_cases q : a = m
          · subst q; right; exact ⟨rfl, Nat.le_refl _⟩
          · rcases h a (by omega) ga with r | r <;> omega
        · rw [if_neg c]
          refine ⟨b, rfl, by omega, hgb, fun a ha ga => ?_⟩
          by_cases q : a = m
          · subst q; left; omega
          · exact h a (by omega) ga
    · simp only [if_true]
      rcases best_is V G m with ⟨e, h⟩ | ⟨b, e, hb, hgb, h⟩
      · exact .inl ⟨e, fun a ha => by
          by_cases q : a = m
          · subst q; exact hg
          · exact h a (by omega)⟩
      · refine .inr ⟨b, e, by omega, hgb, fun a ha ga => ?_⟩
        by_cases q : a = m
        · subst q; rw [hg] at ga; cases ga
        · exact h a (by omega) ga
theorem kShed_lt {V : Nat → Int} {a b : Nat} (ha : a < 64) (hb : b < 64) : kShed V a < kShed V b ↔ (V (b * 4 + 3) < V (a * 4 + 3) ∨ (V (a * 4 + 3) = V (b * 4 + 3) ∧ b < a)) := by
  unfold kShed; omega
theorem kStart_lt {V : Nat → Int} {a b : Nat} (ha : a < 64) (hb : b < 64) : kStart V a < kStart V b ↔ (V (a * 4 + 3) < V (b * 4 + 3) ∨ (V (a * 4 + 3) = V (b * 4 + 3) ∧ a < b)) := by
  unfold kStart; omega
/-- Who is no later than all that are left is the next one. -/
theorem best_one {V : Nat → Int} {G : Nat → Bool} {n b : Nat} (hn : n ≤ 60) (hb : b < n) (hg : G b = false) (hm : ∀ a, a < n → G a = false → kShed V b ≤ kShed V a) : bestG V G n = b := by
  rcases best_is V G n with ⟨e, h⟩ | ⟨c, e, hc, hgc, h⟩
  · rw [h b hb] at hg; cases hg
  · rw [e]
    have h1 := hm c hc hgc
    have h2 := h b hb hg
    have h3 := kShed_lt (V := V) (a := c) (b := b) (by omega) (by omega)
    by_cases q : c = b
    · rw [q]
    · exfalso
      have : kShed V c < kShed V b := h3.2 (by rcases h2 with r | ⟨r, s⟩ <;> omega)
      omega
theorem best_bd {V : Nat → Int} {G : Nat → Bool} {n : Nat} : -1 ≤ bestG V G n ∧ bestG V G n < n := by
  rcases best_is V G n with ⟨e, _⟩ | ⟨b, e, h, _⟩ <;> rw [e] <;> omega
theorem free_le (G : Nat → Bool) : ∀ m, freeG G m ≤ m
  | 0 => Nat.le_refl _
  | m + 1 => by have := free_le G m; unfold freeG; split <;> omega
theorem run_le {V : Nat → Int} {G : Nat → Bool} : ∀ m, (∀ j, j < m → machB V j = true) → 0 ≤ runG V G m ∧ runG V G m ≤ 1000000 * freeG G m
  | 0, _ => by unfold runG freeG; simp
  | m + 1, h => by
    have a := run_le (V := V) (G := G) m fun j hj => h j (by omega)
    obtain ⟨b, -, -, -⟩ := machV_yes (h m (by omega))
    unfold runG freeG
    cases G m <;> simp <;> omega
theorem run_set {V : Nat → Int} {G H : Nat → Bool} {b : Nat} (hg : G b = false) (hh : ∀ a, H a = (G a || decide (a = b))) : ∀ m, runG V H m = (if b < m then runG V G m - V (b * 4) else runG V G m) ∧ freeG H m = (if b < m then freeG G m - 1 else freeG G m) ∧ (b < m → 1 ≤ freeG G m)
  | 0 => by simp [runG, freeG]
  | m + 1 => by
    obtain ⟨e1, e2, e3⟩ := run_set hg hh m
    unfold runG freeG
    rw [hh m, e1, e2]
    by_cases q : m = b
    · subst q
      simp [hg]
    · by_cases l : b < m
      · have l2 : b < m + 1 := by omega
        have := e3 l
        cases hGm : G m <;> simp [q, l, l2, hGm] <;> omega
      · have l2 : ¬ b < m + 1 := by omega
        cases hGm : G m <;> simp [q, l, l2, hGm]
theorem shG_succ (V : Nat → Int) (n j : Nat) {b : Nat} (h : shU V n j = b) : ∀ a, shG V n (j + 1) a = (shG V n j a || decide (a = b)) := fun a => by
  show (shG V n j a || decide ((a : Int) = bestG V (shG V n j) n)) = _
  unfold shU at h
  rw [h]
  congr 1
  simp only [decide_eq_decide]
  omega
theorem free_zero : ∀ m, freeG (fun _ => false) m = m
  | 0 => rfl
  | m + 1 => by unfold freeG; rw [free_zero m]; simp
/-- As long as there is too much, there is a next one. -/
theorem sh_next {V : Nat → Int} {n : Nat} {most : Int} (h0 : 0 ≤ most) (hM : ∀ j, j < n → machB V j = true) : ∀ j, (∀ i, i < j → most < runG V (shG V n i) n) → j ≤ n ∧ freeG (shG V n j) n = n - j
  | 0, _ => ⟨Nat.zero_le _, by show freeG (fun _ => false) n = _; rw [free_zero]; rfl⟩
  | j + 1, h => by
    obtain ⟨h1, h2⟩ := sh_next h0 hM j fun i hi => h i (by omega)
    have hr := h j (by omega)
    have hl := run_le (V := V) (G := shG V n j) n hM
    rw [h2] at hl
    rcases best_is V (shG V n j) n with ⟨e, hall⟩ | ⟨b, e, hb, hgb, _⟩
    · exfalso
      have : ∀ m, m ≤ n → freeG (shG V n j) m = 0 := fun m => by
        induction m with
        | zero => intro _; rfl
        | succ m ih => intro hm; unfold freeG; rw [ih (by omega), hall m (by omega)]; rfl
      have := this n (Nat.le_refl _)
      omega
    · have hs := run_set (V := V) hgb (shG_succ V n j e) n
      rw [if_pos hb] at hs
      have := hs.2.2 hb
      rw [hs.2.1, h2, if_pos hb]
      omega
theorem sh_best {V : Nat → Int} {n j : Nat} {most : Int} (h0 : 0 ≤ most) (hM : ∀ j, j < n → machB V j = true) (h : ∀ i, i < j → most < runG V (shG V n i) n) (hj : most < runG V (shG V n j) n) : ∃ b : Nat, shU V n j = b ∧ b < n ∧ shG V n j b = false ∧ runG V (shG V n (j + 1)) n = runG V (shG V n j) n - V (b * 4) ∧ j < n := by
  obtain ⟨h1, h2⟩ := sh_next h0 hM (j + 1) (fun i hi => by
    by_cases q : i = j
    · subst q; exact hj
    · exact h i (by omega))
  rcases best_is V (shG V n j) n with ⟨e, hall⟩ | ⟨b, e, hb, hgb, _⟩
  · exfalso
    have : ∀ m, m ≤ n → runG V (shG V n j) m = 0 := fun m => by
      induction m with
      | zero => intro _; rfl
      | succ m ih => intro hm; unfold runG; rw [ih (by omega), hall m (by omega)]; rfl
    have := this n (Nat.le_refl _)
    omega
  · have hs := run_set (V := V) hgb (shG_succ V n j e) n
    rw [if_pos hb] at hs
    exact ⟨b, e, hb, hgb, hs.1, by omega⟩
theorem shK_go {V : Nat → Int} {n : Nat} {most : Int} {k : Nat} (hk : runG V (shG V n k) n ≤ most) : ∀ f j, k - j ≤ f → j ≤ k → (∀ i, j ≤ i → i < k → most < runG V (shG V n i) n) → shK V n most f j = k
  | 0, j, h1, h2, _ => by unfold shK; omega
  | f + 1, j, h1, h2, h3 => by
    unfold shK
    by_cases q : j = k
    · subst q; rw [if_pos hk]
    · rw [if_neg (by have := h3 j (Nat.le_refl _) (by omega); omega)]
      exact shK_go hk f (j + 1) (by omega) (by omega) fun i hi hi2 => h3 i (by omega) hi2
theorem sh_end {V : Nat → Int} {n k : Nat} {most : Int} (h0 : 0 ≤ most) (hM : ∀ j, j < n → machB V j = true) (h : ∀ i, i < k → most < runG V (shG V n i) n) (hk : runG V (shG V n k) n ≤ most) : shK V n most n 0 = k := by
  have := (sh_next h0 hM k h).1
  exact shK_go hk n 0 (by omega) (Nat.zero_le _) fun i _ hi => h i hi
def shdN (n : Nat) (V : Nat → Int) (most : Int) : Nat := if machsB n V = true ∧ 0 ≤ most then shK V n most n 0 else 0
end Go.Proofs.Ytcialcejmjggeaa
