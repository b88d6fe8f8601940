/-
What is proved: that machines that begin as told never take too much, that no two begin at once, and that all begin where all may, in numbers.
-/
import Derived.Test.YtcialcejmjggeaaLdN
namespace Go.Proofs.Ytcialcejmjggeaa
set_option maxRecDepth 40000
open Go.RowKit
set_option linter.unusedVariables false
set_option linter.unusedSimpArgs false

theorem TT_step (V : Nat → Int) (n : Nat) (most : Int) (t i : Nat) : TT V n most (t + 1) i = if (i : Int) = nxL V n most (TT V n most t) t then (t : Int) else TT V n most t i := rfl
theorem TT_inj (V : Nat → Int) (n : Nat) (most : Int) : ∀ t i k, i ≠ k → 0 ≤ TT V n most t i → TT V n most t k ≠ TT V n most t i
  | 0, i, k, _, h => by have := TT_bd V n most 0 i; omega
  | t + 1, i, k, hik, h => by
    rw [TT_step] at h
    rw [TT_step, TT_step V n most t i]
    have bi := TT_bd V n most t i
    have bk := TT_bd V n most t k
    by_cases a : (i : Int) = nxL V n most (TT V n most t) t
    · have b : ¬ (k : Int) = nxL V n most (TT V n most t) t := by omega
      rw [if_pos a, if_neg b]; omega
    · rw [if_neg a] at h
      rw [if_neg a]
      by_cases b : (k : Int) = nxL V n most (TT V n most t) t
      · rw [if_pos b]; omega
      · rw [if_neg b]; exact TT_inj V n most t i k hik h
theorem TT_later (V : Nat → Int) (n : Nat) (most : Int) (t i : Nat) : ∀ d, TT V n most (t + d) i = TT V n most t i ∨ (TT V n most t i < 0 ∧ (t : Int) ≤ TT V n most (t + d) i)
  | 0 => .inl rfl
  | d + 1 => by
    have ih := TT_later V n most t i d
    rw [← Nat.add_assoc, TT_step]
    by_cases a : (i : Int) = nxL V n most (TT V n most (t + d)) ((t + d : Nat) : Int)
    · rw [if_pos a]
      rcases nx_is (V := V) (n := n) (most := most) (T := TT V n most (t + d)) (t := ((t + d : Nat) : Int)) with e | ⟨b, e, hb, hT, _⟩
      · omega
      · have : i = b := by omega
        subst this
        rcases ih with q | q
        · right; exact ⟨by omega, by omega⟩
        · right; exact ⟨q.1, by omega⟩
    · rw [if_neg a]; exact ih
theorem pow_same {V T U : Nat → Int} {t : Int} : ∀ n, (∀ i, i < n → takesV (V (i * 4)) (V (i * 4 + 1)) (V (i * 4 + 2)) (T i) t = takesV (V (i * 4)) (V (i * 4 + 1)) (V (i * 4 + 2)) (U i) t) → powV V T t n = powV V U t n
  | 0, _ => rfl
  | n + 1, h => by
    unfold powV
    rw [pow_same n fun i hi => h i (by omega), h n (by omega)]
theorem pow_mono {V T : Nat → Int} {t s : Int} : ∀ n, (∀ j, j < n → machB V j = true) → (∀ i, i < n → T i ≤ t) → t ≤ s → powV V T s n ≤ powV V T t n
  | 0, _, _, _ => Int.le_refl _
  | n + 1, hM, h, hs => by
    have ih := pow_mono n (fun j hj => hM j (by omega)) (fun i hi => h i (by omega)) hs
    unfold powV
    have a := h n (by omega)
    obtain ⟨⟨a0, a1⟩, ⟨b0, b1⟩, ⟨c0, c1⟩, -⟩ := machV_yes (hM n (by omega))
    have : takesV (V (n * 4)) (V (n * 4 + 1)) (V (n * 4 + 2)) (T n) s ≤ takesV (V (n * 4)) (V (n * 4 + 1)) (V (n * 4 + 2)) (T n) t := by
      by_cases z : T n < 0
      · unfold takesV
        rw [if_pos (.inl z), if_pos (.inl z)]; exact Int.le_refl _
      · have e1 : takesV (V (n * 4)) (V (n * 4 + 1)) (V (n * 4 + 2)) (T n) s = if s < T n + V (n * 4 + 2) then V (n * 4) + V (n * 4 + 1) else V (n * 4) := by unfold takesV; rw [if_neg (by omega)]
        have e2 : takesV (V (n * 4)) (V (n * 4 + 1)) (V (n * 4 + 2)) (T n) t = if t < T n + V (n * 4 + 2) then V (n * 4) + V (n * 4 + 1) else V (n * 4) := by unfold takesV; rw [if_neg (by omega)]
        rw [e1, e2]
        split <;> split <;> omega
    omega
theorem pow_set {V T U : Nat → Int} {t d : Int} {b : Nat} (hb : takesV (V (b * 4)) (V (b * 4 + 1)) (V (b * 4 + 2)) (U b) t = takesV (V (b * 4)) (V (b * 4 + 1)) (V (b * 4 + 2)) (T b) t + d) (ho : ∀ i, i ≠ b → U i = T i) : ∀ n, powV V U t n = powV V T t n + if b < n then d else 0
  | 0 => by simp [powV]
  | n + 1 => by
    unfold powV
    rw [pow_set hb ho n]
    by_cases q : n = b
    · subst q
      rw [hb]
      have l1 : ¬ n < n := by omega
      have l2 : n < n + 1 := by omega
      rw [if_neg l1, if_pos l2]; omega
    · rw [ho n q]
      by_cases l : b < n
      · have l2 : b < n + 1 := by omega
        rw [if_pos l, if_pos l2]; omega
      · have l2 : ¬ b < n + 1 := by omega
        rw [if_neg l, if_neg l2]; omega
theorem pow_begin {V : Nat → Int} {n : Nat} {most : Int} (hM : ∀ j, j < n → machB V j = true) (t : Nat) (h : powV V (TT V n most t) t n ≤ most) : powV V (TT V n most (t + 1)) t n ≤ most := by
  rcases nx_is (V := V) (n := n) (most := most) (T := TT V n most t) (t := (t : Int)) with e | ⟨b, e, hb, hT, hf⟩
  · rw [TT_on e]; exact h
  · have hs := TT_set e
    obtain ⟨-, -, ⟨c0, c1⟩, -⟩ := machV_yes (hM b hb)
    rw [pow_set (T := TT V n most t) (b := b) (d := V (b * 4) + V (b * 4 + 1)) (by
      rw [hs b, if_pos rfl]
      unfold takesV
      rw [if_neg (by omega), if_pos (by omega), if_pos (.inl hT)]
      omega) (fun i hi => by rw [hs i, if_neg hi]) n, if_pos hb]
    omega
theorem pow_zero (V : Nat → Int) (t : Int) : ∀ n, powV V (fun _ => -1) t n = 0
  | 0 => rfl
  | n + 1 => by
    unfold powV
    rw [pow_zero V t n]
    unfold takesV
    rw [if_pos (.inl (by decide))]; rfl
theorem pow_tick {V : Nat → Int} {n : Nat} {most : Int} (h0 : 0 ≤ most) (hM : ∀ j, j < n → machB V j = true) : ∀ t : Nat, powV V (TT V n most t) t n ≤ most
  | 0 => by
    show powV V (fun _ => -1) _ n ≤ most
    rw [pow_zero]; exact h0
  | t + 1 => by
    have h := pow_begin hM t (pow_tick h0 hM t)
    exact Int.le_trans (pow_mono n hM (fun i _ => by have := TT_bd V n most (t + 1) i; omega) (by omega)) h
/-- At no tick too much is taken. -/
theorem never_over {V : Nat → Int} {n : Nat} {most : Int} (h0 : 0 ≤ most) (hM : ∀ j, j < n → machB V j = true) (t : Nat) : powV V (ldT V n most) t n ≤ most := by
  by_cases ht : t < 2000
  · have e : powV V (ldT V n most) t n = powV V (TT V n most (t + 1)) t n := pow_same n fun i _ => by
      have h := TT_later V n most (t + 1) i (2000 - (t + 1))
      rw [show t + 1 + (2000 - (t + 1)) = 2000 by omega] at h
      show takesV _ _ _ (TT V n most 2000 i) _ = _
      rcases h with q | ⟨q1, q2⟩
      · rw [q]
      · unfold takesV
        rw [if_pos (by omega), if_pos (by omega)]
    rw [e]
    exact pow_begin hM t (pow_tick h0 hM t)
  · have h1 := pow_begin (most := most) hM 1999 (pow_tick h0 hM 1999)
    exact Int.le_trans (pow_mono (t := ((1999 : Nat) : Int)) n hM (fun i _ => by have := TT_bd V n most 2000 i; show TT V n most 2000 i ≤ _; omega) (by omega)) h1
def allS (V : Nat → Int) : Nat → Int
  | 0 => 0
  | k + 1 => allS V k + V (k * 4) + V (k * 4 + 1)
theorem allS_bd {V : Nat → Int} {n : Nat} (hn : n ≤ 60) (hM : ∀ j, j < n → machB V j = true) : ∀ k, k ≤ n → 0 ≤ allS V k ∧ allS V k ≤ 2000000 * k
  | 0, _ => by unfold allS; omega
  | k + 1, hk => by
    have := allS_bd hn hM k (by omega)
    obtain ⟨⟨a0, a1⟩, ⟨b0, b1⟩, -, -⟩ := machV_yes (hM k (by omega))
    unfold allS; omega
theorem pow_all {V T : Nat → Int} {t : Int} {i : Nat} : ∀ n, (∀ j, j < n → machB V j = true) → T i < 0 → powV V T t n + (if i < n then V (i * 4) + V (i * 4 + 1) else 0) ≤ allS V n
  | 0, _, _ => by simp [powV, allS]
  | n + 1, hM, hT => by
    have ih := pow_all (t := t) n (fun j hj => hM j (by omega)) hT
    obtain ⟨⟨a0, a1⟩, ⟨b0, b1⟩, -, -⟩ := machV_yes (hM n (by omega))
    unfold powV allS
    by_cases q : i = n
    · subst q
      have l1 : ¬ i < i := by omega
      have l2 : i < i + 1 := by omega
      rw [if_neg l1] at ih
      rw [if_pos l2]
      have : takesV (V (i * 4)) (V (i * 4 + 1)) (V (i * 4 + 2)) (T i) t = 0 := by unfold takesV; rw [if_pos (.inl hT)]
      rw [this]; omega
    · have : takesV (V (n * 4)) (V (n * 4 + 1)) (V (n * 4 + 2)) (T n) t ≤ V (n * 4) + V (n * 4 + 1) := by
        unfold takesV; split <;> (try split) <;> omega
      by_cases l : i < n
      · have l2 : i < n + 1 := by omega
        rw [if_pos l] at ih
        rw [if_pos l2]; omega
      · have l2 : ¬ i < n + 1 := by omega
        rw [if_neg l] at ih
        rw [if_neg l2]; omega
/-- Where all may run and start at once all begin. -/
theorem all_begin {V : Nat → Int} {n : Nat} {most : Int} (hn : n ≤ 60) (hM : ∀ j, j < n → machB V j = true) (ha : allS V n ≤ most) : ∀ i, i < n → 0 ≤ ldT V n most i := fun i hi => by
  rcases Int.lt_or_le (ldT V n most i) 0 with h | h
  · exfalso
    have hneg : ∀ t, t ≤ 2000 → TT V n most t i < 0 := fun t ht => by
      have q := TT_later V n most t i (2000 - t)
      rw [show t + (2000 - t) = 2000 by omega] at q
      have h' : TT V n most 2000 i < 0 := h
      rcases q with q | q <;> omega
    have := early_bd hn hM 2000 fun s hs => .inl (fun e => by
      have hp := pow_all (t := (s : Int)) n hM (hneg s (by omega))
      rw [if_pos hi] at hp
      rcases bestN_is V (fitB V (TT V n most s) (powV V (TT V n most s) s n) most) n with ⟨_, hall⟩ | ⟨b, eb, _⟩
      · have hf := hall i hi
        have := of_decide_eq_false hf
        exact this ⟨hneg s (by omega), by omega⟩
      · unfold nxL at e
        rw [e] at eb
        omega)
    omega
  · exact h
def begB (F : Nat → Int) : Nat → Bool
  | 0 => true
  | k + 1 => begB F k && decide (0 ≤ F k)
theorem begB_all {F : Nat → Int} : ∀ n, (∀ i, i < n → 0 ≤ F i) → begB F n = true
  | 0, _ => rfl
  | n + 1, h => by unfold begB; rw [begB_all n fun i hi => h i (by omega)]; simp [h n (by omega)]
end Go.Proofs.Ytcialcejmjggeaa
