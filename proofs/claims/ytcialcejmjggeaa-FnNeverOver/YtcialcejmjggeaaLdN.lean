/-
What is proved: when machines begin, tick by tick, in numbers: who is next, that nothing turns behind the end, and that it ends ahead of tick 1201.
-/
import Derived.Test.YtcialcejmjggeaaShdN
namespace Go.Proofs.Ytcialcejmjggeaa
set_option maxRecDepth 40000
open Go.RowKit
set_option linter.unusedVariables false
set_option linter.unusedSimpArgs false

def fitB (V T : Nat → Int) (p most : Int) (a : Nat) : Bool := decide (T a < 0 ∧ p + V (a * 4) + V (a * 4 + 1) ≤ most)
def bestN (V : Nat → Int) (F : Nat → Bool) : Nat → Int
  | 0 => -1
  | m + 1 => if F m = true ∧ (bestN V F m < 0 ∨ V (m * 4 + 3) < V ((bestN V F m).toNat * 4 + 3)) then m else bestN V F m
theorem bestN_is (V : Nat → Int) (F : Nat → Bool) : ∀ m, (bestN V F m = -1 ∧ ∀ a, a < m → F a = false) ∨ (∃ b : Nat, bestN V F m = b ∧ b < m ∧ F b = true ∧ ∀ a, a < m → F a = true → V (b * 4 + 3) < V (a * 4 + 3) ∨ (V (a * 4 + 3) = V (b * 4 + 3) ∧ b ≤ a))
  | 0 => .inl ⟨rfl, fun a h => by omega⟩
  | m + 1 => by
    unfold bestN
    cases hg : F m
    · simp only [Bool.false_eq_true, false_and, if_false]
      rcases bestN_is V F m with ⟨e, h⟩ | ⟨b, e, hb, hgb, h⟩
      · exact .inl ⟨e, fun a ha => by
          by_cases q : a = m
          · subst q; exact hg
          · exact h a (by omega)⟩
      · refine .inr ⟨b, e, by omega, hgb, fun a ha ga => ?_⟩
        by_cases q : a = m
        · subst q; rw [hg] at ga; cases ga
        · exact h a (by omega) ga
    · simp only [true_and]
      rcases bestN_is V F m with ⟨e, h⟩ | ⟨b, e, hb, hgb, h⟩
      · rw [e]
        right
        refine ⟨m, by simp, by omega, hg, fun a ha ga => ?_⟩
        by_cases q : a = m
        · subst q; right; exact ⟨rfl, Nat.le_refl _⟩
        · rw [h a (by omega)] at ga; cases ga
      · rw [e]
        have z : ¬ ((b : Int) < 0) := by omega
        simp only [z, false_or, Int.toNat_natCast]
        right
        by_cases c : V (m * 4 + 3) < V (b * 4 + 3)
        · rw [if_pos c]
          refine ⟨m, rfl, by omega, hg, fun a ha ga => ?_⟩
          by_cases q : a = m
          · subst q; right; exact ⟨rfl, Nat.le_refl _⟩
          · rcases h a (by omega) ga with r | r <;> omega
        · rw [if_neg c]
          refine ⟨b, rfl, by omega, hgb, fun a ha ga => ?_⟩
          by_cases q : a = m
          · subst q; rcases (by omega : V (b * 4 + 3) < V (a * 4 + 3) ∨ V (b * 4 + 3) = V (a * 4 + 3)) with r | r
            · left; exact r
            · right; exact ⟨r.symm, by omega⟩
          · exact h a (by omega) ga
theorem bestN_one {V : Nat → Int} {F : Nat → Bool} {n b : Nat} (hn : n ≤ 60) (hb : b < n) (hg : F b = true) (hm : ∀ a, a < n → F a = true → kStart V b ≤ kStart V a) : bestN V F n = b := by
  rcases bestN_is V F n with ⟨e, h⟩ | ⟨c, e, hc, hgc, h⟩
  · rw [h b hb] at hg; cases hg
  · rw [e]
    have h1 := hm c hc hgc
    have h2 := h b hb hg
    have h3 := kStart_lt (V := V) (a := c) (b := b) (by omega) (by omega)
    by_cases q : c = b
    · rw [q]
    · exfalso
      have : kStart V c < kStart V b := h3.2 (by rcases h2 with r | ⟨r, s⟩ <;> omega)
      omega
theorem bestN_none {V : Nat → Int} {F : Nat → Bool} : ∀ n, (∀ a, a < n → F a = false) → bestN V F n = -1
  | n, h => by
    rcases bestN_is V F n with ⟨e, _⟩ | ⟨b, e, hb, hg, _⟩
    · exact e
    · rw [h b hb] at hg; cases hg
def nxL (V : Nat → Int) (n : Nat) (most : Int) (T : Nat → Int) (t : Int) : Int := bestN V (fitB V T (powV V T t n) most) n
def TT (V : Nat → Int) (n : Nat) (most : Int) : Nat → Nat → Int
  | 0 => fun _ => -1
  | t + 1 => fun i => if (i : Int) = nxL V n most (TT V n most t) t then (t : Int) else TT V n most t i
def StartP (V : Nat → Int) (n : Nat) (T : Nat → Int) (t : Int) : Prop := ∃ i, i < n ∧ 0 ≤ T i ∧ t < T i + V (i * 4 + 2)
theorem TT_bd (V : Nat → Int) (n : Nat) (most : Int) : ∀ t i, -1 ≤ TT V n most t i ∧ TT V n most t i < t
  | 0, i => by unfold TT; omega
  | t + 1, i => by
    have := TT_bd V n most t i
    unfold TT
    split <;> omega
theorem TT_on {V : Nat → Int} {n : Nat} {most : Int} {t : Nat} (h : nxL V n most (TT V n most t) t = -1) : TT V n most (t + 1) = TT V n most t := by
  funext i
  show (if (i : Int) = nxL V n most (TT V n most t) t then (t : Int) else TT V n most t i) = _
  rw [h, if_neg (by omega)]
theorem pow_late {V T : Nat → Int} {t s : Int} : ∀ n, (∀ i, i < n → T i ≤ t) → t ≤ s → (∀ i, i < n → 0 ≤ T i → T i + V (i * 4 + 2) ≤ t) → powV V T s n = powV V T t n
  | 0, _, _, _ => rfl
  | n + 1, h1, h2, h3 => by
    unfold powV
    rw [pow_late n (fun i hi => h1 i (by omega)) h2 (fun i hi => h3 i (by omega))]
    congr 1
    have a := h1 n (by omega)
    have b := h3 n (by omega)
    unfold takesV
    by_cases z : T n < 0
    · rw [if_pos (by omega), if_pos (by omega)]
    · have := b (by omega)
      rw [if_neg (by omega), if_neg (by omega), if_neg (by omega), if_neg (by omega)]
theorem stop_on {V : Nat → Int} {n : Nat} {most : Int} {t : Nat} (h : nxL V n most (TT V n most t) t = -1) (hs : ¬ StartP V n (TT V n most t) t) : ∀ d, TT V n most (t + d) = TT V n most t
  | 0 => rfl
  | d + 1 => by
    have e := stop_on h hs d
    rw [← Nat.add_assoc]
    rw [TT_on, e]
    rw [e]
    unfold nxL at h ⊢
    rw [pow_late (t := (t : Int)) n (fun i _ => by have := TT_bd V n most t i; omega) (by omega) (fun i hi h0 => by
      rcases Int.lt_or_le (t : Int) (TT V n most t i + V (i * 4 + 2)) with q | q
      · exact absurd ⟨i, hi, h0, q⟩ hs
      · exact q)]
    exact h
theorem full_on {V : Nat → Int} {n : Nat} {most : Int} {t : Nat} (h : ∀ i, i < n → 0 ≤ TT V n most t i) : ∀ d, TT V n most (t + d) = TT V n most t
  | 0 => rfl
  | d + 1 => by
    have e := full_on h d
    rw [← Nat.add_assoc]
    rw [TT_on, e]
    rw [e]
    exact bestN_none n fun a ha => decide_eq_false fun q => by have := h a ha; omega
def cntT (T : Nat → Int) : Nat → Nat
  | 0 => 0
  | m + 1 => cntT T m + if 0 ≤ T m then 1 else 0
theorem cnt_le (T : Nat → Int) : ∀ m, cntT T m ≤ m
  | 0 => Nat.le_refl _
  | m + 1 => by have := cnt_le T m; unfold cntT; split <;> omega
theorem cnt_set {T U : Nat → Int} {b : Nat} {t : Int} (ht : 0 ≤ t) (hb : T b < 0) (h : ∀ i, U i = if i = b then t else T i) : ∀ m, cntT U m = cntT T m + if b < m then 1 else 0
  | 0 => rfl
  | m + 1 => by
    unfold cntT
    rw [cnt_set ht hb h m, h m]
    by_cases q : m = b
    · subst q; simp only [if_true, Nat.lt_irrefl, if_false, Nat.lt_succ_self]
      rw [if_pos ht, if_neg (by omega)]
    · rw [if_neg q]
      by_cases l : b < m
      · have l2 : b < m + 1 := by omega
        rw [if_pos l, if_pos l2]; omega
      · have l2 : ¬ b < m + 1 := by omega
        rw [if_neg l, if_neg l2]; omega
theorem nx_is {V : Nat → Int} {n : Nat} {most : Int} {T : Nat → Int} {t : Int} : nxL V n most T t = -1 ∨ ∃ b : Nat, nxL V n most T t = b ∧ b < n ∧ T b < 0 ∧ powV V T t n + V (b * 4) + V (b * 4 + 1) ≤ most := by
  rcases bestN_is V (fitB V T (powV V T t n) most) n with ⟨e, _⟩ | ⟨b, e, hb, hg, _⟩
  · exact .inl e
  · have := of_decide_eq_true hg
    exact .inr ⟨b, e, hb, this.1, this.2⟩
theorem TT_set {V : Nat → Int} {n : Nat} {most : Int} {t b : Nat} (h : nxL V n most (TT V n most t) t = b) : ∀ i, TT V n most (t + 1) i = if i = b then (t : Int) else TT V n most t i := fun i => by
  show (if (i : Int) = nxL V n most (TT V n most t) t then (t : Int) else TT V n most t i) = _
  rw [h]
  by_cases q : i = b
  · subst q; simp
  · rw [if_neg q, if_neg (by omega)]
/-- As long as it goes on it is early. -/
theorem early {V : Nat → Int} {n : Nat} {most : Int} (hM : ∀ j, j < n → machB V j = true) : ∀ t, (∀ s, s < t → nxL V n most (TT V n most s) s ≠ -1 ∨ StartP V n (TT V n most s) s) → t ≤ 20 * cntT (TT V n most t) n ∧ ∀ i, i < n → 0 ≤ TT V n most t i → TT V n most t i + 20 ≤ 20 * cntT (TT V n most t) n
  | 0, _ => ⟨Nat.zero_le _, fun i _ h => by have := TT_bd V n most 0 i; omega⟩
  | t + 1, h => by
    obtain ⟨h1, h2⟩ := early hM t fun s hs => h s (by omega)
    rcases nx_is (V := V) (n := n) (most := most) (T := TT V n most t) (t := (t : Int)) with e | ⟨b, e, hb, hT, _⟩
    · rw [TT_on e]
      refine ⟨?_, h2⟩
      rcases h t (by omega) with q | ⟨i, hi, i0, i1⟩
      · exact absurd e q
      · have := h2 i hi i0
        obtain ⟨-, -, c, -⟩ := machV_yes (hM i hi)
        omega
    · have hs := TT_set e
      rw [cnt_set (by omega) hT hs n, if_pos hb]
      refine ⟨by omega, fun i hi i0 => ?_⟩
      rw [hs i] at i0 ⊢
      by_cases q : i = b
      · rw [if_pos q]; omega
      · rw [if_neg q] at i0 ⊢
        have := h2 i hi i0
        omega
theorem early_bd {V : Nat → Int} {n : Nat} {most : Int} (hn : n ≤ 60) (hM : ∀ j, j < n → machB V j = true) (t : Nat) (h : ∀ s, s < t → nxL V n most (TT V n most s) s ≠ -1 ∨ StartP V n (TT V n most s) s) : t ≤ 1200 := by
  have h1 := (early hM t h).1
  have h2 := cnt_le (TT V n most t) n
  omega
def ldT (V : Nat → Int) (n : Nat) (most : Int) : Nat → Int := TT V n most 2000
theorem ld_stop {V : Nat → Int} {n : Nat} {most : Int} {t : Nat} (ht : t ≤ 2000) (h : nxL V n most (TT V n most t) t = -1) (hs : ¬ StartP V n (TT V n most t) t) : TT V n most t = ldT V n most := by
  have := stop_on h hs (2000 - t)
  rw [show t + (2000 - t) = 2000 by omega] at this
  exact this.symm
theorem ld_full {V : Nat → Int} {n : Nat} {most : Int} {t : Nat} (ht : t ≤ 2000) (h : ∀ i, i < n → 0 ≤ TT V n most t i) : TT V n most t = ldT V n most := by
  have := full_on h (2000 - t)
  rw [show t + (2000 - t) = 2000 by omega] at this
  exact this.symm
def ldB (V : Nat → Int) (n : Nat) (most : Int) : Bool := machsB n V && inB 0 100000000 most
end Go.Proofs.Ytcialcejmjggeaa
