/-
What is proved: what a sensor's count reads never falls while the count rises; which count is told.
-/
import Derived.Test.YtbdilaacfokpiaaKey
import Derived.Test.YtbdilaacfokpiaaCnQ
namespace Go.Proofs.Ytbdilaacfokpiaa
set_option maxRecDepth 40000
open Go.ChangeShapes Go.WideShapes Go.ChangeAt Go.RowKit
set_option linter.unusedVariables false
set_option linter.unusedSimpArgs false

theorem qk_zero : qk 0 = some 0 := by kernel_rfl
theorem qk_step {k : Nat} (h : k < 4015) : ∃ x y, qk k = some x ∧ qk (k + 1) = some y ∧ x ≤ y ∧ y < INF ∧ 0 < y := by
  have q := List.all_eq_true.1 okQ_all k (List.mem_range.2 h)
  unfold okQ at q
  generalize qk k = a at *
  generalize qk (k + 1) = b at *
  cases a with
  | none => cases q
  | some x =>
    cases b with
    | none => cases q
    | some y =>
      simp only [Bool.and_eq_true, decide_eq_true_iff] at q
      exact ⟨x, y, rfl, rfl, q.1, q.2.1, q.2.2⟩
def qF (k : Nat) : Nat := (qk k).getD 0
theorem qF_at {k : Nat} (h : k ≤ 4015) : qk k = some (qF k) ∧ qF k < INF ∧ (0 < k → 0 < qF k) := by
  cases k with
  | zero => unfold qF; rw [qk_zero]; exact ⟨rfl, by decide, fun h => absurd h (Nat.lt_irrefl 0)⟩
  | succ k =>
    obtain ⟨x, y, _, h2, _, h4, h5⟩ := qk_step (k := k) (by omega)
    unfold qF
    rw [h2]
    exact ⟨rfl, h4, fun _ => h5⟩
theorem qF_mono {k : Nat} : ∀ {l : Nat}, k ≤ l → l ≤ 4015 → qF k ≤ qF l
  | 0, h, _ => by obtain rfl : k = 0 := by omega
                  exact Nat.le_refl _
  | l + 1, h, hl => by
    by_cases e : k = l + 1
    · rw [e]; exact Nat.le_refl _
    · obtain ⟨x, y, h1, h2, h3, _⟩ := qk_step (k := l) (by omega)
      have := qF_mono (k := k) (l := l) (by omega) (by omega)
      unfold qF at *
      rw [h1] at this
      rw [h2]
      exact Nat.le_trans this h3
theorem sen_parts {a b : Nat} (h : senB a b = true) : rg a < INF ∧ rg b < INF ∧ sv a < sv b := by
  unfold senB at h
  simp only [Bool.and_eq_true] at h
  obtain ⟨h1, h2, h3⟩ := h
  have k1 : rg a < INF := of_decide_eq_true h1
  have k2 : rg b < INF := of_decide_eq_true h2
  refine ⟨k1, k2, ?_⟩
  rw [order_fin k1 k2] at h3
  rcases Int.lt_trichotomy (sv a) (sv b) with z | z | z
  · exact z
  · rw [z, cmp_eq] at h3; exact absurd h3 (by decide)
  · rw [cmp_gt z] at h3; exact absurd h3 (by decide)
theorem wd_false (r : Nat) : FloatKind.f64.format.word false r = r := rfl
theorem sub_pos {a b : Nat} (h : senB a b = true) : ∃ D, D ≤ INF ∧ opO .sub (some b) (some a) = some D := by
  obtain ⟨h1, h2, h3⟩ := sen_parts h
  refine ⟨rn (sv b - sv a).natAbs (-1074), rn_inf _ _, ?_⟩
  show fRun .sub b a = _
  rw [fsub_rd h2 h1]
  unfold rdS
  rw [if_neg (by omega), decide_eq_false (by omega), wd_false]
theorem mul_fin {D q : Nat} (hD : D < INF) (hq : q < INF) : fRun .mul D q = some (rn (mg D * mg q) (-1074 + (kg D : Int) + (-1074 + (kg q : Int)))) := by
  have h := fmul_num (s := false) (t := false) hD hq
  have e : (false ^^ false) = false := rfl
  rw [wd_false, wd_false, e, wd_false] at h
  exact h
theorem sv_pos {r : Nat} (h : r ≤ INF) : sv r = (vl r : Int) := by
  obtain ⟨a, b⟩ := wd_parts false h
  rw [wd_false] at a b
  unfold sv
  rw [a, b]
  rfl
theorem rg_pos {r : Nat} (h : r ≤ INF) : rg r = r := by
  have := (wd_parts false h).1
  rwa [wd_false] at this
theorem key_pos {r : Nat} (h : r ≤ INF) : key r = (r : Int) := by
  have := key_word false h
  rwa [wd_false] at this
theorem rd_at {a b D : Nat} {k : Nat} (hD : opO .sub (some b) (some a) = some D) (hk : k ≤ 4015) : rdO a b (40 + (k : Int)) = opO .add (some a) (fRun .mul D (qF k)) := by
  unfold rdO partO
  rw [hD, show (40 + (k : Int) - 40) = (k : Int) by omega]
  show opO .add (some a) (opO .mul (some D) (qk k)) = _
  rw [(qF_at hk).1]
  rfl
/-- What a count reads, one count further up: told where it was told, and no less. -/
theorem rd_mono {a b k l : Nat} (h : senB a b = true) (hk : k ≤ l) (hl : l ≤ 4015) {r : Nat} (hr : rdO a b (40 + (k : Int)) = some r) : ∃ r', rdO a b (40 + (l : Int)) = some r' ∧ key r ≤ key r' := by
  obtain ⟨ha, hb, _⟩ := sen_parts h
  obtain ⟨D, hD, eD⟩ := sub_pos h
  rw [rd_at eD (by omega)] at hr
  rw [rd_at eD hl]
  have Qk := qF_at (k := k) (by omega)
  have Ql := qF_at (k := l) hl
  by_cases fD : D < INF
  · rw [mul_fin fD Qk.2.1] at hr
    rw [mul_fin fD Ql.2.1]
    have hP : rn (mg D * mg (qF k)) (-1074 + (kg D : Int) + (-1074 + (kg (qF k) : Int))) ≤ rn (mg D * mg (qF l)) (-1074 + (kg D : Int) + (-1074 + (kg (qF l) : Int))) := rn_le (leV_mul _ _ (leV_vl (qF_mono hk hl)))
    have iP := rn_inf (mg D * mg (qF k)) (-1074 + (kg D : Int) + (-1074 + (kg (qF k) : Int)))
    have iL := rn_inf (mg D * mg (qF l)) (-1074 + (kg D : Int) + (-1074 + (kg (qF l) : Int)))
    generalize rn (mg D * mg (qF k)) (-1074 + (kg D : Int) + (-1074 + (kg (qF k) : Int))) = P at *
    generalize rn (mg D * mg (qF l)) (-1074 + (kg D : Int) + (-1074 + (kg (qF l) : Int))) = Q at *
    have hr' : fRun .add a P = some r := hr
    show ∃ r', fRun .add a Q = some r' ∧ _
    by_cases fQ : Q < INF
    · rw [fadd_rd ha (by rw [rg_pos iP]; omega)] at hr'
      rw [fadd_rd ha (by rw [rg_pos iL]; omega)]
      obtain rfl := Option.some.inj hr'
      refine ⟨_, rfl, rdS_mono ?_⟩
      rw [sv_pos iP, sv_pos iL]
      have := vl_le hP
      omega
    · obtain rfl : Q = INF := by omega
      rw [fadd_inf ha]
      refine ⟨_, rfl, ?_⟩
      rw [key_pos (Nat.le_refl _)]
      by_cases fP : P < INF
      · rw [fadd_rd ha (by rw [rg_pos iP]; omega)] at hr'
        obtain rfl := Option.some.inj hr'
        rw [rdS_key]
        have := rn_inf (sv a + sv P).natAbs (-1074)
        split <;> omega
      · obtain rfl : P = INF := by omega
        rw [fadd_inf ha] at hr'
        obtain rfl := Option.some.inj hr'
        rw [key_pos (Nat.le_refl _)]
        exact Int.le_refl _
  · obtain rfl : D = INF := by omega
    have mi : ∀ q, q < INF → 0 < q → fRun .mul INF q = some INF := fun q hq h0 => by
      show Option.map _ _ = _
      have e1 : FloatKind.f64.format.read INF = .infinity false := read_wdI false
      have e2 : FloatKind.f64.format.read q = .number false (mg q) (-1074 + (kg q : Int)) := read_wd false hq
      rw [e1, e2]
      have hm : mg q ≠ 0 := by
        intro z
        have : vl q = 0 := by unfold vl; rw [z, Nat.zero_mul]
        have := (vl_zero_iff q).1 this
        omega
      simp only [Ieee.Datum.product, if_neg hm]
      show some (FloatKind.f64.format.word false FloatKind.f64.format.infRung) = _
      rw [fmt_inf]
      rfl
    by_cases k0 : k = 0
    · exfalso
      subst k0
      have e0 : qF 0 = 0 := by unfold qF; rw [qk_zero]; rfl
      rw [e0, show fRun .mul INF 0 = none from by kernel_rfl] at hr
      cases hr
    · rw [mi _ Qk.2.1 (Qk.2.2 (by omega))] at hr
      rw [mi _ Ql.2.1 (Ql.2.2 (by omega))]
      exact ⟨r, hr, Int.le_refl _⟩
/-- Does a count reach a number? -/
def rchB (a b : Nat) (X : Option Nat) (c : Int) : Bool := geO (readO a b c) X
theorem rch_mono {a b : Nat} {X : Option Nat} {c d : Int} (h0 : 40 ≤ c) (h1 : c ≤ d) (h2 : d ≤ 4055) (h : rchB a b X c = true) : rchB a b X d = true := by
  unfold rchB readO at *
  have inC : inB 40 4055 c = true := by unfold inB; simp; omega
  have inD : inB 40 4055 d = true := by unfold inB; simp; omega
  unfold readB at *
  rw [inC, Bool.and_true] at h
  rw [inD, Bool.and_true]
  by_cases hs : senB a b = true
  · rw [if_pos hs] at h ⊢
    obtain ⟨k, rfl⟩ : ∃ k : Nat, c = 40 + (k : Int) := ⟨(c - 40).toNat, by omega⟩
    obtain ⟨l, rfl⟩ : ∃ l : Nat, d = 40 + (l : Int) := ⟨(d - 40).toNat, by omega⟩
    cases hr : rdO a b (40 + (k : Int)) with
    | none => rw [hr] at h; cases h
    | some r =>
      rw [hr] at h
      obtain ⟨r', e', hk⟩ := rd_mono hs (k := k) (l := l) (by omega) (by omega) hr
      rw [e']
      cases X with
      | none => cases h
      | some y =>
        have : key y ≤ key r := of_decide_eq_true h
        exact decide_eq_true (by omega)
  · rw [if_neg hs] at h
    cases h
/-- The count that is told. -/
def CntV (a b : Nat) (X : Option Nat) (c : Int) : Prop := (c = -1 ∧ ∀ k, 40 ≤ k → k ≤ 4055 → rchB a b X k = false) ∨ (40 ≤ c ∧ c ≤ 4055 ∧ rchB a b X c = true ∧ ∀ k, 40 ≤ k → k < c → rchB a b X k = false)
theorem CntV.one {a b : Nat} {X : Option Nat} {c d : Int} (h : CntV a b X c) (g : CntV a b X d) : c = d := by
  rcases h with ⟨rfl, h⟩ | ⟨h1, h2, h3, h4⟩ <;> rcases g with ⟨rfl, g⟩ | ⟨g1, g2, g3, g4⟩
  · rfl
  · rw [h d g1 g2] at g3; cases g3
  · rw [g c h1 h2] at h3; cases h3
  · rcases Int.lt_trichotomy c d with z | z | z
    · rw [g4 c h1 z] at h3; cases h3
    · exact z
    · rw [h4 d g1 z] at g3; cases g3
theorem first_of {p : Int → Bool} : ∀ (n : Nat) (c : Int), (∀ k, 40 ≤ k → k < c → p k = false) → 40 ≤ c → c + n = 4056 → (∀ k, 40 ≤ k → k ≤ 4055 → p k = false) ∨ ∃ c, 40 ≤ c ∧ c ≤ 4055 ∧ p c = true ∧ ∀ k, 40 ≤ k → k < c → p k = false
  | 0, c, h, h0, hc => Or.inl fun k k0 k1 => h k k0 (by omega)
  | n + 1, c, h, h0, hc => by
    cases hp : p c
    · exact first_of n (c + 1) (fun k k0 k1 => by
        by_cases e : k = c
        · rw [e]; exact hp
        · exact h k k0 (by omega)) (by omega) (by omega)
    · exact Or.inr ⟨c, h0, by omega, hp, h⟩
theorem cnt_some (a b : Nat) (X : Option Nat) : ∃ c, CntV a b X c := by
  rcases first_of (p := rchB a b X) 4016 40 (fun k k0 k1 => by omega) (by omega) (by omega) with h | ⟨c, h1, h2, h3, h4⟩
  · exact ⟨-1, Or.inl ⟨rfl, h⟩⟩
  · exact ⟨c, Or.inr ⟨h1, h2, h3, h4⟩⟩
end Go.Proofs.Ytbdilaacfokpiaa
