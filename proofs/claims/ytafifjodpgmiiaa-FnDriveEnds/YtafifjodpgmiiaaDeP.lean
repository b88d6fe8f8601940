/-
What is proved: a right drive that is wanted one way comes to its end within 100 cycles; jammed it has its Fault behind 20; in numbers.
-/
import Derived.Test.YtafifjodpgmiiaaDrP
namespace Go.Proofs.Ytafifjodpgmiiaa
set_option maxRecDepth 40000
open Go.ChangeShapes Go.WideShapes Go.ChangeAt Go.RowKit
set_option linter.unusedVariables false
set_option linter.unusedSimpArgs false

theorem dec_one {V : Nat → Int} {want : Int} (h0 : V 0 = 1) (h1 : V 1 = want) (hw : want = 1 ∨ want = -1) : decV V 1 = want := by
  have e : wtL V 1 1 = want := by
    show wtS 0 (V 0) (V 1) 1 = want
    unfold wtS
    rw [h0, h1, if_pos rfl]
    rcases hw with rfl | rfl <;> simp
  unfold decV
  rw [if_pos (by omega), decG_at V 1 9 1 (by omega) (by omega) (by rw [e]; omega) (fun l' a b => by omega), e]
theorem drv_want {P W T want sp : Int} {F jam : Bool} (hd : drvB P W T = true) (hw : want = 1 ∨ want = -1) (hs : inB 1 100 sp = true) : dstB P W T want sp = true ∧ ∃ T' F', 0 ≤ T' ∧ T' ≤ 20 ∧ drvV P W T F want sp jam = wtV (mvV P want sp jam) want T' F' ∧ ((W ≠ want ∧ T' = 0 ∧ F' = false) ∨ (W = want ∧ T' = T ∧ F' = F)) := by
  have hi : inB (-1) 1 want = true := decide_eq_true (by omega)
  have hb : dstB P W T want sp = true := by unfold dstB; rw [hd, hi, hs]; rfl
  refine ⟨hb, ?_⟩
  obtain ⟨-, -, ⟨t0, t1⟩, -⟩ := drv_yes hd
  unfold drvV
  rw [if_pos hb]
  by_cases e : want = W
  · refine ⟨T, F, t0, t1, ?_, Or.inr ⟨e.symm, rfl, rfl⟩⟩
    rw [if_neg (fun q => q.2 e), ← e]
    unfold aftV
    rw [if_neg (by omega)]
  · refine ⟨0, false, by omega, by omega, ?_, Or.inl ⟨fun q => e q.symm, rfl, rfl⟩⟩
    rw [if_pos ⟨by omega, e⟩]
    unfold aftV
    rw [if_neg (by omega)]
theorem wt_right {P W T : Int} {F : Bool} (p0 : 0 ≤ P) (p1 : P ≤ 100) (hw : W = 1 ∨ W = -1) (t0 : 0 ≤ T) (t1 : T ≤ 20) : drvB (wtV P W T F).1 (wtV P W T F).2.1 (wtV P W T F).2.2.1 = true ∧ (wtV P W T F).1 = P ∧ (P = endV W → (wtV P W T F).2.1 = 0) ∧ (P ≠ endV W → wtV P W T F = (P, W, min (T + 1) 20, F || decide (min (T + 1) 20 = 20))) := by
  unfold wtV
  by_cases e : P = endV W
  · rw [if_pos e]
    refine ⟨?_, rfl, fun _ => rfl, fun q => absurd e q⟩
    unfold drvB
    simp only [inB]
    simp
    omega
  · rw [if_neg e]
    refine ⟨?_, rfl, fun q => absurd q e, fun _ => rfl⟩
    unfold drvB
    simp only [inB, Bool.and_eq_true, Bool.or_eq_true, decide_eq_true_iff]
    omega
theorem mv_rng {P want sp : Int} {jam : Bool} (p0 : 0 ≤ P) (p1 : P ≤ 100) : 0 ≤ mvV P want sp jam ∧ mvV P want sp jam ≤ 100 := by
  unfold mvV
  split <;> omega
theorem mv_up {P sp : Int} (p0 : 0 ≤ P) (p1 : P ≤ 100) (s : 1 ≤ sp) : P + 1 ≤ mvV P 1 sp false ∨ mvV P 1 sp false = 100 := by
  unfold mvV
  rw [if_neg (by decide)]
  omega
theorem mv_dn {P sp : Int} (p0 : 0 ≤ P) (p1 : P ≤ 100) (s : 1 ≤ sp) : mvV P (-1) sp false ≤ P - 1 ∨ mvV P (-1) sp false = 0 := by
  unfold mvV
  rw [if_neg (by decide)]
  omega
variable {d : Drv} {K : Nat → Nat} {V : Nat → Nat → Int} {X : Nat → Int} {J : Nat → Bool} {want sp : Int} {jam : Bool}
/-- One more cycle. -/
theorem st_step {k : Nat} (hd : drvB (stD d K V X J k).1 (stD d K V X J k).2.1 (stD d K V X J k).2.2.1 = true) (hw : want = 1 ∨ want = -1) (hs : inB 1 100 sp = true) (hV : decV (V k) (K k) = want) (hX : X k = sp) (hJ : J k = jam) : okD d K V X J k = true ∧ ∃ T' F', 0 ≤ T' ∧ T' ≤ 20 ∧ stD d K V X J (k + 1) = wtV (mvV (stD d K V X J k).1 want sp jam) want T' F' ∧ (((stD d K V X J k).2.1 ≠ want ∧ T' = 0 ∧ F' = false) ∨ ((stD d K V X J k).2.1 = want ∧ T' = (stD d K V X J k).2.2.1 ∧ F' = (stD d K V X J k).2.2.2)) := by
  obtain ⟨h1, h2⟩ := drv_want (F := (stD d K V X J k).2.2.2) (jam := jam) hd hw hs
  refine ⟨?_, ?_⟩
  · show dstB _ _ _ _ _ = true
    rw [hV, hX]
    exact h1
  · show ∃ T' F', 0 ≤ T' ∧ T' ≤ 20 ∧ drvV _ _ _ _ _ _ _ = _ ∧ _
    rw [hV, hX, hJ]
    exact h2
theorem ends_up (hd : drvB d.1 d.2.1 d.2.2.1 = true) (hs : inB 1 100 sp = true) (hV : ∀ j, decV (V j) (K j) = 1) (hX : ∀ j, X j = sp) (hJ : ∀ j, J j = false) : ∀ k : Nat, k ≤ 100 → drvB (stD d K V X J k).1 (stD d K V X J k).2.1 (stD d K V X J k).2.2.1 = true ∧ allD d K V X J k = true ∧ (k : Int) ≤ (stD d K V X J k).1 ∧ (1 ≤ k → (stD d K V X J k).1 = 100 → (stD d K V X J k).2.1 = 0)
  | 0, _ => ⟨hd, rfl, (drv_yes hd).1.1, fun q => by omega⟩
  | k + 1, hk => by
    obtain ⟨a1, a2, a3, -⟩ := ends_up hd hs hV hX hJ k (by omega)
    obtain ⟨⟨p0, p1⟩, -⟩ := drv_yes a1
    obtain ⟨ok, T', F', t0, t1, e, -⟩ := st_step a1 (Or.inl rfl) hs (hV k) (hX k) (hJ k)
    obtain ⟨m0, m1⟩ := mv_rng (want := 1) (sp := sp) (jam := false) p0 p1
    obtain ⟨r1, r2, r3, -⟩ := wt_right (F := F') m0 m1 (Or.inl rfl) t0 t1
    have mu := mv_up p0 p1 (inB_yes hs).1
    rw [e]
    refine ⟨r1, ?_, ?_, fun _ q => ?_⟩
    · show (allD d K V X J k && okD d K V X J k) = true
      rw [a2, ok]; rfl
    · rw [r2]; omega
    · rw [r2] at q
      exact r3 q
theorem ends_dn (hd : drvB d.1 d.2.1 d.2.2.1 = true) (hs : inB 1 100 sp = true) (hV : ∀ j, decV (V j) (K j) = -1) (hX : ∀ j, X j = sp) (hJ : ∀ j, J j = false) : ∀ k : Nat, k ≤ 100 → drvB (stD d K V X J k).1 (stD d K V X J k).2.1 (stD d K V X J k).2.2.1 = true ∧ allD d K V X J k = true ∧ (stD d K V X J k).1 ≤ 100 - (k : Int) ∧ (1 ≤ k → (stD d K V X J k).1 = 0 → (stD d K V X J k).2.1 = 0)
  | 0, _ => ⟨hd, rfl, by show d.1 ≤ 100 - ((0 : Nat) : Int); have := (drv_yes hd).1.2; omega, fun q => by omega⟩
  | k + 1, hk => by
    obtain ⟨a1, a2, a3, -⟩ := ends_dn hd hs hV hX hJ k (by omega)
    obtain ⟨⟨p0, p1⟩, -⟩ := drv_yes a1
    obtain ⟨ok, T', F', t0, t1, e, -⟩ := st_step a1 (Or.inr rfl) hs (hV k) (hX k) (hJ k)
    obtain ⟨m0, m1⟩ := mv_rng (want := -1) (sp := sp) (jam := false) p0 p1
    obtain ⟨r1, r2, r3, -⟩ := wt_right (F := F') m0 m1 (Or.inr rfl) t0 t1
    have mu := mv_dn p0 p1 (inB_yes hs).1
    rw [e]
    refine ⟨r1, ?_, ?_, fun _ q => ?_⟩
    · show (allD d K V X J k && okD d K V X J k) = true
      rw [a2, ok]; rfl
    · rw [r2]; omega
    · rw [r2] at q
      exact r3 q
theorem jams (hd : drvB d.1 d.2.1 d.2.2.1 = true) (hw : want = 1 ∨ want = -1) (hs : inB 1 100 sp = true) (hV : ∀ j, decV (V j) (K j) = want) (hX : ∀ j, X j = sp) (hJ : ∀ j, J j = true) : ∀ k : Nat, k ≤ 20 → drvB (stD d K V X J k).1 (stD d K V X J k).2.1 (stD d K V X J k).2.2.1 = true ∧ allD d K V X J k = true ∧ (stD d K V X J k).1 = d.1 ∧ (d.1 ≠ endV want → 1 ≤ k → (stD d K V X J k).2.1 = want ∧ (k : Int) ≤ (stD d K V X J k).2.2.1 ∧ ((stD d K V X J k).2.2.1 = 20 → (stD d K V X J k).2.2.2 = true))
  | 0, _ => ⟨hd, rfl, rfl, fun _ q => by omega⟩
  | k + 1, hk => by
    obtain ⟨a1, a2, a3, a4⟩ := jams hd hw hs hV hX hJ k (by omega)
    obtain ⟨⟨p0, p1⟩, -⟩ := drv_yes a1
    obtain ⟨ok, T', F', t0, t1, e, alt⟩ := st_step a1 hw hs (hV k) (hX k) (hJ k)
    have em : mvV (stD d K V X J k).1 want sp true = d.1 := by unfold mvV; rw [if_pos rfl]; exact a3
    rw [em] at e
    obtain ⟨r1, r2, r3, r4⟩ := wt_right (F := F') (by omega : 0 ≤ d.1) (by omega) hw t0 t1
    rw [e]
    refine ⟨r1, ?_, r2, fun q _ => ?_⟩
    · show (allD d K V X J k && okD d K V X J k) = true
      rw [a2, ok]; rfl
    · rw [r4 q]
      have hk2 : (k : Int) ≤ T' := by
        by_cases z : 1 ≤ k
        · obtain ⟨b1, b2, -⟩ := a4 q z
          rcases alt with ⟨c1, -⟩ | ⟨-, c2, -⟩
          · exact absurd b1 c1
          · omega
        · omega
      refine ⟨rfl, ?_, fun h20 => ?_⟩
      · show ((k + 1 : Nat) : Int) ≤ min (T' + 1) 20
        omega
      · show (F' || decide (min (T' + 1) 20 = 20)) = true
        rw [decide_eq_true h20, Bool.or_true]
end Go.Proofs.Ytafifjodpgmiiaa
