/-
What is proved: what Grant and GiveBack answer, told once.
-/
import Derived.Test.YtikcfpjfcpbfcaaPkMz
import Derived.Test.YtikcfpjfcpbfcaaGrIcz
import Derived.Test.YtikcfpjfcpbfcaaGrSoz
import Derived.Test.YtikcfpjfcpbfcaaGbIcz
import Derived.Test.YtikcfpjfcpbfcaaTgBpz
namespace Go.Proofs.Ytikcfpjfcpbfcaa
set_option maxRecDepth 40000
open Go.ChangeShapes Go.WideShapes Go.ChangeAt Go.RowKit
set_option linter.unusedVariables false
set_option linter.unusedSimpArgs false

/-- A permit was put in at q. -/
def GotIn (P : Int) (nd : Nat) (D : Nat → Int × Int) (ns : Nat) (S : Nat → Int) (nb : Nat) (X Y : Nat → Int) (K : Nat → Nat) (V : Nat → Nat → Int) (id pl : Int) (kp : Nat) (vp : Nat → Int) (q : Nat) (nr : Nat) (XX YY : Nat → Int) (KK : Nat → Nat) (VV : Nat → Nat → Int) : Prop := bokB P nd D ns S nb X Y K V = true ∧ InsAt nb X id q ∧ (∀ j, j < kp → 0 ≤ vp j) ∧ nr = nb + 1 ∧ XX = inF q id X ∧ YY = inF q pl Y ∧ KK = inF q kp K ∧ VV = inF q vp V
theorem gr_use (P : Int) (nd : Nat) (D : Nat → Int × Int) (ns : Nat) (S : Nat → Int) (nb : Nat) (X Y : Nat → Int) (K : Nat → Nat) (V : Nat → Nat → Int) (id pl : Int) (kp : Nat) (vp : Nat → Int) (q : Nat) (hq : bokB P nd D ns S nb X Y K V = true → refV P nd D ns S nb X Y id pl kp vp = 0 → InsAt nb X id q) :
    ∃ (cd : Int) (nr : Nat) (XX YY : Nat → Int) (KK : Nat → Nat) (VV : Nat → Nat → Int),
      (∀ w e w', GrAnsK P nd D ns S nb X Y K V id pl kp vp q w e w' → ∃ s c, e = .returned (.tuple #[.agg #[.slice s nr c], .int .i64 cd]) ∧ Below w.heap.size w w') ∧
      (∀ w e w', GrAnsC P nd D ns S nb X Y K V id pl kp vp q w e w' → ∃ s c, e = .returned (.tuple #[.agg #[.slice s nr c], .int .i64 cd]) ∧ nr ≤ c ∧ RowPer w' s nr XX YY KK VV ∧ Below w.heap.size w w') ∧
      (cd = 1 ∨ (bokB P nd D ns S nr XX YY KK VV = true ∧ ((cd ≠ 0 ∧ nr = nb) ∨ (cd = 0 ∧ GotIn P nd D ns S nb X Y K V id pl kp vp q nr XX YY KK VV)))) := by
  by_cases h : bokB P nd D ns S nb X Y K V = true
  case neg =>
    refine ⟨1, 0, X, Y, K, V, fun w e w' g => ?_, fun w e w' g => ?_, .inl rfl⟩
    · unfold GrAnsK at g
      rw [if_neg h] at g
      obtain ⟨s, c, e1, -, e4⟩ := g
      exact ⟨s, c, e1, e4⟩
    · unfold GrAnsC at g
      rw [if_neg h] at g
      obtain ⟨s, c, S_, e1, ec, -, e3, e4⟩ := g
      exact ⟨s, c, e1, ec, PerR.row e3, e4⟩
  case pos =>
    by_cases hr : refV P nd D ns S nb X Y id pl kp vp = 0
    case pos =>
      have hi := hq h hr
      refine ⟨0, nb + 1, inF q id X, inF q pl Y, inF q kp K, inF q vp V, fun w e w' g => ?_, fun w e w' g => ?_, .inr ⟨bok_ins h hr hi, .inr ⟨rfl, h, hi, fun j hj => ((fm_yes (ref_zero hr).1).2.2.2 j hj).1, rfl, rfl, rfl, rfl, rfl⟩⟩⟩
      · unfold GrAnsK at g
        rw [if_pos h, if_pos hr] at g
        obtain ⟨s, c, e1, -, e4⟩ := g
        exact ⟨s, c, e1, e4⟩
      · unfold GrAnsC at g
        rw [if_pos h, if_pos hr] at g
        obtain ⟨s, c, S_, e1, ec, -, e3, e4⟩ := g
        exact ⟨s, c, e1, ec, PerR.row e3, e4⟩
    case neg =>
      refine ⟨refV P nd D ns S nb X Y id pl kp vp, nb, X, Y, K, V, fun w e w' g => ?_, fun w e w' g => ?_, .inr ⟨h, .inl ⟨hr, rfl⟩⟩⟩
      · unfold GrAnsK at g
        rw [if_pos h, if_neg hr] at g
        obtain ⟨s, c, e1, -, e4⟩ := g
        exact ⟨s, c, e1, e4⟩
      · unfold GrAnsC at g
        rw [if_pos h, if_neg hr] at g
        obtain ⟨s, c, S_, e1, ec, -, e3, e4⟩ := g
        exact ⟨s, c, e1, ec, PerR.row e3, e4⟩
theorem gb_use {P : Int} {nd : Nat} {D : Nat → Int × Int} {ns : Nat} {S : Nat → Int} {nb : Nat} {X Y : Nat → Int} {K : Nat → Nat} {V : Nat → Nat → Int} {id pl : Int} {kp : Nat} {vp : Nat → Int} {q : Nat} {nr : Nat} {XX YY : Nat → Int} {KK : Nat → Nat} {VV : Nat → Nat → Int} (hG : GotIn P nd D ns S nb X Y K V id pl kp vp q nr XX YY KK VV) (hO : bokB P nd D ns S nr XX YY KK VV = true) {w : World} {e : Ending} {w' : World} (g : GbAnsC P nd D ns S nr XX YY KK VV q w e w') :
    ∃ s c t d, e = .returned (.tuple #[.agg #[.slice s nb c], .slice t (freL vp (cntP K V nb) kp).length d, .int .i64 0]) ∧ nb ≤ c ∧ RowPer w' s nb X Y K V ∧ RowI w' t (freL vp (cntP K V nb) kp).length (nthI (freL vp (cntP K V nb) kp)) ∧ Below w.heap.size w w' := by
  obtain ⟨h, hi, hv, rfl, rfl, rfl, rfl, rfl⟩ := hG
  have hq := hi.1
  unfold GbAnsC at g
  rw [if_pos hO, if_pos (by omega)] at g
  simp only [inF_sk, inF_eq, Nat.add_sub_cancel] at g
  obtain ⟨s, c, t, d, S_, T_, e1, ec, -, e3, -, e5, -, e7⟩ := g
  exact ⟨s, c, t, d, e1, ec, PerR.row e3, I64R.row e5, e7⟩
theorem gb_out {P : Int} {nd : Nat} {D : Nat → Int × Int} {ns : Nat} {S : Nat → Int} {nb : Nat} {X Y : Nat → Int} {K : Nat → Nat} {V : Nat → Nat → Int} {id pl : Int} {kp : Nat} {vp : Nat → Int} {q : Nat} {nr : Nat} {XX YY : Nat → Int} {KK : Nat → Nat} {VV : Nat → Nat → Int} (hG : GotIn P nd D ns S nb X Y K V id pl kp vp q nr XX YY KK VV) {w : World} {e : Ending} {w' : World} (g : GbAnsC P nd D ns S nb X Y K V nb w e w') :
    ∃ s c t d, e = .returned (.tuple #[.agg #[.slice s nb c], .slice t 0 d, .int .i64 7]) ∧ Below w.heap.size w w' := by
  unfold GbAnsC at g
  rw [if_pos hG.1, if_neg (Nat.lt_irrefl _)] at g
  obtain ⟨s, c, t, d, S_, T_, e1, ec, -, e3, -, e5, -, e7⟩ := g
  exact ⟨s, c, t, d, e1, e7⟩
theorem free_mem {P : Int} {nd : Nat} {D : Nat → Int × Int} {ns : Nat} {S : Nat → Int} {nb : Nat} {X Y : Nat → Int} {K : Nat → Nat} {V : Nat → Nat → Int} {id pl : Int} {kp : Nat} {vp : Nat → Int} {q : Nat} {nr : Nat} {XX YY : Nat → Int} {KK : Nat → Nat} {VV : Nat → Nat → Int} (hG : GotIn P nd D ns S nb X Y K V id pl kp vp q nr XX YY KK VV) (v : Nat) : decide ((v : Int) ∈ freL vp (cntP K V nb) kp) = (decide (cntP K V nb v = 0) && decide (0 < cntP KK VV nr v)) := by
  obtain ⟨h, hi, hv, rfl, rfl, rfl, rfl, rfl⟩ := hG
  rw [← free_is hi.1 hv]
  cases e : hasB (nthI (freL vp (cntP K V nb) kp)) (freL vp (cntP K V nb) kp).length (v : Int)
  · exact decide_eq_false fun z => by rw [mem_hasB.2 z] at e; cases e
  · exact decide_eq_true (mem_hasB.1 e)
theorem may_is {P : Int} {nd : Nat} {D : Nat → Int × Int} {ns : Nat} {S : Nat → Int} {nr : Nat} {XX YY : Nat → Int} {KK : Nat → Nat} {VV : Nat → Nat → Int} (hO : bokB P nd D ns S nr XX YY KK VV = true) {k : Nat} (hk : k < nd) : mayB P nd D ns S nr XX YY KK VV (k : Int) = decide (cntP KK VV nr k = 0) := by
  unfold mayB
  rw [hO, show inB 0 ((nd : Int) - 1) (k : Int) = true from decide_eq_true (by omega), Int.toNat_natCast]
  rfl
/-- The bounds of the tags, and their sum. -/
theorem tag_sum {P : Int} {nd : Nat} {D : Nat → Int × Int} {ns : Nat} {S : Nat → Int} {nr : Nat} {XX YY : Nat → Int} {KK : Nat → Nat} {VV : Nat → Nat → Int} (hO : bokB P nd D ns S nr XX YY KK VV = true) : nd ≤ 40 ∧ nr ≤ 20 ∧ (∀ i, i < nr → KK i ≤ 40) ∧ (∀ v, 0 ≤ cntP KK VV nr v ∧ cntP KK VV nr v ≤ 20) ∧ (∀ k, k ≤ nd → 0 ≤ suI (cntP KK VV nr) k ∧ suI (cntP KK VV nr) k ≤ 800) ∧ (∀ k, k ≤ nr → 0 ≤ suI (fun i => (KK i : Int)) k ∧ suI (fun i => (KK i : Int)) k ≤ 800) ∧ suI (cntP KK VV nr) nd = suI (fun i => (KK i : Int)) nr := by
  obtain ⟨h1, h2, h3⟩ := bok_in hO
  have hc : ∀ v, 0 ≤ cntP KK VV nr v ∧ cntP KK VV nr v ≤ 20 := fun v => by have := cntP_in KK VV nr v; omega
  refine ⟨h1, h2, fun i hi => by have := (h3 i hi).1; omega, hc, fun k hk => ?_, fun k hk => ?_, cnt_sum nr fun i hi => (h3 i hi).2⟩
  · have := suI_in (f := cntP KK VV nr) (B := 20) k fun v _ => hc v
    omega
  · have := suI_in (f := fun i => (KK i : Int)) (B := 40) k fun v hv => by have := (h3 v (by omega)).1; show 0 ≤ (KK v : Int) ∧ (KK v : Int) ≤ 40; omega
    omega
end Go.Proofs.Ytikcfpjfcpbfcaa
