/-
What is proved: a right book is right without one of its permits; what an answer of GiveBack is.
-/
import Derived.Test.YtikcfpjfcpbfcaaQgA
import Derived.Test.YtikcfpjfcpbfcaaTgz
import Derived.Test.YtikcfpjfcpbfcaaBkT
import Derived.Test.YtikcfpjfcpbfcaaI64R2
import Derived.Test.YtikcfpjfcpbfcaaBlk
namespace Go.Proofs.Ytikcfpjfcpbfcaa
set_option maxRecDepth 40000
open Go.ChangeShapes Go.WideShapes Go.ChangeAt Go.RowKit
set_option linter.unusedVariables false
set_option linter.unusedSimpArgs false

theorem bok_sk {p : Int} {n : Nat} {D : Nat → Int × Int} {m : Nat} {S : Nat → Int} {nb q : Nat} {X Y : Nat → Int} {K : Nat → Nat} {V : Nat → Nat → Int} (h : bokB p n D m S nb X Y K V = true) : bokB p n D m S (nb - 1) (fun i => X (sk q i)) (fun i => Y (sk q i)) (fun i => K (sk q i)) (fun i => V (sk q i)) = true := by
  obtain ⟨h1, h2, h3⟩ := bok_yes h
  have hr := bok_rises h
  unfold bokB
  simp only [Bool.and_eq_true, decide_eq_true_iff]
  refine ⟨h1, by omega, fun i hi => ?_⟩
  have hs : sk q i < nb := by unfold sk; split <;> omega
  obtain ⟨g1, g2, g3, g4⟩ := pm_yes (h3 (sk q i) hs)
  unfold pmB
  simp only [Bool.and_eq_true]
  refine ⟨g1, g2, decide_eq_true ?_, decide_eq_true fun j hj => ?_⟩
  · rcases Nat.eq_zero_or_pos i with z | z
    · exact .inl z
    · exact .inr (hr _ _ (by unfold sk; split <;> split <;> omega) hs)
  · exact of_decide_eq_true g4 (sk q j) (by unfold sk; split <;> split <;> omega)
theorem bok_in {p : Int} {n : Nat} {D : Nat → Int × Int} {m : Nat} {S : Nat → Int} {nb : Nat} {X Y : Nat → Int} {K : Nat → Nat} {V : Nat → Nat → Int} (h : bokB p n D m S nb X Y K V = true) : n ≤ 40 ∧ nb ≤ 20 ∧ ∀ i, i < nb → (K i : Int) ≤ 40 ∧ risB (V i) (K i) = true ∧ ∀ j, j < K i → 0 ≤ V i j ∧ V i j < (n : Int) := by
  obtain ⟨h1, h2, h3⟩ := bok_yes h
  obtain ⟨-, n40, -⟩ := net_yes h1
  refine ⟨n40, h2, fun i hi => ?_⟩
  obtain ⟨-, -, r1, r2⟩ := fm_yes (pm_yes (h3 i hi)).1
  have := ris_len r1 r2 (by omega)
  exact ⟨by omega, r1, fun j hj => by have := r2 j hj; omega⟩
def GbPost (w : World) (nr : Nat) (X Y : Nat → Int) (K : Nat → Nat) (V : Nat → Nat → Int) (L : List Int) (cd : Int) (e : Ending) (w' : World) : Prop := ∃ (s : Option Addr) (c : Nat) (t : Option Addr) (d : Nat) (S T : Nat → Prop), e = .returned (.tuple #[.agg #[.slice s nr c], .slice t L.length d, .int .i64 cd]) ∧ (∀ k, S k → w.heap.size ≤ k ∧ k < w'.heap.size) ∧ BookR S w' s nr X Y K V ∧ (∀ k, T k → w.heap.size ≤ k ∧ k < w'.heap.size) ∧ I64R T w' t L.length (nthI L) ∧ (∀ k, S k → ¬ T k) ∧ Below w.heap.size w w'
/-- What is asked of an answer. -/
def GbAns (p : Int) (n : Nat) (D : Nat → Int × Int) (m : Nat) (S : Nat → Int) (nb : Nat) (X Y : Nat → Int) (K : Nat → Nat) (V : Nat → Nat → Int) (q : Nat) (w : World) (e : Ending) (w' : World) : Prop := if bokB p n D m S nb X Y K V = true then (if q < nb then GbPost w (nb - 1) (fun i => X (sk q i)) (fun i => Y (sk q i)) (fun i => K (sk q i)) (fun i => V (sk q i)) (freL (V q) (cntP (fun i => K (sk q i)) (fun i => V (sk q i)) (nb - 1)) (K q)) 0 e w' else GbPost w nb X Y K V [] 7 e w') else GbPost w 0 X Y K V [] 1 e w'
theorem GbAns.bad {p : Int} {n : Nat} {D : Nat → Int × Int} {m : Nat} {S : Nat → Int} {nb : Nat} {X Y : Nat → Int} {K : Nat → Nat} {V : Nat → Nat → Int} {q : Nat} {w : World} {e : Ending} {w' : World} (h : bokB p n D m S nb X Y K V = false) (g : GbPost w 0 X Y K V [] 1 e w') : GbAns p n D m S nb X Y K V q w e w' := by unfold GbAns; rw [h]; exact g
theorem GbAns.none {p : Int} {n : Nat} {D : Nat → Int × Int} {m : Nat} {S : Nat → Int} {nb : Nat} {X Y : Nat → Int} {K : Nat → Nat} {V : Nat → Nat → Int} {q : Nat} {w : World} {e : Ending} {w' : World} (h : bokB p n D m S nb X Y K V = true) (hq : ¬ q < nb) (g : GbPost w nb X Y K V [] 7 e w') : GbAns p n D m S nb X Y K V q w e w' := by unfold GbAns; rw [if_pos h, if_neg hq]; exact g
theorem GbAns.hit {p : Int} {n : Nat} {D : Nat → Int × Int} {m : Nat} {S : Nat → Int} {nb : Nat} {X Y : Nat → Int} {K : Nat → Nat} {V : Nat → Nat → Int} {q mo fl : Nat} {L : List Int} {w : World} {e : Ending} {w' : World} (h : bokB p n D m S nb X Y K V = true) (hq : q < nb) (hm : nb - 1 = mo) (hk : K q = fl) (hL : freL (V q) (cntP (fun i => K (sk q i)) (fun i => V (sk q i)) mo) fl = L) (g : GbPost w mo (fun i => X (sk q i)) (fun i => Y (sk q i)) (fun i => K (sk q i)) (fun i => V (sk q i)) L 0 e w') : GbAns p n D m S nb X Y K V q w e w' := by unfold GbAns; rw [if_pos h, if_pos hq, hm, hk, hL]; exact g
theorem no_book (w : World) (s : Option Addr) (X Y : Nat → Int) (K : Nat → Nat) (V : Nat → Nat → Int) : BookR (fun _ => False) w s 0 X Y K V := ⟨fun _ => 0, fun i hi => absurd hi (Nat.not_lt_zero _), fun i i' hi => absurd hi (Nat.not_lt_zero _)⟩
theorem no_ints (w : World) (s : Option Addr) (V : Nat → Int) : I64R (fun _ => False) w s 0 V := ⟨fun i hi => absurd hi (Nat.not_lt_zero _), fun hi => absurd hi (Nat.not_lt_zero _)⟩
end Go.Proofs.Ytikcfpjfcpbfcaa
