/-
What is proved: the words of a frame's bytes, scanned by the program.
-/
import Derived.Test.YtkocbklkiehdiaaRfW
import Derived.Test.YtkocbklkiehdiaaOwnV
import Derived.Test.YtkocbklkiehdiaaOwnL
import Derived.ScopeJumps
import Derived.WalkMore
import Derived.Laws.Cover3
namespace Go.Proofs.Ytkocbklkiehdiaa
set_option maxRecDepth 40000
open Go.RowKit
set_option linter.unusedVariables false
set_option linter.unusedSimpArgs false

def lenOf : Value → Nat
  | .slice _ n _ => n
  | _ => 0
theorem scope_back {P : Program} {a : Act} {w : World} {Q : Exit → Act → World → Prop} {c rest : Code} (l : Nat) (J : Act → World → Prop) (μ : Act → World → Nat) (hf : findLabel c l = some (Code.skip.seq rest))
    (pass : ∀ a w, J a w → rest.wp P (Exit.jump l (fun a' w' => J a' w' ∧ μ a' w' < μ a w) Q) a w) (first : (∀ a w, J a w → rest.wp P (Exit.jump l J Q) a w) → c.wp P (Exit.jump l J Q) a w) : (Code.scope c).wp P Q a w :=
  wp_scope_jumps l J μ hf (first fun a w h => wp_mono (pass a w h) (fun e a w hq => by
    cases e with
    | goto l' => exact ⟨hq.1, hq.2.1⟩
    | _ => exact hq)) (fun a w h => wp_seq (wp_skip (pass a w h)))
/-- The words that were scanned: as many numbers in memory of their own. -/
def ScPost (w : World) (k : Nat) (U : Nat → Int) (e : Ending) (w' : World) : Prop := ∃ s' c', e = .returned (.slice s' k c') ∧ OwnI w.heap.size w' s' k (fun i => numV U (2 * i)) ∧ Below w.heap.size w w'
set_option maxRecDepth 20000 in
set_option maxHeartbeats 4000000 in
theorem scan_any (b o k c : Nat) (U : Nat → Int) (w : World) (hk : k ≤ 20) (hc : 2 * k + 1 ≤ c) (hU : Hid (∀ j, j < 2 * k → 0 ≤ U j ∧ U j < 256)) (HR : Hid (RowY w (some ⟨b, o, none⟩) (2 * k) U)) :
    Calls Try.prog 61 #[.slice (some ⟨b, o, none⟩) (2 * k) c] w fun e w' => ScPost w k U e w' := by
  go_enter Try.func61, Try.ntmps61
  go_wp2_with fail
  refine scope_back 0 (fun a' w' => ∃ (j : Nat) (v : Value) (x4 x5 x6 x7 x8 x9 x10 x11 x12 x13 x14 x15 : Value), j ≤ k ∧ a' = { tmps := #[.slice (some ⟨b, o + 2 * j, none⟩) (2 * (k - j)) (c - 2 * j), undef, .slice none 0 0, v, x4, x5, x6, x7, x8, x9, x10, x11, x12, x13, x14, x15], defers := [] } ∧ w'.ownsRow w.heap.size 2 1 v j (vals (fun i => numV U (2 * i)) j) ∧ Below w.heap.size w w') (fun a' _ => lenOf (a'.tmps.getD 0 undef)) rfl ?_ ?_
  · rintro a' wr ⟨j, v, x4, x5, x6, x7, x8, x9, x10, x11, x12, x13, x14, x15, hj, rfl, hown, hB⟩
    have HO : Hid (wr.ownsRow w.heap.size 2 1 v j (vals (fun i => numV U (2 * i)) j)) := hown
    have HB : Hid (Below w.heap.size w wr) := hB
    have sB := hB.size
    by_cases hlt : j = k
    · subst hlt
      obtain ⟨s', cap, rfl, O⟩ := own_OwnI (size := 1) (n := j) (U := fun i => numV U (2 * i)) (by rw [Nat.mul_one]; exact hown)
      rw [Nat.mul_one] at O
      have e0 : 2 * (j - j) = 0 := by omega
      rw [e0]
      have OE : Hid (OwnI w.heap.size wr s' j (fun i => numV U (2 * i))) := O
      clear O hown
      go_wp2
      simp only [Exit.jump]
      go_ret
      exact ⟨s', cap, rfl, OE.out, HB.out⟩
    · obtain ⟨d0, hb⟩ := rowY_at HR.out (j := 2 * j) (by omega)
      obtain ⟨d1, _⟩ := rowY_at HR.out (j := 2 * j + 1) (by omega)
      have hz := hB.size
      replace d0 := (hB.cell (p := ⟨b, o + 2 * j, none⟩) hb).trans d0
      replace d1 := (hB.cell (p := ⟨b, o + (2 * j + 1), none⟩) hb).trans d1
      obtain ⟨v0, v1⟩ := hU.out (2 * j) (by omega)
      obtain ⟨v2, v3⟩ := hU.out (2 * j + 1) (by omega)
      have aw : ∀ w : World, (Instr.arrayAt 75 (.slice (some ⟨b, o + 2 * j, none⟩) (2 * (k - j)) (c - 2 * j))).run Try.prog w = .ok (.pointer (some ⟨b, o + 2 * j, none⟩)) w := fun w => run_arrayAt w 75 5 2 _ _ _ Try.underlying75 (by omega)
      have ln : ¬ ((2 * (k - j) : Nat) : Int) = 0 := by omega
      clear hown hB
      go_wp2_with fail
      refine (number_any b (o + 2 * j) (U (2 * j)) (U (2 * j + 1)) _ v0 v1 v2 v3 d0 d1).mono ?_
      rintro e w2 ⟨rfl, nq, rfl⟩
      have HO2 : Hid ((wr.drewN nq).ownsRow w.heap.size 2 1 v j (vals (fun i => numV U (2 * i)) j)) := own_drewN HO.out nq
      go_wp2_with (first | (refine list_i64 w.heap.size v j (vals (fun i => numV U (2 * i)) j) _ _ (by rfl) (by rfl) (by rfl) (by rfl) HO2.out (by omega) (by simp; omega) ?_; intro g cap w3 hown3 hg3 hlt3; have HO3 : Hid (w3.ownsRow w.heap.size 2 1 (.slice (some ⟨g, 0, none⟩) (j + 1) cap) (j + 1) (vals (fun i => numV U (2 * i)) (j + 1))) := (by rw [vals_succ]; exact hown3); have HB3 : Hid (Below w.heap.size w w3) := HB.out.trans ((Below.mono (below_drewN wr nq) sB).trans (grown_below hg3 (by simp; omega) (own_block HO2.out))); clear hown3 hg3))
      go_step3
      have e1 : o + 2 * j + 2 = o + 2 * (j + 1) := by omega
      have e2 : 2 * (k - j) - 2 = 2 * (k - (j + 1)) := by omega
      have e3 : c - 2 * j - 2 = c - 2 * (j + 1) := by omega
      rw [e1, e2, e3]
      refine ⟨rfl, ⟨j + 1, _, _, _, _, _, _, _, _, _, _, _, _, _, by omega, rfl, HO3.out, HB3.out⟩, ?_⟩
      show 2 * (k - (j + 1)) < 2 * (k - j)
      omega
  · intro H
    go_wp2
    go_step3
    rename_i Q1 K hK
    have h := H { tmps := #[.slice (some ⟨b, o, none⟩) (2 * k) c, undef, .slice none 0 0, .slice none 0 0, undef, undef, undef, undef, undef, undef, undef, undef, undef, undef, undef, undef], defers := [] } w ⟨0, .slice none 0 0, undef, undef, undef, undef, undef, undef, undef, undef, undef, undef, undef, undef, Nat.zero_le _, rfl, (made_nil w (fun i => numV U (2 * i)) (base := w.heap.size)).1, Below.refl _ _⟩
    clear H
    exact hK _ _ h
end Go.Proofs.Ytkocbklkiehdiaa
