/-
What is proved: DrawWriteFrame's frame; two frames held against one another; bytes as a string.
-/
import Derived.Test.YtlmbnjeophninaaFrE
import Derived.Test.YtlmbnjeophninaaWfJ
import Derived.Test.YtlmbnjeophninaaRowI
import Derived.Deep.DeepCutAuto
import Derived.RegionTactic
import Derived.Deep.RegionHeld3
import Derived.BigQuiet
import Derived.Laws.BytesArg
namespace Go.Proofs.Ytlmbnjeophninaa
set_option maxRecDepth 40000
open Go.ChangeShapes Go.WideShapes Go.ChangeAt Go.RowKit
set_option linter.unusedVariables false
set_option linter.unusedSimpArgs false

set_option maxRecDepth 20000 in
set_option maxHeartbeats 2000000 in
theorem sameInts_any (s t : Option Addr) (n c d : Nat) (V : Nat → Int) (w : World) (hn : (n : Int) ≤ 1048576) (HR : Hid (RowI w s n V)) (HT : Hid (RowI w t n V)) :
    Calls Try.prog 35 #[.slice s n c, .slice t n d] w fun e w' => e = .returned (.bool true) ∧ Below w.heap.size w w' := by
  go_enter Try.func35, Try.ntmps35
  go_wp2_with fail
  go_loopw [5] (fun i wx => ∃ k : Nat, k ≤ n ∧ i = .int .i64 k ∧ Below w.heap.size w wx) (fun i _ => n - (intOf i).toNat)
  case atStart => exact ⟨0, Nat.zero_le _, rfl, Below.refl _ _⟩
  case round =>
    obtain ⟨k, hk, rfl, hB⟩ := hrel
    have HB : Hid (Below w.heap.size w wr) := hB
    by_cases h1 : k < n
    · obtain ⟨g, o, rfl, hg, c0⟩ := HR.out k h1
      obtain ⟨g2, o2, rfl, hg2, c1⟩ := HT.out k h1
      replace c0 := (hB.cell (p := ⟨g, o + k, none⟩) hg).trans c0
      replace c1 := (hB.cell (p := ⟨g2, o2 + k, none⟩) hg2).trans c1
      have kn : (k : Int) < (n : Int) := by omega
      have nv : (V k != V k) = false := by simp
      clear hB
      go_upto_region 6 with fail
      go_quiet (fail)
      go_wp2
      go_roundw
      case rel => exact ⟨k + 1, by omega, by go_num, HB.out.trans ((bDrewN (Below.refl _ _) _).mono HB.out.size)⟩
      case measure => simp [intOf]; omega
    · obtain rfl : k = n := by omega
      go_wp2
      go_ret
      exact ⟨rfl, hB⟩
theorem str_bytes {w : World} {s : Option Addr} {n c : Nat} {V : Nat → Int} (hs : StY s) (h : OwnY 0 w s n V) : (convert 22 9 (.slice s n c)).run Try.prog w = .ok (.string (strOfNums ((List.range n).map V))) w := by
  rcases hs with rfl | ⟨b, rfl⟩
  · match n, h with
    | 0, h => exact run_convert_bytes_nil w 22 5 Try.underlying22 Try.underlying5 0 c 9 Try.underlying9
    | n + 1, h => obtain ⟨b, e, _⟩ := h 0 (Nat.succ_pos n); cases e
  · refine run_convert_bytes_arg w 22 5 Try.underlying22 Try.underlying5 b 0 n c _ (by simp) ?_ 9 Try.underlying9
    intro i hi
    obtain ⟨b', e, _, _, hc, _⟩ := h i hi
    cases e
    rw [Nat.zero_add, hc]
    simp [List.getD_eq_getElem?_getD, hi]
set_option maxRecDepth 20000 in
set_option maxHeartbeats 2000000 in
theorem sameFrame_any (t q : Int) (s1 s2 : Option Addr) (n c d : Nat) (V : Nat → Int) (w : World) (hn : (n : Int) ≤ 1048576) (HR : Hid (RowI w s1 n V)) (HT : Hid (RowI w s2 n V)) :
    Calls Try.prog 11 #[.agg #[.int .i64 t, .int .i64 q, .slice s1 n c], .agg #[.int .i64 t, .int .i64 q, .slice s2 n d]] w fun e w' => e = .returned (.bool true) ∧ Below w.heap.size w w' := by
  go_enter Try.func11, Try.ntmps11
  go_wp2_with fail
  refine (sameInts_any s1 s2 n c d V _ hn (HR.out.below (by repeat (first | with_reducible exact Below.refl _ _ | with_reducible refine Below.setCell ?_ (by first | omega | (simp; done) | (simp; omega)) _ | with_reducible refine bDrewN ?_ _ | with_reducible refine Below.drew ?_ | with_reducible refine Below.alloc ?_ (by first | omega | (simp; done) | (simp; omega)) _))) (HT.out.below (by repeat (first | with_reducible exact Below.refl _ _ | with_reducible refine Below.setCell ?_ (by first | omega | (simp; done) | (simp; omega)) _ | with_reducible refine bDrewN ?_ _ | with_reducible refine Below.drew ?_ | with_reducible refine Below.alloc ?_ (by first | omega | (simp; done) | (simp; omega)) _)))).mono ?_
  rintro e w3 ⟨rfl, h3⟩
  have B3 : Below w.heap.size w w3 := Below.trans (by repeat (first | with_reducible exact Below.refl _ _ | with_reducible refine Below.setCell ?_ (by first | omega | (simp; done) | (simp; omega)) _ | with_reducible refine bDrewN ?_ _ | with_reducible refine Below.drew ?_ | with_reducible refine Below.alloc ?_ (by first | omega | (simp; done) | (simp; omega)) _)) (h3.mono (by first | omega | (simp; done) | (simp; omega)))
  go_wp2
  go_ret
  exact ⟨rfl, B3⟩
end Go.Proofs.Ytlmbnjeophninaa
