/-
What is proved: what impl.Ends answers.
-/
import Derived.Test.YtlkegoofpmgcjaaEnW
import Derived.Test.YtlkegoofpmgcjaaOwn
namespace Go.Proofs.Ytlkegoofpmgcjaa
set_option maxRecDepth 40000
open Go.ChangeShapes Go.WideShapes Go.ChangeAt Go.RowKit
set_option linter.unusedVariables false
set_option linter.unusedSimpArgs false

set_option maxRecDepth 20000 in
set_option maxHeartbeats 2000000 in
theorem implEnds_any (s : Option Addr) (n c : Nat) (V : Nat → Int) (f : Int) (w : World) (hn0 : (n : Int) ≤ 1048576) (HR : Hid (RowI w s (n * 5) V)) :
    Calls Try.prog 15 #[.slice s n c, .int .i64 f] w fun e w' => ∃ s' c', e = .returned (.slice s' (endV n V f).length c') ∧ OwnI w.heap.size w' s' (endV n V f).length (fun j => (endV n V f).getD j 0) ∧ Below w.heap.size w w' := by
  go_enter Try.func15, Try.ntmps15
  go_wp2_with fail
  refine (implPlanOk_any s n c V w hn0 HR).mono ?_
  rintro e w1 ⟨rfl, b1⟩
  have HR1 : Hid (RowI w1 s (n * 5) V) := HR.out.below b1
  have HB : Hid (Below w.heap.size w w1) := b1
  clear b1 HR
  have n9 : IntKind.i64.wrap ((n : Int) - 1) = (n : Int) - 1 := by rw [IntKind.wrap_i64]; omega
  cases hp : planB n V
  case false =>
    have HV : Hid (endV n V f = []) := endV_no (by rw [hp]; simp)
    have BF := HB.out
    clear hp
    go_wp2
    go_ret
    rw [HV.out]
    exact ⟨none, 0, rfl, fun j hj => by simp at hj, BF⟩
  case true =>
    have hy := plan_yes hp
    have hn : 0 < n := by omega
    have h40 : (n : Int) ≤ 40 := by omega
    have HP : Hid (planB n V = true) := hp
    clear hy
    go_wp2_with fail
    refine (within_is f 0 ((n : Int) - 1) _).mono ?_
    rintro e w2 ⟨rfl, rfl⟩
    rename World => w1
    by_cases hf : 0 ≤ f ∧ f ≤ (n : Int) - 1
    case neg =>
      have HV : Hid (endV n V f = []) := endV_no (fun q => hf q.2)
      have hw : inB 0 ((n : Int) - 1) f = false := by unfold inB; simp; omega
      have BF := HB.out
      try rw [hw]
      clear hp hf
      go_wp2
      go_ret
      rw [HV.out]
      exact ⟨none, 0, rfl, fun j hj => by simp at hj, BF⟩
    case pos =>
      have HV : Hid (endV n V f = etR V (pls (dA n hn n)) f.toNat) := endV_yes hp hf.1 hf.2 hn
      have hw : inB 0 ((n : Int) - 1) f = true := by unfold inB; simp; omega
      obtain ⟨k, hk⟩ : ∃ k : Nat, f = (k : Int) := ⟨f.toNat, by omega⟩
      have kn : k < n := by omega
      have kni : (k : Int) < (n : Int) := by omega
      try rw [hw]
      subst hk
      clear hp hf hw
      go_wp2_with fail
      refine (workedE_any s n c V w1 hn h40 HP.out HR1).mono ?_
      rintro e w3 ⟨bf, rfl, hc, b3⟩
      obtain ⟨t, c', h1, h2⟩ := hc k kn
      have HF : Hid (LstF w.heap.size w3 t c' (etR V (pls (dA n hn n)) k)) := h2.low HB.out.size
      have BF : Below w.heap.size w w3 := HB.out.trans (b3.mono HB.out.size)
      clear hc h2 b3
      go_wp2
      go_ret
      rw [HV.out, Int.toNat_natCast]
      exact ⟨t, c', rfl, HF.out.owned, BF⟩
end Go.Proofs.Ytlkegoofpmgcjaa
