/-
What is proved: what impl.Shortest answers.
-/
import Derived.Test.YtlkegoofpmgcjaaSoW
import Derived.Test.YtlkegoofpmgcjaaOwn
namespace Go.Proofs.Ytlkegoofpmgcjaa
set_option maxRecDepth 40000
open Go.ChangeShapes Go.WideShapes Go.ChangeAt Go.RowKit
set_option linter.unusedVariables false
set_option linter.unusedSimpArgs false

set_option maxRecDepth 20000 in
set_option maxHeartbeats 4000000 in
theorem implShortest_any (s : Option Addr) (n c : Nat) (V : Nat → Int) (f : Int) (w : World) (hn0 : (n : Int) ≤ 1048576) (HR : Hid (RowI w s (n * 5) V)) :
    Calls Try.prog 11 #[.slice s n c, .int .i64 f] w fun e w' => ∃ s' c', e = .returned (.slice s' (shV n V f).length c') ∧ OwnI w.heap.size w' s' (shV n V f).length (fun j => (shV n V f).getD j 0) ∧ Below w.heap.size w w' := by
  go_enter Try.func11, Try.ntmps11
  go_wp2_with fail
  obtain ⟨w0, hw0⟩ : ∃ z, z = w.alloc (.cells #[.int .i64 f] 2) := ⟨_, rfl⟩
  rw [← hw0]
  have b0 : Below w.heap.size w w0 := by rw [hw0]; exact below0 _ _
  have cm : w0.cell? ⟨w.heap.size, 0, none⟩ = some (.int .i64 f) := by rw [hw0]; simp [go_sem]
  have zm : w.heap.size < w0.heap.size := by rw [hw0]; simp
  obtain ⟨pm, hpm⟩ : ∃ g, g = w.heap.size := ⟨_, rfl⟩
  rw [← hpm] at cm zm ⊢
  replace HR : Hid (RowI w0 s (n * 5) V) := HR.out.below b0
  have HB : Hid (Below w.heap.size w w0) := b0
  clear hw0 b0 hpm
  refine (implPlanOk_any s n c V w0 hn0 HR).mono ?_
  rintro e w1 ⟨rfl, b1⟩
  have HR1 : Hid (RowI w1 s (n * 5) V) := HR.out.below b1
  replace HB : Hid (Below w.heap.size w w1) := HB.out.trans (b1.mono HB.out.size)
  replace cm := (b1.cell (p := ⟨pm, 0, none⟩) zm).trans cm
  replace zm : pm < w1.heap.size := Nat.lt_of_lt_of_le zm b1.size
  clear b1 HR
  cases hp : planB n V
  case false =>
    have HV : Hid (shV n V f = []) := shV_no (by rw [hp]; simp)
    have BF := HB.out
    clear hp
    go_wp2
    go_ret
    rw [HV.out]
    exact ⟨none, 0, rfl, fun j hj => by simp at hj, BF⟩
  case true =>
    have hy := plan_yes hp
    have hn : 0 < n := by omega
    have h40 : (n : Int) ≤ 40 := by omega
    have hni : (0 : Int) < (n : Int) := by omega
    have HP : Hid (planB n V = true) := hp
    clear hy hp
    go_wp2_with fail
    refine (isMode_any f _).mono ?_
    rintro e w2 ⟨rfl, rfl⟩
    rename World => w1
    cases hf : modB f
    case false =>
      have HV : Hid (shV n V f = []) := shV_no (fun q => by rw [hf] at q; exact absurd q.2 (by simp))
      have BF := HB.out
      clear hf
      go_wp2
      go_ret
      rw [HV.out]
      exact ⟨none, 0, rfl, fun j hj => by simp at hj, BF⟩
    case true =>
      have HV : Hid (shV n V f = (rtR V f (pls (dA n hn n)) 0).2) := shV_yes HP.out hf hn
      clear hf
      go_wp2_with fail
      refine (workedR_any s n c V f pm w1 hn h40 HP.out zm cm HR1).mono ?_
      rintro e w3 ⟨bf, rfl, hc, b3⟩
      obtain ⟨t, c', h0, h1, h2⟩ := hc 0 hn
      have HF : Hid (LstF w.heap.size w3 t c' (rtR V f (pls (dA n hn n)) 0).2) := h2.low HB.out.size
      have BF : Below w.heap.size w w3 := HB.out.trans (b3.mono HB.out.size)
      rw [Nat.zero_mul, Nat.zero_add] at h1
      clear hc h2 b3 h0 cm
      go_wp2
      go_ret
      rw [HV.out]
      exact ⟨t, c', rfl, HF.out.owned, BF⟩
end Go.Proofs.Ytlkegoofpmgcjaa
