/-
What is proved: what impl.Bound answers.
-/
import Derived.Test.YtlkegoofpmgcjaaBnW
namespace Go.Proofs.Ytlkegoofpmgcjaa
set_option maxRecDepth 40000
open Go.ChangeShapes Go.WideShapes Go.ChangeAt Go.RowKit
set_option linter.unusedVariables false
set_option linter.unusedSimpArgs false

def bndV (n : Nat) (V : Nat → Int) : Int := if h : planB n V = true then tabR V (pls (dA n (Nat.lt_of_lt_of_le Nat.zero_lt_one (plan_yes h).1) n)) 0 else -1
theorem bndV_yes {n : Nat} {V : Nat → Int} (h : planB n V = true) (hn : 0 < n) : bndV n V = tabR V (pls (dA n hn n)) 0 := by unfold bndV; rw [dif_pos h]
theorem bndV_no {n : Nat} {V : Nat → Int} (h : planB n V = false) : bndV n V = -1 := by unfold bndV; rw [dif_neg (by rw [h]; simp)]
set_option maxRecDepth 20000 in
set_option maxHeartbeats 2000000 in
theorem implBound_any (s : Option Addr) (n c : Nat) (V : Nat → Int) (w : World) (hn0 : (n : Int) ≤ 1048576) (HR : Hid (RowI w s (n * 5) V)) :
    Calls Try.prog 26 #[.slice s n c] w fun e w' => e = .returned (.int .i64 (bndV n V)) ∧ Below w.heap.size w w' := by
  go_enter Try.func26, Try.ntmps26
  go_wp2_with fail
  obtain ⟨w1, hw1⟩ : ∃ z, z = w.alloc (.cells #[.slice s n c] 24) := ⟨_, rfl⟩
  rw [← hw1]
  have b1 : Below w.heap.size w w1 := by rw [hw1]; exact below0 _ _
  have cb : w1.cell? ⟨w.heap.size, 0, none⟩ = some (.slice s n c) := by rw [hw1]; simp [go_sem]
  have HR1 : Hid (RowI w1 s (n * 5) V) := HR.out.below b1
  have sz : w.heap.size < w1.heap.size := by rw [hw1]; simp
  have HB : Hid (Below w.heap.size w w1) := b1
  clear hw1 b1 HR
  refine (implPlanOk_any s n c V w1 hn0 HR1).mono ?_
  rintro e w2 ⟨rfl, b2⟩
  have cb2 : w2.cell? ⟨w.heap.size, 0, none⟩ = some (.slice s n c) := (b2.cell (p := ⟨w.heap.size, 0, none⟩) sz).trans cb
  have HR2 : Hid (RowI w2 s (n * 5) V) := HR1.out.below b2
  have HB2 : Hid (Below w.heap.size w w2) := HB.out.trans (b2.mono (by omega))
  have sz2 : w.heap.size < w2.heap.size := Nat.lt_of_lt_of_le sz b2.size
  clear cb b2 HR1 HB sz
  cases hp : planB n V
  case false =>
    have hv := bndV_no hp
    have HV : Hid (bndV n V = -1) := hv
    have BF := HB2.out
    clear hv hp
    go_wp2
    go_ret
    exact ⟨by rw [HV.out]; rfl, BF⟩
  case true =>
    have hy := plan_yes hp
    have hn : 0 < n := by omega
    have h40 : (n : Int) ≤ 40 := by omega
    have HV : Hid (bndV n V = tabR V (pls (dA n hn n)) 0) := bndV_yes hp hn
    have HP : Hid (planB n V = true) := hp
    clear hy hp
    go_wp2_with fail
    refine (worked_any s n c V w.heap.size w2 hn h40 HP.out HR2 cb2).mono ?_
    rintro e w3 ⟨bf, rfl, hc, b3⟩
    have c0 := hc 0 hn
    have BF : Below w.heap.size w w3 := HB2.out.trans (b3.mono (by omega))
    have n1 : (0 : Int) < (n : Int) := by omega
    clear hc
    go_wp2
    go_ret
    exact ⟨by rw [HV.out]; rfl, BF⟩
end Go.Proofs.Ytlkegoofpmgcjaa
