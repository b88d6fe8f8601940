/-
What is proved: a reader that is opened on a code.
-/
import Derived.Test.YtlbbdifmjdpfiaaZdA
namespace Go.Proofs.Ytlbbdifmjdpfiaa
set_option maxRecDepth 40000
open Go.RowKit
set_option linter.unusedVariables false

/-- A CODE of n bytes. -/
def Code8 (w : World) (s : Option Addr) (n : Nat) : Prop :=
  n ≤ 1048576 ∧ ∀ i, i < n → ∃ g o k, s = some ⟨g, o, none⟩ ∧ g < w.heap.size ∧ w.cell? ⟨g, o + i, none⟩ = some (.int .u8 k) ∧ 0 ≤ k ∧ k < 256
theorem Code8.below {w w' : World} {s : Option Addr} {n : Nat} (h : Code8 w s n) (hb : Below w.heap.size w w') : Code8 w' s n :=
  ⟨h.1, fun i hi => by
    obtain ⟨g, o, k, e, hg, hc, hk⟩ := h.2 i hi
    exact ⟨g, o, k, e, Nat.lt_of_lt_of_le hg hb.size, (hb.cell (p := ⟨g, o + i, none⟩) hg).trans hc, hk⟩⟩

set_option maxHeartbeats 400000 in
theorem open_any {s : Option Addr} {n c : Nat} {w : World} (h : Hid (Code8 w s n)) :
    Calls Try.prog 41 #[.slice s n c] w fun e w' => e = .returned (.pointer (some ⟨w.heap.size, 0, none⟩)) ∧ Rd w' w.heap.size s n c 0 ∧ Below w.heap.size w w' := by
  go_enter Try.func41, Try.ntmps41
  go_wp2
  go_ret
  refine ⟨rfl, ⟨by simp, fun o => by simp [go_sem], by simp [go_sem], by simp [go_sem], by omega, h.out.1, fun i hi => ?_⟩, (by repeat (first | with_reducible exact Below.refl _ _ | with_reducible refine Below.setCell ?_ (by first | omega | (simp; done) | (simp; omega)) _ | with_reducible refine bDrewN ?_ _ | with_reducible refine Below.drew ?_ | with_reducible refine Below.alloc ?_ (by first | omega | (simp; done) | (simp; omega)) _))⟩
  obtain ⟨g, o, k, e, hg, hc, hk⟩ := h.out.2 i hi
  exact ⟨g, o, k, e, hg, ((below0 w _).cell (p := ⟨g, o + i, none⟩) hg).trans hc, hk⟩

end Go.Proofs.Ytlbbdifmjdpfiaa
