/-
What is proved: a code, a list of bytes, that is handed in, opened.
-/
import Derived.Test.YtlbbdifmjdpfiaaOpenIz
import Derived.Test.YtlbbdifmjdpfiaaRdCz
namespace Go.Proofs.Ytlbbdifmjdpfiaa
set_option maxRecDepth 40000
open Go.ChangeShapes Go.WideShapes Go.ChangeAt Go.RowKit

theorem wf8 {m : Int} (h : (Lit.int .u8 m).wf = true) : 0 ≤ m ∧ m < 256 := by
  simp only [Lit.wf, Bool.and_eq_true, decide_eq_true_eq] at h
  have h' : 0 ≤ m ∧ m ≤ 255 := h
  omega
/-- The bytes of a code of any length. -/
def Bytes (w : World) (s : Option Addr) (n : Nat) : Prop := ∀ i, i < n → ∃ g o k, s = some ⟨g, o, none⟩ ∧ g < w.heap.size ∧ w.cell? ⟨g, o + i, none⟩ = some (.int .u8 k) ∧ 0 ≤ k ∧ k < 256
theorem open_code {H : Type} {enc : TypeId × Value → H} {w : World} {b0 : Nat} {t e : TypeId} {v : Value} {d : DataW H} {ps : List MemPlace} {sp : Nat → Bool} {held : Bool} (ht : Try.prog.underlying t = some (.slice e)) (he : Try.prog.underlying e = some (.int .u8))
    (ce : Try.prog.cellsOf e = 1) (hv : Value.okWide Try.prog w .any b0 t v) (h : DataW.Trod enc Try.prog w 0 sp held t v d ps) :
    ∃ s n c, v = .slice s n c ∧ n ≤ 9223372036854775807 ∧ Bytes w s n := by
  obtain ⟨s, n, c, V, e1, e2, e3⟩ := open_kind ht he ce hv h
  refine ⟨s, n, c, e1, e2, fun j hj => ?_⟩
  obtain ⟨b, o, h1, h2, h3, h4⟩ := e3 j hj
  exact ⟨b, o, V j, h1, h2, h3, wf8 h4⟩
theorem Bytes.code {w : World} {s : Option Addr} {n : Nat} (h : Bytes w s n) (hn : n ≤ 1048576) : Code8 w s n := ⟨hn, h⟩

set_option maxHeartbeats 400000 in
theorem big_yes (s : Option Addr) (n c : Nat) (w : World) (h : (1048576 : Int) < n) :
    Calls Try.prog 9 #[.slice s n c] w fun e w' => e = .returned (.bool true) ∧ w' = w := by
  go_enter Try.func9, Try.ntmps9
  go_wp2
  go_ret
  exact ⟨rfl, rfl⟩
set_option maxHeartbeats 400000 in
theorem big_no (s : Option Addr) (n c : Nat) (w : World) (h : (n : Int) ≤ 1048576) :
    Calls Try.prog 9 #[.slice s n c] w fun e w' => e = .returned (.bool false) ∧ w' = w := by
  go_enter Try.func9, Try.ntmps9
  go_wp2
  go_ret
  exact ⟨by simp; omega, rfl⟩
end Go.Proofs.Ytlbbdifmjdpfiaa
