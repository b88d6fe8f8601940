/-
What is proved: a list of the kind Boo that is owned, told with the set of blocks that it may lie in; copied, marked.
-/
import Derived.Test.YtlbbdifmjdpfiaaTn
import Derived.Test.YtlbbdifmjdpfiaaBoN
import Derived.Test.YtlbbdifmjdpfiaaBoNT
namespace Go.Proofs.Ytlbbdifmjdpfiaa
set_option maxRecDepth 40000
open Go.ChangeShapes Go.WideShapes Go.ChangeAt Go.RowKit
set_option linter.unusedVariables false
set_option linter.unusedSimpArgs false

def BooR (S : Nat → Prop) (w : World) (s : Option Addr) (n : Nat) (V : Nat → Bool) : Prop := OwnB 0 w s n V ∧ (0 < n → ∀ b, s = some ⟨b, 0, none⟩ → S b)
theorem BooR.row {S : Nat → Prop} {w : World} {s : Option Addr} {n : Nat} {V : Nat → Bool} (h : BooR S w s n V) : RowB w s n V := h.1.row
theorem BooR.keep {S : Nat → Prop} {w w' : World} {s : Option Addr} {n : Nat} {V : Nat → Bool} (h : BooR S w s n V) (hs : w.heap.size ≤ w'.heap.size) (hb : ∀ k, S k → k < w.heap.size → w'.heap[k]? = w.heap[k]?) : BooR S w' s n V := ⟨fun j hj => by
  obtain ⟨b, e, hB, hl, hc, hf⟩ := h.1 j hj
  have eb := hb b (h.2 (by omega) b e) hl
  exact ⟨b, e, hB, Nat.lt_of_lt_of_le hl hs, (World.cell?_of_block (w := w) (a := ⟨b, j, none⟩) eb).trans hc, (World.frozen?_of_block (w := w) (a := ⟨b, j, none⟩) eb).trans hf⟩, h.2⟩
theorem BooR.below {S : Nat → Prop} {w w' : World} {s : Option Addr} {n : Nat} {V : Nat → Bool} (h : BooR S w s n V) (hb : Below w.heap.size w w') : BooR S w' s n V := h.keep hb.size fun k _ hk => hb.block k hk
theorem BooR.set {S : Nat → Prop} {w : World} {s : Option Addr} {n : Nat} {V : Nat → Bool} {r o : Nat} {u : Value} (h : BooR S w s n V) (hr : ¬ S r) : BooR S (w.setCell ⟨r, o, none⟩ u) s n V := h.keep (by simp) fun k hk hl => set_block hl (fun e => hr (e ▸ hk))
theorem BooR.widen {S S' : Nat → Prop} {w : World} {s : Option Addr} {n : Nat} {V : Nat → Bool} (h : BooR S w s n V) (hs : ∀ k, S k → S' k) : BooR S' w s n V := ⟨h.1, fun a b c => hs b (h.2 a b c)⟩
theorem BooR.of {base : Nat} {w : World} {s : Option Addr} {n : Nat} {V : Nat → Bool} (h : OwnB base w s n V) : BooR (fun k => base ≤ k ∧ k < w.heap.size) w s n V := ⟨h.mono (Nat.zero_le _), fun hn b e => by
  obtain ⟨b', e', h1, h2, _⟩ := h 0 hn
  rw [e] at e'
  cases e'
  exact ⟨h1, h2⟩⟩
theorem toBoolS_r (s : Option Addr) (n c : Nat) (V : Nat → Bool) (w : World) (hn : (n : Int) ≤ 1048576) (HR : Hid (RowB w s n V)) :
    Calls Try.prog 66 #[.slice s n c] w fun e w' => ∃ (s' : Option Addr) (S : Nat → Prop), e = .returned (.slice s' n n) ∧ (∀ k, S k → w.heap.size ≤ k ∧ k < w'.heap.size) ∧ BooR S w' s' n V ∧ Below w.heap.size w w' :=
  (toBoolS_any s n c V w hn HR).mono fun e w' ⟨h1, h2, h3, h4⟩ => ⟨_, _, h1, fun k hk => hk, BooR.of h3, h4⟩
theorem markBoolS_r (S : Nat → Prop) (s : Option Addr) (n c : Nat) (k : Int) (V : Nat → Bool) (w : World) (hn : (n : Int) ≤ 1048576) (k0 : 0 ≤ k) (k1 : k ≤ 100000000) (HR : BooR S w s n V) :
    Calls Try.prog 58 #[.slice s n c, .int .i64 k] w fun e w' => e = .returned (.int .i64 (k + n)) ∧ BooR S w' s n (markB k) ∧ Turn S w w' := by
  by_cases h : n = 0
  · subst h
    refine (markBoolS_nil s c k w).mono ?_
    rintro e w' ⟨rfl, rfl⟩
    exact ⟨by simp, ⟨fun j hj => by omega, fun q => by omega⟩, Turn.refl _ _⟩
  · obtain ⟨b, eb, _⟩ := HR.1 0 (by omega)
    have hb := HR.2 (by omega) b eb
    refine (markBoolS_own 0 s n c k V w hn k0 k1 (Nat.zero_le _) HR.1).mono ?_
    rintro e w' ⟨rfl, O, -, hB⟩
    exact ⟨rfl, ⟨O, HR.2⟩, Turn.of (hB b eb) hb⟩
end Go.Proofs.Ytlbbdifmjdpfiaa
