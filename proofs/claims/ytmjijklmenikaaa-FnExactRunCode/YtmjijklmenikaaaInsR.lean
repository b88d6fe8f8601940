/-
What is proved: a list of the kind Ins that is owned, told with the set of blocks that it may lie in; copied, marked.
-/
import Derived.Test.YtmjijklmenikaaaTn
import Derived.Test.YtmjijklmenikaaaIns2
import Derived.Test.YtmjijklmenikaaaIns2E
import Derived.Test.YtmjijklmenikaaaIns2M
namespace Go.Proofs.Ytmjijklmenikaaa
set_option maxRecDepth 40000
open Go.ChangeShapes Go.WideShapes Go.ChangeAt Go.RowKit
set_option linter.unusedVariables false
set_option linter.unusedSimpArgs false

def RowIns (w : World) (s : Option Addr) (n : Nat) (V : Nat → Int) : Prop := RowI w s (n * 2) V
theorem RowIns.below {w w' : World} {s : Option Addr} {n : Nat} {V : Nat → Int} (h : RowIns w s n V) (hb : Below w.heap.size w w') : RowIns w' s n V := RowI.below h hb
def InsR (S : Nat → Prop) (w : World) (s : Option Addr) (n : Nat) (V : Nat → Int) : Prop := OwnI 0 w s (n * 2) V ∧ (0 < n → ∀ b, s = some ⟨b, 0, none⟩ → S b)
theorem InsR.row {S : Nat → Prop} {w : World} {s : Option Addr} {n : Nat} {V : Nat → Int} (h : InsR S w s n V) : RowIns w s n V := h.1.row
theorem InsR.keep {S : Nat → Prop} {w : World} {s : Option Addr} {n : Nat} {V : Nat → Int} {w' : World} (h : InsR S w s n V) (hs : w.heap.size ≤ w'.heap.size) (hb : ∀ k, S k → k < w.heap.size → w'.heap[k]? = w.heap[k]?) : InsR S w' s n V := ⟨fun j hj => by
  obtain ⟨b, e, hB, hl, hc, hf⟩ := h.1 j hj
  have eb := hb b (h.2 (by omega) b e) hl
  exact ⟨b, e, hB, Nat.lt_of_lt_of_le hl hs, (World.cell?_of_block (w := w) (a := ⟨b, j, none⟩) eb).trans hc, (World.frozen?_of_block (w := w) (a := ⟨b, j, none⟩) eb).trans hf⟩, h.2⟩
theorem InsR.below {S : Nat → Prop} {w : World} {s : Option Addr} {n : Nat} {V : Nat → Int} {w' : World} (h : InsR S w s n V) (hb : Below w.heap.size w w') : InsR S w' s n V := h.keep hb.size fun k _ hk => hb.block k hk
theorem toInstrS_r (s : Option Addr) (n c : Nat) (V : Nat → Int) (w : World) (hn : (n : Int) ≤ 1048576) (HR : Hid (RowIns w s n V)) :
    Calls Try.prog 9 #[.slice s n c] w fun e w' => ∃ (s' : Option Addr) (S : Nat → Prop), e = .returned (.slice s' n n) ∧ (∀ k, S k → w.heap.size ≤ k ∧ k < w'.heap.size) ∧ InsR S w' s' n V ∧ Below w.heap.size w w' :=
  (toInstrS_any s n c V w hn HR).mono fun e w' ⟨h1, h2, h3, h4⟩ => ⟨_, fun k => w.heap.size ≤ k ∧ k < w'.heap.size, h1, fun k hk => hk, ⟨h3.mono (Nat.zero_le _), fun _ b e => by cases e; exact ⟨Nat.le_refl _, h2⟩⟩, h4⟩
theorem markInstrS_r (S : Nat → Prop) (s : Option Addr) (n c : Nat) (k : Int) (V : Nat → Int) (w : World) (hn : (n : Int) ≤ 1048576) (k0 : 0 ≤ k) (k1 : k ≤ 100000000) (HR : InsR S w s n V) :
    Calls Try.prog 16 #[.slice s n c, .int .i64 k] w fun e w' => e = .returned (.int .i64 (k + (n * 2 : Nat))) ∧ True ∧ Turn S w w' := by
  by_cases h : n = 0
  · subst h
    refine (markInstrS_nil s c k w).mono ?_
    rintro e w' ⟨rfl, rfl⟩
    exact ⟨by simp, trivial, Turn.refl _ _⟩
  · obtain ⟨b, eb, _⟩ := HR.1 0 (by omega)
    have hb := HR.2 (by omega) b eb
    refine (markInstrS_own 0 s n c k V w hn k0 k1 (Nat.zero_le _) HR.1).mono ?_
    rintro e w' ⟨rfl, HB⟩
    first
      | exact ⟨rfl, trivial, Turn.of (HB.2 b eb) hb⟩
      | exact ⟨rfl, trivial, Turn.of (HB.2.2 b eb) hb⟩
end Go.Proofs.Ytmjijklmenikaaa
