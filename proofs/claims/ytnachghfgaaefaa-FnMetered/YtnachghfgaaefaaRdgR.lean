/-
What is proved: a list of the kind Reading that is owned, told with the set of blocks that it may lie in; copied, marked.
-/
import Derived.Test.YtnachghfgaaefaaTn
import Derived.Test.YtnachghfgaaefaaRdg
import Derived.Test.YtnachghfgaaefaaRdgE
namespace Go.Proofs.Ytnachghfgaaefaa
set_option maxRecDepth 40000
open Go.ChangeShapes Go.WideShapes Go.ChangeAt Go.RowKit
set_option linter.unusedVariables false
set_option linter.unusedSimpArgs false

def ReadingR (S : Nat → Prop) (w : World) (s : Option Addr) (n : Nat) (V : Nat → Int × Int) : Prop := OwnReading 0 w s n V ∧ (0 < n → ∀ b, s = some ⟨b, 0, none⟩ → S b)
theorem ReadingR.row {S : Nat → Prop} {w : World} {s : Option Addr} {n : Nat} {V : Nat → Int × Int} (h : ReadingR S w s n V) : RowReading w s n V := h.1.row
theorem ReadingR.keep {S : Nat → Prop} {w w' : World} {s : Option Addr} {n : Nat} {V : Nat → Int × Int} (h : ReadingR S w s n V) (hs : w.heap.size ≤ w'.heap.size) (hb : ∀ k, S k → k < w.heap.size → w'.heap[k]? = w.heap[k]?) : ReadingR S w' s n V := ⟨fun j hj => by
  obtain ⟨b, e, hB, hl, hf, c0, c1⟩ := h.1 j hj
  have eb := hb b (h.2 (by omega) b e) hl
  exact ⟨b, e, hB, Nat.lt_of_lt_of_le hl hs, fun o => (World.frozen?_of_block (w := w) (a := ⟨b, o, none⟩) eb).trans (hf o), (World.cell?_of_block (w := w) (a := ⟨b, j * 2, none⟩) eb).trans c0, (World.cell?_of_block (w := w) (a := ⟨b, j * 2 + 1, none⟩) eb).trans c1⟩, h.2⟩
theorem ReadingR.below {S : Nat → Prop} {w w' : World} {s : Option Addr} {n : Nat} {V : Nat → Int × Int} (h : ReadingR S w s n V) (hb : Below w.heap.size w w') : ReadingR S w' s n V := h.keep hb.size fun k _ hk => hb.block k hk
theorem ReadingR.set {S : Nat → Prop} {w : World} {s : Option Addr} {n : Nat} {V : Nat → Int × Int} {r o : Nat} {u : Value} (h : ReadingR S w s n V) (hr : ¬ S r) : ReadingR S (w.setCell ⟨r, o, none⟩ u) s n V := h.keep (by simp) fun k hk hl => set_block hl (fun e => hr (e ▸ hk))
theorem ReadingR.widen {S S' : Nat → Prop} {w : World} {s : Option Addr} {n : Nat} {V : Nat → Int × Int} (h : ReadingR S w s n V) (hs : ∀ k, S k → S' k) : ReadingR S' w s n V := ⟨h.1, fun a b c => hs b (h.2 a b c)⟩
theorem ReadingR.of {base : Nat} {w : World} {s : Option Addr} {n : Nat} {V : Nat → Int × Int} (h : OwnReading base w s n V) : ReadingR (fun k => base ≤ k ∧ k < w.heap.size) w s n V := ⟨h.mono (Nat.zero_le _), fun hn b e => by
  obtain ⟨b', e', h1, h2, _⟩ := h 0 hn
  rw [e] at e'
  cases e'
  exact ⟨h1, h2⟩⟩
theorem toReadingS_r (s : Option Addr) (n c : Nat) (V : Nat → Int × Int) (w : World) (hn : (n : Int) ≤ 1048576) (HR : Hid (RowReading w s n V)) :
    Calls Try.prog 7 #[.slice s n c] w fun e w' => ∃ (s' : Option Addr) (S : Nat → Prop), e = .returned (.slice s' n n) ∧ (∀ k, S k → w.heap.size ≤ k ∧ k < w'.heap.size) ∧ ReadingR S w' s' n V ∧ Below w.heap.size w w' :=
  (toReadingS_any s n c V w hn HR).mono fun e w' ⟨h1, h2, h3, h4⟩ => ⟨_, _, h1, fun k hk => hk, ReadingR.of h3, h4⟩
end Go.Proofs.Ytnachghfgaaefaa
