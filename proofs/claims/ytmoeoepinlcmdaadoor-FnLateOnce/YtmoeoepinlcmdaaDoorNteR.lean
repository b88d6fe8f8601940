/-
What is proved: a list of the kind Note that is owned, told with the set of blocks that it may lie in; copied, marked.
-/
import Derived.Test.YtmoeoepinlcmdaaDoorTn
import Derived.Test.YtmoeoepinlcmdaaDoorNte
import Derived.Test.YtmoeoepinlcmdaaDoorNteE
import Derived.Test.YtmoeoepinlcmdaaDoorNteM
namespace Go.Proofs.YtmoeoepinlcmdaaDoor
set_option maxRecDepth 40000
open Go.ChangeShapes Go.WideShapes Go.ChangeAt Go.RowKit
set_option linter.unusedVariables false
set_option linter.unusedSimpArgs false

def NoteR (S : Nat → Prop) (w : World) (s : Option Addr) (n : Nat) (V : Nat → Int × Int) : Prop := OwnNote 0 w s n V ∧ (0 < n → ∀ b, s = some ⟨b, 0, none⟩ → S b)
theorem NoteR.row {S : Nat → Prop} {w : World} {s : Option Addr} {n : Nat} {V : Nat → Int × Int} (h : NoteR S w s n V) : RowNote w s n V := h.1.row
theorem NoteR.keep {S : Nat → Prop} {w w' : World} {s : Option Addr} {n : Nat} {V : Nat → Int × Int} (h : NoteR S w s n V) (hs : w.heap.size ≤ w'.heap.size) (hb : ∀ k, S k → k < w.heap.size → w'.heap[k]? = w.heap[k]?) : NoteR S w' s n V := ⟨fun j hj => by
  obtain ⟨b, e, hB, hl, hf, c0, c1⟩ := h.1 j hj
  have eb := hb b (h.2 (by omega) b e) hl
  exact ⟨b, e, hB, Nat.lt_of_lt_of_le hl hs, fun o => (World.frozen?_of_block (w := w) (a := ⟨b, o, none⟩) eb).trans (hf o), (World.cell?_of_block (w := w) (a := ⟨b, j * 2, none⟩) eb).trans c0, (World.cell?_of_block (w := w) (a := ⟨b, j * 2 + 1, none⟩) eb).trans c1⟩, h.2⟩
theorem NoteR.below {S : Nat → Prop} {w w' : World} {s : Option Addr} {n : Nat} {V : Nat → Int × Int} (h : NoteR S w s n V) (hb : Below w.heap.size w w') : NoteR S w' s n V := h.keep hb.size fun k _ hk => hb.block k hk
theorem NoteR.set {S : Nat → Prop} {w : World} {s : Option Addr} {n : Nat} {V : Nat → Int × Int} {r o : Nat} {u : Value} (h : NoteR S w s n V) (hr : ¬ S r) : NoteR S (w.setCell ⟨r, o, none⟩ u) s n V := h.keep (by simp) fun k hk hl => set_block hl (fun e => hr (e ▸ hk))
theorem NoteR.widen {S S' : Nat → Prop} {w : World} {s : Option Addr} {n : Nat} {V : Nat → Int × Int} (h : NoteR S w s n V) (hs : ∀ k, S k → S' k) : NoteR S' w s n V := ⟨h.1, fun a b c => hs b (h.2 a b c)⟩
theorem NoteR.of {base : Nat} {w : World} {s : Option Addr} {n : Nat} {V : Nat → Int × Int} (h : OwnNote base w s n V) : NoteR (fun k => base ≤ k ∧ k < w.heap.size) w s n V := ⟨h.mono (Nat.zero_le _), fun hn b e => by
  obtain ⟨b', e', h1, h2, _⟩ := h 0 hn
  rw [e] at e'
  cases e'
  exact ⟨h1, h2⟩⟩
theorem markNoteS_r (S : Nat → Prop) (s : Option Addr) (n c : Nat) (k : Int) (V : Nat → Int × Int) (w : World) (hn : (n : Int) ≤ 1048576) (k0 : 0 ≤ k) (k1 : k ≤ 100000000) (HR : NoteR S w s n V) :
    Calls Tryd.prog 22 #[.slice s n c, .int .i64 k] w fun e w' => e = .returned (.int .i64 (k + (n * 2 : Nat))) ∧ (∃ U, NoteR S w' s n U) ∧ Turn S w w' := by
  by_cases h : n = 0
  · subst h
    refine (markNoteS_nil s c k w).mono ?_
    rintro e w' ⟨rfl, rfl⟩
    exact ⟨by simp, ⟨V, HR⟩, Turn.refl _ _⟩
  · obtain ⟨b, eb, _⟩ := HR.1 0 (by omega)
    have hb := HR.2 (by omega) b eb
    refine (markNoteS_own 0 s n c k V w hn k0 k1 (Nat.zero_le _) HR.1).mono ?_
    rintro e w' ⟨rfl, ⟨U, O⟩, -, hB⟩
    exact ⟨rfl, ⟨U, O, HR.2⟩, Turn.of (hB b eb) hb⟩
end Go.Proofs.YtmoeoepinlcmdaaDoor
