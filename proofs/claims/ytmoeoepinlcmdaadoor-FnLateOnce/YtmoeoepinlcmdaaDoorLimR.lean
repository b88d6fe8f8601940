/-
What is proved: a list of the kind Limit that is owned, told with the set of blocks that it may lie in; copied, marked.
-/
import Derived.Test.YtmoeoepinlcmdaaDoorTn
import Derived.Test.YtmoeoepinlcmdaaDoorLim
import Derived.Test.YtmoeoepinlcmdaaDoorLimE
import Derived.Test.YtmoeoepinlcmdaaDoorLimM
namespace Go.Proofs.YtmoeoepinlcmdaaDoor
set_option maxRecDepth 40000
open Go.ChangeShapes Go.WideShapes Go.ChangeAt Go.RowKit
set_option linter.unusedVariables false
set_option linter.unusedSimpArgs false

def LimitR (S : Nat → Prop) (w : World) (s : Option Addr) (n : Nat) (V : Nat → Int × Int) : Prop := OwnLimit 0 w s n V ∧ (0 < n → ∀ b, s = some ⟨b, 0, none⟩ → S b)
theorem LimitR.row {S : Nat → Prop} {w : World} {s : Option Addr} {n : Nat} {V : Nat → Int × Int} (h : LimitR S w s n V) : RowLimit w s n V := h.1.row
theorem LimitR.keep {S : Nat → Prop} {w w' : World} {s : Option Addr} {n : Nat} {V : Nat → Int × Int} (h : LimitR S w s n V) (hs : w.heap.size ≤ w'.heap.size) (hb : ∀ k, S k → k < w.heap.size → w'.heap[k]? = w.heap[k]?) : LimitR S w' s n V := ⟨fun j hj => by
  obtain ⟨b, e, hB, hl, hf, c0, c1⟩ := h.1 j hj
  have eb := hb b (h.2 (by omega) b e) hl
  exact ⟨b, e, hB, Nat.lt_of_lt_of_le hl hs, fun o => (World.frozen?_of_block (w := w) (a := ⟨b, o, none⟩) eb).trans (hf o), (World.cell?_of_block (w := w) (a := ⟨b, j * 2, none⟩) eb).trans c0, (World.cell?_of_block (w := w) (a := ⟨b, j * 2 + 1, none⟩) eb).trans c1⟩, h.2⟩
theorem LimitR.below {S : Nat → Prop} {w w' : World} {s : Option Addr} {n : Nat} {V : Nat → Int × Int} (h : LimitR S w s n V) (hb : Below w.heap.size w w') : LimitR S w' s n V := h.keep hb.size fun k _ hk => hb.block k hk
theorem LimitR.set {S : Nat → Prop} {w : World} {s : Option Addr} {n : Nat} {V : Nat → Int × Int} {r o : Nat} {u : Value} (h : LimitR S w s n V) (hr : ¬ S r) : LimitR S (w.setCell ⟨r, o, none⟩ u) s n V := h.keep (by simp) fun k hk hl => set_block hl (fun e => hr (e ▸ hk))
theorem LimitR.widen {S S' : Nat → Prop} {w : World} {s : Option Addr} {n : Nat} {V : Nat → Int × Int} (h : LimitR S w s n V) (hs : ∀ k, S k → S' k) : LimitR S' w s n V := ⟨h.1, fun a b c => hs b (h.2 a b c)⟩
theorem LimitR.of {base : Nat} {w : World} {s : Option Addr} {n : Nat} {V : Nat → Int × Int} (h : OwnLimit base w s n V) : LimitR (fun k => base ≤ k ∧ k < w.heap.size) w s n V := ⟨h.mono (Nat.zero_le _), fun hn b e => by
  obtain ⟨b', e', h1, h2, _⟩ := h 0 hn
  rw [e] at e'
  cases e'
  exact ⟨h1, h2⟩⟩
theorem toLimitS_r (s : Option Addr) (n c : Nat) (V : Nat → Int × Int) (w : World) (hn : (n : Int) ≤ 1048576) (HR : Hid (RowLimit w s n V)) :
    Calls Tryd.prog 12 #[.slice s n c] w fun e w' => ∃ (s' : Option Addr) (S : Nat → Prop), e = .returned (.slice s' n n) ∧ (∀ k, S k → w.heap.size ≤ k ∧ k < w'.heap.size) ∧ LimitR S w' s' n V ∧ Below w.heap.size w w' :=
  (toLimitS_any s n c V w hn HR).mono fun e w' ⟨h1, h2, h3, h4⟩ => ⟨_, _, h1, fun k hk => hk, LimitR.of h3, h4⟩
theorem markLimitS_r (S : Nat → Prop) (s : Option Addr) (n c : Nat) (k : Int) (V : Nat → Int × Int) (w : World) (hn : (n : Int) ≤ 1048576) (k0 : 0 ≤ k) (k1 : k ≤ 100000000) (HR : LimitR S w s n V) :
    Calls Tryd.prog 19 #[.slice s n c, .int .i64 k] w fun e w' => e = .returned (.int .i64 (k + (n * 2 : Nat))) ∧ (∃ U, LimitR S w' s n U) ∧ Turn S w w' := by
  by_cases h : n = 0
  · subst h
    refine (markLimitS_nil s c k w).mono ?_
    rintro e w' ⟨rfl, rfl⟩
    exact ⟨by simp, ⟨V, HR⟩, Turn.refl _ _⟩
  · obtain ⟨b, eb, _⟩ := HR.1 0 (by omega)
    have hb := HR.2 (by omega) b eb
    refine (markLimitS_own 0 s n c k V w hn k0 k1 (Nat.zero_le _) HR.1).mono ?_
    rintro e w' ⟨rfl, ⟨U, O⟩, -, hB⟩
    exact ⟨rfl, ⟨U, O, HR.2⟩, Turn.of (hB b eb) hb⟩
end Go.Proofs.YtmoeoepinlcmdaaDoor
