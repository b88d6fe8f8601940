/-
What is proved: a loop and a hold in their blocks stay as they are, whatever is made or marked beside them.
-/
import Derived.Test.YtdpghhgfkhlliaaLr
import Derived.Test.YtdpghhgfkhlliaaLsL
namespace Go.Proofs.Ytdpghhgfkhlliaa
set_option maxRecDepth 40000
open Go.RowKit
set_option linter.unusedVariables false

def LoopAt (w : World) (p : Nat) (P I D S L H B : Int) : Prop := p < w.heap.size ∧ w.cell? ⟨p, 0, none⟩ = some (.int .i64 P) ∧ w.cell? ⟨p, 1, none⟩ = some (.int .i64 I) ∧ w.cell? ⟨p, 2, none⟩ = some (.int .i64 D) ∧ w.cell? ⟨p, 3, none⟩ = some (.int .i64 S) ∧ w.cell? ⟨p, 4, none⟩ = some (.int .i64 L) ∧ w.cell? ⟨p, 5, none⟩ = some (.int .i64 H) ∧ w.cell? ⟨p, 6, none⟩ = some (.int .i64 B)
theorem LoopAt.low {w w' : World} {p b : Nat} {P I D S L H B : Int} (h : LoopAt w p P I D S L H B) (hb : Below b w w') (hp : p < b) : LoopAt w' p P I D S L H B := by
  obtain ⟨h1, c0, c1, c2, c3, c4, c5, c6⟩ := h
  exact ⟨Nat.lt_of_lt_of_le h1 hb.size, (hb.cell (p := ⟨p, 0, none⟩) hp).trans c0, (hb.cell (p := ⟨p, 1, none⟩) hp).trans c1, (hb.cell (p := ⟨p, 2, none⟩) hp).trans c2, (hb.cell (p := ⟨p, 3, none⟩) hp).trans c3, (hb.cell (p := ⟨p, 4, none⟩) hp).trans c4, (hb.cell (p := ⟨p, 5, none⟩) hp).trans c5, (hb.cell (p := ⟨p, 6, none⟩) hp).trans c6⟩
theorem LoopAt.below {w w' : World} {p : Nat} {P I D S L H B : Int} (h : LoopAt w p P I D S L H B) (hb : Below w.heap.size w w') : LoopAt w' p P I D S L H B := h.low hb h.1
theorem LoopAt.beside {w w' : World} {p r : Nat} {P I D S L H B : Int} (h : LoopAt w p P I D S L H B) (hb : Beside r w w') (hp : p ≠ r) : LoopAt w' p P I D S L H B := by
  obtain ⟨h1, c0, c1, c2, c3, c4, c5, c6⟩ := h
  exact ⟨Nat.lt_of_lt_of_le h1 hb.2.2.2.1, (hb.cell (p := ⟨p, 0, none⟩) h1 hp).trans c0, (hb.cell (p := ⟨p, 1, none⟩) h1 hp).trans c1, (hb.cell (p := ⟨p, 2, none⟩) h1 hp).trans c2, (hb.cell (p := ⟨p, 3, none⟩) h1 hp).trans c3, (hb.cell (p := ⟨p, 4, none⟩) h1 hp).trans c4, (hb.cell (p := ⟨p, 5, none⟩) h1 hp).trans c5, (hb.cell (p := ⟨p, 6, none⟩) h1 hp).trans c6⟩
theorem HoldAt.beside {w w' : World} {p r : Nat} {x0 : Bool} {x1 x2 x3 : Int} (h : HoldAt w p x0 x1 x2 x3) (hb : Beside r w w') (hp : p ≠ r) : HoldAt w' p x0 x1 x2 x3 := by
  obtain ⟨h1, f, c0, c1, c2, c3⟩ := h
  exact ⟨Nat.lt_of_lt_of_le h1 hb.2.2.2.1, fun o => (hb.frozen (p := ⟨p, o, none⟩) h1 hp).trans (f o), (hb.cell (p := ⟨p, 0, none⟩) h1 hp).trans c0, (hb.cell (p := ⟨p, 1, none⟩) h1 hp).trans c1, (hb.cell (p := ⟨p, 2, none⟩) h1 hp).trans c2, (hb.cell (p := ⟨p, 3, none⟩) h1 hp).trans c3⟩
theorem holdAt_mk {w w' : World} {p : Nat} (c0 : w.cell? ⟨p, 0, none⟩ = some (.bool false)) (z : p < w.heap.size) (c1 : w.cell? ⟨p, 1, none⟩ = some (.int .i64 0)) (c2 : w.cell? ⟨p, 2, none⟩ = some (.int .i64 0)) (c3 : w.cell? ⟨p, 3, none⟩ = some (.int .i64 0)) (f : ∀ o, w.frozen? ⟨p, o, none⟩ = false) (hb : Below w.heap.size w w') : HoldAt w' p false 0 0 0 := HoldAt.below ⟨z, f, c0, c1, c2, c3⟩ hb
theorem holdAt_new (w : World) (t : TypeId) : HoldAt (w.alloc (.cells #[.bool false, .int .i64 0, .int .i64 0, .int .i64 0] t)) w.heap.size false 0 0 0 := by
  refine ⟨by simp, fun o => by simp [go_sem], by simp [go_sem], by simp [go_sem], by simp [go_sem], by simp [go_sem]⟩
theorem toI_b (s : Option Addr) (n c : Nat) (V : Nat → Int) (w : World) (hn : (n : Int) ≤ 1048576) (HR : RowI w s n V) :
    Calls Try.prog 15 #[.slice s n c] w fun e w' => ∃ b, e = .returned (.slice (some ⟨b, 0, none⟩) n n) ∧ w.heap.size ≤ b ∧ b < w'.heap.size ∧ OwnI b w' (some ⟨b, 0, none⟩) n V ∧ Below w.heap.size w w' :=
  (toInt64S_any s n c V w hn HR).mono fun e w' ⟨h1, h2, h3, h4⟩ => ⟨_, h1, Nat.le_refl _, h2, h3, h4⟩
end Go.Proofs.Ytdpghhgfkhlliaa
