/-
What is proved: impl.Grant.
-/
import Derived.Test.YtikcfpjfcpbfcaaZcH
import Derived.Test.YtikcfpjfcpbfcaaZcG
import Derived.Test.YtikcfpjfcpbfcaaBcqz
import Derived.Deep.DeepCutAuto
import Derived.Deep.RegionHeldLaw
namespace Go.Proofs.Ytikcfpjfcpbfcaa
set_option maxRecDepth 40000
open Go.ChangeShapes Go.WideShapes Go.ChangeAt Go.RowKit
set_option linter.unusedVariables false
set_option linter.unusedSimpArgs false

/-- What the regions read. -/
def GrC (w : World) (gN gB gP : Nat) (p : Int) (s : Option Addr) (n c : Nat) (t : Option Addr) (m d : Nat) (bs : Option Addr) (nb bc : Nat) (id pl : Int) (vs : Option Addr) (kp vc : Nat) : Prop := w.cell? ⟨gN, 0, none⟩ = some (.int .i64 p) ∧ w.cell? ⟨gN, 1, none⟩ = some (.slice s n c) ∧ w.cell? ⟨gN, 2, none⟩ = some (.slice t m d) ∧ gN < w.heap.size ∧ w.cell? ⟨gB, 0, none⟩ = some (.slice bs nb bc) ∧ gB < w.heap.size ∧ w.cell? ⟨gP, 0, none⟩ = some (.int .i64 id) ∧ w.cell? ⟨gP, 1, none⟩ = some (.int .i64 pl) ∧ w.cell? ⟨gP, 2, none⟩ = some (.slice vs kp vc) ∧ gP < w.heap.size
theorem GrC.below {w : World} {gN gB gP : Nat} {p : Int} {s : Option Addr} {n c : Nat} {t : Option Addr} {m d : Nat} {bs : Option Addr} {nb bc : Nat} {id pl : Int} {vs : Option Addr} {kp vc : Nat} {w' : World} (h : GrC w gN gB gP p s n c t m d bs nb bc id pl vs kp vc) (hb : Below w.heap.size w w') : GrC w' gN gB gP p s n c t m d bs nb bc id pl vs kp vc := by
  obtain ⟨h1, h2, h3, h4, h5, h6, h7, h8, h9, h10⟩ := h
  exact ⟨(hb.cell (p := ⟨gN, 0, none⟩) h4).trans h1, (hb.cell (p := ⟨gN, 1, none⟩) h4).trans h2, (hb.cell (p := ⟨gN, 2, none⟩) h4).trans h3, Nat.lt_of_lt_of_le h4 hb.size, (hb.cell (p := ⟨gB, 0, none⟩) h6).trans h5, Nat.lt_of_lt_of_le h6 hb.size, (hb.cell (p := ⟨gP, 0, none⟩) h10).trans h7, (hb.cell (p := ⟨gP, 1, none⟩) h10).trans h8, (hb.cell (p := ⟨gP, 2, none⟩) h10).trans h9, Nat.lt_of_lt_of_le h10 hb.size⟩
theorem GrC.beside {w : World} {gN gB gP : Nat} {p : Int} {s : Option Addr} {n c : Nat} {t : Option Addr} {m d : Nat} {bs : Option Addr} {nb bc : Nat} {id pl : Int} {vs : Option Addr} {kp vc : Nat} {w' : World} {r : Nat} (h : GrC w gN gB gP p s n c t m d bs nb bc id pl vs kp vc) (hb : Beside r w w') (r1 : gN ≠ r) (r2 : gB ≠ r) (r3 : gP ≠ r) : GrC w' gN gB gP p s n c t m d bs nb bc id pl vs kp vc := by
  obtain ⟨h1, h2, h3, h4, h5, h6, h7, h8, h9, h10⟩ := h
  have z := hb.2.2.2.1
  exact ⟨(hb.cell (p := ⟨gN, 0, none⟩) h4 r1).trans h1, (hb.cell (p := ⟨gN, 1, none⟩) h4 r1).trans h2, (hb.cell (p := ⟨gN, 2, none⟩) h4 r1).trans h3, Nat.lt_of_lt_of_le h4 z, (hb.cell (p := ⟨gB, 0, none⟩) h6 r2).trans h5, Nat.lt_of_lt_of_le h6 z, (hb.cell (p := ⟨gP, 0, none⟩) h10 r3).trans h7, (hb.cell (p := ⟨gP, 1, none⟩) h10 r3).trans h8, (hb.cell (p := ⟨gP, 2, none⟩) h10 r3).trans h9, Nat.lt_of_lt_of_le h10 z⟩
/-- The inner lists lie apart from r and U, at B and above. -/
def InA (b nb r U B : Nat) (w : World) : Prop := ∀ (i : Nat) (a : Addr) (k' c : Nat), i < nb → w.cell? ⟨b, i * 3 + 2, none⟩ = some (.slice (some a) k' c) → 0 < k' → a.block ≠ r ∧ a.block ≠ U ∧ B ≤ a.block
theorem Hid.mk' {p : Prop} (h : p) : Hid p := h
theorem InA.of {b nb r U B : Nat} {w w' : World} (h : InA b nb r U B w) (e : ∀ i, i < nb → w'.cell? ⟨b, i * 3 + 2, none⟩ = w.cell? ⟨b, i * 3 + 2, none⟩) : InA b nb r U B w' := fun i a k' c hi hc hk => h i a k' c hi ((e i hi).symm.trans hc) hk
theorem InA.below {b nb r U B : Nat} {w w' : World} (h : InA b nb r U B w) (hb : Below w.heap.size w w') (hl : b < w.heap.size) : InA b nb r U B w' := h.of fun i _ => hb.cell (p := ⟨b, i * 3 + 2, none⟩) hl
theorem InA.beside {b nb r U B x : Nat} {w w' : World} (h : InA b nb r U B w) (hb : Beside x w w') (hl : b < w.heap.size) (hx : b ≠ x) : InA b nb r U B w' := h.of fun i _ => hb.cell (p := ⟨b, i * 3 + 2, none⟩) hl hx
theorem PcK.lows {b n k : Nat} {w : World} {X Y : Nat → Int} {K : Nat → Nat} {V : Nat → Nat → Int} (h : PcK b w n k X Y K V) : ∀ (i : Nat) (a : Addr) (k' c : Nat), i < k → w.cell? ⟨b, i * 3 + 2, none⟩ = some (.slice (some a) k' c) → 0 < k' → b < a.block := fun i a k' c hi hc hk => by
  obtain ⟨_, _, ⟨G, h3, _⟩, _⟩ := h
  obtain ⟨a0, c0, _, _, d2, r⟩ := h3 i hi
  rw [hc] at d2
  simp only [Option.some.injEq, Value.slice.injEq] at d2
  obtain ⟨e1, e2, _⟩ := d2
  obtain ⟨r1, r2, _, _⟩ := r (by omega)
  rw [r1] at e1
  cases e1
  exact r2
end Go.Proofs.Ytikcfpjfcpbfcaa
