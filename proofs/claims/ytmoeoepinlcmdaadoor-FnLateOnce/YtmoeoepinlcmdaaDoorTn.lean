/-
What is proved: worlds in which nothing has turned but the blocks of a set.
-/
import Derived.Test.YtmoeoepinlcmdaaDoorOwn
import Derived.Test.YtmoeoepinlcmdaaDoorBeside
namespace Go.Proofs.YtmoeoepinlcmdaaDoor
set_option maxRecDepth 40000
open Go.ChangeShapes Go.WideShapes Go.ChangeAt Go.RowKit
set_option linter.unusedVariables false
set_option linter.unusedSimpArgs false

/-- Nothing has turned but blocks of S. -/
def Turn (S : Nat → Prop) (w w' : World) : Prop := w'.os = w.os ∧ w'.tape = w.tape ∧ w'.output = w.output ∧ w.heap.size ≤ w'.heap.size ∧ ∀ k, k < w.heap.size → ¬ S k → w'.heap[k]? = w.heap[k]?
theorem Turn.refl (S : Nat → Prop) (w : World) : Turn S w w := ⟨rfl, rfl, rfl, Nat.le_refl _, fun _ _ _ => rfl⟩
theorem Turn.size {S : Nat → Prop} {w w' : World} (h : Turn S w w') : w.heap.size ≤ w'.heap.size := h.2.2.2.1
theorem Turn.trans {S : Nat → Prop} {a b c : World} (h : Turn S a b) (k : Turn S b c) : Turn S a c :=
  ⟨k.1.trans h.1, k.2.1.trans h.2.1, k.2.2.1.trans h.2.2.1, Nat.le_trans h.2.2.2.1 k.2.2.2.1, fun i hi n => (k.2.2.2.2 i (Nat.lt_of_lt_of_le hi h.2.2.2.1) n).trans (h.2.2.2.2 i hi n)⟩
theorem Turn.mono {S S' : Nat → Prop} {a b : World} (h : Turn S a b) (hs : ∀ k, S k → S' k) : Turn S' a b := ⟨h.1, h.2.1, h.2.2.1, h.2.2.2.1, fun i hi n => h.2.2.2.2 i hi (fun q => n (hs i q))⟩
theorem Turn.of {S : Nat → Prop} {r : Nat} {w w' : World} (h : Beside r w w') (hr : S r) : Turn S w w' := ⟨h.1, h.2.1, h.2.2.1, h.2.2.2.1, fun k hk n => h.2.2.2.2 k hk (fun e => n (e ▸ hr))⟩
theorem Turn.grown {S : Nat → Prop} {w w' : World} (h : Below w.heap.size w w') : Turn S w w' := ⟨h.os, h.tape, h.output, h.size, fun k hk _ => h.block k hk⟩
theorem Turn.below {S : Nat → Prop} {w w' : World} {B : Nat} (h : Turn S w w') (hS : ∀ k, S k → B ≤ k) (hB : B ≤ w.heap.size) : Below B w w' := ⟨h.1, h.2.1, h.2.2.1, h.2.2.2.1, fun k hk => h.2.2.2.2 k (by omega) (fun q => by have := hS k q; omega)⟩
theorem Turn.cell {S : Nat → Prop} {w w' : World} (h : Turn S w w') {p : Addr} (hp : p.block < w.heap.size) (hn : ¬ S p.block) : w'.cell? p = w.cell? p := World.cell?_of_block (w := w) (h.2.2.2.2 p.block hp hn)
theorem Turn.frozen {S : Nat → Prop} {w w' : World} (h : Turn S w w') {p : Addr} (hp : p.block < w.heap.size) (hn : ¬ S p.block) : w'.frozen? p = w.frozen? p := World.frozen?_of_block (w := w) (h.2.2.2.2 p.block hp hn)
theorem store_slT : ∀ (W : World) (a : Addr) (s : Option Addr) (n c : Nat), (W.cell? a).isSome = true → W.frozen? a = false → (store a (.slice s n c)).run Tryd.prog W = .ok () (W.setCell a (.slice s n c)) := fun W a s n c h hf => by
  obtain ⟨u, hu⟩ := Option.isSome_iff_exists.1 h
  rw [run_store Tryd.prog W a _ _ rfl, hu]
  simp [hf]
theorem set_block {w : World} {r o : Nat} {u : Value} {k : Nat} (hk : k < w.heap.size) (h : k ≠ r) : (w.setCell ⟨r, o, none⟩ u).heap[k]? = w.heap[k]? := (Beside.setCell r w o u).2.2.2.2 k hk h
end Go.Proofs.YtmoeoepinlcmdaaDoor
