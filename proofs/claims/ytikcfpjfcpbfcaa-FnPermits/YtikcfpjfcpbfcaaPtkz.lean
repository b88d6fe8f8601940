/-
What is proved: a list of permits that a call puts together by append, each with a list of its own.
-/
import Derived.Test.YtikcfpjfcpbfcaaZcE
import Derived.Test.YtikcfpjfcpbfcaaZcC
import Derived.Laws.OwnMore
import Derived.Deep.AppendLies
namespace Go.Proofs.Ytikcfpjfcpbfcaa
set_option maxRecDepth 40000
open Go.ChangeShapes Go.WideShapes Go.ChangeAt Go.RowKit
set_option linter.unusedVariables false
set_option linter.unusedSimpArgs false

def ptC (X Y : Nat → Int) (K : Nat → Nat) (A : Nat → Option Addr) (C : Nat → Nat) : Nat → List Value
  | 0 => []
  | n + 1 => ptC X Y K A C n ++ [.int .i64 (X n), .int .i64 (Y n), .slice (A n) (K n) (C n)]
theorem ptC_len (X Y : Nat → Int) (K : Nat → Nat) (A : Nat → Option Addr) (C : Nat → Nat) : ∀ n, (ptC X Y K A C n).length = n * 3 := by
  intro n
  induction n with
  | zero => rfl
  | succ n ih => unfold ptC; rw [List.length_append, ih]; simp; omega
theorem ptC_at (X Y : Nat → Int) (K : Nat → Nat) (A : Nat → Option Addr) (C : Nat → Nat) : ∀ n i, i < n → (ptC X Y K A C n)[i * 3]? = some (.int .i64 (X i)) ∧ (ptC X Y K A C n)[i * 3 + 1]? = some (.int .i64 (Y i)) ∧ (ptC X Y K A C n)[i * 3 + 2]? = some (.slice (A i) (K i) (C i)) := by
  intro n
  induction n with
  | zero => intro i h; omega
  | succ n ih =>
    intro i hi
    unfold ptC
    by_cases e : i = n
    · subst e
      have hl := ptC_len X Y K A C i
      refine ⟨?_, ?_, ?_⟩
      · rw [List.getElem?_append_right (by omega), hl, show i * 3 - i * 3 = 0 by omega]; rfl
      · rw [List.getElem?_append_right (by omega), hl, show i * 3 + 1 - i * 3 = 1 by omega]; rfl
      · rw [List.getElem?_append_right (by omega), hl, show i * 3 + 2 - i * 3 = 2 by omega]; rfl
    · have hl := ptC_len X Y K A C n
      obtain ⟨a, b, c⟩ := ih i (by omega)
      exact ⟨by rw [List.getElem?_append_left (by omega)]; exact a, by rw [List.getElem?_append_left (by omega)]; exact b, by rw [List.getElem?_append_left (by omega)]; exact c⟩
theorem ptC_same (X Y : Nat → Int) (K : Nat → Nat) {A A' : Nat → Option Addr} {C C' : Nat → Nat} : ∀ n, (∀ i, i < n → A i = A' i ∧ C i = C' i) → ptC X Y K A C n = ptC X Y K A' C' n := by
  intro n
  induction n with
  | zero => intro _; rfl
  | succ n ih => intro h; unfold ptC; rw [ih (fun i hi => h i (by omega)), (h n (by omega)).1, (h n (by omega)).2]
def TyJ (W : World) (g : Nat) : Prop := ∃ cur, W.heap[g]? = some (.cells cur 2 (0, 0))
/-- The lists within. -/
def PtI (base : Nat) (W : World) (k : Nat) (K : Nat → Nat) (V : Nat → Nat → Int) (A : Nat → Option Addr) (G : Nat → Nat) : Prop := (∀ i, i < k → 0 < K i → A i = some ⟨G i, 0, none⟩ ∧ base ≤ G i ∧ G i < W.heap.size ∧ TyJ W (G i) ∧ ∀ j, j < K i → W.cell? ⟨G i, j, none⟩ = some (.int .i64 (V i j)) ∧ W.frozen? ⟨G i, j, none⟩ = false) ∧ ∀ i i', i < k → i' < k → 0 < K i → 0 < K i' → G i = G i' → i = i'
def PtK (base : Nat) (W : World) (v : Value) (n : Nat) (X Y : Nat → Int) (K : Nat → Nat) (V : Nat → Nat → Int) : Prop := ∃ (A : Nat → Option Addr) (C G : Nat → Nat), W.ownsRow base 44 3 v n (ptC X Y K A C n) ∧ PtI base W n K V A G
theorem PtI.same {base k : Nat} {W W' : World} {K : Nat → Nat} {V : Nat → Nat → Int} {A : Nat → Option Addr} {G : Nat → Nat} (h : PtI base W k K V A G) (hz : W.heap.size ≤ W'.heap.size) (hs : ∀ g, base ≤ g → g < W.heap.size → TyJ W g → W'.heap[g]? = W.heap[g]?) : PtI base W' k K V A G := by
  refine ⟨fun i hi q => ?_, h.2⟩
  obtain ⟨h1, h2, h3, h4, h5⟩ := h.1 i hi q
  have e := hs (G i) h2 h3 h4
  refine ⟨h1, h2, Nat.lt_of_lt_of_le h3 hz, by unfold TyJ; rw [e]; exact h4, fun j hj => ⟨(World.cell?_of_block (w := W) (a := ⟨G i, j, none⟩) e).trans (h5 j hj).1, (World.frozen?_of_block (w := W) (a := ⟨G i, j, none⟩) e).trans (h5 j hj).2⟩⟩
theorem PtK.same {base n : Nat} {W W' : World} {v : Value} {X Y : Nat → Int} {K : Nat → Nat} {V : Nat → Nat → Int} (h : PtK base W v n X Y K V) (hz : W.heap.size ≤ W'.heap.size) (hs : ∀ g, base ≤ g → g < W.heap.size → W'.heap[g]? = W.heap[g]?) : PtK base W' v n X Y K V := by
  obtain ⟨A, C, G, h1, h2⟩ := h
  exact ⟨A, C, G, own_same h1 (fun g hg => hs g (World.ownsRow.lt h1 g hg).1 (World.ownsRow.lt h1 g hg).2), h2.same hz (fun g a b _ => hs g a b)⟩
theorem PtK.below {base n : Nat} {W W' : World} {v : Value} {X Y : Nat → Int} {K : Nat → Nat} {V : Nat → Nat → Int} (h : PtK base W v n X Y K V) (hb : Below W.heap.size W W') : PtK base W' v n X Y K V := h.same hb.size fun g _ q => hb.block g q
theorem PtK.beside {base n r : Nat} {W W' : World} {v : Value} {X Y : Nat → Int} {K : Nat → Nat} {V : Nat → Nat → Int} (h : PtK base W v n X Y K V) (hb : Beside r W W') (hr : r < base) : PtK base W' v n X Y K V := h.same hb.2.2.2.1 fun g q1 q => hb.2.2.2.2 g q (by omega)
theorem PtK.nil (base : Nat) (W : World) (X Y : Nat → Int) (K : Nat → Nat) (V : Nat → Nat → Int) : PtK base W (.slice none 0 0) 0 X Y K V := ⟨fun _ => none, fun _ => 0, fun _ => 0, World.ownsRow_nil W base 44 3, fun i hi => absurd hi (Nat.not_lt_zero _), fun i i' hi => absurd hi (Nat.not_lt_zero _)⟩
theorem info_PermitP : (Try.prog.info? 44).map (fun i => (i.zero, i.size, i.bytes)) = some (some (.agg #[.int .i64 0, .int .i64 0, .slice none 0 0]), 3, 40) := by kernel_rfl
theorem newsThreeP (W : World) (a b c : Value) (t : TypeId) : ∀ j u, [a, b, c][j]? = some u → (W.alloc (.cells #[a, b, c] t)).cell? ((⟨W.heap.size, 0, none⟩ : Addr).add j) = some u := World.news_of_block (cs := #[a, b, c]) (heap_alloc_new W _)
/-- All lists within lie below H. -/
def PtB (base H : Nat) (W : World) (v : Value) (n : Nat) (X Y : Nat → Int) (K : Nat → Nat) (V : Nat → Nat → Int) : Prop := ∃ (A : Nat → Option Addr) (C G : Nat → Nat), W.ownsRow base 44 3 v n (ptC X Y K A C n) ∧ PtI base W n K V A G ∧ (∀ i, i < n → 0 < K i → G i < H) ∧ ∀ g, v.ownBlock = some g → g < H
theorem PtK.bound {base n : Nat} {W : World} {v : Value} {X Y : Nat → Int} {K : Nat → Nat} {V : Nat → Nat → Int} (h : PtK base W v n X Y K V) : PtB base W.heap.size W v n X Y K V := by
  obtain ⟨A, C, G, h1, h2⟩ := h
  exact ⟨A, C, G, h1, h2, fun i hi q => (h2.1 i hi q).2.2.1, fun g hg => (World.ownsRow.lt h1 g hg).2⟩
theorem PtB.same {base H n : Nat} {W W' : World} {v : Value} {X Y : Nat → Int} {K : Nat → Nat} {V : Nat → Nat → Int} (h : PtB base H W v n X Y K V) (hz : W.heap.size ≤ W'.heap.size) (hs : ∀ g, base ≤ g → g < W.heap.size → W'.heap[g]? = W.heap[g]?) : PtB base H W' v n X Y K V := by
  obtain ⟨A, C, G, h1, h2, h3⟩ := h
  exact ⟨A, C, G, own_same h1 (fun g hg => hs g (World.ownsRow.lt h1 g hg).1 (World.ownsRow.lt h1 g hg).2), h2.same hz (fun g a b _ => hs g a b), h3⟩
theorem PtB.below {base H n : Nat} {W W' : World} {v : Value} {X Y : Nat → Int} {K : Nat → Nat} {V : Nat → Nat → Int} (h : PtB base H W v n X Y K V) (hb : Below W.heap.size W W') : PtB base H W' v n X Y K V := h.same hb.size fun g _ q => hb.block g q
theorem PtB.beside {base H n r : Nat} {W W' : World} {v : Value} {X Y : Nat → Int} {K : Nat → Nat} {V : Nat → Nat → Int} (h : PtB base H W v n X Y K V) (hb : Beside r W W') (hr : r < base) : PtB base H W' v n X Y K V := h.same hb.2.2.2.1 fun g q1 q => hb.2.2.2.2 g q (by omega)
theorem PtB.far {base H n r : Nat} {W W' : World} {v : Value} {X Y : Nat → Int} {K : Nat → Nat} {V : Nat → Nat → Int} (h : PtB base H W v n X Y K V) (hb : Beside r W W') (hr : H ≤ r) : PtB base H W' v n X Y K V := by
  obtain ⟨A, C, G, h1, h2, h3, h4⟩ := h
  refine ⟨A, C, G, own_same h1 (fun g hg => hb.2.2.2.2 g (World.ownsRow.lt h1 g hg).2 (by have := h4 g hg; omega)), ⟨fun i hi q => ?_, h2.2⟩, h3, h4⟩
  obtain ⟨r1, r2, r3, r4, r5⟩ := h2.1 i hi q
  have e := hb.2.2.2.2 (G i) r3 (by have := h3 i hi q; omega)
  exact ⟨r1, r2, Nat.lt_of_lt_of_le r3 hb.2.2.2.1, by unfold TyJ; rw [e]; exact r4, fun j hj => ⟨(World.cell?_of_block (w := W) (a := ⟨G i, j, none⟩) e).trans (r5 j hj).1, (World.frozen?_of_block (w := W) (a := ⟨G i, j, none⟩) e).trans (r5 j hj).2⟩⟩
theorem apartP {W : World} {g g' : Nat} (h : TyJ W g) (h' : ∃ cur, W.heap[g']? = some (.cells cur 44 (0, 0))) : g ≠ g' := fun e => by
  obtain ⟨c1, h1⟩ := h
  obtain ⟨c2, h2⟩ := h'
  rw [e, h2] at h1
  cases h1
theorem ownP_ty {base n : Nat} {W : World} {v : Value} {xs : List Value} (h : W.ownsRow base 44 3 v n xs) {g : Nat} (hg : v.ownBlock = some g) : ∃ cur, W.heap[g]? = some (.cells cur 44 (0, 0)) := by
  rcases h.2 with ⟨q, _⟩ | ⟨g', cap, cur, e, _, hg', _⟩
  · rw [q] at hg; cases hg
  · rw [e] at hg; cases hg; exact ⟨cur, hg'⟩
end Go.Proofs.Ytikcfpjfcpbfcaa
