/-
What is proved: a list of permits that a call puts together by append, each with a list of its own.
-/
import Derived.Test.YtikcfpjfcpbfcaaZcE
import Derived.Test.YtikcfpjfcpbfcaaZcC
import Derived.Laws.OwnMore
import Derived.Deep.AppendLies
namespace Go.Proofs.Ytikcfpjfcpbfcaa
set_option maxRecDepth 40000
open Go.ChangeShapes Go.WideShapes Go.ChangeAt Go.RowKit
set_option linter.unusedVariables false
set_option linter.unusedSimpArgs false

def ptC (X Y : Nat → Int) (K : Nat → Nat) (A : Nat → Option Addr) (C : Nat → Nat) : Nat → List Value
  | 0 => []
  | n + 1 => ptC X Y K A C n ++ [.int .i64 (X n), .int .i64 (Y n), .slice (A n) (K n) (C n)]
theorem ptC_len (X Y : Nat → Int) (K : Nat → Nat) (A : Nat → Option Addr) (C : Nat → Nat) : ∀ n, (ptC X Y K A C n).length = n * 3 := by
  intro n
  induction n with
  | zero => rfl
  | succ n ih => unfold ptC; rw [List.length_append, ih]; simp; omega
theorem ptC_at (X Y : Nat → Int) (K : Nat → Nat) (A : Nat → Option Addr) (C : Nat → Nat) : ∀ n i, i < n → (ptC X Y K A C n)[i * 3]? = some (.int .i64 (X i)) ∧ (ptC X Y K A C n)[i * 3 + 1]? = some (.int .i64 (Y i)) ∧ (ptC X Y K A C n)[i * 3 + 2]? = some (.slice (A i) (K i) (C i)) := by
  intro n
  induction n with
  | zero => intro i h; omega
  | succ n ih =>
    intro i hi
    unfold ptC
    by_cases e : i = n
    · subst e
      have hl := ptC_len X Y K A C i
      refine ⟨?_, ?_, ?_⟩
      · rw [List.getElem?_append_right (by omega), hl, show i * 3 - i * 3 = 0 by omega]; rfl
      · rw [List.getElem?_append_right (by omega), hl, show i * 3 + 1 - i * 3 = 1 by omega]; rfl
      · rw [List.getElem?_append_right (by omega), hl, show i * 3 + 2 - i * 3 = 2 by omega]; rfl
    · have hl := ptC_len X Y K A C n
      obtain ⟨a, b, c⟩ := ih i (by omega)
      exact ⟨by rw [List.getElem?_append_left (by omega)]; exact a, by rw [List.getElem?_append_left (by omega)]; exact b, by rw [List.getElem?_append_left (by omega)]; exact c⟩
theorem ptC_same (X Y : Nat → Int) (K : Nat → Nat) {A A' : Nat → Option Addr} {C C' : Nat → Nat} : ∀ n, (∀ i, i < n → A i = A' i ∧ C i = C' i) → ptC X Y K A C n = ptC X Y K A' C' n := by
  intro n
  induction n with
  | zero => intro _; rfl
  | succ n ih => intro h; unfold ptC; rw [ih (fun i hi => h i (by omega)), (h n (by omega)).1, (h n (by omega)).2]
def TyJ (W : World) (g : Nat) : Prop := ∃ cur, W.heap[g]? = some (.cells cur 2 (0, 0))
/-- The lists within. -/
def PtI (base : Nat) (W : World) (k : Nat) (K : Nat → Nat) (V : Nat → Nat → Int) (A : Nat → Option Addr) (G : Nat → Nat) : Prop := (∀ i, i < k → 0 < K i → A i = some ⟨G i, 0, none⟩ ∧ base ≤ G i ∧ G i < W.heap.size ∧ TyJ W (G i) ∧ ∀ j, j < K i → W.cell? ⟨G i, j, none⟩ = some (.int .i64 (V i j)) ∧ W.frozen? ⟨G i, j, none⟩ = false) ∧ ∀ i i', i < k → i' < k → 0 < K i → 0 < K i' → G i = G i' → i = i'
def PtK (base : Nat) (W : World) (v : Value) (n : Nat) (X Y : Nat → Int) (K : Nat → Nat) (V : Nat → Nat → Int) : Prop := ∃ (A : Nat → Option Addr) (C G : Nat → Nat), W.ownsRow base 44 3 v n (ptC X Y K A C n) ∧ PtI base W n K V A G
theorem PtI.same {base k : Nat} {W W' : World} {K : Nat → Nat} {V : Nat → Nat → Int} {A : Nat → Option Addr} {G : Nat → Nat} (h : PtI base W k K V A G) (hz : W.heap.size ≤ W'.heap.size) (hs : ∀ g, base ≤ g → g < W.heap.size → TyJ W g → W'.heap[g]? = W.heap[g]?) : PtI base W' k K V A G := by
  refine ⟨fun i hi q => ?_, h.2⟩
  obtain ⟨h1, h2, h3, h4, h5⟩ := h.1 i hi q
  have e := hs (G i) h2 h3 h4
  refine ⟨h1, h2, Nat.lt_of_lt_of_le h3 hz, by unfold TyJ; rw [e]; exact h4, fun j hj => ⟨(World.cell?_of_block (w := W) (a := ⟨G i, j, none⟩) e).trans (h5 j hj).1, (World.frozen?_of_block (w := W) (a := ⟨G i, j, none⟩) e).trans (h5 j hj).2⟩⟩
theorem PtK.same {base n : Nat} {W W' : World} {v : Value} {X Y : Nat → Int} {K : Nat → Nat} {V : Nat → Nat → Int} (h : PtK base W v n X Y K V) (hz : W.heap.size ≤ W'.heap.size) (hs : ∀ g, base ≤ g → g < W.heap.size → W'.heap[g]? = W.heap[g]?) : PtK base W' v n X Y K V := by
  obtain ⟨A, C, G, h1, h2⟩ := h
  exact ⟨A, C, G, own_same h1 (fun g hg => hs g (World.ownsRow.lt h1 g hg).1 (World.ownsRow.lt h1 g hg).2), h2.same hz (fun g a b _ => hs g a b)⟩
theorem PtK.below {base n : Nat} {W W' : World} {v : Value} {X Y : Nat → Int} {K : Nat → Nat} {V : Nat → Nat → Int} (h : PtK base W v n X Y K V) (hb : Below W.heap.size W W') : PtK base W' v n X Y K V := h.same hb.size fun g _ q => hb.block g q
theorem PtK.beside {base n r : Nat} {W W' : World} {v : Value} {X Y : Nat → Int} {K : Nat → Nat} {V : Nat → Nat → Int} (h : PtK base W v n X Y K V) (hb : Beside r W W') (hr : r < base) : PtK base W' v n X Y K V := h.same hb.2.2.2.1 fun g q1 q => hb.2.2.2.2 g q (by omega)
theorem PtK.nil (base : Nat) (W : World) (X Y : Nat → Int) (K : Nat → Nat) (V : Nat → Nat → Int) : PtK base W (.slice none 0 0) 0 X Y K V := ⟨fun _ => none, fun _ => 0, fun _ => 0, World.ownsRow_nil W base 44 3, fun i hi => absurd hi (Nat.not_lt_zero _), fun i i' hi => absurd hi (Nat.not_lt_zero _)⟩
theorem PtK.val {base n : Nat} {W : World} {v : Value} {X Y : Nat → Int} {K : Nat → Nat} {V : Nat → Nat → Int} (h : PtK base W v n X Y K V) : ∃ t cap, v = .slice t n cap := by
  obtain ⟨A, C, G, h1, _⟩ := h
  rcases h1.2 with ⟨e, q⟩ | ⟨g, cap, cur, e, _⟩
  · exact ⟨none, 0, by rw [e, q]⟩
  · exact ⟨_, cap, e⟩
theorem PtK.per {base n cap : Nat} {W : World} {t : Option Addr} {X Y : Nat → Int} {K : Nat → Nat} {V : Nat → Nat → Int} (h : PtK base W (.slice t n cap) n X Y K V) : PerR (fun k => base ≤ k ∧ k < W.heap.size) W t n X Y K V := by
  obtain ⟨A, C, G, h1, h2⟩ := h
  refine ⟨G, fun i hi => ?_, h2.2⟩
  have h3 := h1
  rcases h1.2 with ⟨_, q⟩ | ⟨g, cap', cur, e, hb, hg, _⟩
  · omega
  · cases e
    obtain ⟨a, b, c⟩ := ptC_at X Y K A C n i hi
    have zg := (Array.getElem?_eq_some_iff.1 hg).1
    refine ⟨g, A i, C i, rfl, ⟨hb, zg⟩, zg, fun o => by simp [World.frozen?, hg], by rw [h3.cellAt (i * 3) (by omega)]; exact a, by rw [h3.cellAt (i * 3 + 1) (by omega)]; exact b, by rw [h3.cellAt (i * 3 + 2) (by omega)]; exact c, fun q => ?_⟩
    obtain ⟨r1, r2, r3, ⟨cu, r4⟩, r5⟩ := h2.1 i hi q
    refine ⟨r1, fun e => ?_, ⟨r2, r3⟩, r3, r5⟩
    rw [e, hg] at r4
    cases r4
theorem info_PermitP : (Try.prog.info? 44).map (fun i => (i.zero, i.size, i.bytes)) = some (some (.agg #[.int .i64 0, .int .i64 0, .slice none 0 0]), 3, 40) := by kernel_rfl
theorem newsThreeP (W : World) (a b c : Value) (t : TypeId) : ∀ j u, [a, b, c][j]? = some u → (W.alloc (.cells #[a, b, c] t)).cell? ((⟨W.heap.size, 0, none⟩ : Addr).add j) = some u := World.news_of_block (cs := #[a, b, c]) (heap_alloc_new W _)
/-- All lists within lie below H. -/
def PtB (base H : Nat) (W : World) (v : Value) (n : Nat) (X Y : Nat → Int) (K : Nat → Nat) (V : Nat → Nat → Int) : Prop := ∃ (A : Nat → Option Addr) (C G : Nat → Nat), W.ownsRow base 44 3 v n (ptC X Y K A C n) ∧ PtI base W n K V A G ∧ (∀ i, i < n → 0 < K i → G i < H) ∧ ∀ g, v.ownBlock = some g → g < H
theorem PtK.bound {base n : Nat} {W : World} {v : Value} {X Y : Nat → Int} {K : Nat → Nat} {V : Nat → Nat → Int} (h : PtK base W v n X Y K V) : PtB base W.heap.size W v n X Y K V := by
  obtain ⟨A, C, G, h1, h2⟩ := h
  exact ⟨A, C, G, h1, h2, fun i hi q => (h2.1 i hi q).2.2.1, fun g hg => (World.ownsRow.lt h1 g hg).2⟩
theorem PtB.same {base H n : Nat} {W W' : World} {v : Value} {X Y : Nat → Int} {K : Nat → Nat} {V : Nat → Nat → Int} (h : PtB base H W v n X Y K V) (hz : W.heap.size ≤ W'.heap.size) (hs : ∀ g, base ≤ g → g < W.heap.size → W'.heap[g]? = W.heap[g]?) : PtB base H W' v n X Y K V := by
  obtain ⟨A, C, G, h1, h2, h3⟩ := h
  exact ⟨A, C, G, own_same h1 (fun g hg => hs g (World.ownsRow.lt h1 g hg).1 (World.ownsRow.lt h1 g hg).2), h2.same hz (fun g a b _ => hs g a b), h3⟩
theorem PtB.below {base H n : Nat} {W W' : World} {v : Value} {X Y : Nat → Int} {K : Nat → Nat} {V : Nat → Nat → Int} (h : PtB base H W v n X Y K V) (hb : Below W.heap.size W W') : PtB base H W' v n X Y K V := h.same hb.size fun g _ q => hb.block g q
theorem PtB.beside {base H n r : Nat} {W W' : World} {v : Value} {X Y : Nat → Int} {K : Nat → Nat} {V : Nat → Nat → Int} (h : PtB base H W v n X Y K V) (hb : Beside r W W') (hr : r < base) : PtB base H W' v n X Y K V := h.same hb.2.2.2.1 fun g q1 q => hb.2.2.2.2 g q (by omega)
theorem PtB.far {base H n r : Nat} {W W' : World} {v : Value} {X Y : Nat → Int} {K : Nat → Nat} {V : Nat → Nat → Int} (h : PtB base H W v n X Y K V) (hb : Beside r W W') (hr : H ≤ r) : PtB base H W' v n X Y K V := by
  obtain ⟨A, C, G, h1, h2, h3, h4⟩ := h
  refine ⟨A, C, G, own_same h1 (fun g hg => hb.2.2.2.2 g (World.ownsRow.lt h1 g hg).2 (by have := h4 g hg; omega)), ⟨fun i hi q => ?_, h2.2⟩, h3, h4⟩
  obtain ⟨r1, r2, r3, r4, r5⟩ := h2.1 i hi q
  have e := hb.2.2.2.2 (G i) r3 (by have := h3 i hi q; omega)
  exact ⟨r1, r2, Nat.lt_of_lt_of_le r3 hb.2.2.2.1, by unfold TyJ; rw [e]; exact r4, fun j hj => ⟨(World.cell?_of_block (w := W) (a := ⟨G i, j, none⟩) e).trans (r5 j hj).1, (World.frozen?_of_block (w := W) (a := ⟨G i, j, none⟩) e).trans (r5 j hj).2⟩⟩
theorem apartP {W : World} {g g' : Nat} (h : TyJ W g) (h' : ∃ cur, W.heap[g']? = some (.cells cur 44 (0, 0))) : g ≠ g' := fun e => by
  obtain ⟨c1, h1⟩ := h
  obtain ⟨c2, h2⟩ := h'
  rw [e, h2] at h1
  cases h1
theorem ownP_ty {base n : Nat} {W : World} {v : Value} {xs : List Value} (h : W.ownsRow base 44 3 v n xs) {g : Nat} (hg : v.ownBlock = some g) : ∃ cur, W.heap[g]? = some (.cells cur 44 (0, 0)) := by
  rcases h.2 with ⟨q, _⟩ | ⟨g', cap, cur, e, _, hg', _⟩
  · rw [q] at hg; cases hg
  · rw [e] at hg; cases hg; exact ⟨cur, hg'⟩
theorem list_Permit {ops : Array Oper} {rest : List Oper} {o : Oper} {a : Act} {Q : Exit → Act → World → Prop} {W : World} {tt : TypeId} {s0 : Option Addr} {c0 : Nat} (base H : Nat) (v : Value) (n : Nat) (X Y : Nat → Int) (K : Nat → Nat) (V : Nat → Nat → Int) (gk : Nat) (s z : Operand) (hgd : o.guard = none)
    (ho : o.op = .call { callee := .builtin .append, args := #[s, z], argTypes := #[34, 34] }) (hs : a.eval s = v) (hx : a.eval z = .slice (some ⟨W.heap.size, 0, none⟩) 1 1) (hown : PtB base H W v n X Y K V)
    (hL : 0 < K n → s0 = some ⟨gk, 0, none⟩ ∧ base ≤ gk ∧ H ≤ gk ∧ gk < W.heap.size ∧ TyJ W gk ∧ ∀ j, j < K n → W.cell? ⟨gk, j, none⟩ = some (.int .i64 (V n j)) ∧ W.frozen? ⟨gk, j, none⟩ = false)
    (hk : n ≤ 100000) (hb : base ≤ W.heap.size)
    (h : ∀ g cap w', PtK base w' (.slice (some ⟨g, 0, none⟩) (n + 1) cap) (n + 1) X Y K V → Below base W w' → wpList Try.prog ops Q rest (a.put o.dst (.slice (some ⟨g, 0, none⟩) (n + 1) cap)) w') :
    wpList Try.prog ops Q (o :: rest) a (W.alloc (.cells #[.int .i64 (X n), .int .i64 (Y n), .slice s0 (K n) c0] tt)) := by
  obtain ⟨i0, hi, hz0, hz1, hz2⟩ := info_parts info_PermitP
  obtain ⟨A, C, G, h1, h2, h3, h4⟩ := hown
  refine wpList_append_lies _ hgd s z 34 ho base 44 i0 (.agg #[.int .i64 0, .int .i64 0, .slice none 0 0]) 3 40 Try.underlying34 hi hz0 hz1 hz2 rfl (by decide) v n _ hs (h1.alloc _) ⟨W.heap.size, 0, none⟩ 1 1 [.int .i64 (X n), .int .i64 (Y n), .slice s0 (K n) c0] hx rfl (newsThreeP _ _ _ _ _) ?_ (by decide) (by unfold maxLen; omega) (by omega) (by simp; omega) _ rfl ?_
  · intro u hu
    simp at hu
    rcases hu with rfl | rfl | rfl <;> rfl
  · intro g cap w' q1 q2 _ q3
    have gr := grown_new q2
    have keep : ∀ g, g < W.heap.size → TyJ W g → w'.heap[g]? = W.heap[g]? := fun g hg hc => gr.block g hg (fun e => apartP hc (ownP_ty h1 e.symm) rfl)
    refine h g cap w' ?_ (grown_below gr hb (own_block h1))
    refine ⟨fun j => if j = n then s0 else A j, fun j => if j = n then c0 else C j, fun j => if j = n then gk else G j, ?_, fun i hi' q => ?_, fun i i' hi' hi'' q q' e => ?_⟩
    · have e : ptC X Y K (fun j => if j = n then s0 else A j) (fun j => if j = n then c0 else C j) (n + 1) = ptC X Y K A C n ++ [.int .i64 (X n), .int .i64 (Y n), .slice s0 (K n) c0] := by
        show ptC X Y K _ _ n ++ [_, _, .slice (if n = n then s0 else A n) (K n) (if n = n then c0 else C n)] = _
        rw [if_pos rfl, if_pos rfl, ptC_same X Y K (A' := A) (C' := C) n (fun i hi => ⟨if_neg (by omega), if_neg (by omega)⟩)]
      rw [e]
      exact q1
    · show (if i = n then s0 else A i) = some ⟨(if i = n then gk else G i), 0, none⟩ ∧ base ≤ (if i = n then gk else G i) ∧ (if i = n then gk else G i) < w'.heap.size ∧ TyJ w' (if i = n then gk else G i) ∧ ∀ j, j < K i → w'.cell? ⟨(if i = n then gk else G i), j, none⟩ = some (.int .i64 (V i j)) ∧ w'.frozen? ⟨(if i = n then gk else G i), j, none⟩ = false
      by_cases e : i = n
      · subst e
        rw [if_pos rfl, if_pos rfl]
        obtain ⟨r1, r2, _, r3, r4, r5⟩ := hL q
        have ke := keep gk r3 r4
        exact ⟨r1, r2, Nat.lt_of_lt_of_le r3 gr.size, by unfold TyJ; rw [ke]; exact r4, fun j hj => ⟨(World.cell?_of_block (w := W) (a := ⟨gk, j, none⟩) ke).trans (r5 j hj).1, (World.frozen?_of_block (w := W) (a := ⟨gk, j, none⟩) ke).trans (r5 j hj).2⟩⟩
      · rw [if_neg e, if_neg e]
        obtain ⟨r1, r2, r3, r4, r5⟩ := h2.1 i (by omega) q
        have ke := keep (G i) r3 r4
        exact ⟨r1, r2, Nat.lt_of_lt_of_le r3 gr.size, by unfold TyJ; rw [ke]; exact r4, fun j hj => ⟨(World.cell?_of_block (w := W) (a := ⟨G i, j, none⟩) ke).trans (r5 j hj).1, (World.frozen?_of_block (w := W) (a := ⟨G i, j, none⟩) ke).trans (r5 j hj).2⟩⟩
    · have e' : (if i = n then gk else G i) = (if i' = n then gk else G i') := e
      by_cases e1 : i = n
      · by_cases e2 : i' = n
        · omega
        · rw [if_pos e1, if_neg e2] at e'
          subst e1
          have x1 := h3 i' (by omega) q'
          have x2 := (hL q).2.2.1
          omega
      · by_cases e2 : i' = n
        · rw [if_neg e1, if_pos e2] at e'
          subst e2
          have x1 := h3 i (by omega) q
          have x2 := (hL q').2.2.1
          omega
        · rw [if_neg e1, if_neg e2] at e'
          exact h2.2 i i' (by omega) (by omega) q q' e'
end Go.Proofs.Ytikcfpjfcpbfcaa
