/-
What is proved: a list of permits that a call puts together by append, the lists within lying elsewhere.
-/
import Derived.Test.YtikcfpjfcpbfcaaPtkz
import Derived.Test.YtikcfpjfcpbfcaaZcH
import Derived.Test.YtikcfpjfcpbfcaaFwLz
import Derived.Test.YtikcfpjfcpbfcaaPcpz
import Derived.Test.YtikcfpjfcpbfcaaZcE
import Derived.Deep.DeepCutAuto
namespace Go.Proofs.Ytikcfpjfcpbfcaa
set_option maxRecDepth 40000
open Go.ChangeShapes Go.WideShapes Go.ChangeAt Go.RowKit
set_option linter.unusedVariables false
set_option linter.unusedSimpArgs false

def PtS (base : Nat) (w0 W : World) (v : Value) (n : Nat) (X Y : Nat → Int) (K : Nat → Nat) (V : Nat → Nat → Int) : Prop := ∃ (A : Nat → Option Addr) (C : Nat → Nat), W.ownsRow base 44 3 v n (ptC X Y K A C n) ∧ ∀ i, i < n → RowI w0 (A i) (K i) (V i)
theorem PtS.nil (base : Nat) (w0 W : World) (X Y : Nat → Int) (K : Nat → Nat) (V : Nat → Nat → Int) : PtS base w0 W (.slice none 0 0) 0 X Y K V := ⟨fun _ => none, fun _ => 0, World.ownsRow_nil W base 44 3, fun i hi => absurd hi (Nat.not_lt_zero _)⟩
theorem PtS.same {base n : Nat} {w0 W W' : World} {v : Value} {X Y : Nat → Int} {K : Nat → Nat} {V : Nat → Nat → Int} (h : PtS base w0 W v n X Y K V) (hz : W.heap.size ≤ W'.heap.size) (hs : ∀ g, base ≤ g → g < W.heap.size → W'.heap[g]? = W.heap[g]?) : PtS base w0 W' v n X Y K V := by
  obtain ⟨A, C, h1, h2⟩ := h
  exact ⟨A, C, own_same h1 (fun g hg => hs g (World.ownsRow.lt h1 g hg).1 (World.ownsRow.lt h1 g hg).2), h2⟩
theorem PtS.below {base n : Nat} {w0 W W' : World} {v : Value} {X Y : Nat → Int} {K : Nat → Nat} {V : Nat → Nat → Int} (h : PtS base w0 W v n X Y K V) (hb : Below W.heap.size W W') : PtS base w0 W' v n X Y K V := h.same hb.size fun g _ q => hb.block g q
theorem PtS.beside {base n r : Nat} {w0 W W' : World} {v : Value} {X Y : Nat → Int} {K : Nat → Nat} {V : Nat → Nat → Int} (h : PtS base w0 W v n X Y K V) (hb : Beside r W W') (hr : r < base) : PtS base w0 W' v n X Y K V := h.same hb.2.2.2.1 fun g q1 q => hb.2.2.2.2 g q (by omega)
theorem PtS.congr {base n : Nat} {w0 W : World} {v : Value} {X Y : Nat → Int} {K : Nat → Nat} {V : Nat → Nat → Int} {X' Y' : Nat → Int} {K' : Nat → Nat} {V' : Nat → Nat → Int} (h : PtS base w0 W v n X Y K V) (e : ∀ i, i < n → X i = X' i ∧ Y i = Y' i ∧ K i = K' i ∧ ∀ j, V i j = V' i j) : PtS base w0 W v n X' Y' K' V' := by
  obtain ⟨A, C, h1, h2⟩ := h
  refine ⟨A, C, ?_, fun i hi => ?_⟩
  · have : ∀ m, m ≤ n → ptC X' Y' K' A C m = ptC X Y K A C m := by
      intro m
      induction m with
      | zero => intro _; rfl
      | succ m ih => intro hm; obtain ⟨a, b, c, _⟩ := e m (by omega); unfold ptC; rw [ih (by omega), a, b, c]
    rw [this n (Nat.le_refl _)]
    exact h1
  · obtain ⟨_, _, c, d⟩ := e i hi
    rw [← c]
    exact (h2 i hi).congr fun j _ => d j
theorem PtS.row {base n cap : Nat} {w0 W : World} {t : Option Addr} {X Y : Nat → Int} {K : Nat → Nat} {V : Nat → Nat → Int} (h : PtS base w0 W (.slice t n cap) n X Y K V) (hb : Below w0.heap.size w0 W) : RowPer W t n X Y K V := fun i hi => by
  obtain ⟨A, C, h1, h2⟩ := h
  have h3 := h1
  rcases h1.2 with ⟨_, q⟩ | ⟨g, cap', cur, e, _, hg, _⟩
  · omega
  · cases e
    obtain ⟨a, b, c⟩ := ptC_at X Y K A C n i hi
    have zg := (Array.getElem?_eq_some_iff.1 hg).1
    exact ⟨g, 0, A i, C i, rfl, zg, by rw [Nat.zero_add, h3.cellAt (i * 3) (by omega)]; exact a, by rw [Nat.zero_add, h3.cellAt (i * 3 + 1) (by omega)]; exact b, by rw [Nat.zero_add, h3.cellAt (i * 3 + 2) (by omega)]; exact c, (h2 i hi).below hb⟩
theorem list_PermitS {ops : Array Oper} {rest : List Oper} {o : Oper} {a : Act} {Q : Exit → Act → World → Prop} {W w0 : World} {tt : TypeId} {s0 : Option Addr} {c0 : Nat} (base : Nat) (v : Value) (n : Nat) (X Y : Nat → Int) (K : Nat → Nat) (V : Nat → Nat → Int) (s z : Operand) (hgd : o.guard = none)
    (ho : o.op = .call { callee := .builtin .append, args := #[s, z], argTypes := #[34, 34] }) (hs : a.eval s = v) (hx : a.eval z = .slice (some ⟨W.heap.size, 0, none⟩) 1 1) (hown : PtS base w0 W v n X Y K V)
    (hL : RowI w0 s0 (K n) (V n))
    (hk : n ≤ 100000) (hb : base ≤ W.heap.size)
    (h : ∀ g cap w', PtS base w0 w' (.slice (some ⟨g, 0, none⟩) (n + 1) cap) (n + 1) X Y K V → Below base W w' → wpList Try.prog ops Q rest (a.put o.dst (.slice (some ⟨g, 0, none⟩) (n + 1) cap)) w') :
    wpList Try.prog ops Q (o :: rest) a (W.alloc (.cells #[.int .i64 (X n), .int .i64 (Y n), .slice s0 (K n) c0] tt)) := by
  obtain ⟨i0, hi, hz0, hz1, hz2⟩ := info_parts info_PermitP
  obtain ⟨A, C, h1, h2⟩ := hown
  refine wpList_append_lies _ hgd s z 34 ho base 44 i0 (.agg #[.int .i64 0, .int .i64 0, .slice none 0 0]) 3 40 Try.underlying34 hi hz0 hz1 hz2 rfl (by decide) v n _ hs (h1.alloc _) ⟨W.heap.size, 0, none⟩ 1 1 [.int .i64 (X n), .int .i64 (Y n), .slice s0 (K n) c0] hx rfl (newsThreeP _ _ _ _ _) ?_ (by decide) (by unfold maxLen; omega) (by omega) (by simp; omega) _ rfl ?_
  · intro u hu
    simp at hu
    rcases hu with rfl | rfl | rfl <;> rfl
  · intro g cap w' q1 q2 _ q3
    have gr := grown_new q2
    refine h g cap w' ?_ (grown_below gr hb (own_block h1))
    refine ⟨fun j => if j = n then s0 else A j, fun j => if j = n then c0 else C j, ?_, fun i hi' => ?_⟩
    · have e : ptC X Y K (fun j => if j = n then s0 else A j) (fun j => if j = n then c0 else C j) (n + 1) = ptC X Y K A C n ++ [.int .i64 (X n), .int .i64 (Y n), .slice s0 (K n) c0] := by
        show ptC X Y K _ _ n ++ [_, _, .slice (if n = n then s0 else A n) (K n) (if n = n then c0 else C n)] = _
        rw [if_pos rfl, if_pos rfl, ptC_same X Y K (A' := A) (C' := C) n (fun i hi => ⟨if_neg (by omega), if_neg (by omega)⟩)]
      rw [e]
      exact q1
    · show RowI w0 (if i = n then s0 else A i) (K i) (V i)
      by_cases e : i = n
      · subst e; rw [if_pos rfl]; exact hL
      · rw [if_neg e]; exact h2 i (by omega)

open Go.ChangeShapes Go.WideShapes Go.ChangeAt Go.RowKit
set_option linter.unusedVariables false
set_option linter.unusedSimpArgs false

/-- What a round reads of the book that was handed over. -/
def ArgC (w : World) (gB : Nat) (bv : Value) (g o : Nat) (x y : Int) (lv : Value) : Prop := w.cell? ⟨gB, 0, none⟩ = some bv ∧ gB < w.heap.size ∧ w.cell? ⟨g, o, none⟩ = some (.int .i64 x) ∧ w.cell? ⟨g, o + 1, none⟩ = some (.int .i64 y) ∧ w.cell? ⟨g, o + 2, none⟩ = some lv ∧ g < w.heap.size
theorem ArgC.below {w w' : World} {gB g o : Nat} {bv lv : Value} {x y : Int} (h : ArgC w gB bv g o x y lv) (hb : Below w.heap.size w w') : ArgC w' gB bv g o x y lv := ⟨(hb.cell (p := ⟨gB, 0, none⟩) h.2.1).trans h.1, Nat.lt_of_lt_of_le h.2.1 hb.size, (hb.cell (p := ⟨g, o, none⟩) h.2.2.2.2.2).trans h.2.2.1, (hb.cell (p := ⟨g, o + 1, none⟩) h.2.2.2.2.2).trans h.2.2.2.1, (hb.cell (p := ⟨g, o + 2, none⟩) h.2.2.2.2.2).trans h.2.2.2.2.1, Nat.lt_of_lt_of_le h.2.2.2.2.2 hb.size⟩
theorem ArgC.belowB {w w' : World} {gB g o B : Nat} {bv lv : Value} {x y : Int} (h : ArgC w gB bv g o x y lv) (hb : Below B w w') (h1 : gB < B) (h2 : g < B) : ArgC w' gB bv g o x y lv := ⟨(hb.cell (p := ⟨gB, 0, none⟩) h1).trans h.1, Nat.lt_of_lt_of_le h.2.1 hb.size, (hb.cell (p := ⟨g, o, none⟩) h2).trans h.2.2.1, (hb.cell (p := ⟨g, o + 1, none⟩) h2).trans h.2.2.2.1, (hb.cell (p := ⟨g, o + 2, none⟩) h2).trans h.2.2.2.2.1, Nat.lt_of_lt_of_le h.2.2.2.2.2 hb.size⟩
theorem ArgC.beside {w w' : World} {gB g o r : Nat} {bv lv : Value} {x y : Int} (h : ArgC w gB bv g o x y lv) (hb : Beside r w w') (h1 : gB ≠ r) (h2 : g ≠ r) : ArgC w' gB bv g o x y lv := ⟨(hb.cell (p := ⟨gB, 0, none⟩) h.2.1 h1).trans h.1, Nat.lt_of_lt_of_le h.2.1 hb.2.2.2.1, (hb.cell (p := ⟨g, o, none⟩) h.2.2.2.2.2 h2).trans h.2.2.1, (hb.cell (p := ⟨g, o + 1, none⟩) h.2.2.2.2.2 h2).trans h.2.2.2.1, (hb.cell (p := ⟨g, o + 2, none⟩) h.2.2.2.2.2 h2).trans h.2.2.2.2.1, Nat.lt_of_lt_of_le h.2.2.2.2.2 hb.2.2.2.1⟩
theorem OwL.typed {base : Nat} {W W' : World} {v : Value} {l : List Int} (h : OwL base W v l) (hs : ∀ g, g < W.heap.size → TyJ W g → W'.heap[g]? = W.heap[g]?) : OwL base W' v l := by
  refine own_same h fun g hg => hs g (World.ownsRow.lt h g hg).2 ?_
  rcases h.2 with ⟨q, _⟩ | ⟨g', cap, cur, e, _, hg', _⟩
  · rw [q] at hg; cases hg
  · rw [e] at hg; cases hg; exact ⟨cur, hg'⟩
theorem cells_threeP {W : World} {lb : Nat} {a b c : Value} (h0 : W.cell? ⟨lb, 0, none⟩ = some a) (h1 : W.cell? ⟨lb, 1, none⟩ = some b) (h2 : W.cell? ⟨lb, 2, none⟩ = some c) : ∀ j u, [a, b, c][j]? = some u → W.cell? ((⟨lb, 0, none⟩ : Addr).add j) = some u := by
  intro j u hu
  rw [Addr.add_lit, Nat.zero_add]
  match j, hu with
  | 0, hu => cases hu; exact h0
  | 1, hu => cases hu; exact h1
  | 2, hu => cases hu; exact h2
theorem wp_PermitS {o : Oper} {a : Act} {KK : Act → World → Prop} {Q : Exit → Act → World → Prop} {W w0 : World} {s0 : Option Addr} {c0 kk : Nat} {x y : Int} (base : Nat) (v : Value) (n : Nat) (X Y : Nat → Int) (K : Nat → Nat) (V : Nat → Nat → Int) (s z : Operand)
    (ho : o.op = .call { callee := .builtin .append, args := #[s, z], argTypes := #[34, 34] }) (hs : a.eval s = v) (lb : Nat) (hx : a.eval z = .slice (some ⟨lb, 0, none⟩) 1 1) (hown : PtS base w0 W v n X Y K V)
    (h0 : W.cell? ⟨lb, 0, none⟩ = some (.int .i64 x)) (h1 : W.cell? ⟨lb, 1, none⟩ = some (.int .i64 y)) (h2 : W.cell? ⟨lb, 2, none⟩ = some (.slice s0 kk c0))
    (hX : X n = x) (hY : Y n = y) (hK : K n = kk) (hL : RowI w0 s0 kk (V n))
    (hk : n ≤ 100000) (hb : base ≤ W.heap.size)
    (h : ∀ g cap w', PtS base w0 w' (.slice (some ⟨g, 0, none⟩) (n + 1) cap) (n + 1) X Y K V → Below base W w' → (∀ g, g < W.heap.size → TyJ W g → w'.heap[g]? = W.heap[g]?) → KK (a.put o.dst (.slice (some ⟨g, 0, none⟩) (n + 1) cap)) w') : o.wp Try.prog a W KK Q := by
  subst hX hY hK
  obtain ⟨i0, hi, hz0, hz1, hz2⟩ := info_parts info_PermitP
  obtain ⟨A, C, g1, g2⟩ := hown
  refine wp_append_lies _ s z 34 ho base 44 i0 (.agg #[.int .i64 0, .int .i64 0, .slice none 0 0]) 3 40 Try.underlying34 hi hz0 hz1 hz2 rfl (by decide) v n _ hs g1 ⟨lb, 0, none⟩ 1 1 [.int .i64 (X n), .int .i64 (Y n), .slice s0 (K n) c0] hx rfl (cells_threeP h0 h1 h2) ?_ (by decide) (by unfold maxLen; omega) (by omega) hb _ rfl ?_
  · intro u hu
    simp at hu
    rcases hu with rfl | rfl | rfl <;> rfl
  · intro g cap w' q1 q2 _ q3
    refine h g cap w' ?_ (grown_below q2 hb (own_block g1)) (fun g hg hc => q2.block g hg (fun e => apartP hc (ownP_ty g1 e.symm) rfl))
    refine ⟨fun j => if j = n then s0 else A j, fun j => if j = n then c0 else C j, ?_, fun i hi' => ?_⟩
    · have e : ptC X Y K (fun j => if j = n then s0 else A j) (fun j => if j = n then c0 else C j) (n + 1) = ptC X Y K A C n ++ [.int .i64 (X n), .int .i64 (Y n), .slice s0 (K n) c0] := by
        show ptC X Y K _ _ n ++ [_, _, .slice (if n = n then s0 else A n) (K n) (if n = n then c0 else C n)] = _
        rw [if_pos rfl, if_pos rfl, ptC_same X Y K (A' := A) (C' := C) n (fun i hi => ⟨if_neg (by omega), if_neg (by omega)⟩)]
      rw [e]
      exact q1
    · show RowI w0 (if i = n then s0 else A i) (K i) (V i)
      by_cases e : i = n
      · subst e; rw [if_pos rfl]; exact hL
      · rw [if_neg e]; exact g2 i (by omega)
open Go.ChangeShapes Go.WideShapes Go.ChangeAt Go.RowKit
set_option linter.unusedVariables false
set_option linter.unusedSimpArgs false

theorem OwL.inner {B : Nat} {w : World} {s : Option Addr} {k c : Nat} {U : Nat → Int} (h : OwL B w (.slice s k c) (lsOf U k)) : ∃ g, 0 < k → s = some ⟨g, 0, none⟩ ∧ B ≤ g ∧ g < w.heap.size ∧ TyJ w g ∧ ∀ j, j < k → w.cell? ⟨g, j, none⟩ = some (.int .i64 (U j)) ∧ w.frozen? ⟨g, j, none⟩ = false := by
  obtain ⟨s', c', e, ho⟩ := h.own
  rw [ls_len] at e ho
  simp only [Value.slice.injEq] at e
  obtain ⟨rfl, -, rfl⟩ := e
  rcases h.2 with ⟨q, z⟩ | ⟨g, cap, cur, e1, h1, h2, _⟩
  · rw [ls_len] at z
    exact ⟨0, fun q => by omega⟩
  · rw [ls_len] at e1
    simp only [Value.slice.injEq] at e1
    obtain ⟨rfl, -, rfl⟩ := e1
    refine ⟨g, fun q => ⟨rfl, h1, (Array.getElem?_eq_some_iff.1 h2).1, ⟨cur, h2⟩, fun j hj => ?_⟩⟩
    obtain ⟨g', e', _, _, b1, b2⟩ := ho j hj
    cases e'
    rw [ls_nth U hj] at b1
    exact ⟨b1, b2⟩
theorem Beside.onL {r : Nat} {w w1 w2 : World} (h : Beside r w w1) (b : Below w.heap.size w1 w2) : Beside r w w2 := by
  obtain ⟨h1, h2, h3, h4, h5⟩ := h
  exact ⟨b.os.trans h1, b.tape.trans h2, b.output.trans h3, Nat.le_trans h4 b.size, fun k hk hn => (b.block k hk).trans (h5 k hk hn)⟩
theorem PtK.low {base b n : Nat} {W : World} {v : Value} {X Y : Nat → Int} {K : Nat → Nat} {V : Nat → Nat → Int} (h : PtK base W v n X Y K V) (hb : b ≤ base) : PtK b W v n X Y K V := by
  obtain ⟨A, C, G, h1, h2⟩ := h
  refine ⟨A, C, G, ⟨h1.1, ?_⟩, fun i hi q => ?_, h2.2⟩
  · rcases h1.2 with q | ⟨g, cap, cur, e1, q, r⟩
    · exact .inl q
    · exact .inr ⟨g, cap, cur, e1, by omega, r⟩
  · obtain ⟨r1, r2, r⟩ := h2.1 i hi q
    exact ⟨r1, by omega, r⟩
open Go.ChangeShapes Go.WideShapes Go.ChangeAt Go.RowKit
set_option linter.unusedVariables false
set_option linter.unusedSimpArgs false

def PtKc (base : Nat) (W : World) (v : Value) (n : Nat) (X Y : Nat → Int) (K : Nat → Nat) (V : Nat → Nat → Int) : Prop := ∃ (A : Nat → Option Addr) (C G : Nat → Nat), W.ownsRow base 44 3 v n (ptC X Y K A C n) ∧ PtI base W n K V A G ∧ ∀ i, i < n → K i ≤ C i ∧ (A i = none → C i = 0)
theorem PtKc.same {base n : Nat} {W W' : World} {v : Value} {X Y : Nat → Int} {K : Nat → Nat} {V : Nat → Nat → Int} (h : PtKc base W v n X Y K V) (hz : W.heap.size ≤ W'.heap.size) (hs : ∀ g, base ≤ g → g < W.heap.size → W'.heap[g]? = W.heap[g]?) : PtKc base W' v n X Y K V := by
  obtain ⟨A, C, G, h1, h2, hc⟩ := h
  exact ⟨A, C, G, own_same h1 (fun g hg => hs g (World.ownsRow.lt h1 g hg).1 (World.ownsRow.lt h1 g hg).2), h2.same hz (fun g a b _ => hs g a b), hc⟩
theorem PtKc.below {base n : Nat} {W W' : World} {v : Value} {X Y : Nat → Int} {K : Nat → Nat} {V : Nat → Nat → Int} (h : PtKc base W v n X Y K V) (hb : Below W.heap.size W W') : PtKc base W' v n X Y K V := h.same hb.size fun g _ q => hb.block g q
theorem PtKc.beside {base n r : Nat} {W W' : World} {v : Value} {X Y : Nat → Int} {K : Nat → Nat} {V : Nat → Nat → Int} (h : PtKc base W v n X Y K V) (hb : Beside r W W') (hr : r < base) : PtKc base W' v n X Y K V := h.same hb.2.2.2.1 fun g q1 q => hb.2.2.2.2 g q (by omega)
theorem PtKc.nil (base : Nat) (W : World) (X Y : Nat → Int) (K : Nat → Nat) (V : Nat → Nat → Int) : PtKc base W (.slice none 0 0) 0 X Y K V := ⟨fun _ => none, fun _ => 0, fun _ => 0, World.ownsRow_nil W base 44 3, ⟨fun i hi => absurd hi (Nat.not_lt_zero _), fun i i' hi => absurd hi (Nat.not_lt_zero _)⟩, fun i hi => absurd hi (Nat.not_lt_zero _)⟩
/-- All lists within lie below H. -/
def PtBc (base H : Nat) (W : World) (v : Value) (n : Nat) (X Y : Nat → Int) (K : Nat → Nat) (V : Nat → Nat → Int) : Prop := ∃ (A : Nat → Option Addr) (C G : Nat → Nat), W.ownsRow base 44 3 v n (ptC X Y K A C n) ∧ PtI base W n K V A G ∧ (∀ i, i < n → 0 < K i → G i < H) ∧ (∀ g, v.ownBlock = some g → g < H) ∧ ∀ i, i < n → K i ≤ C i ∧ (A i = none → C i = 0)
theorem PtKc.bound {base n : Nat} {W : World} {v : Value} {X Y : Nat → Int} {K : Nat → Nat} {V : Nat → Nat → Int} (h : PtKc base W v n X Y K V) : PtBc base W.heap.size W v n X Y K V := by
  obtain ⟨A, C, G, h1, h2, hc⟩ := h
  exact ⟨A, C, G, h1, h2, fun i hi q => (h2.1 i hi q).2.2.1, fun g hg => (World.ownsRow.lt h1 g hg).2, hc⟩
theorem PtBc.same {base H n : Nat} {W W' : World} {v : Value} {X Y : Nat → Int} {K : Nat → Nat} {V : Nat → Nat → Int} (h : PtBc base H W v n X Y K V) (hz : W.heap.size ≤ W'.heap.size) (hs : ∀ g, base ≤ g → g < W.heap.size → W'.heap[g]? = W.heap[g]?) : PtBc base H W' v n X Y K V := by
  obtain ⟨A, C, G, h1, h2, h3⟩ := h
  exact ⟨A, C, G, own_same h1 (fun g hg => hs g (World.ownsRow.lt h1 g hg).1 (World.ownsRow.lt h1 g hg).2), h2.same hz (fun g a b _ => hs g a b), h3⟩
theorem PtBc.below {base H n : Nat} {W W' : World} {v : Value} {X Y : Nat → Int} {K : Nat → Nat} {V : Nat → Nat → Int} (h : PtBc base H W v n X Y K V) (hb : Below W.heap.size W W') : PtBc base H W' v n X Y K V := h.same hb.size fun g _ q => hb.block g q
theorem PtBc.beside {base H n r : Nat} {W W' : World} {v : Value} {X Y : Nat → Int} {K : Nat → Nat} {V : Nat → Nat → Int} (h : PtBc base H W v n X Y K V) (hb : Beside r W W') (hr : r < base) : PtBc base H W' v n X Y K V := h.same hb.2.2.2.1 fun g q1 q => hb.2.2.2.2 g q (by omega)
theorem PtBc.far {base H n r : Nat} {W W' : World} {v : Value} {X Y : Nat → Int} {K : Nat → Nat} {V : Nat → Nat → Int} (h : PtBc base H W v n X Y K V) (hb : Beside r W W') (hr : H ≤ r) : PtBc base H W' v n X Y K V := by
  obtain ⟨A, C, G, h1, h2, h3, h4, hc⟩ := h
  refine ⟨A, C, G, own_same h1 (fun g hg => hb.2.2.2.2 g (World.ownsRow.lt h1 g hg).2 (by have := h4 g hg; omega)), ⟨fun i hi q => ?_, h2.2⟩, h3, h4, hc⟩
  obtain ⟨r1, r2, r3, r4, r5⟩ := h2.1 i hi q
  have e := hb.2.2.2.2 (G i) r3 (by have := h3 i hi q; omega)
  exact ⟨r1, r2, Nat.lt_of_lt_of_le r3 hb.2.2.2.1, by unfold TyJ; rw [e]; exact r4, fun j hj => ⟨(World.cell?_of_block (w := W) (a := ⟨G i, j, none⟩) e).trans (r5 j hj).1, (World.frozen?_of_block (w := W) (a := ⟨G i, j, none⟩) e).trans (r5 j hj).2⟩⟩
theorem list_PermitC {ops : Array Oper} {rest : List Oper} {o : Oper} {a : Act} {Q : Exit → Act → World → Prop} {W : World} {tt : TypeId} {s0 : Option Addr} {c0 : Nat} (base H : Nat) (v : Value) (n : Nat) (X Y : Nat → Int) (K : Nat → Nat) (V : Nat → Nat → Int) (gk : Nat) (hC0 : K n ≤ c0 ∧ (s0 = none → c0 = 0)) (s z : Operand) (hgd : o.guard = none)
    (ho : o.op = .call { callee := .builtin .append, args := #[s, z], argTypes := #[34, 34] }) (hs : a.eval s = v) (hx : a.eval z = .slice (some ⟨W.heap.size, 0, none⟩) 1 1) (hown : PtBc base H W v n X Y K V)
    (hL : 0 < K n → s0 = some ⟨gk, 0, none⟩ ∧ base ≤ gk ∧ H ≤ gk ∧ gk < W.heap.size ∧ TyJ W gk ∧ ∀ j, j < K n → W.cell? ⟨gk, j, none⟩ = some (.int .i64 (V n j)) ∧ W.frozen? ⟨gk, j, none⟩ = false)
    (hk : n ≤ 100000) (hb : base ≤ W.heap.size)
    (h : ∀ g cap w', PtKc base w' (.slice (some ⟨g, 0, none⟩) (n + 1) cap) (n + 1) X Y K V → Below base W w' → wpList Try.prog ops Q rest (a.put o.dst (.slice (some ⟨g, 0, none⟩) (n + 1) cap)) w') :
    wpList Try.prog ops Q (o :: rest) a (W.alloc (.cells #[.int .i64 (X n), .int .i64 (Y n), .slice s0 (K n) c0] tt)) := by
  obtain ⟨i0, hi, hz0, hz1, hz2⟩ := info_parts info_PermitP
  obtain ⟨A, C, G, h1, h2, h3, h4, hc⟩ := hown
  refine wpList_append_lies _ hgd s z 34 ho base 44 i0 (.agg #[.int .i64 0, .int .i64 0, .slice none 0 0]) 3 40 Try.underlying34 hi hz0 hz1 hz2 rfl (by decide) v n _ hs (h1.alloc _) ⟨W.heap.size, 0, none⟩ 1 1 [.int .i64 (X n), .int .i64 (Y n), .slice s0 (K n) c0] hx rfl (newsThreeP _ _ _ _ _) ?_ (by decide) (by unfold maxLen; omega) (by omega) (by simp; omega) _ rfl ?_
  · intro u hu
    simp at hu
    rcases hu with rfl | rfl | rfl <;> rfl
  · intro g cap w' q1 q2 _ q3
    have gr := grown_new q2
    have keep : ∀ g, g < W.heap.size → TyJ W g → w'.heap[g]? = W.heap[g]? := fun g hg hc => gr.block g hg (fun e => apartP hc (ownP_ty h1 e.symm) rfl)
    refine h g cap w' ?_ (grown_below gr hb (own_block h1))
    refine ⟨fun j => if j = n then s0 else A j, fun j => if j = n then c0 else C j, fun j => if j = n then gk else G j, ?_, ⟨fun i hi' q => ?_, fun i i' hi' hi'' q q' e => ?_⟩, fun i hi' => ?_⟩
    · have e : ptC X Y K (fun j => if j = n then s0 else A j) (fun j => if j = n then c0 else C j) (n + 1) = ptC X Y K A C n ++ [.int .i64 (X n), .int .i64 (Y n), .slice s0 (K n) c0] := by
        show ptC X Y K _ _ n ++ [_, _, .slice (if n = n then s0 else A n) (K n) (if n = n then c0 else C n)] = _
        rw [if_pos rfl, if_pos rfl, ptC_same X Y K (A' := A) (C' := C) n (fun i hi => ⟨if_neg (by omega), if_neg (by omega)⟩)]
      rw [e]
      exact q1
    · show (if i = n then s0 else A i) = some ⟨(if i = n then gk else G i), 0, none⟩ ∧ base ≤ (if i = n then gk else G i) ∧ (if i = n then gk else G i) < w'.heap.size ∧ TyJ w' (if i = n then gk else G i) ∧ ∀ j, j < K i → w'.cell? ⟨(if i = n then gk else G i), j, none⟩ = some (.int .i64 (V i j)) ∧ w'.frozen? ⟨(if i = n then gk else G i), j, none⟩ = false
      by_cases e : i = n
      · subst e
        rw [if_pos rfl, if_pos rfl]
        obtain ⟨r1, r2, _, r3, r4, r5⟩ := hL q
        have ke := keep gk r3 r4
        exact ⟨r1, r2, Nat.lt_of_lt_of_le r3 gr.size, by unfold TyJ; rw [ke]; exact r4, fun j hj => ⟨(World.cell?_of_block (w := W) (a := ⟨gk, j, none⟩) ke).trans (r5 j hj).1, (World.frozen?_of_block (w := W) (a := ⟨gk, j, none⟩) ke).trans (r5 j hj).2⟩⟩
      · rw [if_neg e, if_neg e]
        obtain ⟨r1, r2, r3, r4, r5⟩ := h2.1 i (by omega) q
        have ke := keep (G i) r3 r4
        exact ⟨r1, r2, Nat.lt_of_lt_of_le r3 gr.size, by unfold TyJ; rw [ke]; exact r4, fun j hj => ⟨(World.cell?_of_block (w := W) (a := ⟨G i, j, none⟩) ke).trans (r5 j hj).1, (World.frozen?_of_block (w := W) (a := ⟨G i, j, none⟩) ke).trans (r5 j hj).2⟩⟩
    · have e' : (if i = n then gk else G i) = (if i' = n then gk else G i') := e
      by_cases e1 : i = n
      · by_cases e2 : i' = n
        · omega
        · rw [if_pos e1, if_neg e2] at e'
          subst e1
          have x1 := h3 i' (by omega) q'
          have x2 := (hL q).2.2.1
          omega
      · by_cases e2 : i' = n
        · rw [if_neg e1, if_pos e2] at e'
          subst e2
          have x1 := h3 i (by omega) q
          have x2 := (hL q').2.2.1
          omega
        · rw [if_neg e1, if_neg e2] at e'
          exact h2.2 i i' (by omega) (by omega) q q' e'
    · show K i ≤ (if i = n then c0 else C i) ∧ ((if i = n then s0 else A i) = none → (if i = n then c0 else C i) = 0)
      by_cases e : i = n
      · subst e; rw [if_pos rfl, if_pos rfl]; exact hC0
      · rw [if_neg e, if_neg e]; exact hc i (by omega)
theorem PtKc.low {base b n : Nat} {W : World} {v : Value} {X Y : Nat → Int} {K : Nat → Nat} {V : Nat → Nat → Int} (h : PtKc base W v n X Y K V) (hb : b ≤ base) : PtKc b W v n X Y K V := by
  obtain ⟨A, C, G, h1, h2, hc⟩ := h
  refine ⟨A, C, G, ⟨h1.1, ?_⟩, ⟨fun i hi q => ?_, h2.2⟩, hc⟩
  · rcases h1.2 with q | ⟨g, cap, cur, e1, q, r⟩
    · exact .inl q
    · exact .inr ⟨g, cap, cur, e1, by omega, r⟩
  · obtain ⟨r1, r2, r⟩ := h2.1 i hi q
    exact ⟨r1, by omega, r⟩
theorem owL_cap {base : Nat} {w : World} {s : Option Addr} {m c : Nat} {l : List Int} (h : OwL base w (.slice s m c) l) (hm : l.length = m) : m ≤ c ∧ (s = none → c = 0) := by
  rcases h.2 with ⟨e, q⟩ | ⟨g, cap, cur, e, _, _, hc, _⟩
  · cases e; exact ⟨Nat.le_refl _, fun _ => rfl⟩
  · simp only [Value.slice.injEq] at e
    obtain ⟨rfl, -, rfl⟩ := e
    exact ⟨by omega, fun z => by cases z⟩

open Go.ChangeShapes Go.WideShapes Go.ChangeAt Go.RowKit
set_option linter.unusedVariables false
set_option linter.unusedSimpArgs false

def LcpPostC (w : World) (n : Nat) (X Y : Nat → Int) (K : Nat → Nat) (V : Nat → Nat → Int) (e : Ending) (w' : World) : Prop := ∃ t c, e = .returned (.agg #[.slice t n c]) ∧ PtKc w.heap.size w' (.slice t n c) n X Y K V ∧ Below w.heap.size w w'
set_option maxRecDepth 20000 in
set_option maxHeartbeats 8000000 in
theorem l22CopyC_any (bs : Option Addr) (n bc : Nat) (X Y : Nat → Int) (K : Nat → Nat) (V : Nat → Nat → Int) (w : World) (hn : (n : Int) ≤ 1000) (HK : Hid (∀ i, i < n → (K i : Int) ≤ 1048576)) (HB : Hid (RowPer w bs n X Y K V)) :
    Calls Try.prog 46 #[.agg #[.slice bs n bc]] w fun e w' => LcpPostC w n X Y K V e w' := by
  go_enter Try.func46, Try.ntmps46
  go_upto_region 2 with fail
  obtain ⟨wa, hwa⟩ : ∃ z, z = w.alloc (.cells #[.slice bs n bc] 36) := ⟨_, rfl⟩
  obtain ⟨wc, hwc⟩ : ∃ z, z = wa.alloc (.cells #[.slice none 0 0] 36) := ⟨_, rfl⟩
  obtain ⟨wb, hwb⟩ : ∃ z, z = wc.alloc (.cells #[.slice none 0 0] 36) := ⟨_, rfl⟩
  have ba : Below w.heap.size w wa := by rw [hwa]; exact below0 _ _
  have bc' : Below wa.heap.size wa wc := by rw [hwc]; exact below0 _ _
  have bb : Below wc.heap.size wc wb := by rw [hwb]; exact below0 _ _
  obtain ⟨p, hp⟩ : ∃ z, z = w.heap.size := ⟨_, rfl⟩
  obtain ⟨q, hq⟩ : ∃ z, z = wa.heap.size := ⟨_, rfl⟩
  obtain ⟨u, hu⟩ : ∃ z, z = wc.heap.size := ⟨_, rfl⟩
  have sa : wa.heap.size = w.heap.size + 1 := by rw [hwa]; simp
  have sc : wc.heap.size = w.heap.size + 1 + 1 := by rw [hwc]; simp; omega
  have sb : wb.heap.size = w.heap.size + 3 := by rw [hwb]; simp; omega
  have hq1 : w.heap.size + 1 = q := by omega
  have hu1 : w.heap.size + 1 + 1 = u := by omega
  have HPc : Hid (wb.cell? ⟨p, 0, none⟩ = some (.slice bs n bc) ∧ p < wb.heap.size) := by
    refine ⟨(bb.cell (p := ⟨p, 0, none⟩) (by simp only; omega)).trans ((bc'.cell (p := ⟨p, 0, none⟩) (by simp only; omega)).trans ?_), by omega⟩
    rw [hwa, hp]; simp [go_sem]
  have HQc : Hid (wb.cell? ⟨q, 0, none⟩ = some (.slice none 0 0) ∧ (∀ o, wb.frozen? ⟨q, o, none⟩ = false) ∧ q < wb.heap.size) := by
    refine ⟨(bb.cell (p := ⟨q, 0, none⟩) (by simp only; omega)).trans ?_, fun o => (bb.frozen (p := ⟨q, o, none⟩) (by simp only; omega)).trans ?_, by omega⟩
    all_goals rw [hwc, hq]; simp [go_sem]
  have HUc : Hid (wb.cell? ⟨u, 0, none⟩ = some (.slice none 0 0) ∧ (∀ o, wb.frozen? ⟨u, o, none⟩ = false) ∧ u < wb.heap.size) := by
    refine ⟨?_, fun o => ?_, by omega⟩
    all_goals rw [hwb, hu]; simp [go_sem]
  have HBb : Hid (Below w.heap.size w wb) := ba.trans ((bc'.trans (bb.mono bc'.size)).mono ba.size)
  obtain ⟨B, hB⟩ : ∃ z, z = wb.heap.size := ⟨_, rfl⟩
  have zu : w.heap.size ≤ u ∧ u < B ∧ q < u ∧ p < q ∧ w.heap.size ≤ q ∧ w.heap.size ≤ B := by omega
  try rw [← hwa]
  try rw [← hwc]
  try rw [← hwb]
  try rw [hu1]
  try rw [hq1]
  try rw [← hu]
  try rw [← hq]
  try rw [← hp]
  have HBe : Hid (B = wb.heap.size) := hB
  clear hwa hwc hwb ba bc' bb hp hq hu sa sc sb hq1 hu1 hB
  go_wp2_with fail
  go_loopw [4] (fun i wr => ∃ (k : Nat) (tv : Option Addr) (cv : Nat), k ≤ n ∧ i = .int .i64 k ∧ Hid (wr.cell? ⟨u, 0, none⟩ = some (.slice tv k cv) ∧ (∀ o, wr.frozen? ⟨u, o, none⟩ = false) ∧ u < wr.heap.size) ∧ Hid (PtKc B wr (.slice tv k cv) k X Y K V) ∧ Hid (Beside u wb wr)) (fun i _ => n - (intOf i).toNat)
  case atStart => exact ⟨0, none, 0, Nat.zero_le _, rfl, HUc, PtKc.nil _ _ _ _ _ _, Beside.of (Below.refl _ _)⟩
  case round =>
    obtain ⟨k, tv, cv, hk, rfl, HU, HC, HW⟩ := hrel
    have hBr : B ≤ wr.heap.size := by have := HW.out.2.2.2.1; have := HBe.out; omega
    have HWw : Hid (Below w.heap.size w wr) := HBb.out.trans (HW.out.below zu.1 HBb.out.size)
    have p0 := (HW.out.cell (p := ⟨p, 0, none⟩) HPc.out.2 (by simp only; omega)).trans HPc.out.1
    have pz := Nat.lt_of_lt_of_le HPc.out.2 HW.out.2.2.2.1
    by_cases h2 : k < n
    case pos =>
      have k1 : (k : Int) < (n : Int) := by omega
      obtain ⟨g, o, a, e, rfl, hg, c0, c1, c2, ha⟩ := HB.out k h2
      replace c0 := (HWw.out.cell (p := ⟨g, o + k * 3, none⟩) hg).trans c0
      replace c1 := (HWw.out.cell (p := ⟨g, o + k * 3 + 1, none⟩) hg).trans c1
      replace c2 := (HWw.out.cell (p := ⟨g, o + k * 3 + 2, none⟩) hg).trans c2
      have zg : g < wr.heap.size := Nat.lt_of_lt_of_le hg HWw.out.size
      have HA : Hid (RowI wr a (K k) (V k)) := ha.below HWw.out
      obtain ⟨x, hx⟩ : ∃ x, X k = x := ⟨_, rfl⟩
      obtain ⟨y, hy⟩ : ∃ y, Y k = y := ⟨_, rfl⟩
      have HX : Hid (X k = x ∧ Y k = y) := ⟨hx, hy⟩
      rw [hx] at c0
      rw [hy] at c1
      clear hx hy ha
      go_upto_region 6 with fail
      obtain ⟨wv, hwv⟩ : ∃ z, z = wr.alloc (.cells #[.int .i64 x, .int .i64 y, .slice a (K k) e] 44) := ⟨_, rfl⟩
      rw [← hwv]
      have bv : Below wr.heap.size wr wv := by rw [hwv]; exact below0 _ _
      obtain ⟨v, hv⟩ : ∃ z, z = wr.heap.size := ⟨_, rfl⟩
      have sv : wv.heap.size = v + 1 := by rw [hwv, hv]; simp
      have HVc : Hid (wv.cell? ⟨v, 0, none⟩ = some (.int .i64 x) ∧ wv.cell? ⟨v, 1, none⟩ = some (.int .i64 y) ∧ wv.cell? ⟨v, 2, none⟩ = some (.slice a (K k) e) ∧ (∀ o, wv.frozen? ⟨v, o, none⟩ = false) ∧ v < wv.heap.size) := by
        rw [hwv, hv]
        exact ⟨by simp [go_sem], by simp [go_sem], by simp [go_sem], fun o => by simp [go_sem], by simp⟩
      have HAv : Hid (RowI wv a (K k) (nthI (lsOf (V k) (K k)))) := (HA.out.below bv).congr (fun j hj => (ls_nth (V k) hj).symm)
      have Hbv : Hid (Below wr.heap.size wr wv) := bv
      have hBv : B ≤ v := by omega
      have HSV : Hid (wv.heap.size = v + 1 ∧ v = wr.heap.size) := ⟨sv, hv⟩
      try rw [← hv]
      have HLL : Hid ((lsOf (V k) (K k)).length = K k) := ls_len _ _
      have hKk := HK.out k h2
      have v2 := HVc.out.2.2.1
      have vz := HVc.out.2.2.2.2
      clear hwv bv c0 c1 c2 zg HA sv hv
      go_upto_region 7 with (refine list_copyL _ a (K k) e (lsOf (V k) (K k)) (.tmp 19) (.tmp 21) (by rfl) (by rfl) (by rfl) (by rfl) (by first | rfl | simp) HLL.out (by omega) HAv.out ?_; intro s3 c3 w3 O3 b3; have HO3 : Hid (OwL wv.heap.size w3 (.slice s3 (K k) c3) (lsOf (V k) (K k))) := O3; have Hb3 : Hid (Below wv.heap.size wv w3) := b3; clear O3 b3; have e2 := (Hb3.out.cell (p := ⟨v, 2, none⟩) HVc.out.2.2.2.2).trans HVc.out.2.2.1; have f2 := (Hb3.out.frozen (p := ⟨v, 2, none⟩) HVc.out.2.2.2.2).trans (HVc.out.2.2.2.1 2); have z2 := Nat.lt_of_lt_of_le HVc.out.2.2.2.2 Hb3.out.size; have hst := store_slT)
      obtain ⟨w4, hw4⟩ : ∃ z, z = w3.setCell ⟨v, 2, none⟩ (.slice s3 (K k) c3) := ⟨_, rfl⟩
      rw [← hw4]
      have bs4 : Beside v w3 w4 := by rw [hw4]; exact Beside.setCell v _ 2 _
      have n2 : w4.cell? ⟨v, 2, none⟩ = some (.slice s3 (K k) c3) := by rw [hw4]; exact World.cell?_setCell_same' _ _ _ (by rw [e2]; rfl)
      have n0 : w4.cell? ⟨v, 0, none⟩ = some (.int .i64 x) := by
        rw [hw4, World.cell?_setCell_other _ _ _ _ (by intro z; have z_ := congrArg (fun q : Addr => q.off) z; simp only at z_; omega)]
        exact (Hb3.out.cell (p := ⟨v, 0, none⟩) HVc.out.2.2.2.2).trans HVc.out.1
      have n1 : w4.cell? ⟨v, 1, none⟩ = some (.int .i64 y) := by
        rw [hw4, World.cell?_setCell_other _ _ _ _ (by intro z; have z_ := congrArg (fun q : Addr => q.off) z; simp only at z_; omega)]
        exact (Hb3.out.cell (p := ⟨v, 1, none⟩) HVc.out.2.2.2.2).trans HVc.out.2.1
      have nz : v < w4.heap.size := Nat.lt_of_lt_of_le z2 bs4.2.2.2.1
      have Hr3 : Hid (Below wr.heap.size wr w3) := Hbv.out.trans (Hb3.out.mono Hbv.out.size)
      have HW4 : Hid (Beside u wb w4) := (HW.out.onL (Hr3.out.mono HW.out.2.2.2.1)).onL (bs4.below (by have := HBe.out; omega) (by have := HW.out.2.2.2.1; have := Hr3.out.size; omega))
      have HU4 : Hid (w4.cell? ⟨u, 0, none⟩ = some (.slice tv k cv) ∧ (∀ o, w4.frozen? ⟨u, o, none⟩ = false) ∧ u < w4.heap.size) := by
        have zu3 : u < w3.heap.size := Nat.lt_of_lt_of_le HU.out.2.2 Hr3.out.size
        exact ⟨(bs4.cell (p := ⟨u, 0, none⟩) zu3 (by simp only; omega)).trans ((Hr3.out.cell (p := ⟨u, 0, none⟩) HU.out.2.2).trans HU.out.1), fun o => (bs4.frozen (p := ⟨u, o, none⟩) zu3 (by simp only; omega)).trans ((Hr3.out.frozen (p := ⟨u, o, none⟩) HU.out.2.2).trans (HU.out.2.1 o)), Nat.lt_of_lt_of_le zu3 bs4.2.2.2.1⟩
      have HC4 : Hid (PtBc B wr.heap.size w4 (.slice tv k cv) k X Y K V) := (HC.out.bound.below Hr3.out).far bs4 (by have := HSV.out; omega)
      obtain ⟨gk, hgk⟩ := HO3.out.inner
      have HCP : Hid (K k ≤ c3 ∧ (s3 = none → c3 = 0)) := owL_cap HO3.out HLL.out
      have HGK : Hid (0 < K k → s3 = some ⟨gk, 0, none⟩ ∧ B ≤ gk ∧ wr.heap.size ≤ gk ∧ gk < w4.heap.size ∧ TyJ w4 gk ∧ ∀ j, j < K k → w4.cell? ⟨gk, j, none⟩ = some (.int .i64 (V k j)) ∧ w4.frozen? ⟨gk, j, none⟩ = false) := fun q => by
        obtain ⟨r1, r2, r3, r4, r5⟩ := hgk q
        have := HSV.out
        have ne : gk ≠ v := by omega
        have eb := bs4.2.2.2.2 gk r3 ne
        exact ⟨r1, by omega, by omega, Nat.lt_of_lt_of_le r3 bs4.2.2.2.1, by unfold TyJ; rw [eb]; exact r4, fun j hj => ⟨(bs4.cell (p := ⟨gk, j, none⟩) r3 ne).trans (r5 j hj).1, (bs4.frozen (p := ⟨gk, j, none⟩) r3 ne).trans (r5 j hj).2⟩⟩
      have u4 := HU4.out.1
      have uz4 := HU4.out.2.2
      have zB4 : B ≤ w4.heap.size := by omega
      have kl : k ≤ 1000 := by omega
      have hst := store_slT
      clear hw4 e2 f2 z2 hgk v2 vz p0 pz
      have HX2 : Hid (x = X k ∧ y = Y k) := ⟨HX.out.1.symm, HX.out.2.symm⟩
      obtain ⟨rfl, rfl⟩ := HX2.out
      go_wp2_with (at_builtin; refine list_PermitC B wr.heap.size (.slice tv k cv) k X Y K V gk HCP.out (.tmp 25) (.tmp 27) (by rfl) (by rfl) (by rfl) (by rfl) HC4.out HGK.out (by omega) zB4 ?_; intro g9 cap9 w9 l9 b9; have Hl9 : Hid (PtKc B w9 (.slice (some ⟨g9, 0, none⟩) (k + 1) cap9) (k + 1) X Y K V) := l9; have Hb9 : Hid (Below B w4 w9) := b9; clear l9 b9; have e9 := (Hb9.out.cell (p := ⟨u, 0, none⟩) zu.2.1).trans HU4.out.1; have f9 := (Hb9.out.frozen (p := ⟨u, 0, none⟩) zu.2.1).trans (HU4.out.2.1 0); have z9 := Nat.lt_of_lt_of_le HU4.out.2.2 Hb9.out.size)
      go_roundw
      case rel =>
        have bs9 : Beside u w9 (w9.setCell ⟨u, 0, none⟩ (.slice (some ⟨g9, 0, none⟩) (k + 1) cap9)) := Beside.setCell u _ 0 _
        refine ⟨k + 1, some ⟨g9, 0, none⟩, cap9, by omega, by go_num, ⟨?_, fun o => ?_, ?_⟩, Hl9.out.beside bs9 zu.2.1, ?_⟩
        · exact World.cell?_setCell_same' _ _ _ (by rw [e9]; rfl)
        · have := (Hb9.out.frozen (p := ⟨u, o, none⟩) zu.2.1).trans (HU4.out.2.1 o)
          simp [go_sem, this]
        · exact Nat.lt_of_lt_of_le z9 bs9.2.2.2.1
        · exact (HW4.out.onL (Hb9.out.mono (Nat.le_of_eq HBe.out.symm))).trans bs9
      case measure => first | (simp [intOf]; done) | (simp [intOf]; omega)
    case neg =>
      obtain rfl : k = n := by omega
      have q0 := (HW.out.cell (p := ⟨q, 0, none⟩) HQc.out.2.2 (by simp only; omega)).trans HQc.out.1
      have qf := (HW.out.frozen (p := ⟨q, 0, none⟩) HQc.out.2.2 (by simp only; omega)).trans (HQc.out.2.1 0)
      have qz := Nat.lt_of_lt_of_le HQc.out.2.2 HW.out.2.2.2.1
      have u0 := HU.out.1
      have uz := HU.out.2.2
      have hst := store_slT
      have bs' : Beside q wr (wr.setCell ⟨q, 0, none⟩ (.slice tv k cv)) := Beside.setCell q _ 0 _
      have HP : Hid (PtKc w.heap.size (wr.setCell ⟨q, 0, none⟩ (.slice tv k cv)) (.slice tv k cv) k X Y K V) := (HC.out.beside bs' (by omega)).low zu.2.2.2.2.2
      have HWn : Hid (Below w.heap.size w (wr.setCell ⟨q, 0, none⟩ (.slice tv k cv))) := HWw.out.trans (bs'.below zu.2.2.2.2.1 HWw.out.size)
      clear bs'
      go_wp2
      refine bodyPost_ret (v := .agg #[.slice tv k cv]) (by simp [results, Try.results46, go_sem, q0]) rfl ?_
      exact ⟨tv, cv, rfl, HP.out, HWn.out⟩

end Go.Proofs.Ytikcfpjfcpbfcaa
