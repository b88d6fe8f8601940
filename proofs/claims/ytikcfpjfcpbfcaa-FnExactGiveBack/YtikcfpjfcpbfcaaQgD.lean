/-
What is proved: a list of permits that a call puts together by append, the lists within lying elsewhere.
-/
import Derived.Test.YtikcfpjfcpbfcaaQgB
import Derived.Test.YtikcfpjfcpbfcaaGbJz
import Derived.Test.YtikcfpjfcpbfcaaQgA
import Derived.Test.YtikcfpjfcpbfcaaPeR
import Derived.Deep.DeepCutAuto
import Derived.Test.YtikcfpjfcpbfcaaBoS
import Derived.Test.YtikcfpjfcpbfcaaTgz
import Derived.Deep.RegionHeldLaw
namespace Go.Proofs.Ytikcfpjfcpbfcaa
set_option maxRecDepth 40000
open Go.ChangeShapes Go.WideShapes Go.ChangeAt Go.RowKit
set_option linter.unusedVariables false
set_option linter.unusedSimpArgs false

def PtS (base : Nat) (w0 W : World) (v : Value) (n : Nat) (X Y : Nat → Int) (K : Nat → Nat) (V : Nat → Nat → Int) : Prop := ∃ (A : Nat → Option Addr) (C : Nat → Nat), W.ownsRow base 44 3 v n (ptC X Y K A C n) ∧ ∀ i, i < n → RowI w0 (A i) (K i) (V i)
theorem PtS.nil (base : Nat) (w0 W : World) (X Y : Nat → Int) (K : Nat → Nat) (V : Nat → Nat → Int) : PtS base w0 W (.slice none 0 0) 0 X Y K V := ⟨fun _ => none, fun _ => 0, World.ownsRow_nil W base 44 3, fun i hi => absurd hi (Nat.not_lt_zero _)⟩
theorem PtS.same {base n : Nat} {w0 W W' : World} {v : Value} {X Y : Nat → Int} {K : Nat → Nat} {V : Nat → Nat → Int} (h : PtS base w0 W v n X Y K V) (hz : W.heap.size ≤ W'.heap.size) (hs : ∀ g, base ≤ g → g < W.heap.size → W'.heap[g]? = W.heap[g]?) : PtS base w0 W' v n X Y K V := by
  obtain ⟨A, C, h1, h2⟩ := h
  exact ⟨A, C, own_same h1 (fun g hg => hs g (World.ownsRow.lt h1 g hg).1 (World.ownsRow.lt h1 g hg).2), h2⟩
theorem PtS.below {base n : Nat} {w0 W W' : World} {v : Value} {X Y : Nat → Int} {K : Nat → Nat} {V : Nat → Nat → Int} (h : PtS base w0 W v n X Y K V) (hb : Below W.heap.size W W') : PtS base w0 W' v n X Y K V := h.same hb.size fun g _ q => hb.block g q
theorem PtS.beside {base n r : Nat} {w0 W W' : World} {v : Value} {X Y : Nat → Int} {K : Nat → Nat} {V : Nat → Nat → Int} (h : PtS base w0 W v n X Y K V) (hb : Beside r W W') (hr : r < base) : PtS base w0 W' v n X Y K V := h.same hb.2.2.2.1 fun g q1 q => hb.2.2.2.2 g q (by omega)
theorem PtS.congr {base n : Nat} {w0 W : World} {v : Value} {X Y : Nat → Int} {K : Nat → Nat} {V : Nat → Nat → Int} {X' Y' : Nat → Int} {K' : Nat → Nat} {V' : Nat → Nat → Int} (h : PtS base w0 W v n X Y K V) (e : ∀ i, i < n → X i = X' i ∧ Y i = Y' i ∧ K i = K' i ∧ ∀ j, V i j = V' i j) : PtS base w0 W v n X' Y' K' V' := by
  obtain ⟨A, C, h1, h2⟩ := h
  refine ⟨A, C, ?_, fun i hi => ?_⟩
  · have : ∀ m, m ≤ n → ptC X' Y' K' A C m = ptC X Y K A C m := by
      intro m
      induction m with
      | zero => intro _; rfl
      | succ m ih => intro hm; obtain ⟨a, b, c, _⟩ := e m (by omega); unfold ptC; rw [ih (by omega), a, b, c]
    rw [this n (Nat.le_refl _)]
    exact h1
  · obtain ⟨_, _, c, d⟩ := e i hi
    rw [← c]
    exact (h2 i hi).congr fun j _ => d j
theorem PtS.val {base n : Nat} {w0 W : World} {v : Value} {X Y : Nat → Int} {K : Nat → Nat} {V : Nat → Nat → Int} (h : PtS base w0 W v n X Y K V) : ∃ t cap, v = .slice t n cap ∧ n ≤ cap := by
  obtain ⟨A, C, h1, _⟩ := h
  rcases h1.2 with ⟨e, q⟩ | ⟨g, cap, cur, e, _, _, hc, _⟩
  · exact ⟨none, 0, by rw [e, q], by omega⟩
  · exact ⟨_, cap, e, hc⟩
theorem PtS.row {base n cap : Nat} {w0 W : World} {t : Option Addr} {X Y : Nat → Int} {K : Nat → Nat} {V : Nat → Nat → Int} (h : PtS base w0 W (.slice t n cap) n X Y K V) (hb : Below w0.heap.size w0 W) : RowPer W t n X Y K V := fun i hi => by
  obtain ⟨A, C, h1, h2⟩ := h
  have h3 := h1
  rcases h1.2 with ⟨_, q⟩ | ⟨g, cap', cur, e, _, hg, _⟩
  · omega
  · cases e
    obtain ⟨a, b, c⟩ := ptC_at X Y K A C n i hi
    have zg := (Array.getElem?_eq_some_iff.1 hg).1
    exact ⟨g, 0, A i, C i, rfl, zg, by rw [Nat.zero_add, h3.cellAt (i * 3) (by omega)]; exact a, by rw [Nat.zero_add, h3.cellAt (i * 3 + 1) (by omega)]; exact b, by rw [Nat.zero_add, h3.cellAt (i * 3 + 2) (by omega)]; exact c, (h2 i hi).below hb⟩
theorem list_PermitS {ops : Array Oper} {rest : List Oper} {o : Oper} {a : Act} {Q : Exit → Act → World → Prop} {W w0 : World} {tt : TypeId} {s0 : Option Addr} {c0 : Nat} (base : Nat) (v : Value) (n : Nat) (X Y : Nat → Int) (K : Nat → Nat) (V : Nat → Nat → Int) (s z : Operand) (hgd : o.guard = none)
    (ho : o.op = .call { callee := .builtin .append, args := #[s, z], argTypes := #[34, 34] }) (hs : a.eval s = v) (hx : a.eval z = .slice (some ⟨W.heap.size, 0, none⟩) 1 1) (hown : PtS base w0 W v n X Y K V)
    (hL : RowI w0 s0 (K n) (V n))
    (hk : n ≤ 100000) (hb : base ≤ W.heap.size)
    (h : ∀ g cap w', PtS base w0 w' (.slice (some ⟨g, 0, none⟩) (n + 1) cap) (n + 1) X Y K V → Below base W w' → wpList Try.prog ops Q rest (a.put o.dst (.slice (some ⟨g, 0, none⟩) (n + 1) cap)) w') :
    wpList Try.prog ops Q (o :: rest) a (W.alloc (.cells #[.int .i64 (X n), .int .i64 (Y n), .slice s0 (K n) c0] tt)) := by
  obtain ⟨i0, hi, hz0, hz1, hz2⟩ := info_parts info_PermitP
  obtain ⟨A, C, h1, h2⟩ := hown
  refine wpList_append_lies _ hgd s z 34 ho base 44 i0 (.agg #[.int .i64 0, .int .i64 0, .slice none 0 0]) 3 40 Try.underlying34 hi hz0 hz1 hz2 rfl (by decide) v n _ hs (h1.alloc _) ⟨W.heap.size, 0, none⟩ 1 1 [.int .i64 (X n), .int .i64 (Y n), .slice s0 (K n) c0] hx rfl (newsThreeP _ _ _ _ _) ?_ (by decide) (by unfold maxLen; omega) (by omega) (by simp; omega) _ rfl ?_
  · intro u hu
    simp at hu
    rcases hu with rfl | rfl | rfl <;> rfl
  · intro g cap w' q1 q2 _ q3
    have gr := grown_new q2
    refine h g cap w' ?_ (grown_below gr hb (own_block h1))
    refine ⟨fun j => if j = n then s0 else A j, fun j => if j = n then c0 else C j, ?_, fun i hi' => ?_⟩
    · have e : ptC X Y K (fun j => if j = n then s0 else A j) (fun j => if j = n then c0 else C j) (n + 1) = ptC X Y K A C n ++ [.int .i64 (X n), .int .i64 (Y n), .slice s0 (K n) c0] := by
        show ptC X Y K _ _ n ++ [_, _, .slice (if n = n then s0 else A n) (K n) (if n = n then c0 else C n)] = _
        rw [if_pos rfl, if_pos rfl, ptC_same X Y K (A' := A) (C' := C) n (fun i hi => ⟨if_neg (by omega), if_neg (by omega)⟩)]
      rw [e]
      exact q1
    · show RowI w0 (if i = n then s0 else A i) (K i) (V i)
      by_cases e : i = n
      · subst e; rw [if_pos rfl]; exact hL
      · rw [if_neg e]; exact h2 i (by omega)

open Go.ChangeShapes Go.WideShapes Go.ChangeAt Go.RowKit
set_option linter.unusedVariables false
set_option linter.unusedSimpArgs false

/-- What a round reads of the book that was handed over. -/
def ArgC (w : World) (gB : Nat) (bv : Value) (g o : Nat) (x y : Int) (lv : Value) : Prop := w.cell? ⟨gB, 0, none⟩ = some bv ∧ gB < w.heap.size ∧ w.cell? ⟨g, o, none⟩ = some (.int .i64 x) ∧ w.cell? ⟨g, o + 1, none⟩ = some (.int .i64 y) ∧ w.cell? ⟨g, o + 2, none⟩ = some lv ∧ g < w.heap.size
theorem ArgC.below {w w' : World} {gB g o : Nat} {bv lv : Value} {x y : Int} (h : ArgC w gB bv g o x y lv) (hb : Below w.heap.size w w') : ArgC w' gB bv g o x y lv := ⟨(hb.cell (p := ⟨gB, 0, none⟩) h.2.1).trans h.1, Nat.lt_of_lt_of_le h.2.1 hb.size, (hb.cell (p := ⟨g, o, none⟩) h.2.2.2.2.2).trans h.2.2.1, (hb.cell (p := ⟨g, o + 1, none⟩) h.2.2.2.2.2).trans h.2.2.2.1, (hb.cell (p := ⟨g, o + 2, none⟩) h.2.2.2.2.2).trans h.2.2.2.2.1, Nat.lt_of_lt_of_le h.2.2.2.2.2 hb.size⟩
theorem ArgC.belowB {w w' : World} {gB g o B : Nat} {bv lv : Value} {x y : Int} (h : ArgC w gB bv g o x y lv) (hb : Below B w w') (h1 : gB < B) (h2 : g < B) : ArgC w' gB bv g o x y lv := ⟨(hb.cell (p := ⟨gB, 0, none⟩) h1).trans h.1, Nat.lt_of_lt_of_le h.2.1 hb.size, (hb.cell (p := ⟨g, o, none⟩) h2).trans h.2.2.1, (hb.cell (p := ⟨g, o + 1, none⟩) h2).trans h.2.2.2.1, (hb.cell (p := ⟨g, o + 2, none⟩) h2).trans h.2.2.2.2.1, Nat.lt_of_lt_of_le h.2.2.2.2.2 hb.size⟩
theorem ArgC.beside {w w' : World} {gB g o r : Nat} {bv lv : Value} {x y : Int} (h : ArgC w gB bv g o x y lv) (hb : Beside r w w') (h1 : gB ≠ r) (h2 : g ≠ r) : ArgC w' gB bv g o x y lv := ⟨(hb.cell (p := ⟨gB, 0, none⟩) h.2.1 h1).trans h.1, Nat.lt_of_lt_of_le h.2.1 hb.2.2.2.1, (hb.cell (p := ⟨g, o, none⟩) h.2.2.2.2.2 h2).trans h.2.2.1, (hb.cell (p := ⟨g, o + 1, none⟩) h.2.2.2.2.2 h2).trans h.2.2.2.1, (hb.cell (p := ⟨g, o + 2, none⟩) h.2.2.2.2.2 h2).trans h.2.2.2.2.1, Nat.lt_of_lt_of_le h.2.2.2.2.2 hb.2.2.2.1⟩
theorem OwL.typed {base : Nat} {W W' : World} {v : Value} {l : List Int} (h : OwL base W v l) (hs : ∀ g, g < W.heap.size → TyJ W g → W'.heap[g]? = W.heap[g]?) : OwL base W' v l := by
  refine own_same h fun g hg => hs g (World.ownsRow.lt h g hg).2 ?_
  rcases h.2 with ⟨q, _⟩ | ⟨g', cap, cur, e, _, hg', _⟩
  · rw [q] at hg; cases hg
  · rw [e] at hg; cases hg; exact ⟨cur, hg'⟩
theorem OwL.besideL {base r : Nat} {W W' : World} {v : Value} {l : List Int} (h : OwL base W v l) (hb : Beside r W W') (hr : r < base) : OwL base W' v l := own_same h fun g hg => hb.2.2.2.2 g (World.ownsRow.lt h g hg).2 (by have := (World.ownsRow.lt h g hg).1; omega)
theorem cells_threeP {W : World} {lb : Nat} {a b c : Value} (h0 : W.cell? ⟨lb, 0, none⟩ = some a) (h1 : W.cell? ⟨lb, 1, none⟩ = some b) (h2 : W.cell? ⟨lb, 2, none⟩ = some c) : ∀ j u, [a, b, c][j]? = some u → W.cell? ((⟨lb, 0, none⟩ : Addr).add j) = some u := by
  intro j u hu
  rw [Addr.add_lit, Nat.zero_add]
  match j, hu with
  | 0, hu => cases hu; exact h0
  | 1, hu => cases hu; exact h1
  | 2, hu => cases hu; exact h2
theorem wp_PermitS {o : Oper} {a : Act} {KK : Act → World → Prop} {Q : Exit → Act → World → Prop} {W w0 : World} {s0 : Option Addr} {c0 kk : Nat} {x y : Int} (base : Nat) (v : Value) (n : Nat) (X Y : Nat → Int) (K : Nat → Nat) (V : Nat → Nat → Int) (s z : Operand)
    (ho : o.op = .call { callee := .builtin .append, args := #[s, z], argTypes := #[34, 34] }) (hs : a.eval s = v) (lb : Nat) (hx : a.eval z = .slice (some ⟨lb, 0, none⟩) 1 1) (hown : PtS base w0 W v n X Y K V)
    (h0 : W.cell? ⟨lb, 0, none⟩ = some (.int .i64 x)) (h1 : W.cell? ⟨lb, 1, none⟩ = some (.int .i64 y)) (h2 : W.cell? ⟨lb, 2, none⟩ = some (.slice s0 kk c0))
    (hX : X n = x) (hY : Y n = y) (hK : K n = kk) (hL : RowI w0 s0 kk (V n))
    (hk : n ≤ 100000) (hb : base ≤ W.heap.size)
    (h : ∀ g cap w', PtS base w0 w' (.slice (some ⟨g, 0, none⟩) (n + 1) cap) (n + 1) X Y K V → Below base W w' → (∀ g, g < W.heap.size → TyJ W g → w'.heap[g]? = W.heap[g]?) → KK (a.put o.dst (.slice (some ⟨g, 0, none⟩) (n + 1) cap)) w') : o.wp Try.prog a W KK Q := by
  subst hX hY hK
  obtain ⟨i0, hi, hz0, hz1, hz2⟩ := info_parts info_PermitP
  obtain ⟨A, C, g1, g2⟩ := hown
  refine wp_append_lies _ s z 34 ho base 44 i0 (.agg #[.int .i64 0, .int .i64 0, .slice none 0 0]) 3 40 Try.underlying34 hi hz0 hz1 hz2 rfl (by decide) v n _ hs g1 ⟨lb, 0, none⟩ 1 1 [.int .i64 (X n), .int .i64 (Y n), .slice s0 (K n) c0] hx rfl (cells_threeP h0 h1 h2) ?_ (by decide) (by unfold maxLen; omega) (by omega) hb _ rfl ?_
  · intro u hu
    simp at hu
    rcases hu with rfl | rfl | rfl <;> rfl
  · intro g cap w' q1 q2 _ q3
    refine h g cap w' ?_ (grown_below q2 hb (own_block g1)) (fun g hg hc => q2.block g hg (fun e => apartP hc (ownP_ty g1 e.symm) rfl))
    refine ⟨fun j => if j = n then s0 else A j, fun j => if j = n then c0 else C j, ?_, fun i hi' => ?_⟩
    · have e : ptC X Y K (fun j => if j = n then s0 else A j) (fun j => if j = n then c0 else C j) (n + 1) = ptC X Y K A C n ++ [.int .i64 (X n), .int .i64 (Y n), .slice s0 (K n) c0] := by
        show ptC X Y K _ _ n ++ [_, _, .slice (if n = n then s0 else A n) (K n) (if n = n then c0 else C n)] = _
        rw [if_pos rfl, if_pos rfl, ptC_same X Y K (A' := A) (C' := C) n (fun i hi => ⟨if_neg (by omega), if_neg (by omega)⟩)]
      rw [e]
      exact q1
    · show RowI w0 (if i = n then s0 else A i) (K i) (V i)
      by_cases e : i = n
      · subst e; rw [if_pos rfl]; exact hL
      · rw [if_neg e]; exact g2 i (by omega)
/-- A list copied whole to an empty literal that lies somewhere. -/
theorem list_freeL {ops : Array Oper} {rest : List Oper} {o : Oper} {a : Act} {Q : Exit → Act → World → Prop} {W : World} (base gF : Nat) (sx : Option Addr) (n c : Nat) (X : List Int) (s z : Operand) (hgd : o.guard = none)
    (ho : o.op = .call { callee := .builtin .append, args := #[s, z], argTypes := #[23, 23] }) (hs : a.eval s = .slice (some ⟨gF, 0, none⟩) 0 0) (hx : a.eval z = .slice sx n c) (hXn : X.length = n) (hn : n ≤ 1048576) (hb : base ≤ W.heap.size) (hown : OwL base W (.slice (some ⟨gF, 0, none⟩) 0 0) []) (R : RowI W sx n (nthI X))
    (h : ∀ s' cap w', OwL base w' (.slice s' n cap) X → Beside gF W w' → wpList Try.prog ops Q rest (a.put o.dst (.slice s' n cap)) w') :
    wpList Try.prog ops Q (o :: rest) a W := by
  subst hXn
  obtain ⟨i0, hi, hz0, hz1, hz2⟩ := info_parts info_i64
  have hrun : ∃ s' cap w', (Builtin.append_ #[23, 23] o.type #[.slice (some ⟨gF, 0, none⟩) 0 0, .slice sx X.length c]).run Try.prog W = .ok (.slice s' X.length cap) w' ∧ OwL base w' (.slice s' X.length cap) X ∧ Beside gF W w' := by
    cases sx with
    | some ad =>
      obtain ⟨v', w', h1, h2, h3, _⟩ := run_append_own (P := Try.prog) (w := W) base 23 o.type 2 i0 (.int .i64 0) 1 8 Try.underlying23 hi hz0 hz1 hz2 rfl (by decide) (.slice (some ⟨gF, 0, none⟩) 0 0) 0 [] hown ad X.length c (vals (nthI X) X.length) (by rw [vals_length, Nat.mul_one]) (row_addF R) (by
        intro u hu
        simp only [vals, List.mem_map] at hu
        obtain ⟨j, _, rfl⟩ := hu
        rfl) (by unfold maxLen; omega) (by omega) hb
      rw [Nat.zero_add, List.nil_append, vals_nth] at h2
      have h2' : OwL base w' v' X := h2
      obtain ⟨s', cap, e, _⟩ := h2'.own
      subst e
      exact ⟨s', cap, w', h1, h2, h3.os, h3.tape, h3.output, h3.size, fun k hk hne => h3.block k hk (fun e => hne (by cases e; rfl))⟩
    | none =>
      have e : X.length = 0 := by
        rcases Nat.eq_zero_or_pos X.length with q | q
        · exact q
        · obtain ⟨b, o, e, _⟩ := R 0 (by omega)
          cases e
      have e2 : X = [] := List.length_eq_zero_iff.1 e
      subst e2
      exact ⟨_, _, _, run_append_noneF (P := Try.prog) (w := W) base 23 o.type 2 i0 1 Try.underlying23 hi _ 0 c _ hown, hown, Beside.of (Below.refl _ _)⟩
  obtain ⟨s', cap, w', h1, h2, h3⟩ := hrun
  refine wpList_plain hgd fun K hK => ?_
  unfold Oper.wp
  simp [execOp, ho, resolve, invoke, builtin, hs, hx, h1, Result.andThen]
  exact hK _ _ (h s' cap w' h2 h3)
theorem freL_int {V T : Nat → Int} {k : Nat} : (freL V T k).length ≤ k := fre_len V T k

open Go.ChangeShapes Go.WideShapes Go.ChangeAt Go.RowKit
set_option linter.unusedVariables false
set_option linter.unusedSimpArgs false

theorem OwL.inner {B : Nat} {w : World} {s : Option Addr} {k c : Nat} {U : Nat → Int} (h : OwL B w (.slice s k c) (lsOf U k)) : ∃ g, 0 < k → s = some ⟨g, 0, none⟩ ∧ B ≤ g ∧ g < w.heap.size ∧ TyJ w g ∧ ∀ j, j < k → w.cell? ⟨g, j, none⟩ = some (.int .i64 (U j)) ∧ w.frozen? ⟨g, j, none⟩ = false := by
  obtain ⟨s', c', e, ho⟩ := h.own
  rw [ls_len] at e ho
  simp only [Value.slice.injEq] at e
  obtain ⟨rfl, -, rfl⟩ := e
  rcases h.2 with ⟨q, z⟩ | ⟨g, cap, cur, e1, h1, h2, _⟩
  · rw [ls_len] at z
    exact ⟨0, fun q => by omega⟩
  · rw [ls_len] at e1
    simp only [Value.slice.injEq] at e1
    obtain ⟨rfl, -, rfl⟩ := e1
    refine ⟨g, fun q => ⟨rfl, h1, (Array.getElem?_eq_some_iff.1 h2).1, ⟨cur, h2⟩, fun j hj => ?_⟩⟩
    obtain ⟨g', e', _, _, b1, b2⟩ := ho j hj
    cases e'
    rw [ls_nth U hj] at b1
    exact ⟨b1, b2⟩
theorem Beside.onL {r : Nat} {w w1 w2 : World} (h : Beside r w w1) (b : Below w.heap.size w1 w2) : Beside r w w2 := by
  obtain ⟨h1, h2, h3, h4, h5⟩ := h
  exact ⟨b.os.trans h1, b.tape.trans h2, b.output.trans h3, Nat.le_trans h4 b.size, fun k hk hn => (b.block k hk).trans (h5 k hk hn)⟩
def LcpPost (w : World) (n : Nat) (X Y : Nat → Int) (K : Nat → Nat) (V : Nat → Nat → Int) (e : Ending) (w' : World) : Prop := ∃ t c, e = .returned (.agg #[.slice t n c]) ∧ PtK w.heap.size w' (.slice t n c) n X Y K V ∧ Below w.heap.size w w'
theorem PtK.low {base b n : Nat} {W : World} {v : Value} {X Y : Nat → Int} {K : Nat → Nat} {V : Nat → Nat → Int} (h : PtK base W v n X Y K V) (hb : b ≤ base) : PtK b W v n X Y K V := by
  obtain ⟨A, C, G, h1, h2⟩ := h
  refine ⟨A, C, G, ⟨h1.1, ?_⟩, fun i hi q => ?_, h2.2⟩
  · rcases h1.2 with q | ⟨g, cap, cur, e1, q, r⟩
    · exact .inl q
    · exact .inr ⟨g, cap, cur, e1, by omega, r⟩
  · obtain ⟨r1, r2, r⟩ := h2.1 i hi q
    exact ⟨r1, by omega, r⟩
set_option maxRecDepth 20000 in
set_option maxHeartbeats 8000000 in
theorem l22Copy_any (bs : Option Addr) (n bc : Nat) (X Y : Nat → Int) (K : Nat → Nat) (V : Nat → Nat → Int) (w : World) (hn : (n : Int) ≤ 1000) (HK : Hid (∀ i, i < n → (K i : Int) ≤ 1048576)) (HB : Hid (RowPer w bs n X Y K V)) :
    Calls Try.prog 46 #[.agg #[.slice bs n bc]] w fun e w' => LcpPost w n X Y K V e w' := by
  go_enter Try.func46, Try.ntmps46
  go_upto_region 2 with fail
  obtain ⟨wa, hwa⟩ : ∃ z, z = w.alloc (.cells #[.slice bs n bc] 36) := ⟨_, rfl⟩
  obtain ⟨wc, hwc⟩ : ∃ z, z = wa.alloc (.cells #[.slice none 0 0] 36) := ⟨_, rfl⟩
  obtain ⟨wb, hwb⟩ : ∃ z, z = wc.alloc (.cells #[.slice none 0 0] 36) := ⟨_, rfl⟩
  have ba : Below w.heap.size w wa := by rw [hwa]; exact below0 _ _
  have bc' : Below wa.heap.size wa wc := by rw [hwc]; exact below0 _ _
  have bb : Below wc.heap.size wc wb := by rw [hwb]; exact below0 _ _
  obtain ⟨p, hp⟩ : ∃ z, z = w.heap.size := ⟨_, rfl⟩
  obtain ⟨q, hq⟩ : ∃ z, z = wa.heap.size := ⟨_, rfl⟩
  obtain ⟨u, hu⟩ : ∃ z, z = wc.heap.size := ⟨_, rfl⟩
  have sa : wa.heap.size = w.heap.size + 1 := by rw [hwa]; simp
  have sc : wc.heap.size = w.heap.size + 1 + 1 := by rw [hwc]; simp; omega
  have sb : wb.heap.size = w.heap.size + 3 := by rw [hwb]; simp; omega
  have hq1 : w.heap.size + 1 = q := by omega
  have hu1 : w.heap.size + 1 + 1 = u := by omega
  have HPc : Hid (wb.cell? ⟨p, 0, none⟩ = some (.slice bs n bc) ∧ p < wb.heap.size) := by
    refine ⟨(bb.cell (p := ⟨p, 0, none⟩) (by simp only; omega)).trans ((bc'.cell (p := ⟨p, 0, none⟩) (by simp only; omega)).trans ?_), by omega⟩
    rw [hwa, hp]; simp [go_sem]
  have HQc : Hid (wb.cell? ⟨q, 0, none⟩ = some (.slice none 0 0) ∧ (∀ o, wb.frozen? ⟨q, o, none⟩ = false) ∧ q < wb.heap.size) := by
    refine ⟨(bb.cell (p := ⟨q, 0, none⟩) (by simp only; omega)).trans ?_, fun o => (bb.frozen (p := ⟨q, o, none⟩) (by simp only; omega)).trans ?_, by omega⟩
    all_goals rw [hwc, hq]; simp [go_sem]
  have HUc : Hid (wb.cell? ⟨u, 0, none⟩ = some (.slice none 0 0) ∧ (∀ o, wb.frozen? ⟨u, o, none⟩ = false) ∧ u < wb.heap.size) := by
    refine ⟨?_, fun o => ?_, by omega⟩
    all_goals rw [hwb, hu]; simp [go_sem]
  have HBb : Hid (Below w.heap.size w wb) := ba.trans ((bc'.trans (bb.mono bc'.size)).mono ba.size)
  obtain ⟨B, hB⟩ : ∃ z, z = wb.heap.size := ⟨_, rfl⟩
  have zu : w.heap.size ≤ u ∧ u < B ∧ q < u ∧ p < q ∧ w.heap.size ≤ q ∧ w.heap.size ≤ B := by omega
  try rw [← hwa]
  try rw [← hwc]
  try rw [← hwb]
  try rw [hu1]
  try rw [hq1]
  try rw [← hu]
  try rw [← hq]
  try rw [← hp]
  have HBe : Hid (B = wb.heap.size) := hB
  clear hwa hwc hwb ba bc' bb hp hq hu sa sc sb hq1 hu1 hB
  go_wp2_with fail
  go_loopw [4] (fun i wr => ∃ (k : Nat) (tv : Option Addr) (cv : Nat), k ≤ n ∧ i = .int .i64 k ∧ Hid (wr.cell? ⟨u, 0, none⟩ = some (.slice tv k cv) ∧ (∀ o, wr.frozen? ⟨u, o, none⟩ = false) ∧ u < wr.heap.size) ∧ Hid (PtK B wr (.slice tv k cv) k X Y K V) ∧ Hid (Beside u wb wr)) (fun i _ => n - (intOf i).toNat)
  case atStart => exact ⟨0, none, 0, Nat.zero_le _, rfl, HUc, PtK.nil _ _ _ _ _ _, Beside.of (Below.refl _ _)⟩
  case round =>
    obtain ⟨k, tv, cv, hk, rfl, HU, HC, HW⟩ := hrel
    have hBr : B ≤ wr.heap.size := by have := HW.out.2.2.2.1; have := HBe.out; omega
    have HWw : Hid (Below w.heap.size w wr) := HBb.out.trans (HW.out.below zu.1 HBb.out.size)
    have p0 := (HW.out.cell (p := ⟨p, 0, none⟩) HPc.out.2 (by simp only; omega)).trans HPc.out.1
    have pz := Nat.lt_of_lt_of_le HPc.out.2 HW.out.2.2.2.1
    by_cases h2 : k < n
    case pos =>
      have k1 : (k : Int) < (n : Int) := by omega
      obtain ⟨g, o, a, e, rfl, hg, c0, c1, c2, ha⟩ := HB.out k h2
      replace c0 := (HWw.out.cell (p := ⟨g, o + k * 3, none⟩) hg).trans c0
      replace c1 := (HWw.out.cell (p := ⟨g, o + k * 3 + 1, none⟩) hg).trans c1
      replace c2 := (HWw.out.cell (p := ⟨g, o + k * 3 + 2, none⟩) hg).trans c2
      have zg : g < wr.heap.size := Nat.lt_of_lt_of_le hg HWw.out.size
      have HA : Hid (RowI wr a (K k) (V k)) := ha.below HWw.out
      obtain ⟨x, hx⟩ : ∃ x, X k = x := ⟨_, rfl⟩
      obtain ⟨y, hy⟩ : ∃ y, Y k = y := ⟨_, rfl⟩
      have HX : Hid (X k = x ∧ Y k = y) := ⟨hx, hy⟩
      rw [hx] at c0
      rw [hy] at c1
      clear hx hy ha
      go_upto_region 6 with fail
      obtain ⟨wv, hwv⟩ : ∃ z, z = wr.alloc (.cells #[.int .i64 x, .int .i64 y, .slice a (K k) e] 44) := ⟨_, rfl⟩
      rw [← hwv]
      have bv : Below wr.heap.size wr wv := by rw [hwv]; exact below0 _ _
      obtain ⟨v, hv⟩ : ∃ z, z = wr.heap.size := ⟨_, rfl⟩
      have sv : wv.heap.size = v + 1 := by rw [hwv, hv]; simp
      have HVc : Hid (wv.cell? ⟨v, 0, none⟩ = some (.int .i64 x) ∧ wv.cell? ⟨v, 1, none⟩ = some (.int .i64 y) ∧ wv.cell? ⟨v, 2, none⟩ = some (.slice a (K k) e) ∧ (∀ o, wv.frozen? ⟨v, o, none⟩ = false) ∧ v < wv.heap.size) := by
        rw [hwv, hv]
        exact ⟨by simp [go_sem], by simp [go_sem], by simp [go_sem], fun o => by simp [go_sem], by simp⟩
      have HAv : Hid (RowI wv a (K k) (nthI (lsOf (V k) (K k)))) := (HA.out.below bv).congr (fun j hj => (ls_nth (V k) hj).symm)
      have Hbv : Hid (Below wr.heap.size wr wv) := bv
      have hBv : B ≤ v := by omega
      have HSV : Hid (wv.heap.size = v + 1 ∧ v = wr.heap.size) := ⟨sv, hv⟩
      try rw [← hv]
      have HLL : Hid ((lsOf (V k) (K k)).length = K k) := ls_len _ _
      have hKk := HK.out k h2
      have v2 := HVc.out.2.2.1
      have vz := HVc.out.2.2.2.2
      clear hwv bv c0 c1 c2 zg HA sv hv
      go_upto_region 7 with (refine list_copyL _ a (K k) e (lsOf (V k) (K k)) (.tmp 19) (.tmp 21) (by rfl) (by rfl) (by rfl) (by rfl) (by first | rfl | simp) HLL.out (by omega) HAv.out ?_; intro s3 c3 w3 O3 b3; have HO3 : Hid (OwL wv.heap.size w3 (.slice s3 (K k) c3) (lsOf (V k) (K k))) := O3; have Hb3 : Hid (Below wv.heap.size wv w3) := b3; clear O3 b3; have e2 := (Hb3.out.cell (p := ⟨v, 2, none⟩) HVc.out.2.2.2.2).trans HVc.out.2.2.1; have f2 := (Hb3.out.frozen (p := ⟨v, 2, none⟩) HVc.out.2.2.2.2).trans (HVc.out.2.2.2.1 2); have z2 := Nat.lt_of_lt_of_le HVc.out.2.2.2.2 Hb3.out.size; have hst := store_slT)
      obtain ⟨w4, hw4⟩ : ∃ z, z = w3.setCell ⟨v, 2, none⟩ (.slice s3 (K k) c3) := ⟨_, rfl⟩
      rw [← hw4]
      have bs4 : Beside v w3 w4 := by rw [hw4]; exact Beside.setCell v _ 2 _
      have n2 : w4.cell? ⟨v, 2, none⟩ = some (.slice s3 (K k) c3) := by rw [hw4]; exact World.cell?_setCell_same' _ _ _ (by rw [e2]; rfl)
      have n0 : w4.cell? ⟨v, 0, none⟩ = some (.int .i64 x) := by
        rw [hw4, World.cell?_setCell_other _ _ _ _ (by intro z; have z_ := congrArg (fun q : Addr => q.off) z; simp only at z_; omega)]
        exact (Hb3.out.cell (p := ⟨v, 0, none⟩) HVc.out.2.2.2.2).trans HVc.out.1
      have n1 : w4.cell? ⟨v, 1, none⟩ = some (.int .i64 y) := by
        rw [hw4, World.cell?_setCell_other _ _ _ _ (by intro z; have z_ := congrArg (fun q : Addr => q.off) z; simp only at z_; omega)]
        exact (Hb3.out.cell (p := ⟨v, 1, none⟩) HVc.out.2.2.2.2).trans HVc.out.2.1
      have nz : v < w4.heap.size := Nat.lt_of_lt_of_le z2 bs4.2.2.2.1
      have Hr3 : Hid (Below wr.heap.size wr w3) := Hbv.out.trans (Hb3.out.mono Hbv.out.size)
      have HW4 : Hid (Beside u wb w4) := (HW.out.onL (Hr3.out.mono HW.out.2.2.2.1)).onL (bs4.below (by have := HBe.out; omega) (by have := HW.out.2.2.2.1; have := Hr3.out.size; omega))
      have HU4 : Hid (w4.cell? ⟨u, 0, none⟩ = some (.slice tv k cv) ∧ (∀ o, w4.frozen? ⟨u, o, none⟩ = false) ∧ u < w4.heap.size) := by
        have zu3 : u < w3.heap.size := Nat.lt_of_lt_of_le HU.out.2.2 Hr3.out.size
        exact ⟨(bs4.cell (p := ⟨u, 0, none⟩) zu3 (by simp only; omega)).trans ((Hr3.out.cell (p := ⟨u, 0, none⟩) HU.out.2.2).trans HU.out.1), fun o => (bs4.frozen (p := ⟨u, o, none⟩) zu3 (by simp only; omega)).trans ((Hr3.out.frozen (p := ⟨u, o, none⟩) HU.out.2.2).trans (HU.out.2.1 o)), Nat.lt_of_lt_of_le zu3 bs4.2.2.2.1⟩
      have HC4 : Hid (PtB B wr.heap.size w4 (.slice tv k cv) k X Y K V) := (HC.out.bound.below Hr3.out).far bs4 (by have := HSV.out; omega)
      obtain ⟨gk, hgk⟩ := HO3.out.inner
      have HGK : Hid (0 < K k → s3 = some ⟨gk, 0, none⟩ ∧ B ≤ gk ∧ wr.heap.size ≤ gk ∧ gk < w4.heap.size ∧ TyJ w4 gk ∧ ∀ j, j < K k → w4.cell? ⟨gk, j, none⟩ = some (.int .i64 (V k j)) ∧ w4.frozen? ⟨gk, j, none⟩ = false) := fun q => by
        obtain ⟨r1, r2, r3, r4, r5⟩ := hgk q
        have := HSV.out
        have ne : gk ≠ v := by omega
        have eb := bs4.2.2.2.2 gk r3 ne
        exact ⟨r1, by omega, by omega, Nat.lt_of_lt_of_le r3 bs4.2.2.2.1, by unfold TyJ; rw [eb]; exact r4, fun j hj => ⟨(bs4.cell (p := ⟨gk, j, none⟩) r3 ne).trans (r5 j hj).1, (bs4.frozen (p := ⟨gk, j, none⟩) r3 ne).trans (r5 j hj).2⟩⟩
      have u4 := HU4.out.1
      have uz4 := HU4.out.2.2
      have zB4 : B ≤ w4.heap.size := by omega
      have kl : k ≤ 1000 := by omega
      have hst := store_slT
      clear hw4 e2 f2 z2 hgk v2 vz p0 pz
      have HX2 : Hid (x = X k ∧ y = Y k) := ⟨HX.out.1.symm, HX.out.2.symm⟩
      obtain ⟨rfl, rfl⟩ := HX2.out
      go_wp2_with (at_builtin; refine list_Permit B wr.heap.size (.slice tv k cv) k X Y K V gk (.tmp 25) (.tmp 27) (by rfl) (by rfl) (by rfl) (by rfl) HC4.out HGK.out (by omega) zB4 ?_; intro g9 cap9 w9 l9 b9; have Hl9 : Hid (PtK B w9 (.slice (some ⟨g9, 0, none⟩) (k + 1) cap9) (k + 1) X Y K V) := l9; have Hb9 : Hid (Below B w4 w9) := b9; clear l9 b9; have e9 := (Hb9.out.cell (p := ⟨u, 0, none⟩) zu.2.1).trans HU4.out.1; have f9 := (Hb9.out.frozen (p := ⟨u, 0, none⟩) zu.2.1).trans (HU4.out.2.1 0); have z9 := Nat.lt_of_lt_of_le HU4.out.2.2 Hb9.out.size)
      go_roundw
      case rel =>
        have bs9 : Beside u w9 (w9.setCell ⟨u, 0, none⟩ (.slice (some ⟨g9, 0, none⟩) (k + 1) cap9)) := Beside.setCell u _ 0 _
        refine ⟨k + 1, some ⟨g9, 0, none⟩, cap9, by omega, by go_num, ⟨?_, fun o => ?_, ?_⟩, Hl9.out.beside bs9 zu.2.1, ?_⟩
        · exact World.cell?_setCell_same' _ _ _ (by rw [e9]; rfl)
        · have := (Hb9.out.frozen (p := ⟨u, o, none⟩) zu.2.1).trans (HU4.out.2.1 o)
          simp [go_sem, this]
        · exact Nat.lt_of_lt_of_le z9 bs9.2.2.2.1
        · exact (HW4.out.onL (Hb9.out.mono (Nat.le_of_eq HBe.out.symm))).trans bs9
      case measure => first | (simp [intOf]; done) | (simp [intOf]; omega)
    case neg =>
      obtain rfl : k = n := by omega
      have q0 := (HW.out.cell (p := ⟨q, 0, none⟩) HQc.out.2.2 (by simp only; omega)).trans HQc.out.1
      have qf := (HW.out.frozen (p := ⟨q, 0, none⟩) HQc.out.2.2 (by simp only; omega)).trans (HQc.out.2.1 0)
      have qz := Nat.lt_of_lt_of_le HQc.out.2.2 HW.out.2.2.2.1
      have u0 := HU.out.1
      have uz := HU.out.2.2
      have hst := store_slT
      have bs' : Beside q wr (wr.setCell ⟨q, 0, none⟩ (.slice tv k cv)) := Beside.setCell q _ 0 _
      have HP : Hid (PtK w.heap.size (wr.setCell ⟨q, 0, none⟩ (.slice tv k cv)) (.slice tv k cv) k X Y K V) := (HC.out.beside bs' (by omega)).low zu.2.2.2.2.2
      have HWn : Hid (Below w.heap.size w (wr.setCell ⟨q, 0, none⟩ (.slice tv k cv))) := HWw.out.trans (bs'.below zu.2.2.2.2.1 HWw.out.size)
      clear bs'
      go_wp2
      refine bodyPost_ret (v := .agg #[.slice tv k cv]) (by simp [results, Try.results46, go_sem, q0]) rfl ?_
      exact ⟨tv, cv, rfl, HP.out, HWn.out⟩

open Go.ChangeShapes Go.WideShapes Go.ChangeAt Go.RowKit
set_option linter.unusedVariables false
set_option linter.unusedSimpArgs false

def frL (q k : Nat) (V : Nat → Nat → Int) (K : Nat → Nat) : List Int := if k ≤ q then [] else lsOf (V q) (K q)
set_option maxRecDepth 20000 in
set_option maxHeartbeats 8000000 in
theorem specGiveBack_any (p : Int) (s : Option Addr) (n c : Nat) (D : Nat → Int × Int) (t : Option Addr) (m d : Nat) (S : Nat → Int) (bs : Option Addr) (nb bc : Nat) (X Y : Nat → Int) (K : Nat → Nat) (V : Nat → Nat → Int) (id : Int) (q : Nat) (w : World) (hn : (n : Int) ≤ 1048576) (hm : (m : Int) ≤ 1048576) (HD : Hid (RowDuct w s n D)) (HS : Hid (RowI w t m S)) (hb : (nb : Int) ≤ 1048576) (hK : Hid (∀ i, i < nb → (K i : Int) ≤ 1048576)) (HB : Hid (RowPer w bs nb X Y K V)) (HQ : Hid (bokB p n D m S nb X Y K V = true → HitAt nb X id q)) :
    Calls Try.prog 24 #[.agg #[.int .i64 p, .slice s n c, .slice t m d], .agg #[.slice bs nb bc], .int .i64 id] w fun e w' => GbAns p n D m S nb X Y K V q w e w' := by
  go_enter Try.func24, Try.ntmps24
  go_upto_region 1 with fail
  obtain ⟨wa, hwa⟩ : ∃ z, z = w.alloc (.cells #[.int .i64 p, .slice s n c, .slice t m d] 41) := ⟨_, rfl⟩
  obtain ⟨wb, hwb⟩ : ∃ z, z = wa.alloc (.cells #[.slice bs nb bc] 36) := ⟨_, rfl⟩
  obtain ⟨wd, hwd⟩ : ∃ z, z = wb.alloc (.cells #[.slice none 0 0] 36) := ⟨_, rfl⟩
  have ba : Below w.heap.size w wa := by rw [hwa]; exact below0 _ _
  have bb : Below wa.heap.size wa wb := by rw [hwb]; exact below0 _ _
  have bd : Below wb.heap.size wb wd := by rw [hwd]; exact below0 _ _
  obtain ⟨gN, hgN⟩ : ∃ z, z = w.heap.size := ⟨_, rfl⟩
  obtain ⟨gB, hgB⟩ : ∃ z, z = wa.heap.size := ⟨_, rfl⟩
  obtain ⟨gU, hgU⟩ : ∃ z, z = wb.heap.size := ⟨_, rfl⟩
  have sa : wa.heap.size = w.heap.size + 1 := by rw [hwa]; simp
  have sb : wb.heap.size = w.heap.size + 1 + 1 := by rw [hwb]; simp; omega
  have sd : wd.heap.size = w.heap.size + 3 := by rw [hwd]; simp; omega
  have hgB1 : w.heap.size + 1 = gB := by omega
  have hgU1 : w.heap.size + 1 + 1 = gU := by omega
  have HN : Hid (Blk wd gN [.int .i64 p, .slice s n c, .slice t m d]) := by rw [hgN]; exact ((by rw [hwa]; exact Blk.new w #[.int .i64 p, .slice s n c, .slice t m d] _ : Blk wa w.heap.size [.int .i64 p, .slice s n c, .slice t m d]).below bb).below bd
  have HBk : Hid (Blk wd gB [.slice bs nb bc]) := by rw [hgB]; exact (by rw [hwb]; exact Blk.new wa #[.slice bs nb bc] _ : Blk wb wa.heap.size [.slice bs nb bc]).below bd
  have HU : Hid (Blk wd gU [.slice none 0 0]) := by rw [hgU, hwd]; exact Blk.new wb #[.slice none 0 0] _
  have HBd : Hid (Below w.heap.size w wd) := ba.trans ((bb.trans (bd.mono bb.size)).mono ba.size)
  have zz : w.heap.size ≤ gN ∧ gN < gB ∧ gB < gU ∧ gU < wd.heap.size := by omega
  try rw [← hwa]
  try rw [← hwb]
  try rw [← hwd]
  try rw [hgU1]
  try rw [hgB1]
  try rw [← hgU]
  try rw [← hgB]
  try rw [← hgN]
  clear hwa hwb hwd ba bb bd hgN hgB hgU sa sb sd hgB1 hgU1
  obtain ⟨z1, z2, z3, z4⟩ := zz
  have HDd : Hid (RowDuct wd s n D) := HD.out.below HBd.out
  have HSd : Hid (RowI wd t m S) := HS.out.below HBd.out
  have HPd : Hid (RowPer wd bs nb X Y K V) := HB.out.below HBd.out
  obtain ⟨zN, -, cN⟩ := HN.out
  have n0 := cN 0 _ rfl
  have n1 := cN 1 _ rfl
  have n2 := cN 2 _ rfl
  obtain ⟨zB, -, cB⟩ := HBk.out
  have b0 := cB 0 _ rfl
  clear cN cB
  go_wp2_with fail
  refine (specBookOk_any p s n c D t m d S bs nb bc X Y K V _ hn hm HDd HSd hK HPd).mono ?_
  rintro e w1 ⟨rfl, h1⟩
  clear n0 n1 n2 zN zB b0
  replace HBk : Hid (Blk w1 gB [.slice bs nb bc]) := HBk.out.below h1
  replace HU : Hid (Blk w1 gU [.slice none 0 0]) := HU.out.below h1
  have HP1 : Hid (RowPer w1 bs nb X Y K V) := HPd.out.below h1
  have HB1 : Hid (Below w.heap.size w w1) := HBd.out.trans (h1.mono HBd.out.size)
  have y4 : gU < w1.heap.size := Nat.lt_of_lt_of_le z4 h1.size
  clear h1 HDd HSd HPd HBd z4 HN HP1
  have hst := store_slT
  obtain ⟨ok, hok⟩ : ∃ ok, bokB p n D m S nb X Y K V = ok := ⟨_, rfl⟩
  have HOK : Hid (bokB p n D m S nb X Y K V = ok) := hok
  rw [hok]
  clear hok
  cases ok
  case false =>
    obtain ⟨zU, fU, cU⟩ := HU.out
    have u0 := cU 0 _ rfl
    have uf := fU 0
    clear fU cU
    have HBu : Hid (Below w.heap.size w ((w1.setCell ⟨gU, 0, none⟩ (.slice none 0 0)).alloc (.cells #[] 2))) := (HB1.out.trans ((Beside.setCell gU w1 0 _).below (by omega) HB1.out.size)).trans ((below0 _ _).mono (by have := HB1.out.size; simp; omega))
    obtain ⟨W6, hW6⟩ : ∃ z, z = (w1.setCell ⟨gU, 0, none⟩ (.slice none 0 0)).alloc (.cells #[] 2) := ⟨_, rfl⟩
    have HUW : Hid (W6.cell? ⟨gU, 0, none⟩ = some (.slice none 0 0)) := by rw [hW6]; exact ((below0 _ _).cell (p := ⟨gU, 0, none⟩) (by simpa using zU)).trans (World.cell?_setCell_same' _ _ _ (by rw [u0]; rfl))
    rw [← hW6] at HBu
    have HWE : Hid (W6 = (w1.setCell ⟨gU, 0, none⟩ (.slice none 0 0)).alloc (.cells #[] 2)) := hW6
    clear hW6
    go_wp2
    rw [← HWE.out]
    refine bodyPost_ret (v := .tuple #[.agg #[.slice none 0 0], .slice (some ⟨w1.heap.size, 0, none⟩) 0 0, .int .i64 1]) (by simp [results, Try.results24, go_sem, HUW.out]) rfl ?_
    refine GbAns.bad HOK.out ?_
    exact ⟨none, 0, _, 0, fun _ => False, fun _ => False, rfl, fun k hk => hk.elim, no_book _ _ _ _ _ _, fun k hk => hk.elim, no_ints _ _ _, fun k hk => hk.elim, HBu.out⟩
  case true =>
    replace HQ : Hid (HitAt nb X id q) := HQ.out HOK.out
    obtain ⟨n40, nb20, hin⟩ := bok_in HOK.out
    have HIN : Hid (∀ i, i < nb → (K i : Int) ≤ 40 ∧ risB (V i) (K i) = true ∧ ∀ j, j < K i → 0 ≤ V i j ∧ V i j < (n : Int)) := hin
    have nbi : (nb : Int) ≤ 20 := by omega
    clear hin
    have hqn := HQ.out.1
    go_upto_region 4 with fail
    obtain ⟨w2, hw2⟩ : ∃ z, z = w1.alloc (.cells #[.slice none 0 0] 36) := ⟨_, rfl⟩
    try rw [← hw2]
    have bw2 : Below w1.heap.size w1 w2 := by rw [hw2]; exact below0 _ _
    obtain ⟨gO, hgO⟩ : ∃ z, z = w1.heap.size := ⟨_, rfl⟩
    have HO : Hid (Blk w2 gO [.slice none 0 0]) := by rw [hw2, hgO]; exact Blk.new w1 #[.slice none 0 0] _
    replace HBk : Hid (Blk w2 gB [.slice bs nb bc]) := HBk.out.below bw2
    replace HU : Hid (Blk w2 gU [.slice none 0 0]) := HU.out.below bw2
    have HB2 : Hid (Below w.heap.size w w2) := HB1.out.trans (bw2.mono HB1.out.size)
    have y5 : gU < gO := by omega
    have y6 : gO < w2.heap.size := HO.out.1
    try rw [← hgO]
    clear hw2 bw2 hgO
    go_upto_region 5 with fail
    obtain ⟨w3, hw3⟩ : ∃ z, z = w2.alloc (.cells #[] 2) := ⟨_, rfl⟩
    try rw [← hw3]
    have bw3 : Below w2.heap.size w2 w3 := by rw [hw3]; exact below0 _ _
    obtain ⟨gF, hgF⟩ : ∃ z, z = w2.heap.size := ⟨_, rfl⟩
    have HFR : Hid (OwL gF w3 (.slice (some ⟨gF, 0, none⟩) 0 0) []) := by rw [hw3, hgF]; exact OwL.lit w2 (Nat.le_refl _)
    have sw3 : w3.heap.size = gF + 1 := by rw [hw3, hgF]; simp
    replace HBk : Hid (Blk w3 gB [.slice bs nb bc]) := HBk.out.below bw3
    replace HU : Hid (Blk w3 gU [.slice none 0 0]) := HU.out.below bw3
    replace HO : Hid (Blk w3 gO [.slice none 0 0]) := HO.out.below bw3
    have HB3 : Hid (Below w.heap.size w w3) := HB2.out.trans (bw3.mono HB2.out.size)
    have y7 : gO < gF := by omega
    have y8 : w.heap.size < gF := by omega
    have y9 : gF + 1 ≤ w3.heap.size := by omega
    try rw [← hgF]
    clear hw3 bw3 hgF sw3 y6 HB1 HB2 y4
    go_wp2_with fail
    go_loopw [10, 11] (fun fv iv wr => ∃ (k mo fl fc cv : Nat) (fs tv : Option Addr), k ≤ nb ∧ mo ≤ k ∧ iv = .int .i64 k ∧ fv = .slice fs fl fc ∧ Hid (mo = if k ≤ q then k else k - 1) ∧ Hid (k ≤ q → fs = some ⟨gF, 0, none⟩ ∧ fl = 0 ∧ fc = 0) ∧ Hid ((frL q k V K).length = fl) ∧ Hid (OwL gF wr (.slice fs fl fc) (frL q k V K)) ∧ Hid (Blk wr gB [.slice bs nb bc]) ∧ Hid (Blk wr gU [.slice none 0 0]) ∧ Hid (Blk wr gO [.slice tv mo cv]) ∧ Hid (PtS (gF + 1) w wr (.slice tv mo cv) mo (fun i => X (sk q i)) (fun i => Y (sk q i)) (fun i => K (sk q i)) (fun i => V (sk q i))) ∧ Hid (Below w.heap.size w wr) ∧ gF + 1 ≤ wr.heap.size) (fun _ iv _ => nb - (intOf iv).toNat)
    case atStart =>
      have e : frL q 0 V K = [] := if_pos (Nat.zero_le _)
      exact ⟨0, 0, 0, 0, 0, _, none, Nat.zero_le _, Nat.le_refl _, rfl, rfl, (by show _ = _; rw [if_pos (Nat.zero_le _)]), fun _ => ⟨rfl, rfl, rfl⟩, (by show _ = _; rw [e]; rfl), (by show OwL _ _ _ _; rw [e]; exact HFR.out), HBk, HU, HO, PtS.nil _ _ _ _ _ _ _, HB3, y9⟩
    case round =>
      clear HBk HU HO HB3 y9 HFR
      obtain ⟨k, mo, fl, fc, cv, fs, tv, hk, hmk, rfl, rfl, HM, HL0, HFL, HFR, HBk, HU, HO, HPT, HW, y9⟩ := hrel
      rename World => wr
      by_cases h2 : k < nb
      case pos =>
        have k1 : (k : Int) < (nb : Int) := by omega
        obtain ⟨g, o, a, e, rfl, hg, c0, c1, c2, ha⟩ := HB.out k h2
        obtain ⟨x, hx⟩ : ∃ x, X k = x := ⟨_, rfl⟩
        obtain ⟨y, hy⟩ : ∃ y, Y k = y := ⟨_, rfl⟩
        obtain ⟨kk, hkk⟩ : ∃ kk, K k = kk := ⟨_, rfl⟩
        have HX : Hid (X k = x ∧ Y k = y ∧ K k = kk) := ⟨hx, hy, hkk⟩
        rw [hx] at c0
        rw [hy] at c1
        rw [hkk] at c2
        have HA : Hid (ArgC wr gB (.slice (some ⟨g, o, none⟩) nb bc) g (o + k * 3) x y (.slice a kk e)) := ⟨HBk.out.2.2 0 _ rfl, HBk.out.1, (HW.out.cell (p := ⟨g, o + k * 3, none⟩) hg).trans c0, (HW.out.cell (p := ⟨g, o + k * 3 + 1, none⟩) hg).trans c1, (HW.out.cell (p := ⟨g, o + k * 3 + 2, none⟩) hg).trans c2, Nat.lt_of_lt_of_le hg HW.out.size⟩
        have HRA : Hid (RowI w a kk (V k)) := by rw [hkk] at ha; exact ha
        have hgw : g < w.heap.size := hg
        have hit : x = id ↔ k = q := by rw [← hx]; exact HQ.out.2 k h2
        have kk40 : kk ≤ 40 := by have := (HIN.out k h2).1; omega
        obtain ⟨a0, a1, a2, a3, a4, a5⟩ := HA.out
        clear hx hy hkk c0 c1 c2 ha hg
        by_cases hq : k = q
        case pos =>
          have HXI : Hid (x = id) := hit.2 hq
          have xb : (x == id) = true := by rw [HXI.out]; simp
          have HQE : Hid (k = q) := hq
          obtain ⟨f1, f2, f3⟩ := HL0.out (by omega)
          subst f1
          subst f2
          subst f3
          have HRW : Hid (RowI wr a kk (nthI (lsOf (V k) kk))) := (HRA.out.below HW.out).congr (fun j hj => (ls_nth (V k) hj).symm)
          have HE0 : Hid (frL q k V K = []) := if_pos (by omega)
          have HF0 : Hid (OwL gF wr (.slice (some ⟨gF, 0, none⟩) 0 0) []) := by have z_ := HFR.out; rw [HE0.out] at z_; exact z_
          have HE1 : Hid (frL q (k + 1) V K = lsOf (V k) kk) := by show _ = _; unfold frL; rw [if_neg (by omega), ← hq, HX.out.2.2]
          have HM1 : Hid (mo = if k + 1 ≤ q then k + 1 else k + 1 - 1) := by show _ = _; rw [if_neg (by omega)]; have := HM.out; rw [if_pos (by omega)] at this; omega
          have HLL : Hid ((lsOf (V k) kk).length = kk) := ls_len _ _
          have nq1 : ¬ (k + 1 ≤ q) := by omega
          clear hit hq a0 a1 a3
          have a0 := HA.out.1
          go_wp2_with (at_builtin; refine list_freeL gF gF a kk e (lsOf (V k) kk) (.tmp 37) (.tmp 43) (by rfl) (by rfl) (by rfl) (by rfl) HLL.out (by omega) (by omega) HF0.out HRW.out ?_; intro s9 cap9 w9 l9 b9; have HF9 : Hid (OwL gF w9 (.slice s9 kk cap9) (lsOf (V k) kk)) := l9; have HB9 : Hid (Beside gF wr w9) := b9; clear l9 b9)
          go_roundw
          case rel => exact ⟨k + 1, mo, kk, cap9, cv, s9, tv, by omega, by omega, by go_num, rfl, HM1, fun z => absurd z nq1, (by show _ = _; rw [HE1.out]; exact HLL.out), (by show OwL _ _ _ _; rw [HE1.out]; exact HF9.out), HBk.out.beside HB9.out (by omega), HU.out.beside HB9.out (by omega), HO.out.beside HB9.out (by omega), HPT.out.beside HB9.out (by omega), HW.out.trans (HB9.out.below (by omega) HW.out.size), Nat.le_trans y9 HB9.out.2.2.2.1⟩
          case measure => first | (simp [intOf]; done) | (simp [intOf]; omega)
        case neg =>
          have xb : (x == id) = false := beq_false_of_ne (fun z => hq (hit.1 z))
          have HSK : Hid (sk q mo = k) := by show _ = _; have := HM.out; split at this <;> unfold sk <;> split <;> omega
          have HM1 : Hid (mo + 1 = if k + 1 ≤ q then k + 1 else k + 1 - 1) := by show _ = _; have := HM.out; split at this <;> split <;> omega
          have HE1 : Hid (frL q (k + 1) V K = frL q k V K) := by
            show _ = _
            unfold frL
            by_cases z : k ≤ q
            · rw [if_pos z, if_pos (by omega)]
            · rw [if_neg z, if_neg (by omega)]
          have HL1 : Hid (k + 1 ≤ q → fs = some ⟨gF, 0, none⟩ ∧ fl = 0 ∧ fc = 0) := fun z => HL0.out (by omega)
          have mo20 : mo ≤ 20 := by omega
          clear hit hq
          go_upto_region 10 with fail
          clear a0 a1 a2 a3 a4 a5
          refine wp_region_held_drew (S := fun w' => ArgC w' gB (.slice (some ⟨g, o, none⟩) nb bc) g (o + k * 3) x y (.slice a kk e)) (by kernel_rfl) ?_ (fun hHeld => ?_)
          · exact HA.out
          obtain ⟨v0, hv0⟩ : ∃ z, z = wr.drew := ⟨_, rfl⟩
          try rw [← hv0] at hHeld
          rw [← hv0]
          have bv0 : Below wr.heap.size wr v0 := by rw [hv0]; exact Below.drew (Below.refl _ _)
          clear hv0
          replace HBk : Hid (Blk v0 gB [.slice (some ⟨g, o, none⟩) nb bc]) := HBk.out.below bv0
          replace HU : Hid (Blk v0 gU [.slice none 0 0]) := HU.out.below bv0
          replace HO : Hid (Blk v0 gO [.slice tv mo cv]) := HO.out.below bv0
          replace HPT : Hid (PtS (gF + 1) w v0 (.slice tv mo cv) mo (fun i => X (sk q i)) (fun i => Y (sk q i)) (fun i => K (sk q i)) (fun i => V (sk q i))) := HPT.out.below bv0
          replace HW : Hid (Below w.heap.size w v0) := HW.out.trans (bv0.mono HW.out.size)
          replace HFR : Hid (OwL gF v0 (.slice fs fl fc) (frL q k V K)) := HFR.out.keep bv0
          replace HA : Hid (ArgC v0 gB (.slice (some ⟨g, o, none⟩) nb bc) g (o + k * 3) x y (.slice a kk e)) := HA.out.below bv0
          replace y9 : gF + 1 ≤ v0.heap.size := Nat.le_trans y9 bv0.size
          clear bv0
          refine wpAnyH_take (i := 0) (v := .pointer (some ⟨gO, 0, none⟩)) rfl (by kernel_rfl) (by kernel_rfl) (by kernel_rfl) (fun _ _ _ h => h) (Or.inl ⟨by kernel_rfl, ?_⟩) hHeld ?_
          · intro w' hSw
            obtain ⟨hc0, hz0, hc1, hc2, hc3, hz1⟩ := hSw
            first | (go_simp; done) | (go_simp; with_reducible rfl) | (go_simp; rw [IntKind.wrap_i64]; omega) | (go_simp; omega)
          simp only [Act.put, List.setIfInBounds_toArray, List.set_cons_zero, List.set_cons_succ]
          refine wpAnyH_take (i := 2) (v := .pointer (some ⟨gB, 0, none⟩)) rfl (by kernel_rfl) (by kernel_rfl) (by kernel_rfl) (fun _ _ _ h => h) (Or.inl ⟨by kernel_rfl, ?_⟩) hHeld ?_
          · intro w' hSw
            obtain ⟨hc0, hz0, hc1, hc2, hc3, hz1⟩ := hSw
            first | (go_simp; done) | (go_simp; with_reducible rfl) | (go_simp; rw [IntKind.wrap_i64]; omega) | (go_simp; omega)
          simp only [Act.put, List.setIfInBounds_toArray, List.set_cons_zero, List.set_cons_succ]
          refine wpAnyH_take (i := 3) (v := .slice (some ⟨g, o, none⟩) nb bc) rfl (by kernel_rfl) (by kernel_rfl) (by kernel_rfl) (fun _ _ _ h => h) (Or.inl ⟨by kernel_rfl, ?_⟩) hHeld ?_
          · intro w' hSw
            obtain ⟨hc0, hz0, hc1, hc2, hc3, hz1⟩ := hSw
            first | (go_simp; done) | (go_simp; with_reducible rfl) | (go_simp; rw [IntKind.wrap_i64]; omega) | (go_simp; omega)
          simp only [Act.put, List.setIfInBounds_toArray, List.set_cons_zero, List.set_cons_succ]
          refine wpAnyH_take (i := 4) (v := .int .i64 (k : Int)) rfl (by kernel_rfl) (by kernel_rfl) (by kernel_rfl) (fun _ _ _ h => h) (Or.inl ⟨by kernel_rfl, ?_⟩) hHeld ?_
          · intro w' hSw
            obtain ⟨hc0, hz0, hc1, hc2, hc3, hz1⟩ := hSw
            first | (go_simp; done) | (go_simp; with_reducible rfl) | (go_simp; rw [IntKind.wrap_i64]; omega) | (go_simp; omega)
          simp only [Act.put, List.setIfInBounds_toArray, List.set_cons_zero, List.set_cons_succ]
          refine wpAnyH_take (i := 5) (v := .pointer (some ⟨g, o + k * 3, none⟩)) rfl (by kernel_rfl) (by kernel_rfl) (by kernel_rfl) (fun _ _ _ h => h) (Or.inl ⟨by kernel_rfl, ?_⟩) hHeld ?_
          · intro w' hSw
            obtain ⟨hc0, hz0, hc1, hc2, hc3, hz1⟩ := hSw
            first | (go_simp; done) | (go_simp; with_reducible rfl) | (go_simp; rw [IntKind.wrap_i64]; omega) | (go_simp; omega)
          simp only [Act.put, List.setIfInBounds_toArray, List.set_cons_zero, List.set_cons_succ]
          refine wpAnyH_take (i := 6) (v := .agg #[.int .i64 x, .int .i64 y, .slice a kk e]) rfl (by kernel_rfl) (by kernel_rfl) (by kernel_rfl) (fun _ _ _ h => h) (Or.inl ⟨by kernel_rfl, ?_⟩) hHeld ?_
          · intro w' hSw
            obtain ⟨hc0, hz0, hc1, hc2, hc3, hz1⟩ := hSw
            first | (go_simp; done) | (go_simp; with_reducible rfl) | (go_simp; rw [IntKind.wrap_i64]; omega) | (go_simp; omega)
          simp only [Act.put, List.setIfInBounds_toArray, List.set_cons_zero, List.set_cons_succ]
          refine wpAnyH_ready (rs := [1, 7]) (by kernel_rfl) (by simp) ?_
          refine (AllReadyH.cons rfl (fun KK hK => ?_) (AllReadyH.cons rfl (fun KK hK => ?_) AllReadyH.nil))
          · have hl_ := HO.out.2.2 0 _ rfl
            have hg_ := HO.out.1
            go_simp
            clear hl_ hg_
            refine hK.out _ _ (HA.out) (fun hHeld => ?_)
            clear hK KK
            refine wpAnyH_ready (rs := [7]) (by kernel_rfl) (by simp) ?_
            refine (AllReadyH.cons rfl (fun KK hK => ?_) AllReadyH.nil)
            go_simp
            obtain ⟨v0_2, hv_⟩ : ∃ z, z = v0.alloc (.cells #[.int .i64 x, .int .i64 y, .slice a kk e] 44) := ⟨_, rfl⟩
            rw [← hv_]
            obtain ⟨lb, hlb⟩ : ∃ z, z = v0.heap.size := ⟨_, rfl⟩
            have b_ : Below v0.heap.size v0 v0_2 := by rw [hv_]; exact below0 _ _
            have LB0 : v0_2.cell? ⟨lb, 0, none⟩ = some (.int .i64 x) := by rw [hv_, hlb]; simp [go_sem]
            have LB1 : v0_2.cell? ⟨lb, 1, none⟩ = some (.int .i64 y) := by rw [hv_, hlb]; simp [go_sem]
            have LB2 : v0_2.cell? ⟨lb, 2, none⟩ = some (.slice a kk e) := by rw [hv_, hlb]; simp [go_sem]
            replace HBk : Hid (Blk v0_2 gB [.slice (some ⟨g, o, none⟩) nb bc]) := HBk.out.below b_
            replace HU : Hid (Blk v0_2 gU [.slice none 0 0]) := HU.out.below b_
            replace HO : Hid (Blk v0_2 gO [.slice tv mo cv]) := HO.out.below b_
            replace HPT : Hid (PtS (gF + 1) w v0_2 (.slice tv mo cv) mo (fun i => X (sk q i)) (fun i => Y (sk q i)) (fun i => K (sk q i)) (fun i => V (sk q i))) := HPT.out.below b_
            replace HW : Hid (Below w.heap.size w v0_2) := HW.out.trans (b_.mono HW.out.size)
            replace HFR : Hid (OwL gF v0_2 (.slice fs fl fc) (frL q k V K)) := HFR.out.keep b_
            replace HA : Hid (ArgC v0_2 gB (.slice (some ⟨g, o, none⟩) nb bc) g (o + k * 3) x y (.slice a kk e)) := HA.out.below b_
            replace y9 : gF + 1 ≤ v0_2.heap.size := Nat.le_trans y9 b_.size
            try rw [← hlb]
            clear hv_ hlb b_
            refine hK.out _ _ (HA.out) (fun hHeld => ?_)
            clear hK KK
            refine wpAnyH_ready (rs := [8]) (by kernel_rfl) (by simp) ?_
            refine (AllReadyH.cons rfl (fun KK hK => ?_) AllReadyH.nil)
            refine wp_PermitS (gF + 1) (.slice tv mo cv) mo (fun i => X (sk q i)) (fun i => Y (sk q i)) (fun i => K (sk q i)) (fun i => V (sk q i)) (.tmp 46) (.tmp 52) (by rfl) (by rfl) lb (by rfl) HPT.out LB0 LB1 LB2 (by show X (sk q mo) = _; rw [HSK.out]; exact HX.out.1) (by show Y (sk q mo) = _; rw [HSK.out]; exact HX.out.2.1) (by show K (sk q mo) = _; rw [HSK.out]; exact HX.out.2.2) (by show RowI w a kk (V (sk q mo)); rw [HSK.out]; exact HRA.out) (by omega) y9 ?_
            intro g9 cap9 v0_3 l9 b9 k9
            have HPT9 : Hid (PtS (gF + 1) w v0_3 (.slice (some ⟨g9, 0, none⟩) (mo + 1) cap9) (mo + 1) (fun i => X (sk q i)) (fun i => Y (sk q i)) (fun i => K (sk q i)) (fun i => V (sk q i))) := l9
            have HFR9 : Hid (OwL gF v0_3 (.slice fs fl fc) (frL q k V K)) := HFR.out.typed k9
            have HBk9 : Hid (Blk v0_3 gB [.slice (some ⟨g, o, none⟩) nb bc]) := HBk.out.belowB b9 (by omega)
            have HU9 : Hid (Blk v0_3 gU [.slice none 0 0]) := HU.out.belowB b9 (by omega)
            have HO9 : Hid (Blk v0_3 gO [.slice tv mo cv]) := HO.out.belowB b9 (by omega)
            have HA9 : Hid (ArgC v0_3 gB (.slice (some ⟨g, o, none⟩) nb bc) g (o + k * 3) x y (.slice a kk e)) := HA.out.belowB b9 (by omega) (by omega)
            have HW9 : Hid (Below w.heap.size w v0_3) := HW.out.trans (b9.mono (by omega))
            have y99 : gF + 1 ≤ v0_3.heap.size := Nat.le_trans y9 b9.size
            clear l9 b9 k9 LB0 LB1 LB2 HPT HFR HBk HU HO HA HW
            go_simp
            refine hK.out _ _ (HA9.out) (fun hHeld => ?_)
            clear hK KK
            refine wpAnyH_take (i := 9) (v := .pointer (some ⟨gO, 0, none⟩)) rfl (by kernel_rfl) (by kernel_rfl) (by kernel_rfl) (fun _ _ _ h => h) (Or.inl ⟨by kernel_rfl, ?_⟩) hHeld ?_
            · intro w' hSw
              obtain ⟨hc0, hz0, hc1, hc2, hc3, hz1⟩ := hSw
              first | (go_simp; done) | (go_simp; with_reducible rfl) | (go_simp; rw [IntKind.wrap_i64]; omega) | (go_simp; omega)
            simp only [Act.put, List.setIfInBounds_toArray, List.set_cons_zero, List.set_cons_succ]
            refine wpAnyH_ready (rs := [10]) (by kernel_rfl) (by simp) ?_
            refine (AllReadyH.cons rfl (fun KK hK => ?_) AllReadyH.nil)
            have hl_ := HO9.out.2.2 0 _ rfl
            have hf_ := HO9.out.2.1 0
            have hg_ := HO9.out.1
            have hst := store_slT
            go_simp
            obtain ⟨v0_4, hv_⟩ : ∃ z, z = v0_3.setCell ⟨gO, 0, none⟩ (.slice (some ⟨g9, 0, none⟩) (mo + 1) cap9) := ⟨_, rfl⟩
            rw [← hv_]
            have bs_ : Beside gO v0_3 v0_4 := by rw [hv_]; exact Beside.setCell gO _ _ _
            have HO8 : Hid (Blk v0_4 gO [.slice (some ⟨g9, 0, none⟩) (mo + 1) cap9]) := by rw [hv_]; exact HO9.out.set 0 _
            have HPT8 : Hid (PtS (gF + 1) w v0_4 (.slice (some ⟨g9, 0, none⟩) (mo + 1) cap9) (mo + 1) (fun i => X (sk q i)) (fun i => Y (sk q i)) (fun i => K (sk q i)) (fun i => V (sk q i))) := HPT9.out.beside bs_ (by omega)
            have HFR8 : Hid (OwL gF v0_4 (.slice fs fl fc) (frL q k V K)) := HFR9.out.besideL bs_ (by omega)
            have HBk8 : Hid (Blk v0_4 gB [.slice (some ⟨g, o, none⟩) nb bc]) := HBk9.out.beside bs_ (by omega)
            have HU8 : Hid (Blk v0_4 gU [.slice none 0 0]) := HU9.out.beside bs_ (by omega)
            have HA8 : Hid (ArgC v0_4 gB (.slice (some ⟨g, o, none⟩) nb bc) g (o + k * 3) x y (.slice a kk e)) := HA9.out.beside bs_ (by omega) (by omega)
            have HW8 : Hid (Below w.heap.size w v0_4) := HW9.out.trans (bs_.below (by omega) HW9.out.size)
            have y98 : gF + 1 ≤ v0_4.heap.size := Nat.le_trans y99 bs_.2.2.2.1
            clear hv_ bs_ hl_ hf_ hg_ hst HO9 HPT9 HFR9 HBk9 HU9 HA9 HW9 y99
            refine hK.out _ _ (HA8.out) (fun hHeld => ?_)
            clear hK KK
            refine wpAnyH_done (by kernel_rfl) ?_ _
            clear hHeld
            go_wp2
            go_roundw
            case rel => exact ⟨k + 1, mo + 1, fl, fc, cap9, fs, some ⟨g9, 0, none⟩, by omega, by omega, by go_num, rfl, HM1, HL1, (by show _ = _; rw [HE1.out]; exact HFL.out), (by show OwL _ _ _ _; rw [HE1.out]; exact HFR8.out), HBk8, HU8, HO8, HPT8, HW8, y98⟩
            case measure => first | (simp [intOf]; done) | (simp [intOf]; omega)
          · go_simp
            obtain ⟨v0_5, hv_⟩ : ∃ z, z = v0.alloc (.cells #[.int .i64 x, .int .i64 y, .slice a kk e] 44) := ⟨_, rfl⟩
            rw [← hv_]
            obtain ⟨lb, hlb⟩ : ∃ z, z = v0.heap.size := ⟨_, rfl⟩
            have b_ : Below v0.heap.size v0 v0_5 := by rw [hv_]; exact below0 _ _
            have LB0 : v0_5.cell? ⟨lb, 0, none⟩ = some (.int .i64 x) := by rw [hv_, hlb]; simp [go_sem]
            have LB1 : v0_5.cell? ⟨lb, 1, none⟩ = some (.int .i64 y) := by rw [hv_, hlb]; simp [go_sem]
            have LB2 : v0_5.cell? ⟨lb, 2, none⟩ = some (.slice a kk e) := by rw [hv_, hlb]; simp [go_sem]
            replace HBk : Hid (Blk v0_5 gB [.slice (some ⟨g, o, none⟩) nb bc]) := HBk.out.below b_
            replace HU : Hid (Blk v0_5 gU [.slice none 0 0]) := HU.out.below b_
            replace HO : Hid (Blk v0_5 gO [.slice tv mo cv]) := HO.out.below b_
            replace HPT : Hid (PtS (gF + 1) w v0_5 (.slice tv mo cv) mo (fun i => X (sk q i)) (fun i => Y (sk q i)) (fun i => K (sk q i)) (fun i => V (sk q i))) := HPT.out.below b_
            replace HW : Hid (Below w.heap.size w v0_5) := HW.out.trans (b_.mono HW.out.size)
            replace HFR : Hid (OwL gF v0_5 (.slice fs fl fc) (frL q k V K)) := HFR.out.keep b_
            replace HA : Hid (ArgC v0_5 gB (.slice (some ⟨g, o, none⟩) nb bc) g (o + k * 3) x y (.slice a kk e)) := HA.out.below b_
            replace y9 : gF + 1 ≤ v0_5.heap.size := Nat.le_trans y9 b_.size
            try rw [← hlb]
            clear hv_ hlb b_
            refine hK.out _ _ (HA.out) (fun hHeld => ?_)
            clear hK KK
            refine wpAnyH_ready (rs := [1]) (by kernel_rfl) (by simp) ?_
            refine (AllReadyH.cons rfl (fun KK hK => ?_) AllReadyH.nil)
            have hl_ := HO.out.2.2 0 _ rfl
            have hg_ := HO.out.1
            go_simp
            clear hl_ hg_
            refine hK.out _ _ (HA.out) (fun hHeld => ?_)
            clear hK KK
            refine wpAnyH_ready (rs := [8]) (by kernel_rfl) (by simp) ?_
            refine (AllReadyH.cons rfl (fun KK hK => ?_) AllReadyH.nil)
            refine wp_PermitS (gF + 1) (.slice tv mo cv) mo (fun i => X (sk q i)) (fun i => Y (sk q i)) (fun i => K (sk q i)) (fun i => V (sk q i)) (.tmp 46) (.tmp 52) (by rfl) (by rfl) lb (by rfl) HPT.out LB0 LB1 LB2 (by show X (sk q mo) = _; rw [HSK.out]; exact HX.out.1) (by show Y (sk q mo) = _; rw [HSK.out]; exact HX.out.2.1) (by show K (sk q mo) = _; rw [HSK.out]; exact HX.out.2.2) (by show RowI w a kk (V (sk q mo)); rw [HSK.out]; exact HRA.out) (by omega) y9 ?_
            intro g9 cap9 v0_7 l9 b9 k9
            have HPT9 : Hid (PtS (gF + 1) w v0_7 (.slice (some ⟨g9, 0, none⟩) (mo + 1) cap9) (mo + 1) (fun i => X (sk q i)) (fun i => Y (sk q i)) (fun i => K (sk q i)) (fun i => V (sk q i))) := l9
            have HFR9 : Hid (OwL gF v0_7 (.slice fs fl fc) (frL q k V K)) := HFR.out.typed k9
            have HBk9 : Hid (Blk v0_7 gB [.slice (some ⟨g, o, none⟩) nb bc]) := HBk.out.belowB b9 (by omega)
            have HU9 : Hid (Blk v0_7 gU [.slice none 0 0]) := HU.out.belowB b9 (by omega)
            have HO9 : Hid (Blk v0_7 gO [.slice tv mo cv]) := HO.out.belowB b9 (by omega)
            have HA9 : Hid (ArgC v0_7 gB (.slice (some ⟨g, o, none⟩) nb bc) g (o + k * 3) x y (.slice a kk e)) := HA.out.belowB b9 (by omega) (by omega)
            have HW9 : Hid (Below w.heap.size w v0_7) := HW.out.trans (b9.mono (by omega))
            have y99 : gF + 1 ≤ v0_7.heap.size := Nat.le_trans y9 b9.size
            clear l9 b9 k9 LB0 LB1 LB2 HPT HFR HBk HU HO HA HW
            go_simp
            refine hK.out _ _ (HA9.out) (fun hHeld => ?_)
            clear hK KK
            refine wpAnyH_take (i := 9) (v := .pointer (some ⟨gO, 0, none⟩)) rfl (by kernel_rfl) (by kernel_rfl) (by kernel_rfl) (fun _ _ _ h => h) (Or.inl ⟨by kernel_rfl, ?_⟩) hHeld ?_
            · intro w' hSw
              obtain ⟨hc0, hz0, hc1, hc2, hc3, hz1⟩ := hSw
              first | (go_simp; done) | (go_simp; with_reducible rfl) | (go_simp; rw [IntKind.wrap_i64]; omega) | (go_simp; omega)
            simp only [Act.put, List.setIfInBounds_toArray, List.set_cons_zero, List.set_cons_succ]
            refine wpAnyH_ready (rs := [10]) (by kernel_rfl) (by simp) ?_
            refine (AllReadyH.cons rfl (fun KK hK => ?_) AllReadyH.nil)
            have hl_ := HO9.out.2.2 0 _ rfl
            have hf_ := HO9.out.2.1 0
            have hg_ := HO9.out.1
            have hst := store_slT
            go_simp
            obtain ⟨v0_8, hv_⟩ : ∃ z, z = v0_7.setCell ⟨gO, 0, none⟩ (.slice (some ⟨g9, 0, none⟩) (mo + 1) cap9) := ⟨_, rfl⟩
            rw [← hv_]
            have bs_ : Beside gO v0_7 v0_8 := by rw [hv_]; exact Beside.setCell gO _ _ _
            have HO8 : Hid (Blk v0_8 gO [.slice (some ⟨g9, 0, none⟩) (mo + 1) cap9]) := by rw [hv_]; exact HO9.out.set 0 _
            have HPT8 : Hid (PtS (gF + 1) w v0_8 (.slice (some ⟨g9, 0, none⟩) (mo + 1) cap9) (mo + 1) (fun i => X (sk q i)) (fun i => Y (sk q i)) (fun i => K (sk q i)) (fun i => V (sk q i))) := HPT9.out.beside bs_ (by omega)
            have HFR8 : Hid (OwL gF v0_8 (.slice fs fl fc) (frL q k V K)) := HFR9.out.besideL bs_ (by omega)
            have HBk8 : Hid (Blk v0_8 gB [.slice (some ⟨g, o, none⟩) nb bc]) := HBk9.out.beside bs_ (by omega)
            have HU8 : Hid (Blk v0_8 gU [.slice none 0 0]) := HU9.out.beside bs_ (by omega)
            have HA8 : Hid (ArgC v0_8 gB (.slice (some ⟨g, o, none⟩) nb bc) g (o + k * 3) x y (.slice a kk e)) := HA9.out.beside bs_ (by omega) (by omega)
            have HW8 : Hid (Below w.heap.size w v0_8) := HW9.out.trans (bs_.below (by omega) HW9.out.size)
            have y98 : gF + 1 ≤ v0_8.heap.size := Nat.le_trans y99 bs_.2.2.2.1
            clear hv_ bs_ hl_ hf_ hg_ hst HO9 HPT9 HFR9 HBk9 HU9 HA9 HW9 y99
            refine hK.out _ _ (HA8.out) (fun hHeld => ?_)
            clear hK KK
            refine wpAnyH_done (by kernel_rfl) ?_ _
            clear hHeld
            go_wp2
            go_roundw
            case rel => exact ⟨k + 1, mo + 1, fl, fc, cap9, fs, some ⟨g9, 0, none⟩, by omega, by omega, by go_num, rfl, HM1, HL1, (by show _ = _; rw [HE1.out]; exact HFL.out), (by show OwL _ _ _ _; rw [HE1.out]; exact HFR8.out), HBk8, HU8, HO8, HPT8, HW8, y98⟩
            case measure => first | (simp [intOf]; done) | (simp [intOf]; omega)
      case neg =>
        obtain rfl : k = nb := by omega
        by_cases hq : q < k
        case pos =>
          have HMO : Hid (k - 1 = mo) := by show _ = _; have := HM.out; rw [if_neg (by omega)] at this; omega
          have mk : mo < k := by have := HMO.out; omega
          have mb : ((mo : Int) == (k : Int)) = false := beq_false_of_ne (by omega)
          have HFE : Hid (OwL gF wr (.slice fs fl fc) (lsOf (V q) (K q))) := by have z_ := HFR.out; unfold frL at z_; rw [if_neg (by omega)] at z_; exact z_
          have HFK : Hid (K q = fl) := by have z_ := HFL.out; unfold frL at z_; rw [if_neg (by omega), ls_len] at z_; exact z_
          have fl40 : (fl : Int) ≤ 40 := by have := (HIN.out q hq).1; have := HFK.out; omega
          have HVQ : Hid (∀ j, j < fl → 0 ≤ V q j ∧ V q j < (n : Int)) := by have := (HIN.out q hq).2.2; rw [HFK.out] at this; exact this
          have HRF : Hid (RowI wr fs fl (V q)) := by
            obtain ⟨s_, c_, e_, ho⟩ := HFE.out.own
            rw [ls_len, HFK.out] at e_ ho
            simp only [Value.slice.injEq] at e_
            obtain ⟨rfl, -, -⟩ := e_
            exact ho.row.congr (fun j hj => ls_nth (V q) hj)
          have HRP : Hid (RowPer wr tv mo (fun i => X (sk q i)) (fun i => Y (sk q i)) (fun i => K (sk q i)) (fun i => V (sk q i))) := HPT.out.row HW.out
          have HKS : Hid (∀ i, i < mo → ((fun i => K (sk q i)) i : Int) ≤ 1048576) := fun i hi => by
            have hs : sk q i < k := by unfold sk; split <;> omega
            have := (HIN.out (sk q i) hs).1
            show (K (sk q i) : Int) ≤ 1048576
            omega
          clear HFR HFL HFE HL0 HM HPT
          have o0 := HO.out.2.2 0 _ rfl
          have oz := HO.out.1
          have bk0 := HBk.out.2.2 0 _ rfl
          have bkz := HBk.out.1
          go_upto_region 14 with fail
          clear o0 oz bk0 bkz
          obtain ⟨wl, hwl⟩ : ∃ z, z = wr.alloc (.cells #[] 2) := ⟨_, rfl⟩
          try rw [← hwl]
          have bl : Below wr.heap.size wr wl := by rw [hwl]; exact below0 _ _
          obtain ⟨gL, hgL⟩ : ∃ z, z = wr.heap.size := ⟨_, rfl⟩
          have HL : Hid (OwL gL wl (.slice (some ⟨gL, 0, none⟩) 0 0) []) := by rw [hwl, hgL]; exact OwL.lit wr (Nat.le_refl _)
          have x1 : gF < gL := by omega
          have HGL : Hid (gL = wr.heap.size) := hgL
          have HBl : Hid (Below wr.heap.size wr wl) := bl
          try rw [← hgL]
          clear hwl bl hgL
          go_wp2_with fail
          go_loopw [12, 13] (fun v i wx => ∃ j : Nat, j ≤ fl ∧ i = .int .i64 j ∧ Hid (OwL gL wx v (freL (V q) (cntP (fun i => K (sk q i)) (fun i => V (sk q i)) mo) j)) ∧ Hid (Below wr.heap.size wr wx)) (fun _ i _ => fl - (intOf i).toNat)
          case atStart => exact ⟨0, Nat.zero_le _, rfl, HL, HBl⟩
          case round =>
            clear HL HBl
            obtain ⟨j, hj, rfl, HL, HX⟩ := hrel
            rename World => wx
            obtain ⟨Lj, hLj⟩ : ∃ L, freL (V q) (cntP (fun i => K (sk q i)) (fun i => V (sk q i)) mo) j = L := ⟨_, rfl⟩
            have HLk : Hid (Lj.length ≤ j) := by show _ ≤ _; rw [← hLj]; exact fre_len _ _ j
            obtain ⟨ml, hml⟩ : ∃ ml, Lj.length = ml := ⟨_, rfl⟩
            have HML : Hid (Lj.length = ml) := hml
            have hmk2 : ml ≤ j := by rw [← hml]; exact HLk.out
            have HLJ : Hid (freL (V q) (cntP (fun i => K (sk q i)) (fun i => V (sk q i)) mo) j = Lj) := hLj
            rw [hLj] at HL
            obtain ⟨s_, c_, e_, -⟩ := HL.out.own
            rw [hml] at e_
            subst e_
            have x2 : gL ≤ wx.heap.size := by have := HX.out.size; have := HGL.out; omega
            clear hLj hml
            by_cases h3 : j < fl
            case pos =>
              have j1 : (j : Int) < (fl : Int) := by omega
              obtain ⟨v0', v1'⟩ := HVQ.out j h3
              obtain ⟨x, hx⟩ : ∃ x : Nat, V q j = (x : Int) := ⟨(V q j).toNat, by omega⟩
              have HXV : Hid (V q j = (x : Int)) := hx
              obtain ⟨g, o, rfl, zg, cg⟩ := HRF.out j h3
              rw [hx] at cg
              have HA : Hid (wx.cell? ⟨gO, 0, none⟩ = some (.slice tv mo cv) ∧ gO < wx.heap.size ∧ wx.cell? ⟨g, o + j, none⟩ = some (.int .i64 (x : Int)) ∧ g < wx.heap.size) := ⟨(HX.out.cell (p := ⟨gO, 0, none⟩) HO.out.1).trans (HO.out.2.2 0 _ rfl), Nat.lt_of_lt_of_le HO.out.1 HX.out.size, (HX.out.cell (p := ⟨g, o + j, none⟩) zg).trans cg, Nat.lt_of_lt_of_le zg HX.out.size⟩
              have HRx : Hid (RowPer wx tv mo (fun i => X (sk q i)) (fun i => Y (sk q i)) (fun i => K (sk q i)) (fun i => V (sk q i))) := HRP.out.below HX.out
              obtain ⟨y, hy⟩ : ∃ y, cntP (fun i => K (sk q i)) (fun i => V (sk q i)) mo x = y := ⟨_, rfl⟩
              have HY : Hid (cntP (fun i => K (sk q i)) (fun i => V (sk q i)) mo x = y) := hy
              obtain ⟨yb, hyb⟩ : ∃ yb, (y == 0) = yb := ⟨_, rfl⟩
              have HYB : Hid ((y == 0) = yb) := hyb
              have mo20 : (mo : Int) ≤ 20 := by omega
              clear hx cg v0' v1' hy hyb
              go_upto_region 17 with fail
              refine wp_region_held_drew (S := fun w' => w'.cell? ⟨gO, 0, none⟩ = some (.slice tv mo cv) ∧ gO < w'.heap.size ∧ w'.cell? ⟨g, o + j, none⟩ = some (.int .i64 (x : Int)) ∧ g < w'.heap.size) (by kernel_rfl) ?_ (fun hHeld => ?_)
              · exact HA.out
              obtain ⟨v0, hv0⟩ : ∃ z, z = wx.drew := ⟨_, rfl⟩
              try rw [← hv0] at hHeld
              rw [← hv0]
              have bv0 : Below wx.heap.size wx v0 := by rw [hv0]; exact Below.drew (Below.refl _ _)
              clear hv0
              have HA0 : Hid (v0.cell? ⟨gO, 0, none⟩ = some (.slice tv mo cv) ∧ gO < v0.heap.size ∧ v0.cell? ⟨g, o + j, none⟩ = some (.int .i64 (x : Int)) ∧ g < v0.heap.size) := ⟨(bv0.cell (p := ⟨gO, 0, none⟩) HA.out.2.1).trans HA.out.1, Nat.lt_of_lt_of_le HA.out.2.1 bv0.size, (bv0.cell (p := ⟨g, o + j, none⟩) HA.out.2.2.2).trans HA.out.2.2.1, Nat.lt_of_lt_of_le HA.out.2.2.2 bv0.size⟩
              have HX0 : Hid (Below wr.heap.size wr v0) := HX.out.trans (bv0.mono HX.out.size)
              have HL0 : Hid (OwL gL v0 (.slice s_ ml c_) Lj) := HL.out.keep bv0
              have HR0 : Hid (RowPer v0 tv mo (fun i => X (sk q i)) (fun i => Y (sk q i)) (fun i => K (sk q i)) (fun i => V (sk q i))) := HRx.out.below bv0
              clear bv0 HA HX HL HRx
              refine wpAnyH_take (i := 0) (v := .agg #[.slice tv mo cv]) rfl (by kernel_rfl) (by kernel_rfl) (by kernel_rfl) (fun _ _ _ h => h) (Or.inl ⟨by kernel_rfl, ?_⟩) hHeld ?_
              · intro w' hSw
                obtain ⟨hc0, hz0, hc1, hz1⟩ := hSw
                first | (go_simp; done) | (go_simp; with_reducible rfl) | (go_simp; rw [IntKind.wrap_i64]; omega) | (go_simp; omega)
              simp only [Act.put, List.setIfInBounds_toArray, List.set_cons_zero, List.set_cons_succ]
              refine wpAnyH_take (i := 1) (v := .slice (some ⟨g, o, none⟩) fl fc) rfl (by kernel_rfl) (by kernel_rfl) (by kernel_rfl) (fun _ _ _ h => h) (Or.inl ⟨by kernel_rfl, ?_⟩) hHeld ?_
              · intro w' hSw
                obtain ⟨hc0, hz0, hc1, hz1⟩ := hSw
                first | (go_simp; done) | (go_simp; with_reducible rfl) | (go_simp; rw [IntKind.wrap_i64]; omega) | (go_simp; omega)
              simp only [Act.put, List.setIfInBounds_toArray, List.set_cons_zero, List.set_cons_succ]
              refine wpAnyH_take (i := 2) (v := .int .i64 (j : Int)) rfl (by kernel_rfl) (by kernel_rfl) (by kernel_rfl) (fun _ _ _ h => h) (Or.inl ⟨by kernel_rfl, ?_⟩) hHeld ?_
              · intro w' hSw
                obtain ⟨hc0, hz0, hc1, hz1⟩ := hSw
                first | (go_simp; done) | (go_simp; with_reducible rfl) | (go_simp; rw [IntKind.wrap_i64]; omega) | (go_simp; omega)
              simp only [Act.put, List.setIfInBounds_toArray, List.set_cons_zero, List.set_cons_succ]
              refine wpAnyH_take (i := 3) (v := .pointer (some ⟨g, o + j, none⟩)) rfl (by kernel_rfl) (by kernel_rfl) (by kernel_rfl) (fun _ _ _ h => h) (Or.inl ⟨by kernel_rfl, ?_⟩) hHeld ?_
              · intro w' hSw
                obtain ⟨hc0, hz0, hc1, hz1⟩ := hSw
                first | (go_simp; done) | (go_simp; with_reducible rfl) | (go_simp; rw [IntKind.wrap_i64]; omega) | (go_simp; omega)
              simp only [Act.put, List.setIfInBounds_toArray, List.set_cons_zero, List.set_cons_succ]
              refine wpAnyH_take (i := 4) (v := .int .i64 (x : Int)) rfl (by kernel_rfl) (by kernel_rfl) (by kernel_rfl) (fun _ _ _ h => h) (Or.inl ⟨by kernel_rfl, ?_⟩) hHeld ?_
              · intro w' hSw
                obtain ⟨hc0, hz0, hc1, hz1⟩ := hSw
                first | (go_simp; done) | (go_simp; with_reducible rfl) | (go_simp; rw [IntKind.wrap_i64]; omega) | (go_simp; omega)
              simp only [Act.put, List.setIfInBounds_toArray, List.set_cons_zero, List.set_cons_succ]
              refine wpAnyH_ready (rs := [5]) (by kernel_rfl) (by simp) ?_
              refine (AllReadyH.cons rfl (fun KK hK => ?_) AllReadyH.nil)
              go_simp
              go_wp2_with (first | (go_at_call 62; refine (l22Tags_any tv mo cv (fun i => X (sk q i)) (fun i => Y (sk q i)) (fun i => K (sk q i)) (fun i => V (sk q i)) x _ mo20 HKS HR0).mono ?_; rintro e v0_1 ⟨rfl, b_⟩))
              have HA1 : Hid (v0_1.cell? ⟨gO, 0, none⟩ = some (.slice tv mo cv) ∧ gO < v0_1.heap.size ∧ v0_1.cell? ⟨g, o + j, none⟩ = some (.int .i64 (x : Int)) ∧ g < v0_1.heap.size) := ⟨(b_.cell (p := ⟨gO, 0, none⟩) HA0.out.2.1).trans HA0.out.1, Nat.lt_of_lt_of_le HA0.out.2.1 b_.size, (b_.cell (p := ⟨g, o + j, none⟩) HA0.out.2.2.2).trans HA0.out.2.2.1, Nat.lt_of_lt_of_le HA0.out.2.2.2 b_.size⟩
              have HX1 : Hid (Below wr.heap.size wr v0_1) := HX0.out.trans (b_.mono HX0.out.size)
              have HL1 : Hid (OwL gL v0_1 (.slice s_ ml c_) Lj) := HL0.out.keep b_
              try rw [HY.out]
              clear b_ HA0 HX0 HL0 HR0
              refine hK.out _ _ (HA1.out) (fun hHeld => ?_)
              clear hK KK
              refine wpAnyH_take (i := 6) (v := .bool yb) rfl (by kernel_rfl) (by kernel_rfl) (by kernel_rfl) (fun _ _ _ h => h) (Or.inl ⟨by kernel_rfl, ?_⟩) hHeld ?_
              · intro w' hSw
                obtain ⟨hc0, hz0, hc1, hz1⟩ := hSw
                first | (go_simp; exact HYB.out) | (go_simp; rw [HYB.out])
              simp only [Act.put, List.setIfInBounds_toArray, List.set_cons_zero, List.set_cons_succ]
              refine wpAnyH_done (by kernel_rfl) ?_ _
              clear hHeld
              have c9 := HA1.out.2.2.1
              have z9 := HA1.out.2.2.2
              have x2 : gL ≤ v0_1.heap.size := by have := HX1.out.size; have := HGL.out; omega
              cases yb
              case false =>
                have HN : Hid (freL (V q) (cntP (fun i => K (sk q i)) (fun i => V (sk q i)) mo) (j + 1) = Lj) := by show _ = _; unfold freL; rw [HXV.out, Int.toNat_natCast, HY.out, if_neg (by have := HYB.out; simpa using this)]; exact HLJ.out
                go_wp2
                go_roundw
                case rel => exact ⟨j + 1, by omega, by go_num, (by show OwL _ _ _ _; rw [HN.out]; exact HL1.out), HX1⟩
                case measure => first | (simp [intOf]; done) | (simp [intOf]; omega)
              case true =>
                have HN : Hid (freL (V q) (cntP (fun i => K (sk q i)) (fun i => V (sk q i)) mo) (j + 1) = Lj ++ [(x : Int)]) := by show _ = _; unfold freL; rw [HXV.out, Int.toNat_natCast, HY.out, if_pos (by have := HYB.out; simpa using this), HLJ.out]
                go_wp2_with (at_builtin; refine list_oneL gL (.slice s_ ml c_) ml Lj (.tmp 79) (.tmp 84) (by rfl) (by rfl) (by rfl) (by rfl) HML.out HL1.out (by omega) (by omega) ?_; intro g9 cap9 w9 l9 b9)
                have HL9 : Hid (OwL gL w9 (.slice (some ⟨g9, 0, none⟩) (ml + 1) cap9) (freL (V q) (cntP (fun i => K (sk q i)) (fun i => V (sk q i)) mo) (j + 1))) := by show OwL _ _ _ _; rw [HN.out]; exact l9
                have HX9 : Hid (Below wr.heap.size wr w9) := HX1.out.trans (by have := HGL.out; exact this ▸ b9)
                clear l9 b9
                go_roundw
                case rel => exact ⟨j + 1, by omega, by go_num, HL9, HX9⟩
                case measure => first | (simp [intOf]; done) | (simp [intOf]; omega)
            case neg =>
              obtain rfl : j = fl := by omega
              have HRx : Hid (RowPer wx tv mo (fun i => X (sk q i)) (fun i => Y (sk q i)) (fun i => K (sk q i)) (fun i => V (sk q i))) := HRP.out.below HX.out
              have HOx : Hid (Blk wx gO [.slice tv mo cv]) := HO.out.below HX.out
              have HUx : Hid (Blk wx gU [.slice none 0 0]) := HU.out.below HX.out
              have HWx : Hid (Below w.heap.size w wx) := HW.out.trans (HX.out.mono HW.out.size)
              have o0 := HOx.out.2.2 0 _ rfl
              have oz := HOx.out.1
              have mo1 : (mo : Int) ≤ 1000 := by omega
              go_wp2_with fail
              refine (l22Copy_any tv mo cv (fun i => X (sk q i)) (fun i => Y (sk q i)) (fun i => K (sk q i)) (fun i => V (sk q i)) _ mo1 HKS HRx).mono ?_
              rintro e w5 ⟨tt, ct, rfl, hpk, h5⟩
              have HU5 : Hid (Blk w5 gU [.slice none 0 0]) := HUx.out.below h5
              have HPK : Hid (PerR (fun k => wx.heap.size ≤ k ∧ k < w5.heap.size) w5 tt mo (fun i => X (sk q i)) (fun i => Y (sk q i)) (fun i => K (sk q i)) (fun i => V (sk q i))) := hpk.per
              have HL5 : Hid (I64R (fun k => gL ≤ k ∧ k < wx.heap.size) w5 s_ ml (nthI Lj)) := by
                obtain ⟨s9, c9, e9, ho⟩ := HL.out.own
                rw [HML.out] at e9 ho
                simp only [Value.slice.injEq] at e9
                obtain ⟨rfl, -, -⟩ := e9
                exact (I64R.of ho).below h5
              have HW5 : Hid (Below w.heap.size w w5) := HWx.out.trans (h5.mono HWx.out.size)
              have x5 : wx.heap.size ≤ w5.heap.size := h5.size
              have xw : w.heap.size ≤ wx.heap.size := HWx.out.size
              have xu : gU < wx.heap.size := HUx.out.1
              obtain ⟨zU, fU, cU⟩ := HU5.out
              have u0 := cU 0 _ rfl
              have uf := fU 0
              have hst := store_slT
              have bsU : Beside gU w5 (w5.setCell ⟨gU, 0, none⟩ (.slice tt mo ct)) := Beside.setCell gU _ 0 _
              have HP6 : Hid (PerR (fun k => wx.heap.size ≤ k ∧ k < w5.heap.size) (w5.setCell ⟨gU, 0, none⟩ (.slice tt mo ct)) tt mo (fun i => X (sk q i)) (fun i => Y (sk q i)) (fun i => K (sk q i)) (fun i => V (sk q i))) := HPK.out.set (fun z => by omega)
              have HL6 : Hid (I64R (fun k => gL ≤ k ∧ k < wx.heap.size) (w5.setCell ⟨gU, 0, none⟩ (.slice tt mo ct)) s_ ml (nthI Lj)) := HL5.out.keep bsU.2.2.2.1 (fun k hk hl => bsU.2.2.2.2 k hl (by omega))
              have HW6 : Hid (Below w.heap.size w (w5.setCell ⟨gU, 0, none⟩ (.slice tt mo ct))) := HW5.out.trans (bsU.below (by omega) HW5.out.size)
              have s6 : (w5.setCell ⟨gU, 0, none⟩ (.slice tt mo ct)).heap.size = w5.heap.size := by simp
              have HS6 : Hid ((w5.setCell ⟨gU, 0, none⟩ (.slice tt mo ct)).heap.size = w5.heap.size) := s6
              clear bsU cU fU h5 hpk HL5 HPK s6 o0 oz
              go_wp2
              refine bodyPost_ret (v := .tuple #[.agg #[.slice tt mo ct], .slice s_ ml c_, .int .i64 0]) (by simp [results, Try.results24, go_sem, u0]) rfl ?_
              refine GbAns.hit HOK.out hq HMO.out HFK.out HLJ.out ?_
              exact ⟨tt, ct, s_, c_, (fun k => wx.heap.size ≤ k ∧ k < w5.heap.size), (fun k => gL ≤ k ∧ k < wx.heap.size), (by rw [HML.out]), fun k hk => ⟨Nat.le_trans xw hk.1, by rw [HS6.out]; exact hk.2⟩, HP6.out, fun k hk => ⟨Nat.le_trans (by omega) hk.1, by rw [HS6.out]; exact Nat.lt_of_lt_of_le hk.2 x5⟩, (by rw [HML.out]; exact HL6.out), fun k h1 h2 => Nat.lt_irrefl _ (Nat.lt_of_lt_of_le h2.2 h1.1), HW6.out⟩
        case neg =>
          have HMO : Hid (mo = k) := by show _ = _; have := HM.out; rw [if_pos (by omega)] at this; exact this
          have mb : ((mo : Int) == (k : Int)) = true := by rw [HMO.out]; simp
          have HRb : Hid (RowPer wr bs k X Y K V) := HB.out.below HW.out
          have k1000 : (k : Int) ≤ 1000 := by omega
          have HUr : Hid (Blk wr gU [.slice none 0 0]) := HU
          have o0 := HO.out.2.2 0 _ rfl
          have oz := HO.out.1
          have bk0 := HBk.out.2.2 0 _ rfl
          have bkz := HBk.out.1
          go_wp2_with fail
          refine (l22Copy_any bs k bc X Y K V _ k1000 hK HRb).mono ?_
          rintro e w5 ⟨tt, ct, rfl, hpk, h5⟩
          have HU5 : Hid (Blk w5 gU [.slice none 0 0]) := HUr.out.below h5
          have HPK : Hid (PerR (fun k => wr.heap.size ≤ k ∧ k < w5.heap.size) w5 tt k X Y K V) := hpk.per
          have HW5 : Hid (Below w.heap.size w w5) := HW.out.trans (h5.mono HW.out.size)
          have xw : w.heap.size ≤ wr.heap.size := HW.out.size
          have xu : gU < wr.heap.size := HUr.out.1
          obtain ⟨zU, fU, cU⟩ := HU5.out
          have u0 := cU 0 _ rfl
          have uf := fU 0
          have hst := store_slT
          have bsU : Beside gU w5 (w5.setCell ⟨gU, 0, none⟩ (.slice tt k ct)) := Beside.setCell gU _ 0 _
          obtain ⟨W6, hW6⟩ : ∃ z, z = (w5.setCell ⟨gU, 0, none⟩ (.slice tt k ct)).alloc (.cells #[] 2) := ⟨_, rfl⟩
          have b6 : Below (w5.setCell ⟨gU, 0, none⟩ (.slice tt k ct)).heap.size (w5.setCell ⟨gU, 0, none⟩ (.slice tt k ct)) W6 := by rw [hW6]; exact below0 _ _
          have HP6 : Hid (PerR (fun k => wr.heap.size ≤ k ∧ k < w5.heap.size) W6 tt k X Y K V) := (HPK.out.set (fun z => by omega)).below b6
          have HW6 : Hid (Below w.heap.size w W6) := (HW5.out.trans (bsU.below (by omega) HW5.out.size)).trans (b6.mono (by have := HW5.out.size; simp; omega))
          have s6 : w5.heap.size ≤ W6.heap.size := by have := b6.size; simpa using this
          have HWE : Hid (W6 = (w5.setCell ⟨gU, 0, none⟩ (.slice tt k ct)).alloc (.cells #[] 2)) := hW6
          have HUW : Hid (W6.cell? ⟨gU, 0, none⟩ = some (.slice tt k ct)) := (b6.cell (p := ⟨gU, 0, none⟩) (by simpa using zU)).trans (World.cell?_setCell_same' _ _ _ (by rw [u0]; rfl))
          clear bsU cU fU h5 hpk HPK o0 oz bk0 bkz hW6 b6
          go_wp2
          rw [← HWE.out]
          refine bodyPost_ret (v := .tuple #[.agg #[.slice tt k ct], .slice (some ⟨w5.heap.size, 0, none⟩) 0 0, .int .i64 7]) (by simp [results, Try.results24, go_sem, HUW.out]) rfl ?_
          refine GbAns.none HOK.out hq ?_
          exact ⟨tt, ct, _, 0, (fun k => wr.heap.size ≤ k ∧ k < w5.heap.size), fun _ => False, rfl, fun k hk => ⟨Nat.le_trans xw hk.1, Nat.lt_of_lt_of_le hk.2 s6⟩, HP6.out, fun k hk => hk.elim, no_ints _ _ _, fun k _ h => h, HW6.out⟩

end Go.Proofs.Ytikcfpjfcpbfcaa
