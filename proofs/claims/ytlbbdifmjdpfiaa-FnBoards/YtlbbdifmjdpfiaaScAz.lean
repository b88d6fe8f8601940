/-
What is proved: a scan being drawn: lists of bools, of int64s and of shelves side by side, each appended to.
-/
import Derived.Test.YtlbbdifmjdpfiaaZdA
import Derived.Test.YtlbbdifmjdpfiaaScTz
import Derived.Deep.AppendLies
import Derived.Laws.OwnMore
namespace Go.Proofs.Ytlbbdifmjdpfiaa
set_option maxRecDepth 40000
open Go.ChangeShapes Go.WideShapes Go.ChangeAt Go.RowKit
set_option linter.unusedVariables false
set_option linter.unusedSimpArgs false

def LsBo (base : Nat) (w : World) (v : Value) (k : Nat) (F : Nat → Bool) : Prop := w.ownsRow base 4 1 v k ((List.range k).map fun i => Value.bool (F i))
theorem own_sameS {w w' : World} {base : Nat} {e : TypeId} {size : Nat} {v : Value} {n : Nat} {xs : List Value} (h : w.ownsRow base e size v n xs) (hs : ∀ g, v.ownBlock = some g → w'.heap[g]? = w.heap[g]?) : w'.ownsRow base e size v n xs := by
  refine ⟨h.1, ?_⟩
  rcases h.2 with q | ⟨g, cap, cur, e1, hb, hg, r⟩
  · exact .inl q
  · exact .inr ⟨g, cap, cur, e1, hb, (hs g (by rw [e1]; rfl)).trans hg, r⟩
theorem own_tyS {base n : Nat} {T : TypeId} {M : Nat} {W : World} {v : Value} {xs : List Value} (h : W.ownsRow base T M v n xs) {g : Nat} (hg : v.ownBlock = some g) : ∃ cur, W.heap[g]? = some (.cells cur T (0, 0)) := by
  rcases h.2 with ⟨q, _⟩ | ⟨g', cap, cur, e, _, hg', _⟩
  · rw [q] at hg; cases hg
  · rw [e] at hg; cases hg; exact ⟨cur, hg'⟩
theorem own_lowS {base b n : Nat} {T : TypeId} {M : Nat} {W : World} {v : Value} {xs : List Value} (h : W.ownsRow base T M v n xs) (hb : b ≤ base) : W.ownsRow b T M v n xs := by
  refine ⟨h.1, ?_⟩
  rcases h.2 with q | ⟨g, cap, cur, e1, q, r⟩
  · exact .inl q
  · exact .inr ⟨g, cap, cur, e1, by omega, r⟩
theorem apartS {base base' n n' : Nat} {T T' : TypeId} {M M' : Nat} {W : World} {v v' : Value} {xs xs' : List Value} (h : W.ownsRow base T M v n xs) (h' : W.ownsRow base' T' M' v' n' xs') (hT : T ≠ T') {g : Nat} (hg : v.ownBlock = some g) : some g ≠ v'.ownBlock := fun e => by
  obtain ⟨c1, e1⟩ := own_tyS h hg
  obtain ⟨c2, e2⟩ := own_tyS h' e.symm
  rw [e1] at e2
  cases e2
  exact hT rfl
theorem LsBo.row {base k cap : Nat} {W : World} {t : Option Addr} {F : Nat → Bool} (h : LsBo base W (.slice t k cap) k F) : RowB W t k F := fun j hj => by
  have h3 : W.ownsRow base 4 1 (.slice t k cap) k _ := h
  rcases h3.2 with ⟨e, q⟩ | ⟨g, cap', cur, e, hb, hg, hc, _⟩
  · omega
  · cases e
    have zg := (Array.getElem?_eq_some_iff.1 hg).1
    refine ⟨g, 0, rfl, zg, ?_⟩
    rw [Nat.zero_add, h3.cellAt j (by simpa using hj)]
    simp [hj]
theorem LsBo.onS {w' : World} {base : Nat} {v' : Value} {k : Nat} {F : Nat → Bool} {b : Bool} (hown : w'.ownsRow base 4 1 v' (k + 1) ((List.range k).map (fun i => Value.bool (F i)) ++ [.bool b])) : LsBo base w' v' (k + 1) (fun i => if i = k then b else F i) := by
  show World.ownsRow _ _ _ _ _ _ _
  have e : (List.range (k + 1)).map (fun i => Value.bool (if i = k then b else F i)) = (List.range k).map (fun i => Value.bool (F i)) ++ [.bool b] := by
    rw [List.range_succ, List.map_append]
    congr 1
    · refine List.map_congr_left fun i hi => ?_
      have := List.mem_range.1 hi
      rw [if_neg (by omega)]
    · simp
  rw [e]
  exact hown
theorem Lst.shelf {base : Nat} {W : World} {t : Option Addr} {k kd : Nat} {U : Nat → Int} (h : Lst base 94 2 W (.slice t k kd) k U) : RowShelf W t k (fun i => (U (i * 2), U (i * 2 + 1))) := fun j hj => by
  obtain ⟨t', c', e, ho⟩ := h.own
  simp only [Value.slice.injEq] at e
  obtain ⟨rfl, -, -⟩ := e
  obtain ⟨b, e1, _, a2, a3, _⟩ := ho (j * 2) (by omega)
  obtain ⟨b', e2, _, _, b3, _⟩ := ho (j * 2 + 1) (by omega)
  rw [e1] at e2
  cases e2
  exact ⟨b, 0, e1, a2, by rw [Nat.zero_add]; exact a3, by rw [Nat.zero_add]; exact b3⟩
theorem Lst.srcS {base : Nat} {W : World} {t : Option Addr} {k ks : Nat} {U : Nat → Int} (h : Lst base 2 1 W (.slice t k ks) k U) : RowI W t k U := by
  obtain ⟨t', c', e, ho⟩ := h.own
  simp only [Value.slice.injEq] at e
  obtain ⟨rfl, -, -⟩ := e
  rw [Nat.mul_one] at ho
  exact ho.row
/-- The three lists of a scan. -/
def Sc3 (B : Nat) (W : World) (v1 : Value) (n1 : Nat) (v2 : Value) (n2 : Nat) (v3 : Value) (n3 : Nat) : Prop := (∃ F, LsBo B W v1 n1 F) ∧ (∃ U, Lst B 2 1 W v2 n2 U) ∧ ∃ U, Lst B 94 2 W v3 n3 U
theorem Sc3.same {B : Nat} {W W' : World} {v1 v2 v3 : Value} {n1 n2 n3 : Nat} (h : Sc3 B W v1 n1 v2 n2 v3 n3) (hs : ∀ g, B ≤ g → g < W.heap.size → W'.heap[g]? = W.heap[g]?) : Sc3 B W' v1 n1 v2 n2 v3 n3 := by
  obtain ⟨⟨F, h1⟩, ⟨U, h2⟩, V, h3⟩ := h
  exact ⟨⟨F, own_sameS h1 fun g hg => hs g (World.ownsRow.lt h1 g hg).1 (World.ownsRow.lt h1 g hg).2⟩, ⟨U, own_sameS h2 fun g hg => hs g (World.ownsRow.lt h2 g hg).1 (World.ownsRow.lt h2 g hg).2⟩, V, own_sameS h3 fun g hg => hs g (World.ownsRow.lt h3 g hg).1 (World.ownsRow.lt h3 g hg).2⟩
theorem Sc3.beside {B r : Nat} {W W' : World} {v1 v2 v3 : Value} {n1 n2 n3 : Nat} (h : Sc3 B W v1 n1 v2 n2 v3 n3) (b : Beside r W W') (hr : r < B) : Sc3 B W' v1 n1 v2 n2 v3 n3 := h.same fun g h1 h2 => b.2.2.2.2 g h2 (by omega)
theorem Sc3.below {B : Nat} {W W' : World} {v1 v2 v3 : Value} {n1 n2 n3 : Nat} (h : Sc3 B W v1 n1 v2 n2 v3 n3) (b : Below W.heap.size W W') : Sc3 B W' v1 n1 v2 n2 v3 n3 := h.same fun g _ h2 => b.block g h2
theorem Sc3.low {B b : Nat} {W : World} {v1 v2 v3 : Value} {n1 n2 n3 : Nat} (h : Sc3 B W v1 n1 v2 n2 v3 n3) (hb : b ≤ B) : Sc3 b W v1 n1 v2 n2 v3 n3 := by
  obtain ⟨⟨F, h1⟩, ⟨U, h2⟩, V, h3⟩ := h
  exact ⟨⟨F, own_lowS h1 hb⟩, ⟨U, own_lowS h2 hb⟩, V, own_lowS h3 hb⟩
theorem Sc3.nil (B : Nat) (W : World) : Sc3 B W (.slice none 0 0) 0 (.slice none 0 0) 0 (.slice none 0 0) 0 := ⟨⟨fun _ => false, World.ownsRow_nil W B 4 1⟩, ⟨fun _ => 0, by show World.ownsRow _ _ _ _ _ _ _; simpa [vals] using World.ownsRow_nil W B 2 1⟩, fun _ => 0, by show World.ownsRow _ _ _ _ _ _ _; simpa [vals] using World.ownsRow_nil W B 94 2⟩
theorem ne_bool_i64 : 4 ≠ 2 := by decide
theorem ne_bool_sh : 4 ≠ 94 := by decide
theorem ne_i64_sh : 2 ≠ 94 := by decide
theorem info_bS : (Try.prog.info? 4).map (fun i => (i.zero, i.size, i.bytes)) = some (some (.bool false), 1, 1) := by kernel_rfl
theorem info_iS : (Try.prog.info? 2).map (fun i => (i.zero, i.size, i.bytes)) = some (some (.int .i64 0), 1, 8) := by kernel_rfl
theorem info_sS : (Try.prog.info? 94).map (fun i => (i.zero, i.size, i.bytes)) = some (some (.agg #[.int .i64 0, .int .i64 0]), 2, 16) := by kernel_rfl
theorem cells_oneS {W : World} {lb : Nat} {a : Value} (h0 : W.cell? ⟨lb, 0, none⟩ = some a) : ∀ j u, [a][j]? = some u → W.cell? ((⟨lb, 0, none⟩ : Addr).add j) = some u := by
  intro j u hu
  rw [Addr.add_lit, Nat.zero_add]
  match j, hu with
  | 0, hu => cases hu; exact h0
theorem cells_twoS {W : World} {lb : Nat} {a b : Value} (h0 : W.cell? ⟨lb, 0, none⟩ = some a) (h1 : W.cell? ⟨lb, 1, none⟩ = some b) : ∀ j u, [a, b][j]? = some u → W.cell? ((⟨lb, 0, none⟩ : Addr).add j) = some u := by
  intro j u hu
  rw [Addr.add_lit, Nat.zero_add]
  match j, hu with
  | 0, hu => cases hu; exact h0
  | 1, hu => cases hu; exact h1
theorem wp_sc1 {o : Oper} {a : Act} {KK : Act → World → Prop} {Q : Exit → Act → World → Prop} {W : World} {B : Nat} {v1 v2 v3 : Value} {n1 n2 n3 : Nat} {x : Bool} (h : Sc3 B W v1 n1 v2 n2 v3 n3) (sa z : Operand)
    (ho : o.op = .call { callee := .builtin .append, args := #[sa, z], argTypes := #[36, 36] }) (hs : a.eval sa = v1) (lb : Nat) (hx : a.eval z = .slice (some ⟨lb, 0, none⟩) 1 1) (c0 : W.cell? ⟨lb, 0, none⟩ = some (.bool x)) (hk : n1 ≤ 100000) (hB : B ≤ W.heap.size)
    (hK : ∀ g cap w', Sc3 B w' (.slice (some ⟨g, 0, none⟩) (n1 + 1) cap) (n1 + 1) v2 n2 v3 n3 → Below B W w' → KK (a.put o.dst (.slice (some ⟨g, 0, none⟩) (n1 + 1) cap)) w') : o.wp Try.prog a W KK Q := by
  obtain ⟨i0, hi, hz0, hz1, hz2⟩ := info_parts info_bS
  obtain ⟨⟨F, h1⟩, ⟨U, h2⟩, V, h3⟩ := h
  refine wp_append_lies _ sa z 36 ho B 4 i0 (.bool false) 1 1 Try.underlying36 hi hz0 hz1 hz2 rfl (by decide) v1 n1 _ hs h1 ⟨lb, 0, none⟩ 1 1 [.bool x] hx rfl (cells_oneS c0) ?_ (by decide) (by unfold maxLen; omega) (by omega) hB _ rfl ?_
  · intro u hu
    simp at hu
    subst hu; rfl
  · intro g cap w' q1 q2 _ q3
    exact hK g cap w' ⟨⟨_, LsBo.onS q1⟩, ⟨U, own_sameS h2 fun g hg => q2.block g (World.ownsRow.lt h2 g hg).2 (apartS h2 h1 ne_bool_i64.symm hg)⟩, V, own_sameS h3 fun g hg => q2.block g (World.ownsRow.lt h3 g hg).2 (apartS h3 h1 ne_bool_sh.symm hg)⟩ (grown_below q2 hB (own_block h1))
theorem list_sc1 {ops : Array Oper} {rest : List Oper} {o : Oper} {a : Act} {Q : Exit → Act → World → Prop} {W : World} {tt : TypeId} {B : Nat} {v1 v2 v3 : Value} {n1 n2 n3 : Nat} {x : Bool} (h : Sc3 B W v1 n1 v2 n2 v3 n3) (sa z : Operand) (hgd : o.guard = none)
    (ho : o.op = .call { callee := .builtin .append, args := #[sa, z], argTypes := #[36, 36] }) (hs : a.eval sa = v1) (hx : a.eval z = .slice (some ⟨W.heap.size, 0, none⟩) 1 1) (hk : n1 ≤ 100000) (hB : B ≤ W.heap.size)
    (hK : ∀ g cap w', Sc3 B w' (.slice (some ⟨g, 0, none⟩) (n1 + 1) cap) (n1 + 1) v2 n2 v3 n3 → Below B W w' → wpList Try.prog ops Q rest (a.put o.dst (.slice (some ⟨g, 0, none⟩) (n1 + 1) cap)) w') :
    wpList Try.prog ops Q (o :: rest) a (W.alloc (.cells #[.bool x] tt)) := by
  obtain ⟨i0, hi, hz0, hz1, hz2⟩ := info_parts info_bS
  have h' := h.below (below0 W (.cells #[.bool x] tt))
  have hB' : B ≤ (W.alloc (.cells #[.bool x] tt)).heap.size := by simp; omega
  obtain ⟨⟨F, h1⟩, ⟨U, h2⟩, V, h3⟩ := h'
  refine wpList_append_lies _ hgd sa z 36 ho B 4 i0 (.bool false) 1 1 Try.underlying36 hi hz0 hz1 hz2 rfl (by decide) v1 n1 _ hs h1 ⟨W.heap.size, 0, none⟩ 1 1 [.bool x] hx rfl (World.news_of_block (cs := #[.bool x]) (heap_alloc_new W _)) ?_ (by decide) (by unfold maxLen; omega) (by omega) hB' _ rfl ?_
  · intro u hu
    simp at hu
    subst hu; rfl
  · intro g cap w' q1 q2 _ q3
    exact hK g cap w' ⟨⟨_, LsBo.onS q1⟩, ⟨U, own_sameS h2 fun g hg => q2.block g (World.ownsRow.lt h2 g hg).2 (apartS h2 h1 ne_bool_i64.symm hg)⟩, V, own_sameS h3 fun g hg => q2.block g (World.ownsRow.lt h3 g hg).2 (apartS h3 h1 ne_bool_sh.symm hg)⟩ (((below0 W _).mono hB).trans (grown_below q2 hB' (own_block h1)))
theorem wp_sc2 {o : Oper} {a : Act} {KK : Act → World → Prop} {Q : Exit → Act → World → Prop} {W : World} {B : Nat} {v1 v2 v3 : Value} {n1 n2 n3 : Nat} {x : Int} (h : Sc3 B W v1 n1 v2 n2 v3 n3) (sa z : Operand)
    (ho : o.op = .call { callee := .builtin .append, args := #[sa, z], argTypes := #[33, 33] }) (hs : a.eval sa = v2) (lb : Nat) (hx : a.eval z = .slice (some ⟨lb, 0, none⟩) 1 1) (c0 : W.cell? ⟨lb, 0, none⟩ = some (.int .i64 x)) (hk : n2 ≤ 100000) (hB : B ≤ W.heap.size)
    (hK : ∀ g cap w', Sc3 B w' v1 n1 (.slice (some ⟨g, 0, none⟩) (n2 + 1) cap) (n2 + 1) v3 n3 → Below B W w' → KK (a.put o.dst (.slice (some ⟨g, 0, none⟩) (n2 + 1) cap)) w') : o.wp Try.prog a W KK Q := by
  obtain ⟨i0, hi, hz0, hz1, hz2⟩ := info_parts info_iS
  obtain ⟨⟨F, h1⟩, ⟨U, h2⟩, V, h3⟩ := h
  refine wp_append_lies _ sa z 33 ho B 2 i0 (.int .i64 0) 1 8 Try.underlying33 hi hz0 hz1 hz2 rfl (by decide) v2 n2 _ hs h2 ⟨lb, 0, none⟩ 1 1 [.int .i64 x] hx rfl (cells_oneS c0) ?_ (by decide) (by unfold maxLen; omega) (by omega) hB _ rfl ?_
  · intro u hu
    simp at hu
    subst hu; rfl
  · intro g cap w' q1 q2 _ q3
    exact hK g cap w' ⟨⟨F, own_sameS h1 fun g hg => q2.block g (World.ownsRow.lt h1 g hg).2 (apartS h1 h2 ne_bool_i64 hg)⟩, ⟨_, Lst.on h2 (xs := [x]) rfl q1⟩, V, own_sameS h3 fun g hg => q2.block g (World.ownsRow.lt h3 g hg).2 (apartS h3 h2 ne_i64_sh.symm hg)⟩ (grown_below q2 hB (own_block h2))
theorem list_sc2 {ops : Array Oper} {rest : List Oper} {o : Oper} {a : Act} {Q : Exit → Act → World → Prop} {W : World} {tt : TypeId} {B : Nat} {v1 v2 v3 : Value} {n1 n2 n3 : Nat} {x : Int} (h : Sc3 B W v1 n1 v2 n2 v3 n3) (sa z : Operand) (hgd : o.guard = none)
    (ho : o.op = .call { callee := .builtin .append, args := #[sa, z], argTypes := #[33, 33] }) (hs : a.eval sa = v2) (hx : a.eval z = .slice (some ⟨W.heap.size, 0, none⟩) 1 1) (hk : n2 ≤ 100000) (hB : B ≤ W.heap.size)
    (hK : ∀ g cap w', Sc3 B w' v1 n1 (.slice (some ⟨g, 0, none⟩) (n2 + 1) cap) (n2 + 1) v3 n3 → Below B W w' → wpList Try.prog ops Q rest (a.put o.dst (.slice (some ⟨g, 0, none⟩) (n2 + 1) cap)) w') :
    wpList Try.prog ops Q (o :: rest) a (W.alloc (.cells #[.int .i64 x] tt)) := by
  obtain ⟨i0, hi, hz0, hz1, hz2⟩ := info_parts info_iS
  have h' := h.below (below0 W (.cells #[.int .i64 x] tt))
  have hB' : B ≤ (W.alloc (.cells #[.int .i64 x] tt)).heap.size := by simp; omega
  obtain ⟨⟨F, h1⟩, ⟨U, h2⟩, V, h3⟩ := h'
  refine wpList_append_lies _ hgd sa z 33 ho B 2 i0 (.int .i64 0) 1 8 Try.underlying33 hi hz0 hz1 hz2 rfl (by decide) v2 n2 _ hs h2 ⟨W.heap.size, 0, none⟩ 1 1 [.int .i64 x] hx rfl (World.news_of_block (cs := #[.int .i64 x]) (heap_alloc_new W _)) ?_ (by decide) (by unfold maxLen; omega) (by omega) hB' _ rfl ?_
  · intro u hu
    simp at hu
    subst hu; rfl
  · intro g cap w' q1 q2 _ q3
    exact hK g cap w' ⟨⟨F, own_sameS h1 fun g hg => q2.block g (World.ownsRow.lt h1 g hg).2 (apartS h1 h2 ne_bool_i64 hg)⟩, ⟨_, Lst.on h2 (xs := [x]) rfl q1⟩, V, own_sameS h3 fun g hg => q2.block g (World.ownsRow.lt h3 g hg).2 (apartS h3 h2 ne_i64_sh.symm hg)⟩ (((below0 W _).mono hB).trans (grown_below q2 hB' (own_block h2)))
theorem wp_sc3 {o : Oper} {a : Act} {KK : Act → World → Prop} {Q : Exit → Act → World → Prop} {W : World} {B : Nat} {v1 v2 v3 : Value} {n1 n2 n3 : Nat} {x y : Int} (h : Sc3 B W v1 n1 v2 n2 v3 n3) (sa z : Operand)
    (ho : o.op = .call { callee := .builtin .append, args := #[sa, z], argTypes := #[37, 37] }) (hs : a.eval sa = v3) (lb : Nat) (hx : a.eval z = .slice (some ⟨lb, 0, none⟩) 1 1) (c0 : W.cell? ⟨lb, 0, none⟩ = some (.int .i64 x)) (c1 : W.cell? ⟨lb, 1, none⟩ = some (.int .i64 y)) (hk : n3 ≤ 100000) (hB : B ≤ W.heap.size)
    (hK : ∀ g cap w', Sc3 B w' v1 n1 v2 n2 (.slice (some ⟨g, 0, none⟩) (n3 + 1) cap) (n3 + 1) → Below B W w' → KK (a.put o.dst (.slice (some ⟨g, 0, none⟩) (n3 + 1) cap)) w') : o.wp Try.prog a W KK Q := by
  obtain ⟨i0, hi, hz0, hz1, hz2⟩ := info_parts info_sS
  obtain ⟨⟨F, h1⟩, ⟨U, h2⟩, V, h3⟩ := h
  refine wp_append_lies _ sa z 37 ho B 94 i0 (.agg #[.int .i64 0, .int .i64 0]) 2 16 Try.underlying37 hi hz0 hz1 hz2 rfl (by decide) v3 n3 _ hs h3 ⟨lb, 0, none⟩ 1 1 [.int .i64 x, .int .i64 y] hx rfl (cells_twoS c0 c1) ?_ (by decide) (by unfold maxLen; omega) (by omega) hB _ rfl ?_
  · intro u hu
    simp at hu
    rcases hu with rfl | rfl <;> rfl
  · intro g cap w' q1 q2 _ q3
    exact hK g cap w' ⟨⟨F, own_sameS h1 fun g hg => q2.block g (World.ownsRow.lt h1 g hg).2 (apartS h1 h3 ne_bool_sh hg)⟩, ⟨U, own_sameS h2 fun g hg => q2.block g (World.ownsRow.lt h2 g hg).2 (apartS h2 h3 ne_i64_sh hg)⟩, _, Lst.on h3 (xs := [x, y]) rfl q1⟩ (grown_below q2 hB (own_block h3))
theorem list_sc3 {ops : Array Oper} {rest : List Oper} {o : Oper} {a : Act} {Q : Exit → Act → World → Prop} {W : World} {tt : TypeId} {B : Nat} {v1 v2 v3 : Value} {n1 n2 n3 : Nat} {x y : Int} (h : Sc3 B W v1 n1 v2 n2 v3 n3) (sa z : Operand) (hgd : o.guard = none)
    (ho : o.op = .call { callee := .builtin .append, args := #[sa, z], argTypes := #[37, 37] }) (hs : a.eval sa = v3) (hx : a.eval z = .slice (some ⟨W.heap.size, 0, none⟩) 1 1) (hk : n3 ≤ 100000) (hB : B ≤ W.heap.size)
    (hK : ∀ g cap w', Sc3 B w' v1 n1 v2 n2 (.slice (some ⟨g, 0, none⟩) (n3 + 1) cap) (n3 + 1) → Below B W w' → wpList Try.prog ops Q rest (a.put o.dst (.slice (some ⟨g, 0, none⟩) (n3 + 1) cap)) w') :
    wpList Try.prog ops Q (o :: rest) a (W.alloc (.cells #[.int .i64 x, .int .i64 y] tt)) := by
  obtain ⟨i0, hi, hz0, hz1, hz2⟩ := info_parts info_sS
  have h' := h.below (below0 W (.cells #[.int .i64 x, .int .i64 y] tt))
  have hB' : B ≤ (W.alloc (.cells #[.int .i64 x, .int .i64 y] tt)).heap.size := by simp; omega
  obtain ⟨⟨F, h1⟩, ⟨U, h2⟩, V, h3⟩ := h'
  refine wpList_append_lies _ hgd sa z 37 ho B 94 i0 (.agg #[.int .i64 0, .int .i64 0]) 2 16 Try.underlying37 hi hz0 hz1 hz2 rfl (by decide) v3 n3 _ hs h3 ⟨W.heap.size, 0, none⟩ 1 1 [.int .i64 x, .int .i64 y] hx rfl (World.news_of_block (cs := #[.int .i64 x, .int .i64 y]) (heap_alloc_new W _)) ?_ (by decide) (by unfold maxLen; omega) (by omega) hB' _ rfl ?_
  · intro u hu
    simp at hu
    rcases hu with rfl | rfl <;> rfl
  · intro g cap w' q1 q2 _ q3
    exact hK g cap w' ⟨⟨F, own_sameS h1 fun g hg => q2.block g (World.ownsRow.lt h1 g hg).2 (apartS h1 h3 ne_bool_sh hg)⟩, ⟨U, own_sameS h2 fun g hg => q2.block g (World.ownsRow.lt h2 g hg).2 (apartS h2 h3 ne_i64_sh hg)⟩, _, Lst.on h3 (xs := [x, y]) rfl q1⟩ (((below0 W _).mono hB).trans (grown_below q2 hB' (own_block h3)))
end Go.Proofs.Ytlbbdifmjdpfiaa
