/-
What is proved: a list of rows of int64s on its way of being put together, kept from world to world.
-/
import Derived.Test.YtikcfpjfcpbfcaaZcH
import Derived.Test.YtikcfpjfcpbfcaaZcA
import Derived.Deep.AppendLies
import Derived.Laws.OwnMore
namespace Go.Proofs.Ytikcfpjfcpbfcaa
set_option maxRecDepth 40000
open Go.ChangeShapes Go.WideShapes Go.ChangeAt Go.RowKit
set_option linter.unusedVariables false
set_option linter.unusedSimpArgs false

/-- A list of k rows of M int64s, in memory of its own. -/
def Lst (base : Nat) (T : TypeId) (M : Nat) (w : World) (v : Value) (k : Nat) (U : Nat → Int) : Prop := w.ownsRow base T M v k (vals U (k * M))
theorem Lst.same {w w' : World} {base : Nat} {T : TypeId} {M : Nat} {v : Value} {k : Nat} {U : Nat → Int} (h : Lst base T M w v k U) (hs : ∀ g, v.ownBlock = some g → w'.heap[g]? = w.heap[g]?) : Lst base T M w' v k U := by
  refine ⟨h.1, ?_⟩
  rcases h.2 with q | ⟨g, cap, cur, e1, hb, hg, r⟩
  · exact .inl q
  · exact .inr ⟨g, cap, cur, e1, hb, (hs g (by rw [e1]; rfl)).trans hg, r⟩
theorem Lst.beside {w w' : World} {base r : Nat} {T : TypeId} {M : Nat} {v : Value} {k : Nat} {U : Nat → Int} (h : Lst base T M w v k U) (hb : Beside r w w') (hr : r < base) : Lst base T M w' v k U := h.same fun g hg => hb.2.2.2.2 g (h.lt g hg).2 (by have := (h.lt g hg).1; omega)
theorem Lst.below {w w' : World} {base : Nat} {T : TypeId} {M : Nat} {v : Value} {k : Nat} {U : Nat → Int} (h : Lst base T M w v k U) (hb : Below w.heap.size w w') : Lst base T M w' v k U := h.same fun g hg => hb.block g (h.lt g hg).2
theorem Lst.grownL {w w' : World} {base B : Nat} {T : TypeId} {M : Nat} {v : Value} {k : Nat} {U : Nat → Int} (h : Lst base T M w v k U) (hb : Below B w w') (hl : ∀ g, v.ownBlock = some g → g < B) : Lst base T M w' v k U := h.same fun g hg => hb.block g (hl g hg)
theorem Lst.lit (w : World) (base : Nat) (T t : TypeId) (M : Nat) (U : Nat → Int) (hb : base ≤ w.heap.size) : Lst base T M (w.alloc (.cells #[] T)) (.slice (some ⟨w.heap.size, 0, none⟩) 0 0) 0 U := by
  show World.ownsRow _ _ _ _ _ _ _
  simpa [vals] using World.ownsRow_lit (base := base) (size := M) (e := T) w #[] 0 hb (by simp [maxLen]) (by simp)
theorem Lst.own {w : World} {base : Nat} {T : TypeId} {M : Nat} {v : Value} {k : Nat} {U : Nat → Int} (h : Lst base T M w v k U) : ∃ t cap, v = .slice t k cap ∧ OwnI base w t (k * M) U := own_OwnI (size := M) (U := U) h
theorem Lst.form {w : World} {base : Nat} {T : TypeId} {M : Nat} {v : Value} {k : Nat} {U : Nat → Int} (h : Lst base T M w v k U) : ∃ t cap, v = .slice t k cap := by
  obtain ⟨t, cap, e, -⟩ := h.own
  exact ⟨t, cap, e⟩
theorem Lst.cap {w : World} {base : Nat} {T : TypeId} {M : Nat} {t : Option Addr} {k cap : Nat} {U : Nat → Int} (h : Lst base T M w (.slice t k cap) k U) : k ≤ cap := by
  rcases h.2 with ⟨e1, e2⟩ | ⟨g, cap', cur, e1, _, _, hc, _⟩
  · cases e1; omega
  · cases e1; exact hc
/-- The numbers with one row more. -/
def putL (U : Nat → Int) (M k : Nat) (xs : List Int) (j : Nat) : Int := if k * M ≤ j then (xs[j - k * M]?).getD 0 else U j
theorem vals_putL (U : Nat → Int) (M k : Nat) (xs : List Int) (hM : xs.length = M) : vals (putL U M k xs) ((k + 1) * M) = vals U (k * M) ++ xs.map (Value.int .i64) := by
  have key : ∀ m, m ≤ xs.length → vals (putL U M k xs) (k * M + m) = vals U (k * M) ++ (xs.take m).map (Value.int .i64) := by
    intro m
    induction m with
    | zero =>
      intro _
      simp only [List.take_zero, List.map_nil, List.append_nil, Nat.add_zero]
      unfold vals
      refine List.map_congr_left fun j hj => ?_
      have : j < k * M := by simpa using hj
      unfold putL
      rw [if_neg (by omega)]
    | succ m ih =>
      intro hm
      rw [← Nat.add_assoc, vals_succ, ih (by omega), List.append_assoc]
      congr 1
      have e : putL U M k xs (k * M + m) = xs[m] := by
        unfold putL
        rw [if_pos (by omega), show k * M + m - k * M = m by omega, List.getElem?_eq_getElem (by omega)]
        rfl
      rw [e, List.take_add_one, List.getElem?_eq_getElem (by omega), List.map_append]
      rfl
  have := key M (by omega)
  rw [Nat.succ_mul, this, ← hM, List.take_length]
theorem Lst.on {w w' : World} {base : Nat} {T : TypeId} {M : Nat} {v v' : Value} {k : Nat} {U : Nat → Int} {xs : List Int} (h : Lst base T M w v k U) (hM : xs.length = M) (hown : w'.ownsRow base T M v' (k + 1) (vals U (k * M) ++ xs.map (Value.int .i64))) : Lst base T M w' v' (k + 1) (putL U M k xs) := by
  show World.ownsRow _ _ _ _ _ _ _
  rw [vals_putL U M k xs hM]
  exact hown
open Go.ChangeShapes Go.WideShapes Go.ChangeAt Go.RowKit
set_option linter.unusedVariables false
set_option linter.unusedSimpArgs false

theorem info_i64L : (Try.prog.info? 2).map (fun i => (i.zero, i.size, i.bytes)) = some (some (.int .i64 0), 1, 8) := by kernel_rfl
theorem list_i64L {ops : Array Oper} {rest : List Oper} {o : Oper} {a : Act} {Q : Exit → Act → World → Prop} {W : World} {t : TypeId} {x0 : Int} (base : Nat) (v : Value) (k : Nat) (U : Nat → Int) (s z : Operand) (hgd : o.guard = none)
    (ho : o.op = .call { callee := .builtin .append, args := #[s, z], argTypes := #[23, 23] }) (hs : a.eval s = v) (hx : a.eval z = .slice (some ⟨W.heap.size, 0, none⟩) 1 1) (hown : Lst base 2 1 W v k U) (hk : k ≤ 1000000) (hb : base ≤ W.heap.size)
    (h : ∀ g cap w', Lst base 2 1 w' (.slice (some ⟨g, 0, none⟩) (k + 1) cap) (k + 1) (putL U 1 k [x0]) → Below base W w' → wpList Try.prog ops Q rest (a.put o.dst (.slice (some ⟨g, 0, none⟩) (k + 1) cap)) w') :
    wpList Try.prog ops Q (o :: rest) a (W.alloc (.cells #[.int .i64 x0] t)) := by
  obtain ⟨i0, hi, hz0, hz1, hz2⟩ := info_parts info_i64L
  refine wpList_append_lies _ hgd s z 23 ho base 2 i0 (.int .i64 0) 1 8 Try.underlying23 hi hz0 hz1 hz2 rfl (by decide) v k _ hs (hown.alloc _) ⟨W.heap.size, 0, none⟩ 1 1 [.int .i64 x0] hx rfl (newsOne _ _ _) ?_ (by decide) (by unfold maxLen; omega) (by omega) (by simp; omega) _ rfl ?_
  · intro u hu
    simp at hu
    subst hu; rfl
  · intro g cap w' h1 h2 _ h3
    exact h g cap w' (hown.on (xs := [x0]) rfl h1) (grown_below (grown_new h2) hb (own_block hown))

open Go.ChangeShapes Go.WideShapes Go.ChangeAt Go.RowKit
set_option linter.unusedVariables false
set_option linter.unusedSimpArgs false

theorem info_Duct : (Try.prog.info? 106).map (fun i => (i.zero, i.size, i.bytes)) = some (some (.agg #[.int .i64 0, .int .i64 0]), 2, 16) := by kernel_rfl
open Go.ChangeShapes Go.WideShapes Go.ChangeAt Go.RowKit
set_option linter.unusedVariables false
set_option linter.unusedSimpArgs false

def NtS (w0 : World) (r gn gu B : Nat) (s : Option Addr) (n c : Nat) (W : World) (P : Int) (cd cs dv : Value) (nd : Nat) (sv : Value) (ns p : Nat) : Prop := Rd W r s n c p ∧ Beside r w0 W ∧ Blk W gn [.int .i64 P, cd, cs] ∧ Blk W gu [.int .i64 0, .slice none 0 0, .slice none 0 0] ∧ B ≤ W.heap.size ∧ (∃ U, Lst B 106 2 W dv nd U) ∧ (∃ U, Lst B 2 1 W sv ns U) ∧ (r < w0.heap.size ∧ w0.heap.size ≤ gu ∧ gu < gn ∧ gn < B)
theorem Lst.tyN {base : Nat} {T : TypeId} {M : Nat} {W : World} {v : Value} {k : Nat} {U : Nat → Int} (h : Lst base T M W v k U) {g : Nat} (hg : v.ownBlock = some g) : ∃ cur, W.heap[g]? = some (.cells cur T (0, 0)) := by
  rcases h.2 with ⟨q, _⟩ | ⟨g', cap, cur, e, _, hg', _⟩
  · rw [q] at hg; cases hg
  · rw [e] at hg; cases hg; exact ⟨cur, hg'⟩
theorem Lst.nilN (base : Nat) (T : TypeId) (M : Nat) (W : World) (U : Nat → Int) : Lst base T M W (.slice none 0 0) 0 U := by
  show World.ownsRow _ _ _ _ _ _ _
  simpa [vals] using World.ownsRow_nil W base T M
theorem NtS.call {w0 : World} {r gn gu B : Nat} {s : Option Addr} {n c : Nat} {W W' : World} {P : Int} {cd cs dv : Value} {nd : Nat} {sv : Value} {ns p : Nat} {p' : Nat} (h : NtS w0 r gn gu B s n c W P cd cs dv nd sv ns p) (R : Rd W' r s n c p') (b : Beside r W W') : NtS w0 r gn gu B s n c W' P cd cs dv nd sv ns p' := by
  obtain ⟨h1, h2, h3, h4, h5, ⟨U, h6⟩, ⟨V, h7⟩, h8⟩ := h
  exact ⟨R, h2.trans b, h3.beside b (by omega), h4.beside b (by omega), Nat.le_trans h5 b.2.2.2.1, ⟨U, h6.beside b (by omega)⟩, ⟨V, h7.beside b (by omega)⟩, h8⟩
theorem NtS.below {w0 : World} {r gn gu B : Nat} {s : Option Addr} {n c : Nat} {W W' : World} {P : Int} {cd cs dv : Value} {nd : Nat} {sv : Value} {ns p : Nat} (h : NtS w0 r gn gu B s n c W P cd cs dv nd sv ns p) (b : Below W.heap.size W W') : NtS w0 r gn gu B s n c W' P cd cs dv nd sv ns p := h.call (h.1.below b) (Beside.of b)
theorem NtS.fresh {w0 : World} {r gn gu B : Nat} {s : Option Addr} {n c : Nat} {W W' : World} {P : Int} {cd cs dv : Value} {nd : Nat} {sv : Value} {ns p : Nat} (h : NtS w0 r gn gu B s n c W P cd cs dv nd sv ns p) (b : Beside gn W W') : Rd W' r s n c p ∧ Beside r w0 W' ∧ Blk W' gu [.int .i64 0, .slice none 0 0, .slice none 0 0] ∧ B ≤ W'.heap.size ∧ (∃ U, Lst B 106 2 W' dv nd U) ∧ (∃ U, Lst B 2 1 W' sv ns U) := by
  obtain ⟨h1, h2, h3, h4, h5, ⟨U, h6⟩, ⟨V, h7⟩, h8⟩ := h
  have z := h2.2.2.2.1
  have hb : Below (r + 1) W W' := b.below (by omega) (by have := h1.1; omega)
  have hb0 : Below w0.heap.size W W' := b.below (by omega) z
  exact ⟨Rd.below' h1 hb, h2.onB hb0, h4.beside b (by omega), Nat.le_trans h5 b.2.2.2.1, ⟨U, h6.beside b (by omega)⟩, ⟨V, h7.beside b (by omega)⟩⟩
theorem NtS.set0 {w0 : World} {r gn gu B : Nat} {s : Option Addr} {n c : Nat} {W : World} {P : Int} {cd cs dv : Value} {nd : Nat} {sv : Value} {ns p : Nat} (h : NtS w0 r gn gu B s n c W P cd cs dv nd sv ns p) (x : Int) : NtS w0 r gn gu B s n c (W.setCell ⟨gn, 0, none⟩ (.int .i64 x)) x cd cs dv nd sv ns p := by
  obtain ⟨a1, a2, a4, a5, a6, a7⟩ := h.fresh (Beside.setCell gn W 0 (.int .i64 x))
  exact ⟨a1, a2, h.2.2.1.set 0 _, a4, a5, a6, a7, h.2.2.2.2.2.2.2⟩
theorem NtS.set1 {w0 : World} {r gn gu B : Nat} {s : Option Addr} {n c : Nat} {W : World} {P : Int} {cd cs dv : Value} {nd : Nat} {sv : Value} {ns p : Nat} (h : NtS w0 r gn gu B s n c W P cd cs dv nd sv ns p) (x : Value) : NtS w0 r gn gu B s n c (W.setCell ⟨gn, 1, none⟩ x) P x cs dv nd sv ns p := by
  obtain ⟨a1, a2, a4, a5, a6, a7⟩ := h.fresh (Beside.setCell gn W 1 x)
  exact ⟨a1, a2, h.2.2.1.set 1 _, a4, a5, a6, a7, h.2.2.2.2.2.2.2⟩
theorem NtS.set2 {w0 : World} {r gn gu B : Nat} {s : Option Addr} {n c : Nat} {W : World} {P : Int} {cd cs dv : Value} {nd : Nat} {sv : Value} {ns p : Nat} (h : NtS w0 r gn gu B s n c W P cd cs dv nd sv ns p) (x : Value) : NtS w0 r gn gu B s n c (W.setCell ⟨gn, 2, none⟩ x) P cd x dv nd sv ns p := by
  obtain ⟨a1, a2, a4, a5, a6, a7⟩ := h.fresh (Beside.setCell gn W 2 x)
  exact ⟨a1, a2, h.2.2.1.set 2 _, a4, a5, a6, a7, h.2.2.2.2.2.2.2⟩
theorem NtS.nosrc {w0 : World} {r gn gu B : Nat} {s : Option Addr} {n c : Nat} {W : World} {P : Int} {cd cs dv : Value} {nd : Nat} {sv : Value} {ns p : Nat} (h : NtS w0 r gn gu B s n c W P cd cs dv nd sv ns p) : NtS w0 r gn gu B s n c W P cd cs dv nd (.slice none 0 0) 0 p := ⟨h.1, h.2.1, h.2.2.1, h.2.2.2.1, h.2.2.2.2.1, h.2.2.2.2.2.1, ⟨fun _ => 0, Lst.nilN _ _ _ _ _⟩, h.2.2.2.2.2.2.2⟩
/-- Behind an append to the ducts. -/
theorem NtS.growD {w0 : World} {r gn gu B : Nat} {s : Option Addr} {n c : Nat} {W W' : World} {P : Int} {cd cs dv : Value} {nd : Nat} {sv : Value} {ns p : Nat} {v' : Value} {x y : Int} {U : Nat → Int} (h : NtS w0 r gn gu B s n c W P cd cs dv nd sv ns p) (hU : Lst B 106 2 W dv nd U) (hown : W'.ownsRow B 106 2 v' (nd + 1) (vals U (nd * 2) ++ [.int .i64 x, .int .i64 y])) (hg : W.grownBy W' dv.ownBlock) : NtS w0 r gn gu B s n c W' P cd cs v' (nd + 1) sv ns p := by
  obtain ⟨h1, h2, h3, h4, h5, -, ⟨V, h7⟩, h8⟩ := h
  have b : Below B W W' := grown_below hg h5 (own_block hU)
  refine ⟨Rd.below' h1 (b.mono (by omega)), h2.onB (b.mono (by omega)), h3.belowB b (by omega), h4.belowB b (by omega), Nat.le_trans h5 b.size, ⟨_, hU.on (xs := [x, y]) rfl hown⟩, ⟨V, h7.same fun g q => ?_⟩, h8⟩
  refine hg.block g (h7.lt g q).2 (fun e => ?_)
  obtain ⟨c1, e1⟩ := h7.tyN q
  obtain ⟨c2, e2⟩ := hU.tyN e.symm
  rw [e1] at e2
  cases e2
theorem NtS.growS {w0 : World} {r gn gu B : Nat} {s : Option Addr} {n c : Nat} {W W' : World} {P : Int} {cd cs dv : Value} {nd : Nat} {sv : Value} {ns p : Nat} {v' : Value} {x : Int} {U : Nat → Int} (h : NtS w0 r gn gu B s n c W P cd cs dv nd sv ns p) (hU : Lst B 2 1 W sv ns U) (hown : W'.ownsRow B 2 1 v' (ns + 1) (vals U (ns * 1) ++ [.int .i64 x])) (hg : W.grownBy W' sv.ownBlock) : NtS w0 r gn gu B s n c W' P cd cs dv nd v' (ns + 1) p := by
  obtain ⟨h1, h2, h3, h4, h5, ⟨V, h7⟩, -, h8⟩ := h
  have b : Below B W W' := grown_below hg h5 (own_block hU)
  refine ⟨Rd.below' h1 (b.mono (by omega)), h2.onB (b.mono (by omega)), h3.belowB b (by omega), h4.belowB b (by omega), Nat.le_trans h5 b.size, ⟨V, h7.same fun g q => ?_⟩, ⟨_, hU.on (xs := [x]) rfl hown⟩, h8⟩
  refine hg.block g (h7.lt g q).2 (fun e => ?_)
  obtain ⟨c1, e1⟩ := h7.tyN q
  obtain ⟨c2, e2⟩ := hU.tyN e.symm
  rw [e1] at e2
  cases e2
theorem cells_twoN {W : World} {lb : Nat} {a b : Value} (h0 : W.cell? ⟨lb, 0, none⟩ = some a) (h1 : W.cell? ⟨lb, 1, none⟩ = some b) : ∀ j u, [a, b][j]? = some u → W.cell? ((⟨lb, 0, none⟩ : Addr).add j) = some u := by
  intro j u hu
  rw [Addr.add_lit, Nat.zero_add]
  match j, hu with
  | 0, hu => cases hu; exact h0
  | 1, hu => cases hu; exact h1
theorem cells_oneN {W : World} {lb : Nat} {a : Value} (h0 : W.cell? ⟨lb, 0, none⟩ = some a) : ∀ j u, [a][j]? = some u → W.cell? ((⟨lb, 0, none⟩ : Addr).add j) = some u := by
  intro j u hu
  rw [Addr.add_lit, Nat.zero_add]
  match j, hu with
  | 0, hu => cases hu; exact h0
theorem wp_Duct {o : Oper} {a : Act} {KK : Act → World → Prop} {Q : Exit → Act → World → Prop} {W : World} {w0 : World} {r gn gu B : Nat} {s : Option Addr} {n c : Nat} {P : Int} {cd cs dv : Value} {nd : Nat} {sv : Value} {ns p : Nat} {x y : Int} (h : NtS w0 r gn gu B s n c W P cd cs dv nd sv ns p) (sa z : Operand)
    (ho : o.op = .call { callee := .builtin .append, args := #[sa, z], argTypes := #[39, 39] }) (hs : a.eval sa = dv) (lb : Nat) (hx : a.eval z = .slice (some ⟨lb, 0, none⟩) 1 1) (c0 : W.cell? ⟨lb, 0, none⟩ = some (.int .i64 x)) (c1 : W.cell? ⟨lb, 1, none⟩ = some (.int .i64 y)) (hk : nd ≤ 100000)
    (hK : ∀ g cap w', NtS w0 r gn gu B s n c w' P cd cs (.slice (some ⟨g, 0, none⟩) (nd + 1) cap) (nd + 1) sv ns p → KK (a.put o.dst (.slice (some ⟨g, 0, none⟩) (nd + 1) cap)) w') : o.wp Try.prog a W KK Q := by
  obtain ⟨i0, hi, hz0, hz1, hz2⟩ := info_parts info_Duct
  obtain ⟨U, hU⟩ := h.2.2.2.2.2.1
  refine wp_append_lies _ sa z 39 ho B 106 i0 (.agg #[.int .i64 0, .int .i64 0]) 2 16 Try.underlying39 hi hz0 hz1 hz2 rfl (by decide) dv nd _ hs hU ⟨lb, 0, none⟩ 1 1 [.int .i64 x, .int .i64 y] hx rfl (cells_twoN c0 c1) ?_ (by decide) (by unfold maxLen; omega) (by omega) h.2.2.2.2.1 _ rfl ?_
  · intro u hu
    simp at hu
    rcases hu with rfl | rfl <;> rfl
  · intro g cap w' q1 q2 _ q3
    exact hK g cap w' (h.growD hU q1 q2)
theorem wp_Src {o : Oper} {a : Act} {KK : Act → World → Prop} {Q : Exit → Act → World → Prop} {W : World} {w0 : World} {r gn gu B : Nat} {s : Option Addr} {n c : Nat} {P : Int} {cd cs dv : Value} {nd : Nat} {sv : Value} {ns p : Nat} {x : Int} (h : NtS w0 r gn gu B s n c W P cd cs dv nd sv ns p) (sa z : Operand)
    (ho : o.op = .call { callee := .builtin .append, args := #[sa, z], argTypes := #[23, 23] }) (hs : a.eval sa = sv) (lb : Nat) (hx : a.eval z = .slice (some ⟨lb, 0, none⟩) 1 1) (c0 : W.cell? ⟨lb, 0, none⟩ = some (.int .i64 x)) (hk : ns ≤ 100000)
    (hK : ∀ g cap w', NtS w0 r gn gu B s n c w' P cd cs dv nd (.slice (some ⟨g, 0, none⟩) (ns + 1) cap) (ns + 1) p → KK (a.put o.dst (.slice (some ⟨g, 0, none⟩) (ns + 1) cap)) w') : o.wp Try.prog a W KK Q := by
  obtain ⟨i0, hi, hz0, hz1, hz2⟩ := info_parts info_i64L
  obtain ⟨U, hU⟩ := h.2.2.2.2.2.2.1
  refine wp_append_lies _ sa z 23 ho B 2 i0 (.int .i64 0) 1 8 Try.underlying23 hi hz0 hz1 hz2 rfl (by decide) sv ns _ hs hU ⟨lb, 0, none⟩ 1 1 [.int .i64 x] hx rfl (cells_oneN c0) ?_ (by decide) (by unfold maxLen; omega) (by omega) h.2.2.2.2.1 _ rfl ?_
  · intro u hu
    simp at hu
    subst hu; rfl
  · intro g cap w' q1 q2 _ q3
    exact hK g cap w' (h.growS hU q1 q2)
theorem list_DuctN {ops : Array Oper} {rest : List Oper} {o : Oper} {a : Act} {Q : Exit → Act → World → Prop} {W : World} {tt : TypeId} {w0 : World} {r gn gu B : Nat} {s : Option Addr} {n c : Nat} {P : Int} {cd cs dv : Value} {nd : Nat} {sv : Value} {ns p : Nat} {x y : Int} (h : NtS w0 r gn gu B s n c W P cd cs dv nd sv ns p) (sa z : Operand) (hgd : o.guard = none)
    (ho : o.op = .call { callee := .builtin .append, args := #[sa, z], argTypes := #[39, 39] }) (hs : a.eval sa = dv) (hx : a.eval z = .slice (some ⟨W.heap.size, 0, none⟩) 1 1) (hk : nd ≤ 100000)
    (hK : ∀ g cap w', NtS w0 r gn gu B s n c w' P cd cs (.slice (some ⟨g, 0, none⟩) (nd + 1) cap) (nd + 1) sv ns p → wpList Try.prog ops Q rest (a.put o.dst (.slice (some ⟨g, 0, none⟩) (nd + 1) cap)) w') :
    wpList Try.prog ops Q (o :: rest) a (W.alloc (.cells #[.int .i64 x, .int .i64 y] tt)) := by
  obtain ⟨i0, hi, hz0, hz1, hz2⟩ := info_parts info_Duct
  have h' := h.below (below0 W (.cells #[.int .i64 x, .int .i64 y] tt))
  obtain ⟨U, hU⟩ := h'.2.2.2.2.2.1
  refine wpList_append_lies _ hgd sa z 39 ho B 106 i0 (.agg #[.int .i64 0, .int .i64 0]) 2 16 Try.underlying39 hi hz0 hz1 hz2 rfl (by decide) dv nd _ hs hU ⟨W.heap.size, 0, none⟩ 1 1 [.int .i64 x, .int .i64 y] hx rfl (newsTwo _ _ _ _) ?_ (by decide) (by unfold maxLen; omega) (by omega) h'.2.2.2.2.1 _ rfl ?_
  · intro u hu
    simp at hu
    rcases hu with rfl | rfl <;> rfl
  · intro g cap w' q1 q2 _ q3
    exact hK g cap w' (h'.growD hU q1 q2)
theorem list_SrcN {ops : Array Oper} {rest : List Oper} {o : Oper} {a : Act} {Q : Exit → Act → World → Prop} {W : World} {tt : TypeId} {w0 : World} {r gn gu B : Nat} {s : Option Addr} {n c : Nat} {P : Int} {cd cs dv : Value} {nd : Nat} {sv : Value} {ns p : Nat} {x : Int} (h : NtS w0 r gn gu B s n c W P cd cs dv nd sv ns p) (sa z : Operand) (hgd : o.guard = none)
    (ho : o.op = .call { callee := .builtin .append, args := #[sa, z], argTypes := #[23, 23] }) (hs : a.eval sa = sv) (hx : a.eval z = .slice (some ⟨W.heap.size, 0, none⟩) 1 1) (hk : ns ≤ 100000)
    (hK : ∀ g cap w', NtS w0 r gn gu B s n c w' P cd cs dv nd (.slice (some ⟨g, 0, none⟩) (ns + 1) cap) (ns + 1) p → wpList Try.prog ops Q rest (a.put o.dst (.slice (some ⟨g, 0, none⟩) (ns + 1) cap)) w') :
    wpList Try.prog ops Q (o :: rest) a (W.alloc (.cells #[.int .i64 x] tt)) := by
  obtain ⟨i0, hi, hz0, hz1, hz2⟩ := info_parts info_i64L
  have h' := h.below (below0 W (.cells #[.int .i64 x] tt))
  obtain ⟨U, hU⟩ := h'.2.2.2.2.2.2.1
  refine wpList_append_lies _ hgd sa z 23 ho B 2 i0 (.int .i64 0) 1 8 Try.underlying23 hi hz0 hz1 hz2 rfl (by decide) sv ns _ hs hU ⟨W.heap.size, 0, none⟩ 1 1 [.int .i64 x] hx rfl (newsOne _ _ _) ?_ (by decide) (by unfold maxLen; omega) (by omega) h'.2.2.2.2.1 _ rfl ?_
  · intro u hu
    simp at hu
    subst hu; rfl
  · intro g cap w' q1 q2 _ q3
    exact hK g cap w' (h'.growS hU q1 q2)
theorem NtS.lit {w0 : World} {r gn gu B : Nat} {s : Option Addr} {n c : Nat} {W : World} {P : Int} {cd cs dv : Value} {nd : Nat} {sv : Value} {ns p : Nat} (h : NtS w0 r gn gu B s n c W P cd cs dv nd sv ns p) (x : Int) (t : TypeId) : NtS w0 r gn gu B s n c (W.alloc (.cells #[.int .i64 x] 2)) P cd cs dv nd (.slice (some ⟨W.heap.size, 0, none⟩) 1 1) 1 p := by
  have h' := h.below (below0 W (.cells #[.int .i64 x] 2))
  refine ⟨h'.1, h'.2.1, h'.2.2.1, h'.2.2.2.1, h'.2.2.2.2.1, h'.2.2.2.2.2.1, ⟨fun _ => x, ?_⟩, h'.2.2.2.2.2.2.2⟩
  show World.ownsRow _ _ _ _ _ _ _
  have t := World.ownsRow_lit (base := B) (size := 1) (e := 2) W #[.int .i64 x] 1 h.2.2.2.2.1 (by simp [maxLen]) (by simp)
  simpa [vals] using t
theorem Lst.putN {base g k cap M : Nat} {T : TypeId} {w : World} {U : Nat → Int} (h : Lst base T M w (.slice (some ⟨g, 0, none⟩) k cap) k U) (q : Nat) (x : Int) (hq : q < k * M) : Lst base T M (w.setCell ⟨g, q, none⟩ (.int .i64 x)) (.slice (some ⟨g, 0, none⟩) k cap) k (fun j => if j = q then x else U j) := by
  have := (World.ownsRow.stored h q (.int .i64 x)).1
  have e : (vals U (k * M)).set q (.int .i64 x) = vals (fun j => if j = q then x else U j) (k * M) := by
    refine List.ext_getElem? fun j => ?_
    rw [List.getElem?_set]
    by_cases hj : j < k * M
    · by_cases z : q = j
      · subst z
        rw [if_pos rfl, if_pos (by rw [vals_length]; exact hj), vals_at _ hj]
        simp
      · rw [if_neg z, vals_at _ hj, vals_at _ hj, if_neg (fun e => z e.symm)]
    · rw [List.getElem?_eq_none (l := vals (fun j => if j = q then x else U j) (k * M)) (by rw [vals_length]; omega)]
      by_cases z : q = j
      · omega
      · rw [if_neg z, List.getElem?_eq_none (by rw [vals_length]; omega)]
  rw [e] at this
  exact this
/-- The first duct's first place is another number. -/
theorem NtS.put {w0 : World} {r gn gu B : Nat} {s : Option Addr} {n c : Nat} {W : World} {P : Int} {cd cs dv : Value} {nd : Nat} {sv : Value} {ns p : Nat} {g kd : Nat} (h : NtS w0 r gn gu B s n c W P cd cs (.slice (some ⟨g, 0, none⟩) nd kd) nd sv ns p) (h1 : 1 ≤ nd) (x : Int) : NtS w0 r gn gu B s n c (W.setCell ⟨g, 0, none⟩ (.int .i64 x)) P cd cs (.slice (some ⟨g, 0, none⟩) nd kd) nd sv ns p := by
  obtain ⟨a1, a2, a3, a4, a5, ⟨U, a6⟩, ⟨V, a7⟩, a8⟩ := h
  have gB : B ≤ g := (a6.lt g rfl).1
  have b : Beside g W (W.setCell ⟨g, 0, none⟩ (.int .i64 x)) := Beside.setCell g W 0 _
  have bB : Below B W (W.setCell ⟨g, 0, none⟩ (.int .i64 x)) := b.below gB a5
  refine ⟨Rd.below' a1 (bB.mono (by omega)), a2.onB (bB.mono (by omega)), a3.belowB bB (by omega), a4.belowB bB (by omega), Nat.le_trans a5 bB.size, ⟨fun j => if j = 0 then x else U j, a6.putN 0 x (by omega)⟩, ⟨V, a7.same fun g' q => b.2.2.2.2 g' (a7.lt g' q).2 (fun e => ?_)⟩, a8⟩
  · obtain ⟨c1, e1⟩ := a7.tyN q
    obtain ⟨c2, e2⟩ := a6.tyN (g := g) rfl
    rw [e, e2] at e1
    cases e1

open Go.ChangeShapes Go.WideShapes Go.ChangeAt Go.RowKit
set_option linter.unusedVariables false
set_option linter.unusedSimpArgs false

set_option maxHeartbeats 1000000 in
theorem near_all (lo hi : Int) {r : Nat} {s : Option Addr} {n c p : Nat} {w : World} (h : Hid (Rd w r s n c p)) :
    Calls Try.prog 100 #[.pointer (some ⟨r, 0, none⟩), .int .i64 lo, .int .i64 hi] w fun e w' => ∃ k p', e = .returned (.int .i64 k) ∧ Rd w' r s n c p' ∧ Beside r w w' := by
  obtain ⟨d, hd⟩ : ∃ d, wrap64 (hi - lo) = d := ⟨_, rfl⟩
  obtain ⟨d1, hd1⟩ : ∃ d1, wrap64 (d + 1) = d1 := ⟨_, rfl⟩
  have w1 : -9223372036854775808 ≤ d1 ∧ d1 ≤ 9223372036854775807 := by rw [← hd1]; unfold wrap64; omega
  have U : Hid (∀ w p, Rd w r s n c p → Calls Try.prog 99 #[.pointer (some ⟨r, 0, none⟩), .int .i64 d1] w fun e w' => ∃ k p', e = .returned (.int .i64 k) ∧ 0 ≤ k ∧ (k < d1 ∨ k = 0) ∧ Rd w' r s n c p' ∧ Beside r w w') := fun w p h => upto_any _ (wfi w1.1 w1.2) h
  clear w1
  go_enter Try.func100, Try.ntmps100
  go_wp2_with fail
  refine (below_any 8 h).mono ?_
  rintro e w1 ⟨k, p1, rfl, k0, k1, k2, R1, b1⟩
  by_cases e0 : k = 0
  · subst e0
    go_wp2
    go_ret
    exact ⟨lo, p1, rfl, R1, b1⟩
  · by_cases e1 : k = 1
    · subst e1
      go_wp2
      go_ret
      exact ⟨hi, p1, rfl, R1, b1⟩
    · go_wp2_with fail
      refine (U.out _ _ R1).mono ?_
      rintro e w2 ⟨j, p2, rfl, j0, j1, R2, b2⟩
      obtain ⟨q, hq⟩ : ∃ q, wrap64 (lo + j) = q := ⟨_, rfl⟩
      clear j0 j1
      go_wp2
      go_ret
      exact ⟨_, p2, rfl, R2, b1.trans b2⟩
set_option maxHeartbeats 2000000 in
theorem off_all (lo hi : Int) {r : Nat} {s : Option Addr} {n c p : Nat} {w : World} (h : Hid (Rd w r s n c p)) :
    Calls Try.prog 73 #[.pointer (some ⟨r, 0, none⟩), .int .i64 lo, .int .i64 hi] w fun e w' => ∃ k p', e = .returned (.int .i64 k) ∧ Rd w' r s n c p' ∧ Beside r w w' := by
  obtain ⟨l1, hl1⟩ : ∃ d, wrap64 (lo - 1) = d := ⟨_, rfl⟩
  obtain ⟨h1, hh1⟩ : ∃ d, wrap64 (hi + 1) = d := ⟨_, rfl⟩
  go_enter Try.func73, Try.ntmps73
  go_wp2_with fail
  refine (once_any 24 (by omega) (by omega) h).mono ?_
  rintro e w1 ⟨b, p1, rfl, R1, b1⟩
  cases b
  · go_wp2_with fail
    refine (near_all lo hi R1).mono ?_
    rintro e w2 ⟨k, p2, rfl, R2, b2⟩
    go_wp2
    go_ret
    exact ⟨k, p2, rfl, R2, b1.trans b2⟩
  · go_wp2_with fail
    refine (below_any 4 (Rd.below R1 (below0 w1 _))).mono ?_
    rintro e w2 ⟨j, p2, rfl, j0, j1, j2, R2, b2⟩
    have b3 : Beside r w w2 := (b1.later (below0 w1 _)).trans b2
    have zr : w1.heap.size ≠ r := by have := R1.1; omega
    have zs : w1.heap.size < w2.heap.size := by have := b2.2.2.2.1; simp at this; omega
    have hc : ∀ i, w2.cell? ⟨w1.heap.size, i, none⟩ = (w1.alloc (.cells #[.int .i64 l1, .int .i64 h1, .int .i64 (-9223372036854775808), .int .i64 9223372036854775807] 2)).cell? ⟨w1.heap.size, i, none⟩ := fun i => b2.cell (p := ⟨w1.heap.size, i, none⟩) (by simp) zr
    have jj : j = 0 ∨ j = 1 ∨ j = 2 ∨ j = 3 := by omega
    clear j0 j1 j2
    rcases jj with rfl | rfl | rfl | rfl
    · have hq := (hc 0).trans (show _ = some (.int .i64 (l1)) by simp [go_sem])
      clear hc
      go_wp2
      go_ret
      exact ⟨(l1), p2, rfl, R2, b3⟩
    · have hq := (hc 1).trans (show _ = some (.int .i64 (h1)) by simp [go_sem])
      clear hc
      go_wp2
      go_ret
      exact ⟨(h1), p2, rfl, R2, b3⟩
    · have hq := (hc 2).trans (show _ = some (.int .i64 (-9223372036854775808)) by simp [go_sem])
      clear hc
      go_wp2
      go_ret
      exact ⟨(-9223372036854775808), p2, rfl, R2, b3⟩
    · have hq := (hc 3).trans (show _ = some (.int .i64 (9223372036854775807)) by simp [go_sem])
      clear hc
      go_wp2
      go_ret
      exact ⟨(9223372036854775807), p2, rfl, R2, b3⟩

end Go.Proofs.Ytikcfpjfcpbfcaa
