/-
What is proved: what is drawn for a burner's run: a burner, and at most 1100 of what is seen.
-/
import Derived.Test.YtpnihekpokfooaaPgE
import Derived.Test.YtpnihekpokfooaaBuP
import Derived.Test.YtpnihekpokfooaaBoM
import Derived.Deep.RegionHeld3
import Derived.Deep.DeepCutAuto
import Derived.Deep.AppendLies
import Derived.Laws.OwnMore
namespace Go.Proofs.Ytpnihekpokfooaa
set_option maxRecDepth 40000
open Go.RowKit
set_option linter.unusedVariables false
set_option linter.unusedSimpArgs false

set_option maxHeartbeats 1000000 in
theorem size_any {r : Nat} {s : Option Addr} {n c p : Nat} {w : World} (per most : Int) (h0 : 1 ≤ per) (h1 : per ≤ 1000) (h2 : 1 ≤ most) (h3 : most ≤ 1000) (h : Hid (Rd w r s n c p)) :
    Calls Try.prog 48 #[.pointer (some ⟨r, 0, none⟩), .int .i64 per, .int .i64 most] w fun e w' => ∃ k p', e = .returned (.int .i64 k) ∧ 1 ≤ k ∧ k ≤ most + 1 ∧ Rd w' r s n c p' ∧ Beside r w w' := by
  obtain ⟨z1, z2, z3, z4, z5, z6, -⟩ := h.out
  have n1 : (n : Int) ≤ 1048576 := by omega
  have d0 : 0 ≤ (n : Int) / per := Int.ediv_nonneg (by omega) (by omega)
  have d1 : (n : Int) / per ≤ (n : Int) := Int.ediv_le_self per (by omega)
  have BL : Hid (∀ m, 1 ≤ m → m ≤ most → Calls Try.prog 50 #[.pointer (some ⟨r, 0, none⟩), .int .i64 m] w fun e w' => ∃ k p', e = .returned (.int .i64 k) ∧ 0 ≤ k ∧ k ≤ most ∧ Rd w' r s n c p' ∧ Beside r w w') := fun m m0 m1 => (below_any m h).mono fun e w' ⟨k, p', e1, k0, k1, k2, R, b⟩ => ⟨k, p', e1, k0, by omega, R, b⟩
  have pz : ¬ per = 0 := by omega
  by_cases q : 1 + (n : Int) / per ≤ most
  · go_enter Try.func48, Try.ntmps48
    go_wp2_with fail
    refine (BL.out _ (by omega) (by omega)).mono ?_
    rintro e w1 ⟨k, p1, rfl, k0, k1, R1, b1⟩
    go_wp2
    go_ret
    exact ⟨1 + k, p1, rfl, by omega, by omega, R1, b1⟩
  · go_enter Try.func48, Try.ntmps48
    go_wp2_with fail
    refine (BL.out _ (by omega) (by omega)).mono ?_
    rintro e w1 ⟨k, p1, rfl, k0, k1, R1, b1⟩
    go_wp2
    go_ret
    exact ⟨1 + k, p1, rfl, by omega, by omega, R1, b1⟩

theorem info_in : (Try.prog.info? 34).map (fun i => (i.zero, i.size, i.bytes)) = some (some (.agg #[.bool false, .bool false, .bool false, .bool false, .bool false, .bool false]), 6, 6) := by kernel_rfl
theorem newsSix (W : World) (a b c d e f : Value) (t : TypeId) : ∀ j u, [a, b, c, d, e, f][j]? = some u → (W.alloc (.cells #[a, b, c, d, e, f] t)).cell? ((⟨W.heap.size, 0, none⟩ : Addr).add j) = some u := World.news_of_block (cs := #[a, b, c, d, e, f]) (heap_alloc_new W _)
theorem list_in {ops : Array Oper} {rest : List Oper} {o : Oper} {a : Act} {Q : Exit → Act → World → Prop} {W : World} {t : TypeId} {x0 x1 x2 x3 x4 x5 : Bool} (base : Nat) (v : Value) (k : Nat) (xs : List Value) (s q : Operand) (hgd : o.guard = none)
    (ho : o.op = .call { callee := .builtin .append, args := #[s, q], argTypes := #[44, 44] }) (hs : a.eval s = v) (hx : a.eval q = .slice (some ⟨W.heap.size, 0, none⟩) 1 1) (hown : W.ownsRow base 34 6 v k xs) (hk : k ≤ 100000) (hb : base ≤ W.heap.size)
    (h : ∀ g cap w', w'.ownsRow base 34 6 (.slice (some ⟨g, 0, none⟩) (k + 1) cap) (k + 1) (xs ++ [.bool x0, .bool x1, .bool x2, .bool x3, .bool x4, .bool x5]) → W.grownBy w' v.ownBlock → g < w'.heap.size → wpList Try.prog ops Q rest (a.put o.dst (.slice (some ⟨g, 0, none⟩) (k + 1) cap)) w') :
    wpList Try.prog ops Q (o :: rest) a (W.alloc (.cells #[.bool x0, .bool x1, .bool x2, .bool x3, .bool x4, .bool x5] t)) := by
  obtain ⟨i0, hi, hz0, hz1, hz2⟩ := info_parts info_in
  refine wpList_append_lies _ hgd s q 44 ho base 34 i0 (.agg #[.bool false, .bool false, .bool false, .bool false, .bool false, .bool false]) 6 6 Try.underlying44 hi hz0 hz1 hz2 rfl (by decide) v k xs hs (hown.alloc _) ⟨W.heap.size, 0, none⟩ 1 1 [.bool x0, .bool x1, .bool x2, .bool x3, .bool x4, .bool x5] hx rfl (newsSix _ _ _ _ _ _ _ _) ?_ (by decide) (by unfold maxLen; omega) (by omega) (by simp; omega) _ rfl ?_
  · intro u hu
    simp at hu
    rcases hu with rfl | rfl | rfl | rfl | rfl | rfl <;> rfl
  · intro g cap w' h1 h2 _ h3
    exact h g cap w' h1 (grown_new h2) h3
def putB (U : Nat → Bool) (k : Nat) (x0 x1 x2 x3 x4 x5 : Bool) (j : Nat) : Bool := if j = k * 6 then x0 else if j = k * 6 + 1 then x1 else if j = k * 6 + 2 then x2 else if j = k * 6 + 3 then x3 else if j = k * 6 + 4 then x4 else if j = k * 6 + 5 then x5 else U j
theorem valB_put (U : Nat → Bool) (k : Nat) (x0 x1 x2 x3 x4 x5 : Bool) : valB (putB U k x0 x1 x2 x3 x4 x5) ((k + 1) * 6) = valB U (k * 6) ++ [.bool x0, .bool x1, .bool x2, .bool x3, .bool x4, .bool x5] := by
  rw [show (k + 1) * 6 = k * 6 + 1 + 1 + 1 + 1 + 1 + 1 by omega, valB_succ, valB_succ, valB_succ, valB_succ, valB_succ, valB_succ]
  have e0 : putB U k x0 x1 x2 x3 x4 x5 (k * 6) = x0 := by unfold putB; rw [if_pos rfl]
  have e1 : putB U k x0 x1 x2 x3 x4 x5 (k * 6 + 1) = x1 := by unfold putB; rw [if_neg (by omega), if_pos rfl]
  have e2 : putB U k x0 x1 x2 x3 x4 x5 (k * 6 + 2) = x2 := by unfold putB; rw [if_neg (by omega), if_neg (by omega), if_pos rfl]
  have e3 : putB U k x0 x1 x2 x3 x4 x5 (k * 6 + 3) = x3 := by unfold putB; rw [if_neg (by omega), if_neg (by omega), if_neg (by omega), if_pos rfl]
  have e4 : putB U k x0 x1 x2 x3 x4 x5 (k * 6 + 4) = x4 := by unfold putB; rw [if_neg (by omega), if_neg (by omega), if_neg (by omega), if_neg (by omega), if_pos rfl]
  have e5 : putB U k x0 x1 x2 x3 x4 x5 (k * 6 + 5) = x5 := by unfold putB; rw [if_neg (by omega), if_neg (by omega), if_neg (by omega), if_neg (by omega), if_neg (by omega), if_pos rfl]
  have e6 : valB (putB U k x0 x1 x2 x3 x4 x5) (k * 6) = valB U (k * 6) := by
    unfold valB
    refine List.map_congr_left fun j hj => ?_
    have : j < k * 6 := by simpa using hj
    unfold putB
    rw [if_neg (by omega), if_neg (by omega), if_neg (by omega), if_neg (by omega), if_neg (by omega), if_neg (by omega)]
  have a1 : k * 6 + 1 + 1 = k * 6 + 2 := rfl
  have a2 : k * 6 + 2 + 1 = k * 6 + 3 := rfl
  have a3 : k * 6 + 3 + 1 = k * 6 + 4 := rfl
  have a4 : k * 6 + 4 + 1 = k * 6 + 5 := rfl
  rw [a1, a2, a3, a4, e0, e1, e2, e3, e4, e5, e6]
  simp
theorem InAt.grown {W W' : World} {b : Nat} {u0 u1 u2 u3 u4 u5 : Bool} {row : Option Nat} (h : InAt W b u0 u1 u2 u3 u4 u5) (hg : W.grownBy W' row) (hb : ∀ g, row = some g → b ≠ g) : InAt W' b u0 u1 u2 u3 u4 u5 := by
  cases row with
  | none => exact h.below (grown_below hg (Nat.le_refl _) (fun r e => by cases e))
  | some g => exact h.beside (r := g) ⟨hg.os, hg.tape, hg.output, hg.size, fun k hk hn => hg.block k hk (fun e => by cases e; exact hn rfl)⟩ (hb g rfl)
theorem BurAt.lower {w w' : World} {b N : Nat} {p : Int × Int × Int} (h : BurAt w b p) (hn : b < N) (G : Below N w w') : BurAt w' b p :=
  ⟨Nat.lt_of_lt_of_le h.1 G.size, ⟨(G.cell (p := ⟨b, 0, none⟩) hn).trans h.2.1.1, (G.cell (p := ⟨b, 1, none⟩) hn).trans h.2.1.2.1, (G.cell (p := ⟨b, 2, none⟩) hn).trans h.2.1.2.2⟩, (G.frozen (p := ⟨b, 0, none⟩) hn).trans h.2.2.1, (G.frozen (p := ⟨b, 1, none⟩) hn).trans h.2.2.2.1, (G.frozen (p := ⟨b, 2, none⟩) hn).trans h.2.2.2.2⟩
/-- What a run's draw has made: the reader in r, three burners, a list. -/
def StP (w : World) (r : Nat) (s : Option Addr) (n c p5 p6 base : Nat) (W : World) (p q : Int × Int × Int) (v : Value) (k : Nat) (U : Nat → Bool) : Prop :=
  (∃ p, Rd W r s n c p) ∧ BurAt W w.heap.size (0, 0, 0) ∧ BurAt W p5 p ∧ BurAt W p6 q ∧ W.ownsRow base 34 6 v k (valB U (k * 6)) ∧ Below w.heap.size w W ∧ base ≤ W.heap.size
def Ord (w : World) (r p5 p6 base : Nat) : Prop := w.heap.size < r ∧ r < p5 ∧ p5 < p6 ∧ p6 < base
theorem StP.read {w : World} {r : Nat} {s : Option Addr} {n c p5 p6 base : Nat} {W : World} {p q : Int × Int × Int} {v : Value} {k : Nat} {U : Nat → Bool} (O : Ord w r p5 p6 base) (h : StP w r s n c p5 p6 base W p q v k U) {W' : World} {i : Nat} (b : Beside r W W') (R : Rd W' r s n c i) : StP w r s n c p5 p6 base W' p q v k U := by
  obtain ⟨o1, o2, o3, o4⟩ := O
  obtain ⟨_, h2, h3, h4, h5, h6, h7⟩ := h
  exact ⟨⟨i, R⟩, h2.beside b (by omega), h3.beside b (by omega), h4.beside b (by omega), own_same h5 fun g hg => b.2.2.2.2 g (h5.lt g hg).2 (by have := (h5.lt g hg).1; omega), h6.trans (b.below (by omega) h6.size), Nat.le_trans h7 b.2.2.2.1⟩
theorem StP.far {w : World} {r : Nat} {s : Option Addr} {n c p5 p6 base : Nat} {W : World} {p q : Int × Int × Int} {v : Value} {k : Nat} {U : Nat → Bool} (O : Ord w r p5 p6 base) (h : StP w r s n c p5 p6 base W p q v k U) {W' : World} (b : Below W.heap.size W W') : StP w r s n c p5 p6 base W' p q v k U := by
  obtain ⟨⟨i, h1⟩, h2, h3, h4, h5, h6, h7⟩ := h
  exact ⟨⟨i, h1.below b⟩, h2.below b, h3.below b, h4.below b, ownB_same h5 b, h6.trans (b.mono h6.size), Nat.le_trans h7 b.size⟩
theorem StP.on {w : World} {r : Nat} {s : Option Addr} {n c p5 p6 base : Nat} {W : World} {p q : Int × Int × Int} {v : Value} {k : Nat} {U : Nat → Bool} (O : Ord w r p5 p6 base) (h : StP w r s n c p5 p6 base W p q v k U) {W' : World} {g cap : Nat} {x0 x1 x2 x3 x4 x5 : Bool} (hown : W'.ownsRow base 34 6 (.slice (some ⟨g, 0, none⟩) (k + 1) cap) (k + 1) (valB U (k * 6) ++ [.bool x0, .bool x1, .bool x2, .bool x3, .bool x4, .bool x5])) (hg : W.grownBy W' v.ownBlock) : StP w r s n c p5 p6 base W' p q (.slice (some ⟨g, 0, none⟩) (k + 1) cap) (k + 1) (putB U k x0 x1 x2 x3 x4 x5) := by
  obtain ⟨o1, o2, o3, o4⟩ := O
  obtain ⟨⟨i, h1⟩, h2, h3, h4, h5, h6, h7⟩ := h
  have G : Below base W W' := grown_below hg h7 (own_block h5)
  exact ⟨⟨i, h1.below' (G.mono (by omega))⟩, h2.lower (by omega) G, h3.lower (by omega) G, h4.lower (by omega) G, by rw [valB_put]; exact hown, h6.trans (G.mono (by omega)), Nat.le_trans h7 G.size⟩
theorem StP.put {w : World} {r : Nat} {s : Option Addr} {n c p5 p6 base : Nat} {W : World} {p q : Int × Int × Int} {v : Value} {k : Nat} {U : Nat → Bool} (O : Ord w r p5 p6 base) (h : StP w r s n c p5 p6 base W p q v k U) {x y z : Int} : StP w r s n c p5 p6 base (((W.setCell ⟨p6, 0, none⟩ (.int .i64 x)).setCell ⟨p6, 1, none⟩ (.int .i64 y)).setCell ⟨p6, 2, none⟩ (.int .i64 z)) p (x, y, z) v k U := by
  obtain ⟨o1, o2, o3, o4⟩ := O
  obtain ⟨⟨i, h1⟩, h2, h3, h4, h5, h6, h7⟩ := h
  have b := beside3 p6 W 0 1 2 (.int .i64 x) (.int .i64 y) (.int .i64 z)
  exact ⟨⟨i, h1.below' (b.below (by omega) (by omega))⟩, h2.beside b (by omega), h3.beside b (by omega), h4.put, own_same h5 fun g hg => b.2.2.2.2 g (h5.lt g hg).2 (by have := (h5.lt g hg).1; omega), h6.trans (b.below (by omega) h6.size), Nat.le_trans h7 b.2.2.2.1⟩
theorem own_OwnB6 {w : World} {base n : Nat} {v : Value} {U : Nat → Bool} (h : w.ownsRow base 34 6 v n (valB U (n * 6))) : ∃ s cap, v = .slice s n cap ∧ OwnB base w s (n * 6) U := by
  rcases h.2 with ⟨rfl, rfl⟩ | ⟨g, cap, cur, rfl, hb, hg, _, _, _, _⟩
  · exact ⟨none, 0, rfl, fun j hj => by omega⟩
  · refine ⟨some ⟨g, 0, none⟩, cap, rfl, fun j hj => ⟨g, rfl, hb, (Array.getElem?_eq_some_iff.1 hg).1, ?_, h.frozenAt j⟩⟩
    rw [h.cellAt j (by omega)]
    simp [valB, hj]
theorem RowB.beside {r : Nat} {W W' : World} {t : Option Addr} {m : Nat} {V : Nat → Bool} (h : RowB W t m V) (b : Beside r W W') (hn : ∀ g o, t = some ⟨g, o, none⟩ → g ≠ r) : RowB W' t m V := fun j hj => by
  obtain ⟨g, o, e, hl, hc⟩ := h j hj
  exact ⟨g, o, e, Nat.lt_of_lt_of_le hl b.2.2.2.1, (b.cell (p := ⟨g, o + j, none⟩) hl (hn g o e)).trans hc⟩
theorem rowB_new (w : World) (n : Nat) (t : TypeId) : RowB (w.alloc (.cells (madeCells #[.bool false, .bool false, .bool false, .bool false, .bool false, .bool false] (n * 6)) t)) (some ⟨w.heap.size, 0, none⟩) (n * 6) (fun _ => false) := fun j hj => by
  refine ⟨w.heap.size, 0, rfl, by simp, ?_⟩
  have hm : (madeCells #[.bool false, .bool false, .bool false, .bool false, .bool false, .bool false] (n * 6))[j]? = some (.bool false) := by
    simp only [madeCells, Array.getElem?_map, Array.getElem?_range, hj, if_true, Option.map_some]
    have : j % 6 = 0 ∨ j % 6 = 1 ∨ j % 6 = 2 ∨ j % 6 = 3 ∨ j % 6 = 4 ∨ j % 6 = 5 := by omega
    rcases this with h | h | h | h | h | h
    all_goals
      show some ((#[Value.bool false, Value.bool false, Value.bool false, Value.bool false, Value.bool false, Value.bool false] : Array Value)[j % 6]!) = _
      rw [h]; rfl
  rw [Nat.zero_add]
  simpa [go_sem] using hm
theorem rowB_at (w : World) (n : Nat) (t : TypeId) (g : Nat) (hg : g = w.heap.size) : RowB (w.alloc (.cells (madeCells #[.bool false, .bool false, .bool false, .bool false, .bool false, .bool false] (n * 6)) t)) (some ⟨g, 0, none⟩) (n * 6) (fun _ => false) := hg ▸ rowB_new w n t
theorem make_In (n : Nat) (hn : n ≤ 100000) (w : World) : (Instr.makeSlice 44 (.int .i64 (n : Int)) (.int .i64 (n : Int))).run Try.prog w = .ok (.slice (some ⟨w.heap.size, 0, none⟩) n n) (w.alloc (.cells (madeCells #[.bool false, .bool false, .bool false, .bool false, .bool false, .bool false] (n * 6)) 34)) := by
  obtain ⟨i, hi, hzz⟩ := Option.map_eq_some_iff.1 info_in
  simp only [Prod.mk.injEq] at hzz
  obtain ⟨hz, hs, hb⟩ := hzz
  have hr := run_make (P := Try.prog) w 44 34 i _ Try.underlying44 hi hz .i64 .i64 n n (by omega) (Int.le_refl _) (by rw [hb]; omega) (by omega)
  simp only [Int.toNat_natCast, hs] at hr
  exact hr
def DbPost (w : World) (e : Ending) (w' : World) : Prop := ∃ x y z m t ct V, e = .returned (.tuple #[.agg #[.int .i64 x, .int .i64 y, .int .i64 z], .slice t m ct]) ∧ m ≤ 1100 ∧ RowB w' t (m * 6) V ∧ Below w.heap.size w w'
theorem dbp_of {w : World} {e : Ending} {w' : World} (x y z : Int) (m : Nat) (t : Option Addr) (ct : Nat) (V : Nat → Bool) (h0 : e = .returned (.tuple #[.agg #[.int .i64 x, .int .i64 y, .int .i64 z], .slice t m ct])) (h1 : m ≤ 1100) (h2 : RowB w' t (m * 6) V) (h3 : Below w.heap.size w w') : DbPost w e w' := ⟨x, y, z, m, t, ct, V, h0, h1, h2, h3⟩
end Go.Proofs.Ytpnihekpokfooaa
