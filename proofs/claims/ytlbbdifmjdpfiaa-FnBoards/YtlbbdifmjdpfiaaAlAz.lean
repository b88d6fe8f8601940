/-
What is proved: a list of alarms appended to; an alarm of a list set; what BoardStep answers, told once.
-/
import Derived.Test.YtlbbdifmjdpfiaaScAz
import Derived.Test.YtlbbdifmjdpfiaaBqNz
import Derived.Test.YtlbbdifmjdpfiaaZdD
namespace Go.Proofs.Ytlbbdifmjdpfiaa
set_option maxRecDepth 40000
open Go.ChangeShapes Go.WideShapes Go.ChangeAt Go.RowKit
set_option linter.unusedVariables false
set_option linter.unusedSimpArgs false

def alZ (F : Nat → Int × Int) : Nat → List Value
  | 0 => []
  | k + 1 => alZ F k ++ [.int .i64 (F k).1, .int .i64 (F k).2, .int .i64 0, .bool false, .int .i64 0]
theorem alZ_len (F : Nat → Int × Int) : ∀ k, (alZ F k).length = k * 5 := by
  intro k
  induction k with
  | zero => rfl
  | succ k ih => simp [alZ, ih]; omega
theorem alZ_at (F : Nat → Int × Int) : ∀ k j, j < k → (alZ F k)[j * 5]? = some (.int .i64 (F j).1) ∧ (alZ F k)[j * 5 + 1]? = some (.int .i64 (F j).2) ∧ (alZ F k)[j * 5 + 2]? = some (.int .i64 0) ∧ (alZ F k)[j * 5 + 3]? = some (.bool false) ∧ (alZ F k)[j * 5 + 4]? = some (.int .i64 0) := by
  intro k
  induction k with
  | zero => intro j h; omega
  | succ k ih =>
    intro j h
    have hl := alZ_len F k
    unfold alZ
    by_cases e : j < k
    · obtain ⟨a, b, c, d, f⟩ := ih j e
      rw [List.getElem?_append_left (by omega), List.getElem?_append_left (by omega), List.getElem?_append_left (by omega), List.getElem?_append_left (by omega), List.getElem?_append_left (by omega)]
      exact ⟨a, b, c, d, f⟩
    · obtain rfl : j = k := by omega
      rw [List.getElem?_append_right (by omega), List.getElem?_append_right (by omega), List.getElem?_append_right (by omega), List.getElem?_append_right (by omega), List.getElem?_append_right (by omega), hl, show j * 5 - j * 5 = 0 by omega, show j * 5 + 1 - j * 5 = 1 by omega, show j * 5 + 2 - j * 5 = 2 by omega, show j * 5 + 3 - j * 5 = 3 by omega, show j * 5 + 4 - j * 5 = 4 by omega]
      exact ⟨rfl, rfl, rfl, rfl, rfl⟩
theorem alZ_same {F G : Nat → Int × Int} : ∀ k, (∀ j, j < k → F j = G j) → alZ F k = alZ G k := by
  intro k
  induction k with
  | zero => intro _; rfl
  | succ k ih => intro h; unfold alZ; rw [ih fun j hj => h j (by omega), h k (by omega)]
def AlG (B : Nat) (W : World) (v : Value) (k : Nat) : Prop := ∃ F, W.ownsRow B 43 5 v k (alZ F k)
theorem AlG.nil (B : Nat) (W : World) : AlG B W (.slice none 0 0) 0 := ⟨fun _ => (0, 0), World.ownsRow_nil W B 43 5⟩
theorem AlG.same {B : Nat} {W W' : World} {v : Value} {k : Nat} (h : AlG B W v k) (hs : ∀ g, B ≤ g → g < W.heap.size → W'.heap[g]? = W.heap[g]?) : AlG B W' v k := by
  obtain ⟨F, h1⟩ := h
  exact ⟨F, own_sameS h1 fun g hg => hs g (World.ownsRow.lt h1 g hg).1 (World.ownsRow.lt h1 g hg).2⟩
theorem AlG.beside {B r : Nat} {W W' : World} {v : Value} {k : Nat} (h : AlG B W v k) (b : Beside r W W') (hr : r < B) : AlG B W' v k := h.same fun g h1 h2 => b.2.2.2.2 g h2 (by omega)
theorem AlG.below {B : Nat} {W W' : World} {v : Value} {k : Nat} (h : AlG B W v k) (b : Below W.heap.size W W') : AlG B W' v k := h.same fun g _ h2 => b.block g h2
theorem AlG.own {B : Nat} {W : World} {s : Option Addr} {k c : Nat} (h : AlG B W (.slice s k c) k) : ∃ V : Nat → Int × Int × Int × Bool × Int, OwnAlarm B W s k V := by
  obtain ⟨F, h1⟩ := h
  refine ⟨fun j => ((F j).1, (F j).2, 0, false, 0), fun j hj => ?_⟩
  have h3 := h1
  rcases h1.2 with ⟨e, q⟩ | ⟨g, cap', cur, e, hb, hg, hc, _⟩
  · omega
  · cases e
    have zg := (Array.getElem?_eq_some_iff.1 hg).1
    obtain ⟨a, b, c, d, f⟩ := alZ_at F k j hj
    exact ⟨g, rfl, hb, zg, fun o => by simp [World.frozen?, hg], (h3.cellAt (j * 5) (by omega)).trans a, (h3.cellAt (j * 5 + 1) (by omega)).trans b, (h3.cellAt (j * 5 + 2) (by omega)).trans c, (h3.cellAt (j * 5 + 3) (by omega)).trans d, (h3.cellAt (j * 5 + 4) (by omega)).trans f⟩
theorem info_aS : (Try.prog.info? 43).map (fun i => (i.zero, i.size, i.bytes)) = some (some (.agg #[.int .i64 0, .int .i64 0, .int .i64 0, .bool false, .int .i64 0]), 5, 40) := by kernel_rfl
theorem wp_alm {o : Oper} {a : Act} {KK : Act → World → Prop} {Q : Exit → Act → World → Prop} {W : World} {B : Nat} {v : Value} {k : Nat} {x y : Int} (h : AlG B W v k) (sa z : Operand)
    (ho : o.op = .call { callee := .builtin .append, args := #[sa, z], argTypes := #[24, 24] }) (hs : a.eval sa = v) (lb : Nat) (hx : a.eval z = .slice (some ⟨lb, 0, none⟩) 1 1) (hc : ∀ j u, [Value.int .i64 x, .int .i64 y, .int .i64 0, .bool false, .int .i64 0][j]? = some u → W.cell? ((⟨lb, 0, none⟩ : Addr).add j) = some u) (hk : k ≤ 100000) (hB : B ≤ W.heap.size)
    (hK : ∀ g cap w', AlG B w' (.slice (some ⟨g, 0, none⟩) (k + 1) cap) (k + 1) → Below B W w' → KK (a.put o.dst (.slice (some ⟨g, 0, none⟩) (k + 1) cap)) w') : o.wp Try.prog a W KK Q := by
  obtain ⟨i0, hi, hz0, hz1, hz2⟩ := info_parts info_aS
  obtain ⟨F, h1⟩ := h
  refine wp_append_lies _ sa z 24 ho B 43 i0 (.agg #[.int .i64 0, .int .i64 0, .int .i64 0, .bool false, .int .i64 0]) 5 40 Try.underlying24 hi hz0 hz1 hz2 rfl (by decide) v k _ hs h1 ⟨lb, 0, none⟩ 1 1 [.int .i64 x, .int .i64 y, .int .i64 0, .bool false, .int .i64 0] hx rfl hc ?_ (by decide) (by unfold maxLen; omega) (by omega) hB _ rfl ?_
  · intro u hu
    simp at hu
    rcases hu with rfl | rfl | rfl | rfl | rfl <;> rfl
  · intro g cap w' q1 q2 _ q3
    refine hK g cap w' ⟨fun i => if i = k then (x, y) else F i, ?_⟩ (grown_below q2 hB (own_block h1))
    have e : alZ (fun i => if i = k then (x, y) else F i) (k + 1) = alZ F k ++ [.int .i64 x, .int .i64 y, .int .i64 0, .bool false, .int .i64 0] := by
      rw [alZ, alZ_same k (G := F) fun j hj => if_neg (by omega)]
      simp
    rw [e]
    exact q1
/-- A cell of a block set: all blocks but that one stay. -/
theorem OwnAlarm.besideA {B r : Nat} {W W' : World} {s : Option Addr} {n : Nat} {V : Nat → Int × Int × Int × Bool × Int} (h : OwnAlarm B W s n V) (b : Beside r W W') (hr : r < B) : OwnAlarm B W' s n V := fun j hj => by
  obtain ⟨g, e, h1, h2, h3, c0, c1, c2, c3, c4⟩ := h j hj
  have ne : g ≠ r := by omega
  have eb := b.2.2.2.2 g h2 ne
  have ce : ∀ o, W'.cell? ⟨g, o, none⟩ = W.cell? ⟨g, o, none⟩ := fun o => World.cell?_of_block (w := W) (a := ⟨g, o, none⟩) eb
  exact ⟨g, e, h1, Nat.lt_of_lt_of_le h2 b.2.2.2.1, fun o => (World.frozen?_of_block (w := W) (a := ⟨g, o, none⟩) eb).trans (h3 o), (ce _).trans c0, (ce _).trans c1, (ce _).trans c2, (ce _).trans c3, (ce _).trans c4⟩
theorem OwnAlarm.besideN {B r : Nat} {W W' : World} {s : Option Addr} {n : Nat} {V : Nat → Int × Int × Int × Bool × Int} (h : OwnAlarm B W s n V) (b : Beside r W W') (hr : ∀ g, s = some ⟨g, 0, none⟩ → g ≠ r) : OwnAlarm B W' s n V := fun j hj => by
  obtain ⟨g, e, h1, h2, h3, c0, c1, c2, c3, c4⟩ := h j hj
  have eb := b.2.2.2.2 g h2 (hr g e)
  have ce : ∀ o, W'.cell? ⟨g, o, none⟩ = W.cell? ⟨g, o, none⟩ := fun o => World.cell?_of_block (w := W) (a := ⟨g, o, none⟩) eb
  exact ⟨g, e, h1, Nat.lt_of_lt_of_le h2 b.2.2.2.1, fun o => (World.frozen?_of_block (w := W) (a := ⟨g, o, none⟩) eb).trans (h3 o), (ce _).trans c0, (ce _).trans c1, (ce _).trans c2, (ce _).trans c3, (ce _).trans c4⟩
theorem OwnAlarm.ltA {B g : Nat} {W : World} {n : Nat} {V : Nat → Int × Int × Int × Bool × Int} (h : OwnAlarm B W (some ⟨g, 0, none⟩) n V) (hn : 0 < n) : B ≤ g ∧ g < W.heap.size := by
  obtain ⟨g', e, h1, h2, _⟩ := h 0 hn
  cases e
  exact ⟨h1, h2⟩
theorem OwnAlarm.belowA {B : Nat} {W W' : World} {s : Option Addr} {n : Nat} {V : Nat → Int × Int × Int × Bool × Int} (h : OwnAlarm B W s n V) (b : Below W.heap.size W W') : OwnAlarm B W' s n V := fun j hj => by
  obtain ⟨g, e, h1, h2, h3, c0, c1, c2, c3, c4⟩ := h j hj
  exact ⟨g, e, h1, Nat.lt_of_lt_of_le h2 b.size, fun o => (b.frozen (p := ⟨g, o, none⟩) h2).trans (h3 o), (b.cell (p := ⟨g, _, none⟩) h2).trans c0, (b.cell (p := ⟨g, _, none⟩) h2).trans c1, (b.cell (p := ⟨g, _, none⟩) h2).trans c2, (b.cell (p := ⟨g, _, none⟩) h2).trans c3, (b.cell (p := ⟨g, _, none⟩) h2).trans c4⟩
theorem OwnAlarm.lowA {B b : Nat} {W : World} {s : Option Addr} {n : Nat} {V : Nat → Int × Int × Int × Bool × Int} (h : OwnAlarm B W s n V) (hb : b ≤ B) : OwnAlarm b W s n V := fun j hj => by
  obtain ⟨g, e, h1, q⟩ := h j hj
  exact ⟨g, e, by omega, q⟩
theorem OwnAlarm.set0 {B g i : Nat} {W : World} {n : Nat} {V : Nat → Int × Int × Int × Bool × Int} (h : OwnAlarm B W (some ⟨g, 0, none⟩) n V) (hi : i < n) (z : Int) : ∃ V' : Nat → Int × Int × Int × Bool × Int, OwnAlarm B (W.setCell ⟨g, i * 5 + 0, none⟩ (.int .i64 z)) (some ⟨g, 0, none⟩) n V' := by
  refine ⟨fun j => if j = i then (z, (V j).2.1, (V j).2.2.1, (V j).2.2.2.1, (V j).2.2.2.2) else V j, fun j hj => ?_⟩
  obtain ⟨g', e, h1, h2, h3, c0, c1, c2, c3, c4⟩ := h j hj
  cases e
  have ot : ∀ o, o ≠ i * 5 + 0 → (W.setCell ⟨g, i * 5 + 0, none⟩ (.int .i64 z)).cell? ⟨g, o, none⟩ = W.cell? ⟨g, o, none⟩ := fun o ne => World.cell?_setCell_other _ _ _ _ (fun q => ne (by cases q; rfl))
  have z2 : g < (W.setCell ⟨g, i * 5 + 0, none⟩ (.int .i64 z)).heap.size := by simpa using h2
  refine ⟨g, rfl, h1, z2, fun o => by simp [go_sem, h3 o], ?_⟩
  by_cases q : j = i
  · subst q
    have is : (W.cell? ⟨g, j * 5 + 0, none⟩).isSome = true := by rw [show W.cell? ⟨g, j * 5 + 0, none⟩ = _ from c0]; rfl
    simp only [if_true]
    refine ⟨World.cell?_setCell_same' _ _ _ is, (ot _ (by omega)).trans c1, (ot _ (by omega)).trans c2, (ot _ (by omega)).trans c3, (ot _ (by omega)).trans c4⟩
  · simp only [if_neg q]
    exact ⟨(ot _ (by omega)).trans c0, (ot _ (by omega)).trans c1, (ot _ (by omega)).trans c2, (ot _ (by omega)).trans c3, (ot _ (by omega)).trans c4⟩
theorem OwnAlarm.set2 {B g i : Nat} {W : World} {n : Nat} {V : Nat → Int × Int × Int × Bool × Int} (h : OwnAlarm B W (some ⟨g, 0, none⟩) n V) (hi : i < n) (z : Int) : ∃ V' : Nat → Int × Int × Int × Bool × Int, OwnAlarm B (W.setCell ⟨g, i * 5 + 2, none⟩ (.int .i64 z)) (some ⟨g, 0, none⟩) n V' := by
  refine ⟨fun j => if j = i then ((V j).1, (V j).2.1, z, (V j).2.2.2.1, (V j).2.2.2.2) else V j, fun j hj => ?_⟩
  obtain ⟨g', e, h1, h2, h3, c0, c1, c2, c3, c4⟩ := h j hj
  cases e
  have ot : ∀ o, o ≠ i * 5 + 2 → (W.setCell ⟨g, i * 5 + 2, none⟩ (.int .i64 z)).cell? ⟨g, o, none⟩ = W.cell? ⟨g, o, none⟩ := fun o ne => World.cell?_setCell_other _ _ _ _ (fun q => ne (by cases q; rfl))
  have z2 : g < (W.setCell ⟨g, i * 5 + 2, none⟩ (.int .i64 z)).heap.size := by simpa using h2
  refine ⟨g, rfl, h1, z2, fun o => by simp [go_sem, h3 o], ?_⟩
  by_cases q : j = i
  · subst q
    have is : (W.cell? ⟨g, j * 5 + 2, none⟩).isSome = true := by rw [show W.cell? ⟨g, j * 5 + 2, none⟩ = _ from c2]; rfl
    simp only [if_true]
    refine ⟨(ot _ (by omega)).trans c0, (ot _ (by omega)).trans c1, World.cell?_setCell_same' _ _ _ is, (ot _ (by omega)).trans c3, (ot _ (by omega)).trans c4⟩
  · simp only [if_neg q]
    exact ⟨(ot _ (by omega)).trans c0, (ot _ (by omega)).trans c1, (ot _ (by omega)).trans c2, (ot _ (by omega)).trans c3, (ot _ (by omega)).trans c4⟩
theorem OwnAlarm.set3 {B g i : Nat} {W : World} {n : Nat} {V : Nat → Int × Int × Int × Bool × Int} (h : OwnAlarm B W (some ⟨g, 0, none⟩) n V) (hi : i < n) (z : Bool) : ∃ V' : Nat → Int × Int × Int × Bool × Int, OwnAlarm B (W.setCell ⟨g, i * 5 + 3, none⟩ (.bool z)) (some ⟨g, 0, none⟩) n V' := by
  refine ⟨fun j => if j = i then ((V j).1, (V j).2.1, (V j).2.2.1, z, (V j).2.2.2.2) else V j, fun j hj => ?_⟩
  obtain ⟨g', e, h1, h2, h3, c0, c1, c2, c3, c4⟩ := h j hj
  cases e
  have ot : ∀ o, o ≠ i * 5 + 3 → (W.setCell ⟨g, i * 5 + 3, none⟩ (.bool z)).cell? ⟨g, o, none⟩ = W.cell? ⟨g, o, none⟩ := fun o ne => World.cell?_setCell_other _ _ _ _ (fun q => ne (by cases q; rfl))
  have z2 : g < (W.setCell ⟨g, i * 5 + 3, none⟩ (.bool z)).heap.size := by simpa using h2
  refine ⟨g, rfl, h1, z2, fun o => by simp [go_sem, h3 o], ?_⟩
  by_cases q : j = i
  · subst q
    have is : (W.cell? ⟨g, j * 5 + 3, none⟩).isSome = true := by rw [show W.cell? ⟨g, j * 5 + 3, none⟩ = _ from c3]; rfl
    simp only [if_true]
    refine ⟨(ot _ (by omega)).trans c0, (ot _ (by omega)).trans c1, (ot _ (by omega)).trans c2, World.cell?_setCell_same' _ _ _ is, (ot _ (by omega)).trans c4⟩
  · simp only [if_neg q]
    exact ⟨(ot _ (by omega)).trans c0, (ot _ (by omega)).trans c1, (ot _ (by omega)).trans c2, (ot _ (by omega)).trans c3, (ot _ (by omega)).trans c4⟩
theorem OwnAlarm.set4 {B g i : Nat} {W : World} {n : Nat} {V : Nat → Int × Int × Int × Bool × Int} (h : OwnAlarm B W (some ⟨g, 0, none⟩) n V) (hi : i < n) (z : Int) : ∃ V' : Nat → Int × Int × Int × Bool × Int, OwnAlarm B (W.setCell ⟨g, i * 5 + 4, none⟩ (.int .i64 z)) (some ⟨g, 0, none⟩) n V' := by
  refine ⟨fun j => if j = i then ((V j).1, (V j).2.1, (V j).2.2.1, (V j).2.2.2.1, z) else V j, fun j hj => ?_⟩
  obtain ⟨g', e, h1, h2, h3, c0, c1, c2, c3, c4⟩ := h j hj
  cases e
  have ot : ∀ o, o ≠ i * 5 + 4 → (W.setCell ⟨g, i * 5 + 4, none⟩ (.int .i64 z)).cell? ⟨g, o, none⟩ = W.cell? ⟨g, o, none⟩ := fun o ne => World.cell?_setCell_other _ _ _ _ (fun q => ne (by cases q; rfl))
  have z2 : g < (W.setCell ⟨g, i * 5 + 4, none⟩ (.int .i64 z)).heap.size := by simpa using h2
  refine ⟨g, rfl, h1, z2, fun o => by simp [go_sem, h3 o], ?_⟩
  by_cases q : j = i
  · subst q
    have is : (W.cell? ⟨g, j * 5 + 4, none⟩).isSome = true := by rw [show W.cell? ⟨g, j * 5 + 4, none⟩ = _ from c4]; rfl
    simp only [if_true]
    refine ⟨(ot _ (by omega)).trans c0, (ot _ (by omega)).trans c1, (ot _ (by omega)).trans c2, (ot _ (by omega)).trans c3, World.cell?_setCell_same' _ _ _ is⟩
  · simp only [if_neg q]
    exact ⟨(ot _ (by omega)).trans c0, (ot _ (by omega)).trans c1, (ot _ (by omega)).trans c2, (ot _ (by omega)).trans c3, (ot _ (by omega)).trans c4⟩
theorem bs_any {w w' : World} {x : Int} {n : Nat} {V : Nat → Int × Int × Int × Bool × Int} {mo : Int} {nt : Nat} {Th : Nat → Bool} {ns : Nat} {Se : Nat → Int} {nh : Nat} {Sh : Nat → Int × Int} {e : Ending} (h : BsPost w x n V mo nt Th ns Se nh Sh e w') : ∃ (x' : Int) (s0 : Option Addr) (n0 c0 : Nat) (s1 : Option Addr) (n1 c1 : Nat) (ok : Bool), e = .returned (.tuple #[.agg #[.int .i64 x', .slice s0 n0 c0], .slice s1 n1 c1, .bool ok]) ∧ (ok = true → n0 = n ∧ ∃ V' : Nat → Int × Int × Int × Bool × Int, OwnAlarm w.heap.size w' s0 n0 V') ∧ Below w.heap.size w w' := by
  cases q : stpB x n V mo nt ns Se nh Sh
  · obtain ⟨s0, c0, s1, c1, he, hb⟩ := bs_out_no h q
    exact ⟨0, s0, 0, c0, s1, 0, c1, false, he, fun z => (by cases z), hb⟩
  · obtain ⟨s0, c0, s1, c1, S0, S1, he, h1, h2, h3, h4, h5, hb⟩ := bs_out_yes h q
    refine ⟨x + 1, s0, n, c0, s1, _, c1, true, he, fun _ => ⟨rfl, stV x n V mo nt Th ns Se nh Sh, fun j hj => ?_⟩, hb⟩
    obtain ⟨b, e1, -, e3, e4⟩ := h2.1 j hj
    exact ⟨b, e1, (h1 b (h2.2 (by omega) b e1)).1, e3, e4⟩
end Go.Proofs.Ytlbbdifmjdpfiaa
