/-
What is proved: a list of drawn scans, appended to and read.
-/
import Derived.Test.YtlbbdifmjdpfiaaScAz
import Derived.Test.YtlbbdifmjdpfiaaScsz
import Derived.Test.YtlbbdifmjdpfiaaAlAz
namespace Go.Proofs.Ytlbbdifmjdpfiaa
set_option maxRecDepth 40000
open Go.ChangeShapes Go.WideShapes Go.ChangeAt Go.RowKit
set_option linter.unusedVariables false
set_option linter.unusedSimpArgs false

def scE (B : Nat) (W : World) (q : Int × (Option Addr × Nat × Nat) × (Option Addr × Nat × Nat) × (Option Addr × Nat × Nat)) : Prop := q.2.1.2.1 ≤ 70000 ∧ q.2.2.1.2.1 ≤ 70000 ∧ q.2.2.2.2.1 ≤ 70000 ∧ Sc3 B W (.slice q.2.1.1 q.2.1.2.1 q.2.1.2.2) q.2.1.2.1 (.slice q.2.2.1.1 q.2.2.1.2.1 q.2.2.1.2.2) q.2.2.1.2.1 (.slice q.2.2.2.1 q.2.2.2.2.1 q.2.2.2.2.2) q.2.2.2.2.1
def scQ (Q : Nat → Int × (Option Addr × Nat × Nat) × (Option Addr × Nat × Nat) × (Option Addr × Nat × Nat)) : Nat → List Value
  | 0 => []
  | k + 1 => scQ Q k ++ [.int .i64 (Q k).1, .slice (Q k).2.1.1 (Q k).2.1.2.1 (Q k).2.1.2.2, .slice (Q k).2.2.1.1 (Q k).2.2.1.2.1 (Q k).2.2.1.2.2, .slice (Q k).2.2.2.1 (Q k).2.2.2.2.1 (Q k).2.2.2.2.2]
theorem scQ_len (Q : Nat → Int × (Option Addr × Nat × Nat) × (Option Addr × Nat × Nat) × (Option Addr × Nat × Nat)) : ∀ k, (scQ Q k).length = k * 4 := by
  intro k
  induction k with
  | zero => rfl
  | succ k ih => simp [scQ, ih]; omega
theorem scQ_at (Q : Nat → Int × (Option Addr × Nat × Nat) × (Option Addr × Nat × Nat) × (Option Addr × Nat × Nat)) : ∀ k j, j < k → (scQ Q k)[j * 4]? = some (.int .i64 (Q j).1) ∧ (scQ Q k)[j * 4 + 1]? = some (.slice (Q j).2.1.1 (Q j).2.1.2.1 (Q j).2.1.2.2) ∧ (scQ Q k)[j * 4 + 2]? = some (.slice (Q j).2.2.1.1 (Q j).2.2.1.2.1 (Q j).2.2.1.2.2) ∧ (scQ Q k)[j * 4 + 3]? = some (.slice (Q j).2.2.2.1 (Q j).2.2.2.2.1 (Q j).2.2.2.2.2) := by
  intro k
  induction k with
  | zero => intro j h; omega
  | succ k ih =>
    intro j h
    have hl := scQ_len Q k
    unfold scQ
    by_cases e : j < k
    · obtain ⟨a, b, c, d⟩ := ih j e
      rw [List.getElem?_append_left (by omega), List.getElem?_append_left (by omega), List.getElem?_append_left (by omega), List.getElem?_append_left (by omega)]
      exact ⟨a, b, c, d⟩
    · obtain rfl : j = k := by omega
      rw [List.getElem?_append_right (by omega), List.getElem?_append_right (by omega), List.getElem?_append_right (by omega), List.getElem?_append_right (by omega), hl, show j * 4 - j * 4 = 0 by omega, show j * 4 + 1 - j * 4 = 1 by omega, show j * 4 + 2 - j * 4 = 2 by omega, show j * 4 + 3 - j * 4 = 3 by omega]
      exact ⟨rfl, rfl, rfl, rfl⟩
theorem scQ_same {F G : Nat → Int × (Option Addr × Nat × Nat) × (Option Addr × Nat × Nat) × (Option Addr × Nat × Nat)} : ∀ k, (∀ j, j < k → F j = G j) → scQ F k = scQ G k := by
  intro k
  induction k with
  | zero => intro _; rfl
  | succ k ih => intro h; unfold scQ; rw [ih fun j hj => h j (by omega), h k (by omega)]
def ScsL (B : Nat) (W : World) (v : Value) (m : Nat) : Prop := ∃ Q, W.ownsRow B 39 4 v m (scQ Q m) ∧ ∀ i, i < m → scE B W (Q i)
theorem ScsL.same {B : Nat} {W W' : World} {v : Value} {m : Nat} (h : ScsL B W v m) (hs : ∀ g, B ≤ g → g < W.heap.size → W'.heap[g]? = W.heap[g]?) : ScsL B W' v m := by
  obtain ⟨Q, h1, h2⟩ := h
  exact ⟨Q, own_sameS h1 fun g hg => hs g (World.ownsRow.lt h1 g hg).1 (World.ownsRow.lt h1 g hg).2, fun i hi => ⟨(h2 i hi).1, (h2 i hi).2.1, (h2 i hi).2.2.1, (h2 i hi).2.2.2.same hs⟩⟩
theorem ScsL.beside {B r : Nat} {W W' : World} {v : Value} {m : Nat} (h : ScsL B W v m) (b : Beside r W W') (hr : r < B) : ScsL B W' v m := h.same fun g h1 h2 => b.2.2.2.2 g h2 (by omega)
theorem ScsL.below {B : Nat} {W W' : World} {v : Value} {m : Nat} (h : ScsL B W v m) (b : Below W.heap.size W W') : ScsL B W' v m := h.same fun g _ h2 => b.block g h2
theorem ScsL.lit (W : World) {B : Nat} (hb : B ≤ W.heap.size) : ScsL B (W.alloc (.cells #[] 39)) (.slice (some ⟨W.heap.size, 0, none⟩) 0 0) 0 := ⟨fun _ => (0, (none, 0, 0), (none, 0, 0), (none, 0, 0)), by simpa [scQ] using World.ownsRow_lit (base := B) (size := 4) (e := 39) W #[] 0 hb (by simp [maxLen]) (by simp), fun i hi => absurd hi (Nat.not_lt_zero _)⟩
theorem ne_sc_b : 4 ≠ 39 := by decide
theorem ne_sc_i : 2 ≠ 39 := by decide
theorem ne_sc_s : 94 ≠ 39 := by decide
theorem Sc3.grown {B B' : Nat} {W W' : World} {v1 v2 v3 v : Value} {n1 n2 n3 m : Nat} {xs : List Value} (h : Sc3 B W v1 n1 v2 n2 v3 n3) (ho : W.ownsRow B' 39 4 v m xs) (hg : W.grownBy W' v.ownBlock) : Sc3 B W' v1 n1 v2 n2 v3 n3 := by
  obtain ⟨⟨F, h1⟩, ⟨U, h2⟩, V, h3⟩ := h
  exact ⟨⟨F, own_sameS h1 fun g q => hg.block g (World.ownsRow.lt h1 g q).2 (apartS h1 ho ne_sc_b q)⟩, ⟨U, own_sameS h2 fun g q => hg.block g (World.ownsRow.lt h2 g q).2 (apartS h2 ho ne_sc_i q)⟩, V, own_sameS h3 fun g q => hg.block g (World.ownsRow.lt h3 g q).2 (apartS h3 ho ne_sc_s q)⟩
theorem info_scS : (Try.prog.info? 39).map (fun i => (i.zero, i.size, i.bytes)) = some (some (.agg #[.int .i64 0, .slice none 0 0, .slice none 0 0, .slice none 0 0]), 4, 80) := by kernel_rfl
theorem list_scs {ops : Array Oper} {rest : List Oper} {o : Oper} {a : Act} {Q_ : Exit → Act → World → Prop} {W : World} {tt : TypeId} {B : Nat} {v : Value} {m : Nat} (q : Int × (Option Addr × Nat × Nat) × (Option Addr × Nat × Nat) × (Option Addr × Nat × Nat)) (h : ScsL B W v m) (hq : scE B W q) (sa z : Operand) (hgd : o.guard = none)
    (ho : o.op = .call { callee := .builtin .append, args := #[sa, z], argTypes := #[27, 27] }) (hs : a.eval sa = v) (hx : a.eval z = .slice (some ⟨W.heap.size, 0, none⟩) 1 1) (hk : m ≤ 100000) (hB : B ≤ W.heap.size)
    (hK : ∀ g cap w', ScsL B w' (.slice (some ⟨g, 0, none⟩) (m + 1) cap) (m + 1) → Below B W w' → wpList Try.prog ops Q_ rest (a.put o.dst (.slice (some ⟨g, 0, none⟩) (m + 1) cap)) w') :
    wpList Try.prog ops Q_ (o :: rest) a (W.alloc (.cells #[.int .i64 q.1, .slice q.2.1.1 q.2.1.2.1 q.2.1.2.2, .slice q.2.2.1.1 q.2.2.1.2.1 q.2.2.1.2.2, .slice q.2.2.2.1 q.2.2.2.2.1 q.2.2.2.2.2] tt)) := by
  obtain ⟨i0, hi, hz0, hz1, hz2⟩ := info_parts info_scS
  have h' := h.below (below0 W (.cells #[.int .i64 q.1, .slice q.2.1.1 q.2.1.2.1 q.2.1.2.2, .slice q.2.2.1.1 q.2.2.1.2.1 q.2.2.1.2.2, .slice q.2.2.2.1 q.2.2.2.2.1 q.2.2.2.2.2] tt))
  have hB' : B ≤ (W.alloc (.cells #[.int .i64 q.1, .slice q.2.1.1 q.2.1.2.1 q.2.1.2.2, .slice q.2.2.1.1 q.2.2.1.2.1 q.2.2.1.2.2, .slice q.2.2.2.1 q.2.2.2.2.1 q.2.2.2.2.2] tt)).heap.size := by simp; omega
  have hq' : scE B (W.alloc (.cells #[.int .i64 q.1, .slice q.2.1.1 q.2.1.2.1 q.2.1.2.2, .slice q.2.2.1.1 q.2.2.1.2.1 q.2.2.1.2.2, .slice q.2.2.2.1 q.2.2.2.2.1 q.2.2.2.2.2] tt)) q := ⟨hq.1, hq.2.1, hq.2.2.1, hq.2.2.2.below (below0 W _)⟩
  obtain ⟨Q, h1, h2⟩ := h'
  refine wpList_append_lies _ hgd sa z 27 ho B 39 i0 (.agg #[.int .i64 0, .slice none 0 0, .slice none 0 0, .slice none 0 0]) 4 80 Try.underlying27 hi hz0 hz1 hz2 rfl (by decide) v m _ hs h1 ⟨W.heap.size, 0, none⟩ 1 1 [.int .i64 q.1, .slice q.2.1.1 q.2.1.2.1 q.2.1.2.2, .slice q.2.2.1.1 q.2.2.1.2.1 q.2.2.1.2.2, .slice q.2.2.2.1 q.2.2.2.2.1 q.2.2.2.2.2] hx rfl (World.news_of_block (cs := #[.int .i64 q.1, .slice q.2.1.1 q.2.1.2.1 q.2.1.2.2, .slice q.2.2.1.1 q.2.2.1.2.1 q.2.2.1.2.2, .slice q.2.2.2.1 q.2.2.2.2.1 q.2.2.2.2.2]) (heap_alloc_new W _)) ?_ (by decide) (by unfold maxLen; omega) (by omega) hB' _ rfl ?_
  · intro u hu
    simp at hu
    rcases hu with rfl | rfl | rfl | rfl <;> rfl
  · intro g cap w' q1 q2 _ q3
    refine hK g cap w' ⟨fun i => if i = m then q else Q i, ?_, fun i hi => ?_⟩ (((below0 W _).mono hB).trans (grown_below q2 hB' (own_block h1)))
    · have e : scQ (fun i => if i = m then q else Q i) (m + 1) = scQ Q m ++ [.int .i64 q.1, .slice q.2.1.1 q.2.1.2.1 q.2.1.2.2, .slice q.2.2.1.1 q.2.2.1.2.1 q.2.2.1.2.2, .slice q.2.2.2.1 q.2.2.2.2.1 q.2.2.2.2.2] := by
        rw [scQ, scQ_same m (G := Q) fun j hj => if_neg (by omega)]
        simp
      rw [e]
      exact q1
    · by_cases e : i = m
      · simp only [if_pos e]
        exact ⟨hq'.1, hq'.2.1, hq'.2.2.1, hq'.2.2.2.grown h1 q2⟩
      · simp only [if_neg e]
        obtain ⟨a1, a2, a3, a4⟩ := h2 i (by omega)
        exact ⟨a1, a2, a3, a4.grown h1 q2⟩
theorem ScsL.at0 {B m c : Nat} {W : World} {t : Option Addr} (h : ScsL B W (.slice t m c) m) (hm : 0 < m) : ∃ g q, t = some ⟨g, 0, none⟩ ∧ B ≤ g ∧ g < W.heap.size ∧ W.cell? ⟨g, 0, none⟩ = some (.int .i64 q.1) ∧ W.cell? ⟨g, 1, none⟩ = some (.slice q.2.1.1 q.2.1.2.1 q.2.1.2.2) ∧ W.cell? ⟨g, 2, none⟩ = some (.slice q.2.2.1.1 q.2.2.1.2.1 q.2.2.1.2.2) ∧ W.cell? ⟨g, 3, none⟩ = some (.slice q.2.2.2.1 q.2.2.2.2.1 q.2.2.2.2.2) ∧ scE B W q := by
  obtain ⟨Q, h1, h2⟩ := h
  have h3 := h1
  rcases h1.2 with ⟨e, z⟩ | ⟨g, cap', cur, e, hb, hg, hc, _⟩
  · omega
  · cases e
    have zg := (Array.getElem?_eq_some_iff.1 hg).1
    obtain ⟨a, b, c, d⟩ := scQ_at Q m 0 hm
    exact ⟨g, Q 0, rfl, hb, zg, (h3.cellAt 0 (by omega)).trans a, (h3.cellAt 1 (by omega)).trans b, (h3.cellAt 2 (by omega)).trans c, (h3.cellAt 3 (by omega)).trans d, h2 0 hm⟩
theorem ScsL.rows {B m c : Nat} {W : World} {t : Option Addr} (h : ScsL B W (.slice t m c) m) : ∃ Z : Nat → Int × Nat × (Nat → Bool) × Nat × (Nat → Int) × Nat × (Nat → Int × Int), RowScs W t m Z ∧ ∀ i, i < m → ((Z i).2.1 : Int) ≤ 1048576 ∧ ((Z i).2.2.2.1 : Int) ≤ 1048576 ∧ ((Z i).2.2.2.2.2.1 : Int) ≤ 1048576 := by
  obtain ⟨Q, h1, h2⟩ := h
  have h3 := h1
  have ch : ∀ i, ∃ z : (Nat → Bool) × (Nat → Int) × (Nat → Int × Int), i < m → RowB W (Q i).2.1.1 (Q i).2.1.2.1 z.1 ∧ RowI W (Q i).2.2.1.1 (Q i).2.2.1.2.1 z.2.1 ∧ RowShelf W (Q i).2.2.2.1 (Q i).2.2.2.2.1 z.2.2 := fun i => by
    by_cases hi : i < m
    · obtain ⟨⟨F, l1⟩, ⟨U, l2⟩, V, l3⟩ := (h2 i hi).2.2.2
      exact ⟨(F, U, fun j => (V (j * 2), V (j * 2 + 1))), fun _ => ⟨l1.row, l2.srcS, l3.shelf⟩⟩
    · exact ⟨(fun _ => false, fun _ => 0, fun _ => (0, 0)), fun q => absurd q hi⟩
  obtain ⟨f, hf⟩ := Classical.axiomOfChoice ch
  refine ⟨fun i => ((Q i).1, (Q i).2.1.2.1, (f i).1, (Q i).2.2.1.2.1, (f i).2.1, (Q i).2.2.2.2.1, (f i).2.2), fun i hi => ?_, fun i hi => ?_⟩
  · rcases h1.2 with ⟨e, z⟩ | ⟨g, cap', cur, e, hb, hg, hc, _⟩
    · omega
    · cases e
      have zg := (Array.getElem?_eq_some_iff.1 hg).1
      obtain ⟨a, b, c, d⟩ := scQ_at Q m i hi
      exact ⟨g, 0, _, _, _, _, _, _, rfl, zg, by rw [Nat.zero_add]; exact (h3.cellAt (i * 4) (by omega)).trans a, by rw [Nat.zero_add]; exact (h3.cellAt (i * 4 + 1) (by omega)).trans b, by rw [Nat.zero_add]; exact (h3.cellAt (i * 4 + 2) (by omega)).trans c, by rw [Nat.zero_add]; exact (h3.cellAt (i * 4 + 3) (by omega)).trans d, hf i hi⟩
  · obtain ⟨a1, a2, a3, -⟩ := h2 i hi
    show ((Q i).2.1.2.1 : Int) ≤ 1048576 ∧ ((Q i).2.2.1.2.1 : Int) ≤ 1048576 ∧ ((Q i).2.2.2.2.1 : Int) ≤ 1048576
    omega
/-- All between is kept but what stands at the reader, and what came later. -/
def KpS (r : Nat) (W W' : World) : Prop := W.heap.size ≤ W'.heap.size ∧ ∀ g, r + 1 ≤ g → g < W.heap.size → W'.heap[g]? = W.heap[g]?
theorem KpS.refl (r : Nat) (W : World) : KpS r W W := ⟨Nat.le_refl _, fun _ _ _ => rfl⟩
theorem KpS.below {r : Nat} {W0 W W' : World} (h : KpS r W0 W) (b : Below W.heap.size W W') : KpS r W0 W' := ⟨Nat.le_trans h.1 b.size, fun g h1 h2 => (b.block g (Nat.lt_of_lt_of_le h2 h.1)).trans (h.2 g h1 h2)⟩
theorem KpS.reader {r : Nat} {W0 W W' : World} (h : KpS r W0 W) (b : Beside r W W') : KpS r W0 W' := ⟨Nat.le_trans h.1 b.2.2.2.1, fun g h1 h2 => (b.2.2.2.2 g (Nat.lt_of_lt_of_le h2 h.1) (by omega)).trans (h.2 g h1 h2)⟩
theorem KpS.lower {r g : Nat} {W0 W W' : World} (h : KpS r W0 W) (b : Beside g W W') (hg : g ≤ r) : KpS r W0 W' := ⟨Nat.le_trans h.1 b.2.2.2.1, fun q h1 h2 => (b.2.2.2.2 q (Nat.lt_of_lt_of_le h2 h.1) (by omega)).trans (h.2 q h1 h2)⟩
theorem KpS.belowB {r B : Nat} {W0 W W' : World} (h : KpS r W0 W) (b : Below B W W') (hB : W0.heap.size ≤ B) : KpS r W0 W' := ⟨Nat.le_trans h.1 b.size, fun g h1 h2 => (b.block g (by omega)).trans (h.2 g h1 h2)⟩
theorem KpS.alm {r n : Nat} {W W' : World} {s : Option Addr} {V : Nat → Int × Int × Int × Bool × Int} (q : KpS r W W') (h : OwnAlarm (r + 1) W s n V) : OwnAlarm (r + 1) W' s n V := fun j hj => by
  obtain ⟨g, e, h1, h2, h3, c0, c1, c2, c3, c4⟩ := h j hj
  have eb := q.2 g h1 h2
  have ce : ∀ o, W'.cell? ⟨g, o, none⟩ = W.cell? ⟨g, o, none⟩ := fun o => World.cell?_of_block (w := W) (a := ⟨g, o, none⟩) eb
  exact ⟨g, e, h1, Nat.lt_of_lt_of_le h2 q.1, fun o => (World.frozen?_of_block (w := W) (a := ⟨g, o, none⟩) eb).trans (h3 o), (ce _).trans c0, (ce _).trans c1, (ce _).trans c2, (ce _).trans c3, (ce _).trans c4⟩
end Go.Proofs.Ytlbbdifmjdpfiaa
