/-
What is proved: a book that is copied: all its permits and their valves lie in new memory.
-/
import Derived.Test.YtikcfpjfcpbfcaaPcpz
import Derived.Test.YtikcfpjfcpbfcaaZcE
import Derived.Deep.DeepCutAuto
namespace Go.Proofs.Ytikcfpjfcpbfcaa
set_option maxRecDepth 40000
open Go.ChangeShapes Go.WideShapes Go.ChangeAt Go.RowKit
set_option linter.unusedVariables false
set_option linter.unusedSimpArgs false

/-- A copy of a list of permits on its way: the first k of n, in the block b, the lists within in blocks behind it, each its own. -/
def PcK (b : Nat) (w : World) (n k : Nat) (X Y : Nat → Int) (K : Nat → Nat) (V : Nat → Nat → Int) : Prop := b < w.heap.size ∧ (∀ o, w.frozen? ⟨b, o, none⟩ = false) ∧ (∃ G : Nat → Nat, (∀ i, i < k → ∃ a c, w.cell? ⟨b, i * 3, none⟩ = some (.int .i64 (X i)) ∧ w.cell? ⟨b, i * 3 + 1, none⟩ = some (.int .i64 (Y i)) ∧ w.cell? ⟨b, i * 3 + 2, none⟩ = some (.slice a (K i) c) ∧ (0 < K i → a = some ⟨G i, 0, none⟩ ∧ b < G i ∧ G i < w.heap.size ∧ ∀ j, j < K i → w.cell? ⟨G i, j, none⟩ = some (.int .i64 (V i j)) ∧ w.frozen? ⟨G i, j, none⟩ = false)) ∧ ∀ i i', i < k → i' < k → 0 < K i → 0 < K i' → G i = G i' → i = i') ∧ ∀ j, j < n * 3 → (w.cell? ⟨b, j, none⟩).isSome = true
theorem PcK.start (w : World) (n : Nat) (X Y : Nat → Int) (K : Nat → Nat) (V : Nat → Nat → Int) (t : TypeId) : PcK w.heap.size (w.alloc (.cells (madeCells #[.int .i64 0, .int .i64 0, .slice none 0 0] (n * 3)) t)) n 0 X Y K V := by
  refine ⟨by simp, fun o => by simp [go_sem], ⟨fun _ => 0, fun i hi => absurd hi (Nat.not_lt_zero _), fun i i' hi => absurd hi (Nat.not_lt_zero _)⟩, fun j hj => ?_⟩
  have hm : ((madeCells #[.int .i64 0, .int .i64 0, .slice none 0 0] (n * 3))[j]?).isSome = true := by
    simp only [madeCells, Array.getElem?_map, Array.getElem?_range, hj, if_true, Option.map_some, Option.isSome_some]
  simpa [go_sem] using hm
theorem PcK.below {b n k : Nat} {w w' : World} {X Y : Nat → Int} {K : Nat → Nat} {V : Nat → Nat → Int} (h : PcK b w n k X Y K V) (hb : Below w.heap.size w w') : PcK b w' n k X Y K V := by
  obtain ⟨h1, h2, ⟨G, h3, h4⟩, h5⟩ := h
  have ce : ∀ j, w'.cell? ⟨b, j, none⟩ = w.cell? ⟨b, j, none⟩ := fun j => hb.cell (p := ⟨b, j, none⟩) h1
  refine ⟨Nat.lt_of_lt_of_le h1 hb.size, fun o => (hb.frozen (p := ⟨b, o, none⟩) h1).trans (h2 o), ⟨G, fun i hi => ?_, h4⟩, fun j hj => by rw [ce]; exact h5 j hj⟩
  obtain ⟨a, c, c0, c1, c2, r⟩ := h3 i hi
  refine ⟨a, c, (ce _).trans c0, (ce _).trans c1, (ce _).trans c2, fun q => ?_⟩
  obtain ⟨r1, r2, r3, r4⟩ := r q
  exact ⟨r1, r2, Nat.lt_of_lt_of_le r3 hb.size, fun j hj => ⟨(hb.cell (p := ⟨G i, j, none⟩) r3).trans (r4 j hj).1, (hb.frozen (p := ⟨G i, j, none⟩) r3).trans (r4 j hj).2⟩⟩
theorem PcK.on {b n k c : Nat} {w w3 : World} {s : Option Addr} {X Y : Nat → Int} {K : Nat → Nat} {V : Nat → Nat → Int} (h : PcK b w n k X Y K V) (hb : Below w.heap.size w w3) (ho : OwnI w.heap.size w3 s (K k) (V k)) (hk : k < n) : PcK b (((w3.setCell ⟨b, k * 3, none⟩ (.int .i64 (X k))).setCell ⟨b, k * 3 + 1, none⟩ (.int .i64 (Y k))).setCell ⟨b, k * 3 + 2, none⟩ (.slice s (K k) c)) n (k + 1) X Y K V := by
  obtain ⟨z1, z2, ⟨G, g3, g4⟩, g5⟩ := h
  have ce : ∀ j, w3.cell? ⟨b, j, none⟩ = w.cell? ⟨b, j, none⟩ := fun j => hb.cell (p := ⟨b, j, none⟩) z1
  have h1 : b < w3.heap.size := Nat.lt_of_lt_of_le z1 hb.size
  have h2 : ∀ o, w3.frozen? ⟨b, o, none⟩ = false := fun o => (hb.frozen (p := ⟨b, o, none⟩) z1).trans (z2 o)
  have h5 : ∀ j, j < n * 3 → (w3.cell? ⟨b, j, none⟩).isSome = true := fun j hj => by rw [ce]; exact g5 j hj
  obtain ⟨W, hW⟩ : ∃ W, W = (((w3.setCell ⟨b, k * 3, none⟩ (.int .i64 (X k))).setCell ⟨b, k * 3 + 1, none⟩ (.int .i64 (Y k))).setCell ⟨b, k * 3 + 2, none⟩ (.slice s (K k) c)) := ⟨_, rfl⟩
  rw [← hW]
  have bs : Beside b w3 W := by rw [hW]; exact ((Beside.setCell b _ _ _).trans (Beside.setCell b _ _ _)).trans (Beside.setCell b _ _ _)
  obtain ⟨u0, hu0⟩ := Option.isSome_iff_exists.1 (h5 (k * 3) (by omega))
  obtain ⟨u1, hu1⟩ := Option.isSome_iff_exists.1 (h5 (k * 3 + 1) (by omega))
  obtain ⟨u2, hu2⟩ := Option.isSome_iff_exists.1 (h5 (k * 3 + 2) (by omega))
  have n0 : W.cell? ⟨b, k * 3, none⟩ = some (.int .i64 (X k)) := by
    rw [hW, World.cell?_setCell_other _ _ _ _ (by intro z; have z_ := congrArg (fun q : Addr => q.off) z; simp only at z_; omega), World.cell?_setCell_other _ _ _ _ (by intro z; have z_ := congrArg (fun q : Addr => q.off) z; simp only at z_; omega)]
    exact World.cell?_setCell_same' _ _ _ (by rw [hu0]; rfl)
  have n1 : W.cell? ⟨b, k * 3 + 1, none⟩ = some (.int .i64 (Y k)) := by
    rw [hW, World.cell?_setCell_other _ _ _ _ (by intro z; have z_ := congrArg (fun q : Addr => q.off) z; simp only at z_; omega)]
    exact World.cell?_setCell_same' _ _ _ (by rw [World.cell?_setCell_other _ _ _ _ (by intro z; have z_ := congrArg (fun q : Addr => q.off) z; simp only at z_; omega), hu1]; rfl)
  have n2 : W.cell? ⟨b, k * 3 + 2, none⟩ = some (.slice s (K k) c) := by
    rw [hW]
    exact World.cell?_setCell_same' _ _ _ (by rw [World.cell?_setCell_other _ _ _ _ (by intro z; have z_ := congrArg (fun q : Addr => q.off) z; simp only at z_; omega), World.cell?_setCell_other _ _ _ _ (by intro z; have z_ := congrArg (fun q : Addr => q.off) z; simp only at z_; omega), hu2]; rfl)
  have old : ∀ j, j ≠ k * 3 → j ≠ k * 3 + 1 → j ≠ k * 3 + 2 → W.cell? ⟨b, j, none⟩ = w3.cell? ⟨b, j, none⟩ := fun j j0 j1 j2 => by
    rw [hW, World.cell?_setCell_other _ _ _ _ (by intro z; cases z; exact j2 rfl), World.cell?_setCell_other _ _ _ _ (by intro z; cases z; exact j1 rfl), World.cell?_setCell_other _ _ _ _ (by intro z; cases z; exact j0 rfl)]
  have sz : w3.heap.size ≤ W.heap.size := bs.2.2.2.1
  have isS : ∀ j, j < n * 3 → (W.cell? ⟨b, j, none⟩).isSome = true := fun j hj => by
    by_cases e0 : j = k * 3
    · rw [e0, n0]; rfl
    · by_cases e1 : j = k * 3 + 1
      · rw [e1, n1]; rfl
      · by_cases e2 : j = k * 3 + 2
        · rw [e2, n2]; rfl
        · rw [old j e0 e1 e2]; exact h5 j hj
  obtain ⟨gk, hgk⟩ : ∃ gk, 0 < K k → s = some ⟨gk, 0, none⟩ ∧ w.heap.size ≤ gk ∧ gk < w3.heap.size ∧ ∀ j, j < K k → w3.cell? ⟨gk, j, none⟩ = some (.int .i64 (V k j)) ∧ w3.frozen? ⟨gk, j, none⟩ = false := by
    rcases Nat.eq_zero_or_pos (K k) with q | q
    · exact ⟨0, fun z => by omega⟩
    · obtain ⟨gk, e, a1, a2, _, _⟩ := ho 0 q
      refine ⟨gk, fun _ => ⟨e, a1, a2, fun j hj => ?_⟩⟩
      obtain ⟨g', e', _, _, b1, b2⟩ := ho j hj
      rw [e] at e'
      cases e'
      exact ⟨b1, b2⟩
  obtain ⟨G2, hG1, hG2⟩ : ∃ G2 : Nat → Nat, G2 k = gk ∧ ∀ j, j ≠ k → G2 j = G j := ⟨fun j => if j = k then gk else G j, if_pos rfl, fun j hj => if_neg hj⟩
  refine ⟨Nat.lt_of_lt_of_le h1 sz, fun o => by rw [hW]; simp [go_sem, h2], ⟨G2, fun i hi => ?_, fun i i' hi hi' q q' e => ?_⟩, isS⟩
  · by_cases e : i = k
    · subst e
      rw [hG1]
      refine ⟨s, c, n0, n1, n2, fun q => ?_⟩
      obtain ⟨r1, r2, r3, r4⟩ := hgk q
      have ne : gk ≠ b := by omega
      exact ⟨r1, by omega, Nat.lt_of_lt_of_le r3 sz, fun j hj => ⟨(bs.cell (p := ⟨gk, j, none⟩) r3 ne).trans (r4 j hj).1, (bs.frozen (p := ⟨gk, j, none⟩) r3 ne).trans (r4 j hj).2⟩⟩
    · rw [hG2 i e]
      obtain ⟨a, c', c0, c1, c2, r⟩ := g3 i (by omega)
      refine ⟨a, c', (old _ (by omega) (by omega) (by omega)).trans ((ce _).trans c0), (old _ (by omega) (by omega) (by omega)).trans ((ce _).trans c1), (old _ (by omega) (by omega) (by omega)).trans ((ce _).trans c2), fun q => ?_⟩
      obtain ⟨r1, r2, r3, r4⟩ := r q
      have ne : G i ≠ b := by omega
      have r5 : G i < w3.heap.size := Nat.lt_of_lt_of_le r3 hb.size
      exact ⟨r1, r2, Nat.lt_of_lt_of_le r5 sz, fun j hj => ⟨(bs.cell (p := ⟨G i, j, none⟩) r5 ne).trans ((hb.cell (p := ⟨G i, j, none⟩) r3).trans (r4 j hj).1), (bs.frozen (p := ⟨G i, j, none⟩) r5 ne).trans ((hb.frozen (p := ⟨G i, j, none⟩) r3).trans (r4 j hj).2)⟩⟩
  · have lt : ∀ i, i < k → 0 < K i → G i < w.heap.size := fun i hi q => by
      obtain ⟨a, c', c0, c1, c2, r⟩ := g3 i hi
      exact (r q).2.2.1
    by_cases e1 : i = k
    · by_cases e2 : i' = k
      · omega
      · subst e1
        have x1 := lt i' (by omega) q'
        have x2 := (hgk q).2.1
        rw [hG1, hG2 i' e2] at e
        omega
    · by_cases e2 : i' = k
      · subst e2
        have x1 := lt i (by omega) q
        have x2 := (hgk q').2.1
        rw [hG1, hG2 i e1] at e
        omega
      · rw [hG2 i e1, hG2 i' e2] at e
        exact g4 i i' (by omega) (by omega) q q' e
end Go.Proofs.Ytikcfpjfcpbfcaa
