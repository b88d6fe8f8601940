/-
What is proved: a book that is copied: all its permits and their valves lie in new memory.
-/
import Derived.Test.YtikcfpjfcpbfcaaPcpz
import Derived.Test.YtikcfpjfcpbfcaaPeT
import Derived.Test.YtikcfpjfcpbfcaaBkT
import Derived.Deep.DeepCutAuto
import Derived.Test.YtikcfpjfcpbfcaaPeR
import Derived.Test.YtikcfpjfcpbfcaaOwnL
import Derived.Laws.OwnMore
import Derived.Deep.AppendLies
namespace Go.Proofs.Ytikcfpjfcpbfcaa
set_option maxRecDepth 40000
open Go.ChangeShapes Go.WideShapes Go.ChangeAt Go.RowKit
set_option linter.unusedVariables false
set_option linter.unusedSimpArgs false

/-- A copy of a list of permits on its way: the first k of n, in the block b, the lists within in blocks behind it, each its own. -/
def PcK (b : Nat) (w : World) (n k : Nat) (X Y : Nat → Int) (K : Nat → Nat) (V : Nat → Nat → Int) : Prop := b < w.heap.size ∧ (∀ o, w.frozen? ⟨b, o, none⟩ = false) ∧ (∃ G : Nat → Nat, (∀ i, i < k → ∃ a c, w.cell? ⟨b, i * 3, none⟩ = some (.int .i64 (X i)) ∧ w.cell? ⟨b, i * 3 + 1, none⟩ = some (.int .i64 (Y i)) ∧ w.cell? ⟨b, i * 3 + 2, none⟩ = some (.slice a (K i) c) ∧ (0 < K i → a = some ⟨G i, 0, none⟩ ∧ b < G i ∧ G i < w.heap.size ∧ ∀ j, j < K i → w.cell? ⟨G i, j, none⟩ = some (.int .i64 (V i j)) ∧ w.frozen? ⟨G i, j, none⟩ = false)) ∧ ∀ i i', i < k → i' < k → 0 < K i → 0 < K i' → G i = G i' → i = i') ∧ ∀ j, j < n * 3 → (w.cell? ⟨b, j, none⟩).isSome = true
theorem PcK.start (w : World) (n : Nat) (X Y : Nat → Int) (K : Nat → Nat) (V : Nat → Nat → Int) (t : TypeId) : PcK w.heap.size (w.alloc (.cells (madeCells #[.int .i64 0, .int .i64 0, .slice none 0 0] (n * 3)) t)) n 0 X Y K V := by
  refine ⟨by simp, fun o => by simp [go_sem], ⟨fun _ => 0, fun i hi => absurd hi (Nat.not_lt_zero _), fun i i' hi => absurd hi (Nat.not_lt_zero _)⟩, fun j hj => ?_⟩
  have hm : ((madeCells #[.int .i64 0, .int .i64 0, .slice none 0 0] (n * 3))[j]?).isSome = true := by
    simp only [madeCells, Array.getElem?_map, Array.getElem?_range, hj, if_true, Option.map_some, Option.isSome_some]
  simpa [go_sem] using hm
theorem PcK.below {b n k : Nat} {w w' : World} {X Y : Nat → Int} {K : Nat → Nat} {V : Nat → Nat → Int} (h : PcK b w n k X Y K V) (hb : Below w.heap.size w w') : PcK b w' n k X Y K V := by
  obtain ⟨h1, h2, ⟨G, h3, h4⟩, h5⟩ := h
  have ce : ∀ j, w'.cell? ⟨b, j, none⟩ = w.cell? ⟨b, j, none⟩ := fun j => hb.cell (p := ⟨b, j, none⟩) h1
  refine ⟨Nat.lt_of_lt_of_le h1 hb.size, fun o => (hb.frozen (p := ⟨b, o, none⟩) h1).trans (h2 o), ⟨G, fun i hi => ?_, h4⟩, fun j hj => by rw [ce]; exact h5 j hj⟩
  obtain ⟨a, c, c0, c1, c2, r⟩ := h3 i hi
  refine ⟨a, c, (ce _).trans c0, (ce _).trans c1, (ce _).trans c2, fun q => ?_⟩
  obtain ⟨r1, r2, r3, r4⟩ := r q
  exact ⟨r1, r2, Nat.lt_of_lt_of_le r3 hb.size, fun j hj => ⟨(hb.cell (p := ⟨G i, j, none⟩) r3).trans (r4 j hj).1, (hb.frozen (p := ⟨G i, j, none⟩) r3).trans (r4 j hj).2⟩⟩
theorem PcK.on {b n k c : Nat} {w w3 : World} {s : Option Addr} {X Y : Nat → Int} {K : Nat → Nat} {V : Nat → Nat → Int} (h : PcK b w n k X Y K V) (hb : Below w.heap.size w w3) (ho : OwnI w.heap.size w3 s (K k) (V k)) (hk : k < n) : PcK b (((w3.setCell ⟨b, k * 3, none⟩ (.int .i64 (X k))).setCell ⟨b, k * 3 + 1, none⟩ (.int .i64 (Y k))).setCell ⟨b, k * 3 + 2, none⟩ (.slice s (K k) c)) n (k + 1) X Y K V := by
  obtain ⟨z1, z2, ⟨G, g3, g4⟩, g5⟩ := h
  have ce : ∀ j, w3.cell? ⟨b, j, none⟩ = w.cell? ⟨b, j, none⟩ := fun j => hb.cell (p := ⟨b, j, none⟩) z1
  have h1 : b < w3.heap.size := Nat.lt_of_lt_of_le z1 hb.size
  have h2 : ∀ o, w3.frozen? ⟨b, o, none⟩ = false := fun o => (hb.frozen (p := ⟨b, o, none⟩) z1).trans (z2 o)
  have h5 : ∀ j, j < n * 3 → (w3.cell? ⟨b, j, none⟩).isSome = true := fun j hj => by rw [ce]; exact g5 j hj
  obtain ⟨W, hW⟩ : ∃ W, W = (((w3.setCell ⟨b, k * 3, none⟩ (.int .i64 (X k))).setCell ⟨b, k * 3 + 1, none⟩ (.int .i64 (Y k))).setCell ⟨b, k * 3 + 2, none⟩ (.slice s (K k) c)) := ⟨_, rfl⟩
  rw [← hW]
  have bs : Beside b w3 W := by rw [hW]; exact ((Beside.setCell b _ _ _).trans (Beside.setCell b _ _ _)).trans (Beside.setCell b _ _ _)
  obtain ⟨u0, hu0⟩ := Option.isSome_iff_exists.1 (h5 (k * 3) (by omega))
  obtain ⟨u1, hu1⟩ := Option.isSome_iff_exists.1 (h5 (k * 3 + 1) (by omega))
  obtain ⟨u2, hu2⟩ := Option.isSome_iff_exists.1 (h5 (k * 3 + 2) (by omega))
  have n0 : W.cell? ⟨b, k * 3, none⟩ = some (.int .i64 (X k)) := by
    rw [hW, World.cell?_setCell_other _ _ _ _ (by intro z; have z_ := congrArg (fun q : Addr => q.off) z; simp only at z_; omega), World.cell?_setCell_other _ _ _ _ (by intro z; have z_ := congrArg (fun q : Addr => q.off) z; simp only at z_; omega)]
    exact World.cell?_setCell_same' _ _ _ (by rw [hu0]; rfl)
  have n1 : W.cell? ⟨b, k * 3 + 1, none⟩ = some (.int .i64 (Y k)) := by
    rw [hW, World.cell?_setCell_other _ _ _ _ (by intro z; have z_ := congrArg (fun q : Addr => q.off) z; simp only at z_; omega)]
    exact World.cell?_setCell_same' _ _ _ (by rw [World.cell?_setCell_other _ _ _ _ (by intro z; have z_ := congrArg (fun q : Addr => q.off) z; simp only at z_; omega), hu1]; rfl)
  have n2 : W.cell? ⟨b, k * 3 + 2, none⟩ = some (.slice s (K k) c) := by
    rw [hW]
    exact World.cell?_setCell_same' _ _ _ (by rw [World.cell?_setCell_other _ _ _ _ (by intro z; have z_ := congrArg (fun q : Addr => q.off) z; simp only at z_; omega), World.cell?_setCell_other _ _ _ _ (by intro z; have z_ := congrArg (fun q : Addr => q.off) z; simp only at z_; omega), hu2]; rfl)
  have old : ∀ j, j ≠ k * 3 → j ≠ k * 3 + 1 → j ≠ k * 3 + 2 → W.cell? ⟨b, j, none⟩ = w3.cell? ⟨b, j, none⟩ := fun j j0 j1 j2 => by
    rw [hW, World.cell?_setCell_other _ _ _ _ (by intro z; cases z; exact j2 rfl), World.cell?_setCell_other _ _ _ _ (by intro z; cases z; exact j1 rfl), World.cell?_setCell_other _ _ _ _ (by intro z; cases z; exact j0 rfl)]
  have sz : w3.heap.size ≤ W.heap.size := bs.2.2.2.1
  have isS : ∀ j, j < n * 3 → (W.cell? ⟨b, j, none⟩).isSome = true := fun j hj => by
    by_cases e0 : j = k * 3
    · rw [e0, n0]; rfl
    · by_cases e1 : j = k * 3 + 1
      · rw [e1, n1]; rfl
      · by_cases e2 : j = k * 3 + 2
        · rw [e2, n2]; rfl
        · rw [old j e0 e1 e2]; exact h5 j hj
  obtain ⟨gk, hgk⟩ : ∃ gk, 0 < K k → s = some ⟨gk, 0, none⟩ ∧ w.heap.size ≤ gk ∧ gk < w3.heap.size ∧ ∀ j, j < K k → w3.cell? ⟨gk, j, none⟩ = some (.int .i64 (V k j)) ∧ w3.frozen? ⟨gk, j, none⟩ = false := by
    rcases Nat.eq_zero_or_pos (K k) with q | q
    · exact ⟨0, fun z => by omega⟩
    · obtain ⟨gk, e, a1, a2, _, _⟩ := ho 0 q
      refine ⟨gk, fun _ => ⟨e, a1, a2, fun j hj => ?_⟩⟩
      obtain ⟨g', e', _, _, b1, b2⟩ := ho j hj
      rw [e] at e'
      cases e'
      exact ⟨b1, b2⟩
  obtain ⟨G2, hG1, hG2⟩ : ∃ G2 : Nat → Nat, G2 k = gk ∧ ∀ j, j ≠ k → G2 j = G j := ⟨fun j => if j = k then gk else G j, if_pos rfl, fun j hj => if_neg hj⟩
  refine ⟨Nat.lt_of_lt_of_le h1 sz, fun o => by rw [hW]; simp [go_sem, h2], ⟨G2, fun i hi => ?_, fun i i' hi hi' q q' e => ?_⟩, isS⟩
  · by_cases e : i = k
    · subst e
      rw [hG1]
      refine ⟨s, c, n0, n1, n2, fun q => ?_⟩
      obtain ⟨r1, r2, r3, r4⟩ := hgk q
      have ne : gk ≠ b := by omega
      exact ⟨r1, by omega, Nat.lt_of_lt_of_le r3 sz, fun j hj => ⟨(bs.cell (p := ⟨gk, j, none⟩) r3 ne).trans (r4 j hj).1, (bs.frozen (p := ⟨gk, j, none⟩) r3 ne).trans (r4 j hj).2⟩⟩
    · rw [hG2 i e]
      obtain ⟨a, c', c0, c1, c2, r⟩ := g3 i (by omega)
      refine ⟨a, c', (old _ (by omega) (by omega) (by omega)).trans ((ce _).trans c0), (old _ (by omega) (by omega) (by omega)).trans ((ce _).trans c1), (old _ (by omega) (by omega) (by omega)).trans ((ce _).trans c2), fun q => ?_⟩
      obtain ⟨r1, r2, r3, r4⟩ := r q
      have ne : G i ≠ b := by omega
      have r5 : G i < w3.heap.size := Nat.lt_of_lt_of_le r3 hb.size
      exact ⟨r1, r2, Nat.lt_of_lt_of_le r5 sz, fun j hj => ⟨(bs.cell (p := ⟨G i, j, none⟩) r5 ne).trans ((hb.cell (p := ⟨G i, j, none⟩) r3).trans (r4 j hj).1), (bs.frozen (p := ⟨G i, j, none⟩) r5 ne).trans ((hb.frozen (p := ⟨G i, j, none⟩) r3).trans (r4 j hj).2)⟩⟩
  · have lt : ∀ i, i < k → 0 < K i → G i < w.heap.size := fun i hi q => by
      obtain ⟨a, c', c0, c1, c2, r⟩ := g3 i hi
      exact (r q).2.2.1
    by_cases e1 : i = k
    · by_cases e2 : i' = k
      · omega
      · subst e1
        have x1 := lt i' (by omega) q'
        have x2 := (hgk q).2.1
        rw [hG1, hG2 i' e2] at e
        omega
    · by_cases e2 : i' = k
      · subst e2
        have x1 := lt i (by omega) q
        have x2 := (hgk q').2.1
        rw [hG1, hG2 i e1] at e
        omega
      · rw [hG2 i e1, hG2 i' e2] at e
        exact g4 i i' (by omega) (by omega) q q' e
theorem PcK.per {b n : Nat} {w : World} {X Y : Nat → Int} {K : Nat → Nat} {V : Nat → Nat → Int} {B : Nat} (h : PcK b w n n X Y K V) (hB : B ≤ b) : PerR (fun k => B ≤ k ∧ k < w.heap.size) w (some ⟨b, 0, none⟩) n X Y K V := by
  obtain ⟨z1, z2, ⟨G, g3, g4⟩, g5⟩ := h
  refine ⟨G, fun i hi => ?_, g4⟩
  obtain ⟨a, c, c0, c1, c2, r⟩ := g3 i hi
  refine ⟨b, a, c, rfl, ⟨hB, z1⟩, z1, z2, c0, c1, c2, fun q => ?_⟩
  obtain ⟨r1, r2, r3, r4⟩ := r q
  exact ⟨r1, by omega, ⟨by omega, r3⟩, r3, r4⟩

open Go.ChangeShapes Go.WideShapes Go.ChangeAt Go.RowKit
set_option linter.unusedVariables false
set_option linter.unusedSimpArgs false

theorem PcK.beside {b n k q : Nat} {w w' : World} {X Y : Nat → Int} {K : Nat → Nat} {V : Nat → Nat → Int} (h : PcK b w n k X Y K V) (hb : Beside q w w') (hq : q < b) : PcK b w' n k X Y K V := by
  obtain ⟨h1, h2, ⟨G, h3, h4⟩, h5⟩ := h
  have ce : ∀ j, w'.cell? ⟨b, j, none⟩ = w.cell? ⟨b, j, none⟩ := fun j => hb.cell (p := ⟨b, j, none⟩) h1 (by simp only; omega)
  refine ⟨Nat.lt_of_lt_of_le h1 hb.2.2.2.1, fun o => (hb.frozen (p := ⟨b, o, none⟩) h1 (by simp only; omega)).trans (h2 o), ⟨G, fun i hi => ?_, h4⟩, fun j hj => by rw [ce]; exact h5 j hj⟩
  obtain ⟨a, c, c0, c1, c2, r⟩ := h3 i hi
  refine ⟨a, c, (ce _).trans c0, (ce _).trans c1, (ce _).trans c2, fun z => ?_⟩
  obtain ⟨r1, r2, r3, r4⟩ := r z
  exact ⟨r1, r2, Nat.lt_of_lt_of_le r3 hb.2.2.2.1, fun j hj => ⟨(hb.cell (p := ⟨G i, j, none⟩) r3 (by simp only; omega)).trans (r4 j hj).1, (hb.frozen (p := ⟨G i, j, none⟩) r3 (by simp only; omega)).trans (r4 j hj).2⟩⟩
def BcqPost (w : World) (n : Nat) (X Y : Nat → Int) (K : Nat → Nat) (V : Nat → Nat → Int) (e : Ending) (w' : World) : Prop := ∃ b, e = .returned (.agg #[.slice (some ⟨b, 0, none⟩) n n]) ∧ w.heap.size ≤ b ∧ PcK b w' n n X Y K V ∧ Below w.heap.size w w'
set_option maxRecDepth 20000 in
set_option maxHeartbeats 4000000 in
theorem bookCopied_any (bs : Option Addr) (n bc : Nat) (X Y : Nat → Int) (K : Nat → Nat) (V : Nat → Nat → Int) (w : World) (hn : (n : Int) ≤ 1048576) (HK : Hid (∀ i, i < n → (K i : Int) ≤ 1048576)) (HB : Hid (RowPer w bs n X Y K V)) :
    Calls Try.prog 51 #[.agg #[.slice bs n bc]] w fun e w' => BcqPost w n X Y K V e w' := by
  have hmk := make_Permit n (by omega)
  go_enter Try.func51, Try.ntmps51
  go_upto_region 1 with fail
  obtain ⟨wa, hwa⟩ : ∃ z, z = w.alloc (.cells #[.slice bs n bc] 36) := ⟨_, rfl⟩
  obtain ⟨wb, hwb⟩ : ∃ z, z = wa.alloc (.cells #[.slice none 0 0] 36) := ⟨_, rfl⟩
  have ba : Below w.heap.size w wa := by rw [hwa]; exact below0 _ _
  have bb : Below wa.heap.size wa wb := by rw [hwb]; exact below0 _ _
  obtain ⟨p, hp⟩ : ∃ z, z = w.heap.size := ⟨_, rfl⟩
  obtain ⟨q, hq⟩ : ∃ z, z = wa.heap.size := ⟨_, rfl⟩
  have hq1 : w.heap.size + 1 = q := by rw [hq, hwa]; simp
  have zpa : p < wa.heap.size := by rw [hwa, hp]; simp
  have p0 : wb.cell? ⟨p, 0, none⟩ = some (.slice bs n bc) := (bb.cell (p := ⟨p, 0, none⟩) zpa).trans (by rw [hwa, hp]; simp [go_sem])
  have zp : p < wb.heap.size := Nat.lt_of_lt_of_le zpa bb.size
  have HQc : Hid (wb.cell? ⟨q, 0, none⟩ = some (.slice none 0 0) ∧ (∀ o, wb.frozen? ⟨q, o, none⟩ = false) ∧ q < wb.heap.size) := by
    rw [hwb, hq]
    exact ⟨by simp [go_sem], fun o => by simp [go_sem], by simp⟩
  have HBb : Hid (Below w.heap.size w wb) := ba.trans (bb.mono ba.size)
  have zqw : w.heap.size ≤ q := by omega
  try rw [← hwa]
  try rw [← hwb]
  try rw [hq1]
  try rw [← hq]
  try rw [← hp]
  obtain ⟨b, hb⟩ : ∃ z, z = wb.heap.size := ⟨_, rfl⟩
  have zqb : q < b := by rw [hb]; exact HQc.out.2.2
  have HBe : Hid (b = wb.heap.size) := hb
  clear hwa hwb ba bb hp hq hq1 zpa
  go_wp2_with fail
  try rw [← hb]
  go_loopw [13] (fun i wr => ∃ k : Nat, k ≤ n ∧ i = .int .i64 k ∧ Hid (PcK b wr n k X Y K V) ∧ Hid (Below wb.heap.size wb wr)) (fun i _ => n - (intOf i).toNat)
  case atStart => exact ⟨0, Nat.zero_le _, rfl, (by show PcK _ _ _ _ _ _ _ _; rw [hb]; exact PcK.start wb n X Y K V 44), below0 _ _⟩
  case round =>
    clear p0 zp hmk hb
    obtain ⟨k, hk, rfl, HC, HW⟩ := hrel
    have HWw : Hid (Below w.heap.size w wr) := HBb.out.trans (HW.out.mono HBb.out.size)
    by_cases h2 : k < n
    case pos =>
      have k1 : (k : Int) < (n : Int) := by omega
      obtain ⟨g, o, a, e, rfl, hg, c0, c1, c2, ha⟩ := HB.out k h2
      replace c0 := (HWw.out.cell (p := ⟨g, o + k * 3, none⟩) hg).trans c0
      replace c1 := (HWw.out.cell (p := ⟨g, o + k * 3 + 1, none⟩) hg).trans c1
      replace c2 := (HWw.out.cell (p := ⟨g, o + k * 3 + 2, none⟩) hg).trans c2
      have zg : g < wr.heap.size := Nat.lt_of_lt_of_le hg HWw.out.size
      have HA : Hid (RowI wr a (K k) (V k)) := ha.below HWw.out
      obtain ⟨x, hx⟩ : ∃ x, X k = x := ⟨_, rfl⟩
      obtain ⟨y, hy⟩ : ∃ y, Y k = y := ⟨_, rfl⟩
      have HX : Hid (X k = x ∧ Y k = y) := ⟨hx, hy⟩
      rw [hx] at c0
      rw [hy] at c1
      clear hx hy ha
      go_upto_region 5 with fail
      obtain ⟨wv, hwv⟩ : ∃ z, z = wr.alloc (.cells #[.int .i64 x, .int .i64 y, .slice a (K k) e] 44) := ⟨_, rfl⟩
      rw [← hwv]
      have bv : Below wr.heap.size wr wv := by rw [hwv]; exact below0 _ _
      obtain ⟨v, hv⟩ : ∃ z, z = wr.heap.size := ⟨_, rfl⟩
      have v0 : wv.cell? ⟨v, 0, none⟩ = some (.int .i64 x) := by rw [hwv, hv]; simp [go_sem]
      have v1 : wv.cell? ⟨v, 1, none⟩ = some (.int .i64 y) := by rw [hwv, hv]; simp [go_sem]
      have v2 : wv.cell? ⟨v, 2, none⟩ = some (.slice a (K k) e) := by rw [hwv, hv]; simp [go_sem]
      have zv : v < wv.heap.size := by rw [hwv, hv]; simp
      have HAv : Hid (RowI wv a (K k) (V k)) := HA.out.below bv
      have Hbv : Hid (Below wr.heap.size wr wv) := bv
      try rw [← hv]
      clear hwv bv hv c0 c1 c2 zg HA
      go_wp2_with fail
      refine (permitCopied_any x y a (K k) e (V k) _ (HK.out k h2) HAv).mono ?_
      rintro e' w3 ⟨s', c', rfl, O3, b3⟩
      have HO3 : Hid (OwnI wr.heap.size w3 s' (K k) (V k)) := O3.mono Hbv.out.size
      have Hb3 : Hid (Below wr.heap.size wr w3) := Hbv.out.trans (b3.mono Hbv.out.size)
      clear O3 b3 v0 v1 v2 zv
      obtain ⟨h1, hf, -, hs⟩ := HC.out.below Hb3.out
      obtain ⟨u0, e0⟩ := Option.isSome_iff_exists.1 (hs (k * 3) (by omega))
      obtain ⟨u1, e1⟩ := Option.isSome_iff_exists.1 (hs (k * 3 + 1) (by omega))
      obtain ⟨u2, e2⟩ := Option.isSome_iff_exists.1 (hs (k * 3 + 2) (by omega))
      have f0 := hf (k * 3)
      have f1 := hf (k * 3 + 1)
      have f2 := hf (k * 3 + 2)
      have hst := store_slT
      have HN : Hid (PcK b (((w3.setCell ⟨b, k * 3, none⟩ (.int .i64 x)).setCell ⟨b, k * 3 + 1, none⟩ (.int .i64 y)).setCell ⟨b, k * 3 + 2, none⟩ (.slice s' (K k) c')) n (k + 1) X Y K V) := by
        have q_ := HC.out.on (c := c') Hb3.out HO3.out h2
        rw [HX.out.1, HX.out.2] at q_
        exact q_
      have HWn : Hid (Below wb.heap.size wb (((w3.setCell ⟨b, k * 3, none⟩ (.int .i64 x)).setCell ⟨b, k * 3 + 1, none⟩ (.int .i64 y)).setCell ⟨b, k * 3 + 2, none⟩ (.slice s' (K k) c'))) := by
        have bq : Below wb.heap.size wb w3 := HW.out.trans (Hb3.out.mono HW.out.size)
        exact bq.trans ((((Beside.setCell b _ _ _).trans (Beside.setCell b _ _ _)).trans (Beside.setCell b _ _ _)).below (Nat.le_of_eq HBe.out.symm) bq.size)
      clear hf hs
      go_wp2
      go_roundw
      case rel => exact ⟨k + 1, by omega, by go_num, HN, HWn⟩
      case measure => first | (simp [intOf]; done) | (simp [intOf]; omega)
    case neg =>
      obtain rfl : k = n := by omega
      have q0 := (HW.out.cell (p := ⟨q, 0, none⟩) HQc.out.2.2).trans HQc.out.1
      have qf := (HW.out.frozen (p := ⟨q, 0, none⟩) HQc.out.2.2).trans (HQc.out.2.1 0)
      have qz := Nat.lt_of_lt_of_le HQc.out.2.2 HW.out.size
      have hst := store_slT
      have bs' : Beside q wr (wr.setCell ⟨q, 0, none⟩ (.slice (some ⟨b, 0, none⟩) k k)) := Beside.setCell q _ 0 _
      have HP : Hid (PcK b (wr.setCell ⟨q, 0, none⟩ (.slice (some ⟨b, 0, none⟩) k k)) k k X Y K V) := HC.out.beside bs' zqb
      have HWn : Hid (Below w.heap.size w (wr.setCell ⟨q, 0, none⟩ (.slice (some ⟨b, 0, none⟩) k k))) := HWw.out.trans (bs'.below zqw HWw.out.size)
      clear bs'
      go_wp2
      refine bodyPost_ret (v := .agg #[.slice (some ⟨b, 0, none⟩) k k]) (by simp [results, Try.results51, go_sem, q0]) rfl ?_
      exact ⟨b, rfl, by omega, HP.out, HWn.out⟩

open Go.ChangeShapes Go.WideShapes Go.ChangeAt Go.RowKit
set_option linter.unusedVariables false
set_option linter.unusedSimpArgs false

def ptC (X Y : Nat → Int) (K : Nat → Nat) (A : Nat → Option Addr) (C : Nat → Nat) : Nat → List Value
  | 0 => []
  | n + 1 => ptC X Y K A C n ++ [.int .i64 (X n), .int .i64 (Y n), .slice (A n) (K n) (C n)]
theorem ptC_len (X Y : Nat → Int) (K : Nat → Nat) (A : Nat → Option Addr) (C : Nat → Nat) : ∀ n, (ptC X Y K A C n).length = n * 3 := by
  intro n
  induction n with
  | zero => rfl
  | succ n ih => unfold ptC; rw [List.length_append, ih]; simp; omega
theorem ptC_at (X Y : Nat → Int) (K : Nat → Nat) (A : Nat → Option Addr) (C : Nat → Nat) : ∀ n i, i < n → (ptC X Y K A C n)[i * 3]? = some (.int .i64 (X i)) ∧ (ptC X Y K A C n)[i * 3 + 1]? = some (.int .i64 (Y i)) ∧ (ptC X Y K A C n)[i * 3 + 2]? = some (.slice (A i) (K i) (C i)) := by
  intro n
  induction n with
  | zero => intro i h; omega
  | succ n ih =>
    intro i hi
    unfold ptC
    by_cases e : i = n
    · subst e
      have hl := ptC_len X Y K A C i
      refine ⟨?_, ?_, ?_⟩
      · rw [List.getElem?_append_right (by omega), hl, show i * 3 - i * 3 = 0 by omega]; rfl
      · rw [List.getElem?_append_right (by omega), hl, show i * 3 + 1 - i * 3 = 1 by omega]; rfl
      · rw [List.getElem?_append_right (by omega), hl, show i * 3 + 2 - i * 3 = 2 by omega]; rfl
    · have hl := ptC_len X Y K A C n
      obtain ⟨a, b, c⟩ := ih i (by omega)
      exact ⟨by rw [List.getElem?_append_left (by omega)]; exact a, by rw [List.getElem?_append_left (by omega)]; exact b, by rw [List.getElem?_append_left (by omega)]; exact c⟩
theorem ptC_same (X Y : Nat → Int) (K : Nat → Nat) {A A' : Nat → Option Addr} {C C' : Nat → Nat} : ∀ n, (∀ i, i < n → A i = A' i ∧ C i = C' i) → ptC X Y K A C n = ptC X Y K A' C' n := by
  intro n
  induction n with
  | zero => intro _; rfl
  | succ n ih => intro h; unfold ptC; rw [ih (fun i hi => h i (by omega)), (h n (by omega)).1, (h n (by omega)).2]
def TyJ (W : World) (g : Nat) : Prop := ∃ cur, W.heap[g]? = some (.cells cur 2 (0, 0))
/-- The lists within. -/
def PtI (base : Nat) (W : World) (k : Nat) (K : Nat → Nat) (V : Nat → Nat → Int) (A : Nat → Option Addr) (G : Nat → Nat) : Prop := (∀ i, i < k → 0 < K i → A i = some ⟨G i, 0, none⟩ ∧ base ≤ G i ∧ G i < W.heap.size ∧ TyJ W (G i) ∧ ∀ j, j < K i → W.cell? ⟨G i, j, none⟩ = some (.int .i64 (V i j)) ∧ W.frozen? ⟨G i, j, none⟩ = false) ∧ ∀ i i', i < k → i' < k → 0 < K i → 0 < K i' → G i = G i' → i = i'
def PtK (base : Nat) (W : World) (v : Value) (n : Nat) (X Y : Nat → Int) (K : Nat → Nat) (V : Nat → Nat → Int) : Prop := ∃ (A : Nat → Option Addr) (C G : Nat → Nat), W.ownsRow base 44 3 v n (ptC X Y K A C n) ∧ PtI base W n K V A G
theorem PtI.same {base k : Nat} {W W' : World} {K : Nat → Nat} {V : Nat → Nat → Int} {A : Nat → Option Addr} {G : Nat → Nat} (h : PtI base W k K V A G) (hz : W.heap.size ≤ W'.heap.size) (hs : ∀ g, base ≤ g → g < W.heap.size → TyJ W g → W'.heap[g]? = W.heap[g]?) : PtI base W' k K V A G := by
  refine ⟨fun i hi q => ?_, h.2⟩
  obtain ⟨h1, h2, h3, h4, h5⟩ := h.1 i hi q
  have e := hs (G i) h2 h3 h4
  refine ⟨h1, h2, Nat.lt_of_lt_of_le h3 hz, by unfold TyJ; rw [e]; exact h4, fun j hj => ⟨(World.cell?_of_block (w := W) (a := ⟨G i, j, none⟩) e).trans (h5 j hj).1, (World.frozen?_of_block (w := W) (a := ⟨G i, j, none⟩) e).trans (h5 j hj).2⟩⟩
theorem PtK.same {base n : Nat} {W W' : World} {v : Value} {X Y : Nat → Int} {K : Nat → Nat} {V : Nat → Nat → Int} (h : PtK base W v n X Y K V) (hz : W.heap.size ≤ W'.heap.size) (hs : ∀ g, base ≤ g → g < W.heap.size → W'.heap[g]? = W.heap[g]?) : PtK base W' v n X Y K V := by
  obtain ⟨A, C, G, h1, h2⟩ := h
  exact ⟨A, C, G, own_same h1 (fun g hg => hs g (World.ownsRow.lt h1 g hg).1 (World.ownsRow.lt h1 g hg).2), h2.same hz (fun g a b _ => hs g a b)⟩
theorem PtK.below {base n : Nat} {W W' : World} {v : Value} {X Y : Nat → Int} {K : Nat → Nat} {V : Nat → Nat → Int} (h : PtK base W v n X Y K V) (hb : Below W.heap.size W W') : PtK base W' v n X Y K V := h.same hb.size fun g _ q => hb.block g q
theorem PtK.beside {base n r : Nat} {W W' : World} {v : Value} {X Y : Nat → Int} {K : Nat → Nat} {V : Nat → Nat → Int} (h : PtK base W v n X Y K V) (hb : Beside r W W') (hr : r < base) : PtK base W' v n X Y K V := h.same hb.2.2.2.1 fun g q1 q => hb.2.2.2.2 g q (by omega)
theorem PtK.nil (base : Nat) (W : World) (X Y : Nat → Int) (K : Nat → Nat) (V : Nat → Nat → Int) : PtK base W (.slice none 0 0) 0 X Y K V := ⟨fun _ => none, fun _ => 0, fun _ => 0, World.ownsRow_nil W base 44 3, fun i hi => absurd hi (Nat.not_lt_zero _), fun i i' hi => absurd hi (Nat.not_lt_zero _)⟩
theorem PtK.val {base n : Nat} {W : World} {v : Value} {X Y : Nat → Int} {K : Nat → Nat} {V : Nat → Nat → Int} (h : PtK base W v n X Y K V) : ∃ t cap, v = .slice t n cap := by
  obtain ⟨A, C, G, h1, _⟩ := h
  rcases h1.2 with ⟨e, q⟩ | ⟨g, cap, cur, e, _⟩
  · exact ⟨none, 0, by rw [e, q]⟩
  · exact ⟨_, cap, e⟩
theorem PtK.per {base n cap : Nat} {W : World} {t : Option Addr} {X Y : Nat → Int} {K : Nat → Nat} {V : Nat → Nat → Int} (h : PtK base W (.slice t n cap) n X Y K V) : PerR (fun k => base ≤ k ∧ k < W.heap.size) W t n X Y K V := by
  obtain ⟨A, C, G, h1, h2⟩ := h
  refine ⟨G, fun i hi => ?_, h2.2⟩
  have h3 := h1
  rcases h1.2 with ⟨_, q⟩ | ⟨g, cap', cur, e, hb, hg, _⟩
  · omega
  · cases e
    obtain ⟨a, b, c⟩ := ptC_at X Y K A C n i hi
    have zg := (Array.getElem?_eq_some_iff.1 hg).1
    refine ⟨g, A i, C i, rfl, ⟨hb, zg⟩, zg, fun o => by simp [World.frozen?, hg], by rw [h3.cellAt (i * 3) (by omega)]; exact a, by rw [h3.cellAt (i * 3 + 1) (by omega)]; exact b, by rw [h3.cellAt (i * 3 + 2) (by omega)]; exact c, fun q => ?_⟩
    obtain ⟨r1, r2, r3, ⟨cu, r4⟩, r5⟩ := h2.1 i hi q
    refine ⟨r1, fun e => ?_, ⟨r2, r3⟩, r3, r5⟩
    rw [e, hg] at r4
    cases r4
theorem info_PermitP : (Try.prog.info? 44).map (fun i => (i.zero, i.size, i.bytes)) = some (some (.agg #[.int .i64 0, .int .i64 0, .slice none 0 0]), 3, 40) := by kernel_rfl
theorem newsThreeP (W : World) (a b c : Value) (t : TypeId) : ∀ j u, [a, b, c][j]? = some u → (W.alloc (.cells #[a, b, c] t)).cell? ((⟨W.heap.size, 0, none⟩ : Addr).add j) = some u := World.news_of_block (cs := #[a, b, c]) (heap_alloc_new W _)
/-- All lists within lie below H. -/
def PtB (base H : Nat) (W : World) (v : Value) (n : Nat) (X Y : Nat → Int) (K : Nat → Nat) (V : Nat → Nat → Int) : Prop := ∃ (A : Nat → Option Addr) (C G : Nat → Nat), W.ownsRow base 44 3 v n (ptC X Y K A C n) ∧ PtI base W n K V A G ∧ (∀ i, i < n → 0 < K i → G i < H) ∧ ∀ g, v.ownBlock = some g → g < H
theorem PtK.bound {base n : Nat} {W : World} {v : Value} {X Y : Nat → Int} {K : Nat → Nat} {V : Nat → Nat → Int} (h : PtK base W v n X Y K V) : PtB base W.heap.size W v n X Y K V := by
  obtain ⟨A, C, G, h1, h2⟩ := h
  exact ⟨A, C, G, h1, h2, fun i hi q => (h2.1 i hi q).2.2.1, fun g hg => (World.ownsRow.lt h1 g hg).2⟩
theorem PtB.same {base H n : Nat} {W W' : World} {v : Value} {X Y : Nat → Int} {K : Nat → Nat} {V : Nat → Nat → Int} (h : PtB base H W v n X Y K V) (hz : W.heap.size ≤ W'.heap.size) (hs : ∀ g, base ≤ g → g < W.heap.size → W'.heap[g]? = W.heap[g]?) : PtB base H W' v n X Y K V := by
  obtain ⟨A, C, G, h1, h2, h3⟩ := h
  exact ⟨A, C, G, own_same h1 (fun g hg => hs g (World.ownsRow.lt h1 g hg).1 (World.ownsRow.lt h1 g hg).2), h2.same hz (fun g a b _ => hs g a b), h3⟩
theorem PtB.below {base H n : Nat} {W W' : World} {v : Value} {X Y : Nat → Int} {K : Nat → Nat} {V : Nat → Nat → Int} (h : PtB base H W v n X Y K V) (hb : Below W.heap.size W W') : PtB base H W' v n X Y K V := h.same hb.size fun g _ q => hb.block g q
theorem PtB.beside {base H n r : Nat} {W W' : World} {v : Value} {X Y : Nat → Int} {K : Nat → Nat} {V : Nat → Nat → Int} (h : PtB base H W v n X Y K V) (hb : Beside r W W') (hr : r < base) : PtB base H W' v n X Y K V := h.same hb.2.2.2.1 fun g q1 q => hb.2.2.2.2 g q (by omega)
theorem PtB.far {base H n r : Nat} {W W' : World} {v : Value} {X Y : Nat → Int} {K : Nat → Nat} {V : Nat → Nat → Int} (h : PtB base H W v n X Y K V) (hb : Beside r W W') (hr : H ≤ r) : PtB base H W' v n X Y K V := by
  obtain ⟨A, C, G, h1, h2, h3, h4⟩ := h
  refine ⟨A, C, G, own_same h1 (fun g hg => hb.2.2.2.2 g (World.ownsRow.lt h1 g hg).2 (by have := h4 g hg; omega)), ⟨fun i hi q => ?_, h2.2⟩, h3, h4⟩
  obtain ⟨r1, r2, r3, r4, r5⟩ := h2.1 i hi q
  have e := hb.2.2.2.2 (G i) r3 (by have := h3 i hi q; omega)
  exact ⟨r1, r2, Nat.lt_of_lt_of_le r3 hb.2.2.2.1, by unfold TyJ; rw [e]; exact r4, fun j hj => ⟨(World.cell?_of_block (w := W) (a := ⟨G i, j, none⟩) e).trans (r5 j hj).1, (World.frozen?_of_block (w := W) (a := ⟨G i, j, none⟩) e).trans (r5 j hj).2⟩⟩
theorem apartP {W : World} {g g' : Nat} (h : TyJ W g) (h' : ∃ cur, W.heap[g']? = some (.cells cur 44 (0, 0))) : g ≠ g' := fun e => by
  obtain ⟨c1, h1⟩ := h
  obtain ⟨c2, h2⟩ := h'
  rw [e, h2] at h1
  cases h1
theorem ownP_ty {base n : Nat} {W : World} {v : Value} {xs : List Value} (h : W.ownsRow base 44 3 v n xs) {g : Nat} (hg : v.ownBlock = some g) : ∃ cur, W.heap[g]? = some (.cells cur 44 (0, 0)) := by
  rcases h.2 with ⟨q, _⟩ | ⟨g', cap, cur, e, _, hg', _⟩
  · rw [q] at hg; cases hg
  · rw [e] at hg; cases hg; exact ⟨cur, hg'⟩
theorem list_Permit {ops : Array Oper} {rest : List Oper} {o : Oper} {a : Act} {Q : Exit → Act → World → Prop} {W : World} {tt : TypeId} {s0 : Option Addr} {c0 : Nat} (base H : Nat) (v : Value) (n : Nat) (X Y : Nat → Int) (K : Nat → Nat) (V : Nat → Nat → Int) (gk : Nat) (s z : Operand) (hgd : o.guard = none)
    (ho : o.op = .call { callee := .builtin .append, args := #[s, z], argTypes := #[34, 34] }) (hs : a.eval s = v) (hx : a.eval z = .slice (some ⟨W.heap.size, 0, none⟩) 1 1) (hown : PtB base H W v n X Y K V)
    (hL : 0 < K n → s0 = some ⟨gk, 0, none⟩ ∧ base ≤ gk ∧ H ≤ gk ∧ gk < W.heap.size ∧ TyJ W gk ∧ ∀ j, j < K n → W.cell? ⟨gk, j, none⟩ = some (.int .i64 (V n j)) ∧ W.frozen? ⟨gk, j, none⟩ = false)
    (hk : n ≤ 100000) (hb : base ≤ W.heap.size)
    (h : ∀ g cap w', PtK base w' (.slice (some ⟨g, 0, none⟩) (n + 1) cap) (n + 1) X Y K V → Below base W w' → wpList Try.prog ops Q rest (a.put o.dst (.slice (some ⟨g, 0, none⟩) (n + 1) cap)) w') :
    wpList Try.prog ops Q (o :: rest) a (W.alloc (.cells #[.int .i64 (X n), .int .i64 (Y n), .slice s0 (K n) c0] tt)) := by
  obtain ⟨i0, hi, hz0, hz1, hz2⟩ := info_parts info_PermitP
  obtain ⟨A, C, G, h1, h2, h3, h4⟩ := hown
  refine wpList_append_lies _ hgd s z 34 ho base 44 i0 (.agg #[.int .i64 0, .int .i64 0, .slice none 0 0]) 3 40 Try.underlying34 hi hz0 hz1 hz2 rfl (by decide) v n _ hs (h1.alloc _) ⟨W.heap.size, 0, none⟩ 1 1 [.int .i64 (X n), .int .i64 (Y n), .slice s0 (K n) c0] hx rfl (newsThreeP _ _ _ _ _) ?_ (by decide) (by unfold maxLen; omega) (by omega) (by simp; omega) _ rfl ?_
  · intro u hu
    simp at hu
    rcases hu with rfl | rfl | rfl <;> rfl
  · intro g cap w' q1 q2 _ q3
    have gr := grown_new q2
    have keep : ∀ g, g < W.heap.size → TyJ W g → w'.heap[g]? = W.heap[g]? := fun g hg hc => gr.block g hg (fun e => apartP hc (ownP_ty h1 e.symm) rfl)
    refine h g cap w' ?_ (grown_below gr hb (own_block h1))
    refine ⟨fun j => if j = n then s0 else A j, fun j => if j = n then c0 else C j, fun j => if j = n then gk else G j, ?_, fun i hi' q => ?_, fun i i' hi' hi'' q q' e => ?_⟩
    · have e : ptC X Y K (fun j => if j = n then s0 else A j) (fun j => if j = n then c0 else C j) (n + 1) = ptC X Y K A C n ++ [.int .i64 (X n), .int .i64 (Y n), .slice s0 (K n) c0] := by
        show ptC X Y K _ _ n ++ [_, _, .slice (if n = n then s0 else A n) (K n) (if n = n then c0 else C n)] = _
        rw [if_pos rfl, if_pos rfl, ptC_same X Y K (A' := A) (C' := C) n (fun i hi => ⟨if_neg (by omega), if_neg (by omega)⟩)]
      rw [e]
      exact q1
    · show (if i = n then s0 else A i) = some ⟨(if i = n then gk else G i), 0, none⟩ ∧ base ≤ (if i = n then gk else G i) ∧ (if i = n then gk else G i) < w'.heap.size ∧ TyJ w' (if i = n then gk else G i) ∧ ∀ j, j < K i → w'.cell? ⟨(if i = n then gk else G i), j, none⟩ = some (.int .i64 (V i j)) ∧ w'.frozen? ⟨(if i = n then gk else G i), j, none⟩ = false
      by_cases e : i = n
      · subst e
        rw [if_pos rfl, if_pos rfl]
        obtain ⟨r1, r2, _, r3, r4, r5⟩ := hL q
        have ke := keep gk r3 r4
        exact ⟨r1, r2, Nat.lt_of_lt_of_le r3 gr.size, by unfold TyJ; rw [ke]; exact r4, fun j hj => ⟨(World.cell?_of_block (w := W) (a := ⟨gk, j, none⟩) ke).trans (r5 j hj).1, (World.frozen?_of_block (w := W) (a := ⟨gk, j, none⟩) ke).trans (r5 j hj).2⟩⟩
      · rw [if_neg e, if_neg e]
        obtain ⟨r1, r2, r3, r4, r5⟩ := h2.1 i (by omega) q
        have ke := keep (G i) r3 r4
        exact ⟨r1, r2, Nat.lt_of_lt_of_le r3 gr.size, by unfold TyJ; rw [ke]; exact r4, fun j hj => ⟨(World.cell?_of_block (w := W) (a := ⟨G i, j, none⟩) ke).trans (r5 j hj).1, (World.frozen?_of_block (w := W) (a := ⟨G i, j, none⟩) ke).trans (r5 j hj).2⟩⟩
    · have e' : (if i = n then gk else G i) = (if i' = n then gk else G i') := e
      by_cases e1 : i = n
      · by_cases e2 : i' = n
        · omega
        · rw [if_pos e1, if_neg e2] at e'
          subst e1
          have x1 := h3 i' (by omega) q'
          have x2 := (hL q).2.2.1
          omega
      · by_cases e2 : i' = n
        · rw [if_neg e1, if_pos e2] at e'
          subst e2
          have x1 := h3 i (by omega) q
          have x2 := (hL q').2.2.1
          omega
        · rw [if_neg e1, if_neg e2] at e'
          exact h2.2 i i' (by omega) (by omega) q q' e'

end Go.Proofs.Ytikcfpjfcpbfcaa
