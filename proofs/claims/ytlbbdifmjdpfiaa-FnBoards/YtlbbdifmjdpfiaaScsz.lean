/-
What is proved: lists of scans: what the law's own helpers do with them: a copy, their size, whether two are the same, marks.
-/
import Derived.Test.YtlbbdifmjdpfiaaScTz
import Derived.Test.YtlbbdifmjdpfiaaSuKz
import Derived.Test.YtlbbdifmjdpfiaaZdA
import Derived.Deep.RegionHeldLaw
import Derived.Deep.RegionHeld3
namespace Go.Proofs.Ytlbbdifmjdpfiaa
set_option maxRecDepth 40000
open Go.ChangeShapes Go.WideShapes Go.ChangeAt Go.RowKit
set_option linter.unusedVariables false
set_option linter.unusedSimpArgs false

def scsK (Z : Nat → Int × Nat × (Nat → Bool) × Nat × (Nat → Int) × Nat × (Nat → Int × Int)) (i : Nat) : Nat := (Z i).2.1 + (Z i).2.2.2.1 + (Z i).2.2.2.2.2.1
def scsM (Z : Nat → Int × Nat × (Nat → Bool) × Nat × (Nat → Int) × Nat × (Nat → Int × Int)) (i : Nat) : Nat := 1 + (Z i).2.1 + (Z i).2.2.2.1 + (Z i).2.2.2.2.2.1 * 2
def scsW (z : Int × Nat × (Nat → Bool) × Nat × (Nat → Int) × Nat × (Nat → Int × Int)) : Prop := (z.2.1 : Int) ≤ 9223372036854775807 ∧ (z.2.2.2.1 : Int) ≤ 9223372036854775807 ∧ (z.2.2.2.2.2.1 : Int) ≤ 9223372036854775807
def RowScs (w : World) (s : Option Addr) (n : Nat) (Z : Nat → Int × Nat × (Nat → Bool) × Nat × (Nat → Int) × Nat × (Nat → Int × Int)) : Prop := ∀ i, i < n → ∃ b o s1 c1 s2 c2 s3 c3, s = some ⟨b, o, none⟩ ∧ b < w.heap.size ∧ w.cell? ⟨b, o + i * 4, none⟩ = some (.int .i64 ((Z i).1)) ∧ w.cell? ⟨b, o + i * 4 + 1, none⟩ = some (.slice s1 ((Z i).2.1) c1) ∧ w.cell? ⟨b, o + i * 4 + 2, none⟩ = some (.slice s2 ((Z i).2.2.2.1) c2) ∧ w.cell? ⟨b, o + i * 4 + 3, none⟩ = some (.slice s3 ((Z i).2.2.2.2.2.1) c3) ∧ RowScan w s1 ((Z i).2.1) ((Z i).2.2.1) s2 ((Z i).2.2.2.1) ((Z i).2.2.2.2.1) s3 ((Z i).2.2.2.2.2.1) ((Z i).2.2.2.2.2.2)
theorem RowScs.below {w w' : World} {s : Option Addr} {n : Nat} {Z : Nat → Int × Nat × (Nat → Bool) × Nat × (Nat → Int) × Nat × (Nat → Int × Int)} (h : RowScs w s n Z) (hb : Below w.heap.size w w') : RowScs w' s n Z := fun i hi => by
  obtain ⟨b, o, s1, c1, s2, c2, s3, c3, e, hl, c0_, c1_, c2_, c3_, hr⟩ := h i hi
  exact ⟨b, o, s1, c1, s2, c2, s3, c3, e, Nat.lt_of_lt_of_le hl hb.size, (hb.cell (p := ⟨b, o + i * 4, none⟩) hl).trans c0_, (hb.cell (p := ⟨b, o + i * 4 + 1, none⟩) hl).trans c1_, (hb.cell (p := ⟨b, o + i * 4 + 2, none⟩) hl).trans c2_, (hb.cell (p := ⟨b, o + i * 4 + 3, none⟩) hl).trans c3_, hr.below hb⟩
/-- One of the list, in the block b, its own lists in blocks of G. -/
def ScsAt (b : Nat) (G : Nat → Prop) (w : World) (Z : Nat → Int × Nat × (Nat → Bool) × Nat × (Nat → Int) × Nat × (Nat → Int × Int)) (i : Nat) : Prop := ∃ s1 c1 s2 c2 s3 c3, w.cell? ⟨b, i * 4, none⟩ = some (.int .i64 ((Z i).1)) ∧ w.cell? ⟨b, i * 4 + 1, none⟩ = some (.slice s1 ((Z i).2.1) c1) ∧ w.cell? ⟨b, i * 4 + 2, none⟩ = some (.slice s2 ((Z i).2.2.2.1) c2) ∧ w.cell? ⟨b, i * 4 + 3, none⟩ = some (.slice s3 ((Z i).2.2.2.2.2.1) c3) ∧ ScanR G w s1 ((Z i).2.1) ((Z i).2.2.1) s2 ((Z i).2.2.2.1) ((Z i).2.2.2.2.1) s3 ((Z i).2.2.2.2.2.1) ((Z i).2.2.2.2.2.2)
theorem ScsAt.keep {b : Nat} {G : Nat → Prop} {w w' : World} {Z : Nat → Int × Nat × (Nat → Bool) × Nat × (Nat → Int) × Nat × (Nat → Int × Int)} {i : Nat} (h : ScsAt b G w Z i) (hs : w.heap.size ≤ w'.heap.size) (hc : ∀ j, j = i * 4 ∨ j = i * 4 + 1 ∨ j = i * 4 + 2 ∨ j = i * 4 + 3 → w'.cell? ⟨b, j, none⟩ = w.cell? ⟨b, j, none⟩) (hb : ∀ k, G k → k < w.heap.size → w'.heap[k]? = w.heap[k]?) : ScsAt b G w' Z i := by
  obtain ⟨s1, c1, s2, c2, s3, c3, c0_, c1_, c2_, c3_, hr⟩ := h
  exact ⟨s1, c1, s2, c2, s3, c3, (hc _ (by omega)).trans c0_, (hc _ (by omega)).trans c1_, (hc _ (by omega)).trans c2_, (hc _ (by omega)).trans c3_, hr.keep hs hb⟩
theorem ScsAt.below {b : Nat} {G : Nat → Prop} {w w' : World} {Z : Nat → Int × Nat × (Nat → Bool) × Nat × (Nat → Int) × Nat × (Nat → Int × Int)} {i : Nat} (h : ScsAt b G w Z i) (hl : b < w.heap.size) (hb : Below w.heap.size w w') : ScsAt b G w' Z i := h.keep hb.size (fun j _ => hb.cell (p := ⟨b, j, none⟩) hl) (fun k _ hk => hb.block k hk)
/-- A list in blocks of S, each one's lists their own. -/
def ScsR (S : Nat → Prop) (w : World) (s : Option Addr) (n : Nat) (Z : Nat → Int × Nat × (Nat → Bool) × Nat × (Nat → Int) × Nat × (Nat → Int × Int)) : Prop := 0 < n → ∃ (b : Nat) (G : Nat → Nat → Prop), s = some ⟨b, 0, none⟩ ∧ S b ∧ b < w.heap.size ∧ (∀ o, w.frozen? ⟨b, o, none⟩ = false) ∧ (∀ i k, i < n → G i k → S k ∧ k ≠ b) ∧ (∀ i i' k, i < n → i' < n → G i k → G i' k → i = i') ∧ (∀ i k, i < n → G i k → k < w.heap.size) ∧ ∀ i, i < n → ScsAt b (G i) w Z i
theorem ScsR.row {S : Nat → Prop} {w : World} {s : Option Addr} {n : Nat} {Z : Nat → Int × Nat × (Nat → Bool) × Nat × (Nat → Int) × Nat × (Nat → Int × Int)} (h : ScsR S w s n Z) : RowScs w s n Z := fun i hi => by
  obtain ⟨b, G, e, _, hl, _, _, _, _, h⟩ := h (by omega)
  obtain ⟨s1, c1, s2, c2, s3, c3, c0_, c1_, c2_, c3_, hr⟩ := h i hi
  exact ⟨b, 0, s1, c1, s2, c2, s3, c3, e, hl, by rw [Nat.zero_add]; exact c0_, by rw [Nat.zero_add]; exact c1_, by rw [Nat.zero_add]; exact c2_, by rw [Nat.zero_add]; exact c3_, hr.row⟩
theorem ScsR.keep {S : Nat → Prop} {w w' : World} {s : Option Addr} {n : Nat} {Z : Nat → Int × Nat × (Nat → Bool) × Nat × (Nat → Int) × Nat × (Nat → Int × Int)} (h : ScsR S w s n Z) (hs : w.heap.size ≤ w'.heap.size) (hb : ∀ k, S k → k < w.heap.size → w'.heap[k]? = w.heap[k]?) : ScsR S w' s n Z := fun hn => by
  obtain ⟨b, G, e, h1, hl, hf, h2, h3, h4, h⟩ := h hn
  have eb := hb b h1 hl
  exact ⟨b, G, e, h1, Nat.lt_of_lt_of_le hl hs, fun o => (World.frozen?_of_block (w := w) (a := ⟨b, o, none⟩) eb).trans (hf o), h2, h3, fun i k q g => Nat.lt_of_lt_of_le (h4 i k q g) hs, fun i q => (h i q).keep hs (fun j _ => World.cell?_of_block (w := w) (a := ⟨b, j, none⟩) eb) (fun k g hk => hb k (h2 i k q g).1 hk)⟩
theorem ScsR.below {S : Nat → Prop} {w w' : World} {s : Option Addr} {n : Nat} {Z : Nat → Int × Nat × (Nat → Bool) × Nat × (Nat → Int) × Nat × (Nat → Int × Int)} (h : ScsR S w s n Z) (hb : Below w.heap.size w w') : ScsR S w' s n Z := h.keep hb.size fun k _ hk => hb.block k hk
theorem ScsR.set {S : Nat → Prop} {w : World} {s : Option Addr} {n : Nat} {Z : Nat → Int × Nat × (Nat → Bool) × Nat × (Nat → Int) × Nat × (Nat → Int × Int)} {r o : Nat} {u : Value} (h : ScsR S w s n Z) (hr : ¬ S r) : ScsR S (w.setCell ⟨r, o, none⟩ u) s n Z := h.keep (by simp) fun k hk hl => set_block hl (fun e => hr (e ▸ hk))
theorem Scs_each {n : Nat} {Z : Nat → Int × Nat × (Nat → Bool) × Nat × (Nat → Int) × Nat × (Nat → Int × Int)} {l : Int} (h : (n : Int) + (suK (scsK Z) n : Int) ≤ l) : ∀ i, i < n → ((Z i).2.1 : Int) ≤ l ∧ ((Z i).2.2.2.1 : Int) ≤ l ∧ ((Z i).2.2.2.2.2.1 : Int) ≤ l := fun i hi => by
  have := suK_in (K := scsK Z) hi
  have e : scsK Z i = (Z i).2.1 + (Z i).2.2.2.1 + (Z i).2.2.2.2.2.1 := rfl
  refine ⟨by omega, by omega, by omega⟩
theorem make_Scan (n : Nat) (hn : n ≤ 1048576) (w : World) : (Instr.makeSlice 27 (.int .i64 (n : Int)) (.int .i64 (n : Int))).run Try.prog w = .ok (.slice (some ⟨w.heap.size, 0, none⟩) n n) (w.alloc (.cells (madeCells #[.int .i64 0, .slice none 0 0, .slice none 0 0, .slice none 0 0] (n * 4)) 39)) := by
  have hinfo : (Try.prog.info? 39).map (fun i => (i.zero, i.size, i.bytes)) = some (some (.agg #[.int .i64 0, .slice none 0 0, .slice none 0 0, .slice none 0 0]), 4, 80) := by kernel_rfl
  obtain ⟨i, hi, hzz⟩ := Option.map_eq_some_iff.1 hinfo
  simp only [Prod.mk.injEq] at hzz
  obtain ⟨hz, hs, hb⟩ := hzz
  have hr := run_make (P := Try.prog) w 27 39 i _ Try.underlying27 hi hz .i64 .i64 n n (by omega) (Int.le_refl _) (by rw [hb]; omega) (by omega)
  simp only [Int.toNat_natCast, hs] at hr
  exact hr
/-- A copy on its way: in the block b there is room for n, k of them are there. -/
def ScsTo (b : Nat) (w : World) (n k : Nat) (Z : Nat → Int × Nat × (Nat → Bool) × Nat × (Nat → Int) × Nat × (Nat → Int × Int)) : Prop := b < w.heap.size ∧ (∀ o, w.frozen? ⟨b, o, none⟩ = false) ∧ (∀ j, j < n * 4 → (w.cell? ⟨b, j, none⟩).isSome = true) ∧ ∃ G : Nat → Nat → Prop, (∀ i q, i < k → G i q → b < q ∧ q < w.heap.size) ∧ (∀ i i' q, i < k → i' < k → G i q → G i' q → i = i') ∧ ∀ i, i < k → ScsAt b (G i) w Z i
theorem ScsTo.start (w : World) (n : Nat) (Z : Nat → Int × Nat × (Nat → Bool) × Nat × (Nat → Int) × Nat × (Nat → Int × Int)) (t : TypeId) : ScsTo w.heap.size (w.alloc (.cells (madeCells #[.int .i64 0, .slice none 0 0, .slice none 0 0, .slice none 0 0] (n * 4)) t)) n 0 Z := by
  refine ⟨by simp, fun o => by simp [go_sem], fun j hj => ?_, fun _ _ => False, fun i q hi => absurd hi (Nat.not_lt_zero i), fun i i' q hi => absurd hi (Nat.not_lt_zero i), fun i hi => absurd hi (Nat.not_lt_zero i)⟩
  have h0 : ((madeCells #[.int .i64 0, .slice none 0 0, .slice none 0 0, .slice none 0 0] (n * 4))[j]?).isSome = true := by
    simp only [madeCells, Array.getElem?_map, Array.getElem?_range, hj, if_true, Option.map_some, Option.isSome_some]
  simpa [go_sem] using h0
theorem ScsTo.below {b : Nat} {w w' : World} {n k : Nat} {Z : Nat → Int × Nat × (Nat → Bool) × Nat × (Nat → Int) × Nat × (Nat → Int × Int)} (h : ScsTo b w n k Z) (hb : Below w.heap.size w w') : ScsTo b w' n k Z := by
  obtain ⟨h1, h2, h3, G, h4, h5, h6⟩ := h
  exact ⟨Nat.lt_of_lt_of_le h1 hb.size, fun o => (hb.frozen (p := ⟨b, o, none⟩) h1).trans (h2 o), fun j hj => by rw [hb.cell (p := ⟨b, j, none⟩) h1]; exact h3 j hj, G, fun i q hi g => ⟨(h4 i q hi g).1, Nat.lt_of_lt_of_le (h4 i q hi g).2 hb.size⟩, h5, fun i hi => (h6 i hi).below h1 hb⟩
theorem ScsTo.on {b : Nat} {w w3 : World} {n k : Nat} {Z : Nat → Int × Nat × (Nat → Bool) × Nat × (Nat → Int) × Nat × (Nat → Int × Int)} {x0 : Int} {n1 : Nat} {V1 : Nat → Bool} {n2 : Nat} {V2 : Nat → Int} {n3 : Nat} {V3 : Nat → Int × Int} {s1 : Option Addr} {s2 : Option Addr} {s3 : Option Addr} {S : Nat → Prop} (h : ScsTo b w n k Z) (hz : Z k = (x0, n1, V1, n2, V2, n3, V3)) (hb : Below w.heap.size w w3) (hk : k < n) (hS : ∀ q, S q → w.heap.size ≤ q ∧ q < w3.heap.size) (hr : ScanR S w3 s1 n1 V1 s2 n2 V2 s3 n3 V3) : ScsTo b ((((w3.setCell ⟨b, k * 4, none⟩ (.int .i64 x0)).setCell ⟨b, k * 4 + 1, none⟩ (.slice s1 n1 n1)).setCell ⟨b, k * 4 + 2, none⟩ (.slice s2 n2 n2)).setCell ⟨b, k * 4 + 3, none⟩ (.slice s3 n3 n3)) n (k + 1) Z := by
  have h0 := h.below hb
  obtain ⟨h1, h2, h3, G, h4, h5, h6⟩ := h
  obtain ⟨g1, g2, g3, -⟩ := h0
  obtain ⟨wx, hwx⟩ : ∃ x, x = ((((w3.setCell ⟨b, k * 4, none⟩ (.int .i64 x0)).setCell ⟨b, k * 4 + 1, none⟩ (.slice s1 n1 n1)).setCell ⟨b, k * 4 + 2, none⟩ (.slice s2 n2 n2)).setCell ⟨b, k * 4 + 3, none⟩ (.slice s3 n3 n3)) := ⟨_, rfl⟩
  rw [← hwx]
  have bs : Beside b w3 wx := by rw [hwx]; exact (((Beside.setCell _ _ _ _).trans (Beside.setCell _ _ _ _)).trans (Beside.setCell _ _ _ _)).trans (Beside.setCell _ _ _ _)
  have zs : wx.heap.size = w3.heap.size := by rw [hwx]; simp
  obtain ⟨u0, e0⟩ := Option.isSome_iff_exists.1 (g3 (k * 4) (by omega))
  obtain ⟨u1, e1⟩ := Option.isSome_iff_exists.1 (g3 (k * 4 + 1) (by omega))
  obtain ⟨u2, e2⟩ := Option.isSome_iff_exists.1 (g3 (k * 4 + 2) (by omega))
  obtain ⟨u3, e3⟩ := Option.isSome_iff_exists.1 (g3 (k * 4 + 3) (by omega))
  have off : ∀ j, j ≠ k * 4 → j ≠ k * 4 + 1 → j ≠ k * 4 + 2 → j ≠ k * 4 + 3 → wx.cell? ⟨b, j, none⟩ = w3.cell? ⟨b, j, none⟩ := fun j q0 q1 q2 q3 => by
    rw [hwx]
    rw [World.cell?_setCell_other _ _ _ _ (by intro q; cases q; exact q3 rfl)]
    rw [World.cell?_setCell_other _ _ _ _ (by intro q; cases q; exact q2 rfl)]
    rw [World.cell?_setCell_other _ _ _ _ (by intro q; cases q; exact q1 rfl)]
    rw [World.cell?_setCell_other _ _ _ _ (by intro q; cases q; exact q0 rfl)]

  have y0 : wx.cell? ⟨b, k * 4, none⟩ = some (.int .i64 x0) := by rw [hwx]; simp [go_sem, e0, e1, e2, e3]
  have y1 : wx.cell? ⟨b, k * 4 + 1, none⟩ = some (.slice s1 n1 n1) := by rw [hwx]; simp [go_sem, e0, e1, e2, e3]
  have y2 : wx.cell? ⟨b, k * 4 + 2, none⟩ = some (.slice s2 n2 n2) := by rw [hwx]; simp [go_sem, e0, e1, e2, e3]
  have y3 : wx.cell? ⟨b, k * 4 + 3, none⟩ = some (.slice s3 n3 n3) := by rw [hwx]; simp [go_sem, e0, e1, e2, e3]
  refine ⟨by rw [zs]; exact g1, fun o => by rw [hwx]; simp [go_sem, g2], fun j hj => ?_, fun i q => if i = k then S q else G i q, fun i q hi g => ?_, fun i i' q hi hi' g g' => ?_, fun i hi => ?_⟩
  · by_cases hj2 : j = k * 4 ∨ j = k * 4 + 1 ∨ j = k * 4 + 2 ∨ j = k * 4 + 3
    · rcases hj2 with rfl | rfl | rfl | rfl
      · rw [y0]; rfl
      · rw [y1]; rfl
      · rw [y2]; rfl
      · rw [y3]; rfl
    · rw [off j (by omega) (by omega) (by omega) (by omega)]
      exact g3 j hj
  · rw [zs]
    by_cases e : i = k
    · replace g : S q := by simpa [e] using g
      have := hS q g
      omega
    · replace g : G i q := by simpa [e] using g
      have := h4 i q (by omega) g
      have := hb.size
      omega
  · by_cases e : i = k
    · by_cases e' : i' = k
      · omega
      · replace g : S q := by simpa [e] using g
        replace g' : G i' q := by simpa [e'] using g'
        have := hS q g
        have := (h4 i' q (by omega) g').2
        omega
    · by_cases e' : i' = k
      · replace g : G i q := by simpa [e] using g
        replace g' : S q := by simpa [e'] using g'
        have := hS q g'
        have := (h4 i q (by omega) g).2
        omega
      · replace g : G i q := by simpa [e] using g
        replace g' : G i' q := by simpa [e'] using g'
        exact h5 i i' q (by omega) (by omega) g g'
  · have hkb : ∀ q, q ≠ b → q < w3.heap.size → wx.heap[q]? = w3.heap[q]? := fun q h1 h2 => bs.2.2.2.2 q h2 h1
    by_cases e : i = k
    · subst e
      refine ⟨s1, n1, s2, n2, s3, n3, by rw [hz]; exact y0, by rw [hz]; exact y1, by rw [hz]; exact y2, by rw [hz]; exact y3, ?_⟩
      rw [hz]
      have eG : (fun q => if i = i then S q else G i q) = S := by funext q; simp
      dsimp only
      rw [eG]
      exact hr.keep (by rw [zs]; exact Nat.le_refl _) (fun q g hq => hkb q (by have := hS q g; omega) hq)
    · have eG : (fun q => if i = k then S q else G i q) = G i := by funext q; simp [e]
      dsimp only
      rw [eG]
      exact ((h6 i (by omega)).below h1 hb).keep (by rw [zs]; exact Nat.le_refl _) (fun j hj => off j (by omega) (by omega) (by omega) (by omega)) (fun q g hq => hkb q (by have := (h4 i q (by omega) g).1; omega) hq)
theorem ScsTo.own {b B : Nat} {w : World} {n : Nat} {Z : Nat → Int × Nat × (Nat → Bool) × Nat × (Nat → Int) × Nat × (Nat → Int × Int)} (h : ScsTo b w n n Z) (hB : B ≤ b) : ScsR (fun q => B ≤ q ∧ q < w.heap.size) w (some ⟨b, 0, none⟩) n Z := fun hn => by
  obtain ⟨h1, h2, h3, G, h4, h5, h6⟩ := h
  exact ⟨b, G, rfl, ⟨hB, h1⟩, h1, h2, fun i q hi g => by have := h4 i q hi g; exact ⟨⟨by omega, this.2⟩, by omega⟩, h5, fun i q hi g => (h4 i q hi g).2, h6⟩
set_option maxRecDepth 20000 in
set_option maxHeartbeats 4000000 in
theorem toScanS_r (s : Option Addr) (n c : Nat) (Z : Nat → Int × Nat × (Nat → Bool) × Nat × (Nat → Int) × Nat × (Nat → Int × Int)) (w : World) (hn : (n : Int) + (suK (scsK Z) n : Int) ≤ 1048576) (HR : Hid (RowScs w s n Z)) :
    Calls Try.prog 20 #[.slice s n c] w fun e w' => ∃ (s' : Option Addr) (S : Nat → Prop), e = .returned (.slice s' n n) ∧ (∀ k, S k → w.heap.size ≤ k ∧ k < w'.heap.size) ∧ ScsR S w' s' n Z ∧ Below w.heap.size w w' := by
  have hmk := make_Scan n (by omega)
  have sto := store_slT
  have HE : Hid (∀ i, i < n → ((Z i).2.1 : Int) ≤ 1048576 ∧ ((Z i).2.2.2.1 : Int) ≤ 1048576 ∧ ((Z i).2.2.2.2.2.1 : Int) ≤ 1048576) := Scs_each hn
  go_enter Try.func20, Try.ntmps20
  go_wp2_with fail
  go_loopw [4] (fun i wr => ∃ k : Nat, k ≤ n ∧ i = .int .i64 k ∧ Hid (ScsTo w.heap.size wr n k Z) ∧ Hid (Below w.heap.size w wr)) (fun i _ => n - (intOf i).toNat)
  case atStart => exact ⟨0, Nat.zero_le _, rfl, ScsTo.start w n Z 39, (by show Below _ _ _; exact (by repeat (first | with_reducible exact Below.refl _ _ | with_reducible refine Below.setCell ?_ (by first | omega | (simp; done) | (simp; omega)) _ | with_reducible refine bDrewN ?_ _ | with_reducible refine Below.drew ?_ | with_reducible refine Below.alloc ?_ (by first | omega | (simp; done) | (simp; omega)) _)))⟩
  case round =>
    obtain ⟨k, hk, rfl, HT, HB⟩ := hrel
    by_cases h1 : k < n
    · obtain ⟨b, o, s1, c1, s2, c2, s3, c3, rfl, hb, c0_, c1_, c2_, c3_, hr⟩ := HR.out k h1
      have hE := HE.out k h1
      replace c0_ := (HB.out.cell (p := ⟨b, o + k * 4, none⟩) hb).trans c0_
      replace c1_ := (HB.out.cell (p := ⟨b, o + k * 4 + 1, none⟩) hb).trans c1_
      replace c2_ := (HB.out.cell (p := ⟨b, o + k * 4 + 2, none⟩) hb).trans c2_
      replace c3_ := (HB.out.cell (p := ⟨b, o + k * 4 + 3, none⟩) hb).trans c3_
      replace hr := hr.below HB.out
      obtain ⟨⟨x0, n1, V1, n2, V2, n3, V3⟩, hz⟩ : ∃ z, Z k = z := ⟨_, rfl⟩
      rw [hz] at c0_ c1_ c2_ c3_ hr hE
      dsimp only at c0_ c1_ c2_ c3_ hr hE
      obtain ⟨hn1, hn2, hn3⟩ := hE
      have HRk : Hid (RowScan wr s1 n1 V1 s2 n2 V2 s3 n3 V3) := hr
      have HZ : Hid (Z k = (x0, n1, V1, n2, V2, n3, V3)) := hz
      have k1 : (k : Int) < (n : Int) := by omega
      have HN : Hid (k < n) := h1
      have hzz := HT.out.1
      clear hb hr hz
      go_wp2_with fail
      refine (toScan_r x0 n1 V1 n2 V2 n3 V3 s1 c1 s2 c2 s3 c3 _ hn1 hn2 hn3 HRk.out).mono ?_
      rintro e w3 ⟨s1', s2', s3', S, rfl, Q, O, h3⟩
      have TN : Hid _ := HT.out.on HZ.out h3 h1 Q O
      have BN : Hid (Below w.heap.size w w3) := HB.out.trans (h3.mono HB.out.size)
      obtain ⟨hz', hf, hc, -⟩ := HT.out.below h3
      obtain ⟨u0, e0⟩ := Option.isSome_iff_exists.1 (hc (k * 4) (by omega))
      obtain ⟨u1, e1⟩ := Option.isSome_iff_exists.1 (hc (k * 4 + 1) (by omega))
      obtain ⟨u2, e2⟩ := Option.isSome_iff_exists.1 (hc (k * 4 + 2) (by omega))
      obtain ⟨u3, e3⟩ := Option.isSome_iff_exists.1 (hc (k * 4 + 3) (by omega))
      clear c0_ c1_ c2_ c3_ h3 hc HT HB Q O HRk
      go_wp2
      go_roundw
      case rel => exact ⟨k + 1, by have := HN.out; omega, by go_num, TN, (by have B := BN.out; show Below _ _ _; exact (by repeat (first | with_reducible exact Below.refl _ _ | with_reducible exact B | with_reducible refine Below.setCell ?_ (by first | omega | (simp; done) | (simp; omega)) _ | with_reducible refine bDrewN ?_ _ | with_reducible refine Below.drew ?_ | with_reducible refine Below.alloc ?_ (by first | omega | (simp; done) | (simp; omega)) _)))⟩
      case measure => have := HN.out; simp [intOf]; omega
    · obtain rfl : k = n := by omega
      go_wp2
      go_ret
      exact ⟨_, fun q => w.heap.size ≤ q ∧ q < wr.heap.size, rfl, fun q h => h, HT.out.own (Nat.le_refl _), HB.out⟩
set_option maxRecDepth 20000 in
set_option maxHeartbeats 4000000 in
theorem eqScanS_r (s t : Option Addr) (n c d : Nat) (Z : Nat → Int × Nat × (Nat → Bool) × Nat × (Nat → Int) × Nat × (Nat → Int × Int)) (w : World) (hn : (n : Int) + (suK (scsK Z) n : Int) ≤ 1048576) (HR : Hid (RowScs w s n Z)) (HT : Hid (RowScs w t n Z)) :
    Calls Try.prog 23 #[.slice s n c, .slice t n d] w fun e w' => e = .returned (.bool true) ∧ Below w.heap.size w w' := by
  have HE : Hid (∀ i, i < n → ((Z i).2.1 : Int) ≤ 1048576 ∧ ((Z i).2.2.2.1 : Int) ≤ 1048576 ∧ ((Z i).2.2.2.2.2.1 : Int) ≤ 1048576) := Scs_each hn
  go_enter Try.func23, Try.ntmps23
  go_wp2_with fail
  go_loopw [5] (fun i wr => ∃ k : Nat, k ≤ n ∧ i = .int .i64 k ∧ Below w.heap.size w wr) (fun i _ => n - (intOf i).toNat)
  case atStart => exact ⟨0, Nat.zero_le _, rfl, Below.refl _ _⟩
  case round =>
    obtain ⟨k, hk, rfl, hB⟩ := hrel
    by_cases h1 : k < n
    · obtain ⟨b, o, s1, c1, s2, c2, s3, c3, rfl, hb, c0_, c1_, c2_, c3_, hr⟩ := HR.out k h1
      obtain ⟨b2, o2, t1, d1, t2, d2, t3, d3, rfl, hb2, k0_, k1_, k2_, k3_, hr2⟩ := HT.out k h1
      have hE := HE.out k h1
      replace c0_ := (hB.cell (p := ⟨b, o + k * 4, none⟩) hb).trans c0_
      replace k0_ := (hB.cell (p := ⟨b2, o2 + k * 4, none⟩) hb2).trans k0_
      replace c1_ := (hB.cell (p := ⟨b, o + k * 4 + 1, none⟩) hb).trans c1_
      replace k1_ := (hB.cell (p := ⟨b2, o2 + k * 4 + 1, none⟩) hb2).trans k1_
      replace c2_ := (hB.cell (p := ⟨b, o + k * 4 + 2, none⟩) hb).trans c2_
      replace k2_ := (hB.cell (p := ⟨b2, o2 + k * 4 + 2, none⟩) hb2).trans k2_
      replace c3_ := (hB.cell (p := ⟨b, o + k * 4 + 3, none⟩) hb).trans c3_
      replace k3_ := (hB.cell (p := ⟨b2, o2 + k * 4 + 3, none⟩) hb2).trans k3_
      replace hr := hr.below hB
      replace hr2 := hr2.below hB
      obtain ⟨⟨x0, n1, V1, n2, V2, n3, V3⟩, hz⟩ : ∃ z, Z k = z := ⟨_, rfl⟩
      rw [hz] at c0_ c1_ c2_ c3_ k0_ k1_ k2_ k3_ hr hr2 hE
      dsimp only at c0_ c1_ c2_ c3_ k0_ k1_ k2_ k3_ hr hr2 hE
      obtain ⟨hn1, hn2, hn3⟩ := hE
      have HR1 : Hid (RowScan wr s1 n1 V1 s2 n2 V2 s3 n3 V3) := hr
      have HR2 : Hid (RowScan wr t1 n1 V1 t2 n2 V2 t3 n3 V3) := hr2
      have k1 : (k : Int) < (n : Int) := by omega
      have zg : b < wr.heap.size := Nat.lt_of_lt_of_le hb hB.size
      have zp : b2 < wr.heap.size := Nat.lt_of_lt_of_le hb2 hB.size
      have HB : Hid (Below w.heap.size w wr) := hB
      clear hb hr hz hb2 hr2 hB
      go_upto_region 6 with fail
      refine wp_region_held_drew (S := fun w' => w'.cell? ⟨b, o + k * 4, none⟩ = some (.int .i64 x0) ∧ w'.cell? ⟨b, o + k * 4 + 1, none⟩ = some (.slice s1 n1 c1) ∧ w'.cell? ⟨b, o + k * 4 + 2, none⟩ = some (.slice s2 n2 c2) ∧ w'.cell? ⟨b, o + k * 4 + 3, none⟩ = some (.slice s3 n3 c3) ∧ w'.cell? ⟨b2, o2 + k * 4, none⟩ = some (.int .i64 x0) ∧ w'.cell? ⟨b2, o2 + k * 4 + 1, none⟩ = some (.slice t1 n1 d1) ∧ w'.cell? ⟨b2, o2 + k * 4 + 2, none⟩ = some (.slice t2 n2 d2) ∧ w'.cell? ⟨b2, o2 + k * 4 + 3, none⟩ = some (.slice t3 n3 d3)) (by kernel_rfl) ?_ (fun hHeld => ?_)
      · exact ⟨by simpa [go_sem] using c0_, by simpa [go_sem] using c1_, by simpa [go_sem] using c2_, by simpa [go_sem] using c3_, by simpa [go_sem] using k0_, by simpa [go_sem] using k1_, by simpa [go_sem] using k2_, by simpa [go_sem] using k3_⟩
      obtain ⟨v0, hv0⟩ : ∃ z, z = wr.drew := ⟨_, rfl⟩
      try rw [← hv0] at hHeld
      rw [← hv0]
      have bv0 : Below wr.heap.size wr v0 := by rw [hv0]; exact Below.drew (Below.refl _ _)
      clear hv0
      have HB9 : Hid (Below wr.heap.size wr v0) := bv0
      clear bv0
      refine wpAnyH_take (i := 0) (v := .slice (some ⟨b, o, none⟩) n c) rfl (by kernel_rfl) (by kernel_rfl) (by kernel_rfl) (fun _ _ _ h => h) (Or.inl ⟨by kernel_rfl, ?_⟩) hHeld ?_
      · intro w' hSw
        obtain ⟨s0_, s1_, s2_, s3_, s4_, s5_, s6_, s7_⟩ := hSw
        first | (go_simp; done) | (go_simp; with_reducible rfl) | (go_simp; rw [IntKind.wrap_i64]; omega) | (go_simp; omega)
      simp only [Act.put, List.setIfInBounds_toArray, List.set_cons_zero, List.set_cons_succ]
      refine wpAnyH_take (i := 1) (v := .int .i64 (k : Int)) rfl (by kernel_rfl) (by kernel_rfl) (by kernel_rfl) (fun _ _ _ h => h) (Or.inl ⟨by kernel_rfl, ?_⟩) hHeld ?_
      · intro w' hSw
        obtain ⟨s0_, s1_, s2_, s3_, s4_, s5_, s6_, s7_⟩ := hSw
        first | (go_simp; done) | (go_simp; with_reducible rfl) | (go_simp; rw [IntKind.wrap_i64]; omega) | (go_simp; omega)
      simp only [Act.put, List.setIfInBounds_toArray, List.set_cons_zero, List.set_cons_succ]
      refine wpAnyH_take (i := 2) (v := .pointer (some ⟨b, o + k * 4, none⟩)) rfl (by kernel_rfl) (by kernel_rfl) (by kernel_rfl) (fun _ _ _ h => h) (Or.inl ⟨by kernel_rfl, ?_⟩) hHeld ?_
      · intro w' hSw
        obtain ⟨s0_, s1_, s2_, s3_, s4_, s5_, s6_, s7_⟩ := hSw
        first | (go_simp; done) | (go_simp; with_reducible rfl) | (go_simp; rw [IntKind.wrap_i64]; omega) | (go_simp; omega)
      simp only [Act.put, List.setIfInBounds_toArray, List.set_cons_zero, List.set_cons_succ]
      refine wpAnyH_take (i := 3) (v := .agg #[.int .i64 x0, .slice s1 n1 c1, .slice s2 n2 c2, .slice s3 n3 c3]) rfl (by kernel_rfl) (by kernel_rfl) (by kernel_rfl) (fun _ _ _ h => h) (Or.inl ⟨by kernel_rfl, ?_⟩) hHeld ?_
      · intro w' hSw
        obtain ⟨s0_, s1_, s2_, s3_, s4_, s5_, s6_, s7_⟩ := hSw
        first | (go_simp; done) | (go_simp; with_reducible rfl) | (go_simp; rw [IntKind.wrap_i64]; omega) | (go_simp; omega)
      simp only [Act.put, List.setIfInBounds_toArray, List.set_cons_zero, List.set_cons_succ]
      refine wpAnyH_take (i := 4) (v := .slice (some ⟨b2, o2, none⟩) n d) rfl (by kernel_rfl) (by kernel_rfl) (by kernel_rfl) (fun _ _ _ h => h) (Or.inl ⟨by kernel_rfl, ?_⟩) hHeld ?_
      · intro w' hSw
        obtain ⟨s0_, s1_, s2_, s3_, s4_, s5_, s6_, s7_⟩ := hSw
        first | (go_simp; done) | (go_simp; with_reducible rfl) | (go_simp; rw [IntKind.wrap_i64]; omega) | (go_simp; omega)
      simp only [Act.put, List.setIfInBounds_toArray, List.set_cons_zero, List.set_cons_succ]
      refine wpAnyH_take (i := 5) (v := .int .i64 (k : Int)) rfl (by kernel_rfl) (by kernel_rfl) (by kernel_rfl) (fun _ _ _ h => h) (Or.inl ⟨by kernel_rfl, ?_⟩) hHeld ?_
      · intro w' hSw
        obtain ⟨s0_, s1_, s2_, s3_, s4_, s5_, s6_, s7_⟩ := hSw
        first | (go_simp; done) | (go_simp; with_reducible rfl) | (go_simp; rw [IntKind.wrap_i64]; omega) | (go_simp; omega)
      simp only [Act.put, List.setIfInBounds_toArray, List.set_cons_zero, List.set_cons_succ]
      refine wpAnyH_take (i := 6) (v := .pointer (some ⟨b2, o2 + k * 4, none⟩)) rfl (by kernel_rfl) (by kernel_rfl) (by kernel_rfl) (fun _ _ _ h => h) (Or.inl ⟨by kernel_rfl, ?_⟩) hHeld ?_
      · intro w' hSw
        obtain ⟨s0_, s1_, s2_, s3_, s4_, s5_, s6_, s7_⟩ := hSw
        first | (go_simp; done) | (go_simp; with_reducible rfl) | (go_simp; rw [IntKind.wrap_i64]; omega) | (go_simp; omega)
      simp only [Act.put, List.setIfInBounds_toArray, List.set_cons_zero, List.set_cons_succ]
      refine wpAnyH_take (i := 7) (v := .agg #[.int .i64 x0, .slice t1 n1 d1, .slice t2 n2 d2, .slice t3 n3 d3]) rfl (by kernel_rfl) (by kernel_rfl) (by kernel_rfl) (fun _ _ _ h => h) (Or.inl ⟨by kernel_rfl, ?_⟩) hHeld ?_
      · intro w' hSw
        obtain ⟨s0_, s1_, s2_, s3_, s4_, s5_, s6_, s7_⟩ := hSw
        first | (go_simp; done) | (go_simp; with_reducible rfl) | (go_simp; rw [IntKind.wrap_i64]; omega) | (go_simp; omega)
      simp only [Act.put, List.setIfInBounds_toArray, List.set_cons_zero, List.set_cons_succ]
      refine wpAnyH_ready (rs := [8]) (by kernel_rfl) (by simp) ?_
      refine (AllReadyH.cons rfl (fun KK hK => ?_) AllReadyH.nil)
      go_simp
      go_wp2_with (first | (go_at_call 33; refine (eqScan_r x0 n1 V1 n2 V2 n3 V3 s1 c1 s2 c2 s3 c3 t1 d1 t2 d2 t3 d3 _ hn1 hn2 hn3 (HR1.out.below HB9.out) (HR2.out.below HB9.out)).mono ?_; rintro e v0_1 ⟨rfl, b9⟩; replace HB9 : Hid (Below wr.heap.size wr v0_1) := HB9.out.trans (b9.mono HB9.out.size); clear b9))
      refine hK.out _ _ (⟨(HB9.out.cell (p := ⟨b, o + k * 4, none⟩) zg).trans c0_, (HB9.out.cell (p := ⟨b, o + k * 4 + 1, none⟩) zg).trans c1_, (HB9.out.cell (p := ⟨b, o + k * 4 + 2, none⟩) zg).trans c2_, (HB9.out.cell (p := ⟨b, o + k * 4 + 3, none⟩) zg).trans c3_, (HB9.out.cell (p := ⟨b2, o2 + k * 4, none⟩) zp).trans k0_, (HB9.out.cell (p := ⟨b2, o2 + k * 4 + 1, none⟩) zp).trans k1_, (HB9.out.cell (p := ⟨b2, o2 + k * 4 + 2, none⟩) zp).trans k2_, (HB9.out.cell (p := ⟨b2, o2 + k * 4 + 3, none⟩) zp).trans k3_⟩) (fun hHeld => ?_)
      clear hK KK
      refine wpAnyH_ready (rs := [9]) (by kernel_rfl) (by simp) ?_
      refine AllReadyH.cons rfl (fun KK hK => ?_) AllReadyH.nil
      go_simp
      refine hK.out _ _ hHeld (fun hHeld => ?_)
      clear hK KK
      refine wpAnyH_done (by kernel_rfl) ?_ _
      clear hHeld
      have B4 : Below w.heap.size w v0_1 := HB.out.trans (HB9.out.mono HB.out.size)
      clear HB9
      go_wp2
      go_roundw
      case rel => exact ⟨k + 1, by omega, by go_num, B4⟩
      case measure => simp [intOf]; omega
    · obtain rfl : k = n := by omega
      go_wp2
      go_ret
      exact ⟨rfl, hB⟩
set_option maxRecDepth 20000 in
set_option maxHeartbeats 4000000 in
theorem szScanS_on (s : Option Addr) (n c : Nat) (Z : Nat → Int × Nat × (Nat → Bool) × Nat × (Nat → Int) × Nat × (Nat → Int × Int)) (l : Int) (w : World) (h0 : 0 ≤ l) (h1 : l ≤ 1048576) (hn : (n : Int) + (suK (scsK Z) n : Int) ≤ l) (HR : Hid (RowScs w s n Z)) : Calls Try.prog 18 #[.slice s n c, .int .i64 l] w fun e w' => e = .returned (.int .i64 (l - (n : Int) - (suK (scsK Z) n : Int))) ∧ Below w.heap.size w w' := by
  have b0 : decide (l - (n : Int) < 0) = false := decide_eq_false (by omega)
  go_enter Try.func18, Try.ntmps18
  go_wp2_with fail
  go_loopw [1, 5] (fun q i wr => ∃ k : Nat, k ≤ n ∧ i = .int .i64 k ∧ q = .int .i64 (l - (n : Int) - (suK (scsK Z) k : Int)) ∧ Below w.heap.size w wr) (fun _ i _ => n - (intOf i).toNat)
  case atStart => exact ⟨0, Nat.zero_le _, rfl, by simp [suK], Below.refl _ _⟩
  case round =>
    obtain ⟨k, hk, rfl, rfl, hB⟩ := hrel
    by_cases q : k < n
    · obtain ⟨b, o, s1, c1, s2, c2, s3, c3, rfl, hb, c0_, c1_, c2_, c3_, -⟩ := HR.out k q
      replace c0_ := (hB.cell (p := ⟨b, o + k * 4, none⟩) hb).trans c0_
      replace c1_ := (hB.cell (p := ⟨b, o + k * 4 + 1, none⟩) hb).trans c1_
      replace c2_ := (hB.cell (p := ⟨b, o + k * 4 + 2, none⟩) hb).trans c2_
      replace c3_ := (hB.cell (p := ⟨b, o + k * 4 + 3, none⟩) hb).trans c3_
      have k1 : (k : Int) < (n : Int) := by omega
      have zW := hB.size
      have su := suK_in (K := scsK Z) q
      have e1 : suK (scsK Z) (k + 1) = suK (scsK Z) k + scsK Z k := rfl
      obtain ⟨LL, hL⟩ : ∃ L, l - (n : Int) - (suK (scsK Z) k : Int) = L := ⟨_, rfl⟩
      have HL : Hid (l - (n : Int) - (suK (scsK Z) (k + 1) : Int) = LL - (scsK Z k : Int)) := by show _ = _; rw [e1]; omega
      have mK : scsK Z k = (Z k).2.1 + (Z k).2.2.2.1 + (Z k).2.2.2.2.2.1 := rfl
      obtain ⟨⟨x0, n1, V1, n2, V2, n3, V3⟩, hz⟩ : ∃ z, Z k = z := ⟨_, rfl⟩
      rw [hz] at c0_ c1_ c2_ c3_ mK
      dsimp only at c0_ c1_ c2_ c3_ mK
      rw [mK] at su e1 HL
      have l0 : 0 ≤ LL := by omega
      have l1 : LL ≤ 1048576 := by omega
      have le : ((n1 + n2 + n3 : Nat) : Int) ≤ LL := by omega
      rw [hL]
      clear hL e1 su mK hz
      have b1 : decide (LL - n1 - n2 - n3 < 0) = false := decide_eq_false (by omega)
      have HLe : Hid (l - (n : Int) - (suK (scsK Z) (k + 1) : Int) = LL - n1 - n2 - n3) := by show _ = _; rw [HL.out]; omega
      go_wp2_with fail
      refine (szScan_on x0 n1 V1 n2 V2 n3 V3 s1 c1 s2 c2 s3 c3 LL _ l0 l1 (by omega) (by omega) (by omega)).mono ?_
      rintro e w1 ⟨rfl, h3⟩
      have B1 : Below w.heap.size w w1 := hB.trans (h3.mono zW)
      clear c0_ c1_ c2_ c3_ h3
      go_wp2
      go_roundw
      case rel => exact ⟨k + 1, by omega, by go_num, by rw [HLe.out], (by repeat (first | with_reducible exact Below.refl _ _ | with_reducible exact B1 | with_reducible refine Below.setCell ?_ (by first | omega | (simp; done) | (simp; omega)) _ | with_reducible refine bDrewN ?_ _ | with_reducible refine Below.drew ?_ | with_reducible refine Below.alloc ?_ (by first | omega | (simp; done) | (simp; omega)) _))⟩
      case measure => first | (simp [intOf]; done) | (simp [intOf]; omega)
    · obtain rfl : k = n := by omega
      go_wp2
      go_ret
      exact ⟨rfl, hB⟩
set_option maxRecDepth 20000 in
set_option maxHeartbeats 4000000 in
theorem szScanS_off (s : Option Addr) (n c : Nat) (Z : Nat → Int × Nat × (Nat → Bool) × Nat × (Nat → Int) × Nat × (Nat → Int × Int)) (l : Int) (w : World) (h0 : 0 ≤ l) (h1 : l ≤ 1048576) (hn : l < (n : Int) + (suK (scsK Z) n : Int)) (n63 : (n : Int) ≤ 9223372036854775807) (k63 : ∀ i, i < n → scsW (Z i)) (HR : Hid (RowScs w s n Z)) : Calls Try.prog 18 #[.slice s n c, .int .i64 l] w fun e w' => e = .returned (.int .i64 (-1)) ∧ Below w.heap.size w w' := by
  have H63 : Hid (∀ i, i < n → scsW (Z i)) := k63
  clear k63
  by_cases hf : l < (n : Int)
  · have b0 : l - (n : Int) < 0 := by omega
    go_enter Try.func18, Try.ntmps18
    go_wp2
    go_ret
    exact ⟨ret_int rfl, (by repeat (first | with_reducible exact Below.refl _ _ | with_reducible refine Below.setCell ?_ (by first | omega | (simp; done) | (simp; omega)) _ | with_reducible refine bDrewN ?_ _ | with_reducible refine Below.drew ?_ | with_reducible refine Below.alloc ?_ (by first | omega | (simp; done) | (simp; omega)) _))⟩
  have b0 : decide (l - (n : Int) < 0) = false := decide_eq_false (by omega)
  go_enter Try.func18, Try.ntmps18
  go_wp2_with fail
  go_loopw [1, 5] (fun q i wr => ∃ k : Nat, k ≤ n ∧ i = .int .i64 k ∧ q = .int .i64 (l - (n : Int) - (suK (scsK Z) k : Int)) ∧ 0 ≤ l - (n : Int) - (suK (scsK Z) k : Int) ∧ Below w.heap.size w wr) (fun _ i _ => n - (intOf i).toNat)
  case atStart => exact ⟨0, Nat.zero_le _, rfl, by simp [suK], by show 0 ≤ l - (n : Int) - ((0 : Nat) : Int); omega, Below.refl _ _⟩
  case round =>
    obtain ⟨k, hk, rfl, rfl, hp, hB⟩ := hrel
    by_cases q : k < n
    · obtain ⟨b, o, s1, c1, s2, c2, s3, c3, rfl, hb, c0_, c1_, c2_, c3_, -⟩ := HR.out k q
      replace c0_ := (hB.cell (p := ⟨b, o + k * 4, none⟩) hb).trans c0_
      replace c1_ := (hB.cell (p := ⟨b, o + k * 4 + 1, none⟩) hb).trans c1_
      replace c2_ := (hB.cell (p := ⟨b, o + k * 4 + 2, none⟩) hb).trans c2_
      replace c3_ := (hB.cell (p := ⟨b, o + k * 4 + 3, none⟩) hb).trans c3_
      have k1 : (k : Int) < (n : Int) := by omega
      have zW := hB.size
      have su := suK_in (K := scsK Z) q
      have e1 : suK (scsK Z) (k + 1) = suK (scsK Z) k + scsK Z k := rfl
      have kk := H63.out k q
      obtain ⟨LL, hL⟩ : ∃ L, l - (n : Int) - (suK (scsK Z) k : Int) = L := ⟨_, rfl⟩
      have HL : Hid (l - (n : Int) - (suK (scsK Z) (k + 1) : Int) = LL - (scsK Z k : Int)) := by show _ = _; rw [e1]; omega
      have mK : scsK Z k = (Z k).2.1 + (Z k).2.2.2.1 + (Z k).2.2.2.2.2.1 := rfl
      unfold scsW at kk
      obtain ⟨⟨x0, n1, V1, n2, V2, n3, V3⟩, hz⟩ : ∃ z, Z k = z := ⟨_, rfl⟩
      rw [hz] at c0_ c1_ c2_ c3_ mK kk
      dsimp only at c0_ c1_ c2_ c3_ mK kk
      rw [mK] at su e1 HL
      have l0 : 0 ≤ LL := by omega
      have l1 : LL ≤ 1048576 := by omega
      rw [hL] at hp ⊢
      obtain ⟨kk1, kk2, kk3⟩ := kk
      clear hL e1 su mK hz
      by_cases l1_ : (n1 : Int) ≤ LL
      case neg =>
        go_wp2_with fail
        refine (szScan_off1 x0 n1 V1 n2 V2 n3 V3 s1 c1 s2 c2 s3 c3 LL _ l0 l1  (by omega) kk1).mono ?_
        rintro e w1 ⟨rfl, h3⟩
        have B1 : Below w.heap.size w w1 := hB.trans (h3.mono zW)
        clear c0_ c1_ c2_ c3_ h3
        go_wp2
        go_ret
        exact ⟨rfl, (by repeat (first | with_reducible exact Below.refl _ _ | with_reducible exact B1 | with_reducible refine Below.setCell ?_ (by first | omega | (simp; done) | (simp; omega)) _ | with_reducible refine bDrewN ?_ _ | with_reducible refine Below.drew ?_ | with_reducible refine Below.alloc ?_ (by first | omega | (simp; done) | (simp; omega)) _))⟩
      by_cases l2_ : (n2 : Int) ≤ LL - n1
      case neg =>
        go_wp2_with fail
        refine (szScan_off2 x0 n1 V1 n2 V2 n3 V3 s1 c1 s2 c2 s3 c3 LL _ l0 l1 (by omega) (by omega) kk2).mono ?_
        rintro e w1 ⟨rfl, h3⟩
        have B1 : Below w.heap.size w w1 := hB.trans (h3.mono zW)
        clear c0_ c1_ c2_ c3_ h3
        go_wp2
        go_ret
        exact ⟨rfl, (by repeat (first | with_reducible exact Below.refl _ _ | with_reducible exact B1 | with_reducible refine Below.setCell ?_ (by first | omega | (simp; done) | (simp; omega)) _ | with_reducible refine bDrewN ?_ _ | with_reducible refine Below.drew ?_ | with_reducible refine Below.alloc ?_ (by first | omega | (simp; done) | (simp; omega)) _))⟩
      by_cases l3_ : (n3 : Int) ≤ LL - n1 - n2
      case neg =>
        go_wp2_with fail
        refine (szScan_off3 x0 n1 V1 n2 V2 n3 V3 s1 c1 s2 c2 s3 c3 LL _ l0 l1 (by omega) (by omega) (by omega) kk3).mono ?_
        rintro e w1 ⟨rfl, h3⟩
        have B1 : Below w.heap.size w w1 := hB.trans (h3.mono zW)
        clear c0_ c1_ c2_ c3_ h3
        go_wp2
        go_ret
        exact ⟨rfl, (by repeat (first | with_reducible exact Below.refl _ _ | with_reducible exact B1 | with_reducible refine Below.setCell ?_ (by first | omega | (simp; done) | (simp; omega)) _ | with_reducible refine bDrewN ?_ _ | with_reducible refine Below.drew ?_ | with_reducible refine Below.alloc ?_ (by first | omega | (simp; done) | (simp; omega)) _))⟩
      have b1 : decide (LL - n1 - n2 - n3 < 0) = false := decide_eq_false (by omega)
      have HLe : Hid (l - (n : Int) - (suK (scsK Z) (k + 1) : Int) = LL - n1 - n2 - n3) := by show _ = _; rw [HL.out]; omega
      have lp : 0 ≤ l - (n : Int) - (suK (scsK Z) (k + 1) : Int) := by rw [HLe.out]; omega
      go_wp2_with fail
      refine (szScan_on x0 n1 V1 n2 V2 n3 V3 s1 c1 s2 c2 s3 c3 LL _ l0 l1 (by omega) (by omega) (by omega)).mono ?_
      rintro e w1 ⟨rfl, h3⟩
      have B1 : Below w.heap.size w w1 := hB.trans (h3.mono zW)
      clear c0_ c1_ c2_ c3_ h3
      go_wp2
      go_roundw
      case rel => exact ⟨k + 1, by omega, by go_num, by rw [HLe.out], lp, (by repeat (first | with_reducible exact Below.refl _ _ | with_reducible exact B1 | with_reducible refine Below.setCell ?_ (by first | omega | (simp; done) | (simp; omega)) _ | with_reducible refine bDrewN ?_ _ | with_reducible refine Below.drew ?_ | with_reducible refine Below.alloc ?_ (by first | omega | (simp; done) | (simp; omega)) _))⟩
      case measure => first | (simp [intOf]; done) | (simp [intOf]; omega)
    · obtain rfl : k = n := by omega
      exfalso; omega
/-- What is left to mark from place j on. -/
def ScsMk (b : Nat) (G : Nat → Nat → Prop) (w : World) (n j : Nat) (Z : Nat → Int × Nat × (Nat → Bool) × Nat × (Nat → Int) × Nat × (Nat → Int × Int)) : Prop := b < w.heap.size ∧ (∀ o, w.frozen? ⟨b, o, none⟩ = false) ∧ ∀ i, j ≤ i → i < n → ScsAt b (G i) w Z i
set_option maxRecDepth 20000 in
set_option maxHeartbeats 8000000 in
theorem markScanS_r (S : Nat → Prop) (s : Option Addr) (n c : Nat) (k : Int) (Z : Nat → Int × Nat × (Nat → Bool) × Nat × (Nat → Int) × Nat × (Nat → Int × Int)) (w : World) (hn : (n : Int) + (suK (scsK Z) n : Int) ≤ 1048576) (k0 : 0 ≤ k) (k1 : k ≤ 10000000) (HR : ScsR S w s n Z) :
    Calls Try.prog 25 #[.slice s n c, .int .i64 k] w fun e w' => e = .returned (.int .i64 (k + (suK (scsM Z) n : Int))) ∧ True ∧ Turn S w w' := by
  have HE : Hid (∀ i, i < n → ((Z i).2.1 : Int) ≤ 1048576 ∧ ((Z i).2.2.2.1 : Int) ≤ 1048576 ∧ ((Z i).2.2.2.2.2.1 : Int) ≤ 1048576) := Scs_each hn
  have hm3 : ∀ j, suK (scsM Z) j ≤ 2 * (j + suK (scsK Z) j) := fun j => by
    induction j with
    | zero => simp [suK]
    | succ j ih => simp only [suK, scsM, scsK] at ih ⊢; omega
  have HM3 : Hid (∀ j, j ≤ n → (suK (scsM Z) j : Int) ≤ 2 * 1048576) := fun j hj => by
    have := hm3 j
    have := suK_mono (K := scsK Z) hj
    omega
  clear hm3
  by_cases h0 : n = 0
  · subst h0
    go_enter Try.func25, Try.ntmps25
    go_wp2_with fail
    go_loopw [1, 5] (fun q i wr => i = .int .i64 0 ∧ q = .int .i64 k ∧ wr = w) (fun _ i _ => 0)
    case atStart => exact ⟨rfl, rfl, rfl⟩
    case round =>
      obtain ⟨rfl, rfl, rfl⟩ := hrel
      go_wp2
      go_ret
      exact ⟨by simp [suK], trivial, Turn.refl _ _⟩
  obtain ⟨b, G, rfl, hSb, hl, hf, hG, hD, hL, hA⟩ := HR (by omega)
  have HG : Hid (∀ i k, i < n → G i k → S k ∧ k ≠ b) := hG
  have HD : Hid (∀ i i' k, i < n → i' < n → G i k → G i' k → i = i') := hD
  have HM : Hid (ScsMk b G w n 0 Z) := ⟨hl, hf, fun i _ hi => hA i hi⟩
  clear hG hD hL hA hl hf HR
  go_enter Try.func25, Try.ntmps25
  go_wp2_with fail
  go_loopw [1, 5] (fun q i wr => ∃ j : Nat, j ≤ n ∧ i = .int .i64 j ∧ q = .int .i64 (k + (suK (scsM Z) j : Int)) ∧ Hid (ScsMk b G wr n j Z) ∧ Hid (Turn S w wr)) (fun _ i _ => n - (intOf i).toNat)
  case atStart => exact ⟨0, Nat.zero_le _, rfl, by simp [suK], HM, Turn.refl _ _⟩
  case round =>
    clear HM
    obtain ⟨j, hj, rfl, rfl, HM, HT⟩ := hrel
    by_cases h1 : j < n
    · obtain ⟨zb, hf, hA⟩ := HM.out
      obtain ⟨s1, c1, s2, c2, s3, c3, c0_, c1_, c2_, c3_, hr⟩ := hA j (Nat.le_refl _) h1
      have hE := HE.out j h1
      have m0 := HM3.out j hj
      have mS : suK (scsM Z) (j + 1) = suK (scsM Z) j + scsM Z j := rfl
      have mK : scsM Z j = 1 + (Z j).2.1 + (Z j).2.2.2.1 + (Z j).2.2.2.2.2.1 * 2 := rfl
      obtain ⟨⟨x0, n1, V1, n2, V2, n3, V3⟩, hz⟩ : ∃ z, Z j = z := ⟨_, rfl⟩
      rw [hz] at c0_ c1_ c2_ c3_ hr hE mK
      dsimp only at c0_ c1_ c2_ c3_ hr hE mK
      obtain ⟨hn1, hn2, hn3⟩ := hE
      have kn : (j : Int) < (n : Int) := by omega
      obtain ⟨x, hx⟩ : ∃ x, k + (suK (scsM Z) j : Int) = x := ⟨_, rfl⟩
      have HX : Hid (k + (suK (scsM Z) (j + 1) : Int) = x + 1 + n1 + n2 + (n3 * 2 : Nat)) := by show _ = _; rw [mS, mK]; omega
      have x0_ : 0 ≤ x := by omega
      have x1_ : x ≤ 20000000 := by omega
      rw [hx]
      obtain ⟨S1, S2, S3, u1, u2, u3, D0, D1, D2, O1, O2, O3⟩ := hr
      have f0_ := hf (j * 4)
      have Gb : ¬ G j b := fun g => (HG.out j b h1 g).2 rfl
      clear hx mS mK hz m0 hf hA
      obtain ⟨wa, hwa⟩ : ∃ y, y = wr.setCell ⟨b, j * 4, none⟩ (.int .i64 x) := ⟨_, rfl⟩
      have bs : Beside b wr wa := by rw [hwa]; exact Beside.setCell _ _ _ _
      have za : wr.heap.size = wa.heap.size := by rw [hwa]; simp
      have p1 : wa.cell? ⟨b, j * 4 + 1, none⟩ = some (.slice s1 n1 c1) := by rw [hwa]; rw [World.cell?_setCell_other _ _ _ _ (by intro q; injection q with q1 q2 q3; omega)]; exact c1_
      have p2 : wa.cell? ⟨b, j * 4 + 2, none⟩ = some (.slice s2 n2 c2) := by rw [hwa]; rw [World.cell?_setCell_other _ _ _ _ (by intro q; injection q with q1 q2 q3; omega)]; exact c2_
      have p3 : wa.cell? ⟨b, j * 4 + 3, none⟩ = some (.slice s3 n3 c3) := by rw [hwa]; rw [World.cell?_setCell_other _ _ _ _ (by intro q; injection q with q1 q2 q3; omega)]; exact c3_
      have P1 : Hid (BooR S1 wa s1 n1 V1) := O1.keep (by omega) (fun q g hq => bs.2.2.2.2 q hq (fun e => Gb (by rw [← e]; exact u1 q g)))
      have U1 : Hid (∀ q, S1 q → G j q) := u1
      have P2 : Hid (I64R S2 wa s2 n2 V2) := O2.keep (by omega) (fun q g hq => bs.2.2.2.2 q hq (fun e => Gb (by rw [← e]; exact u2 q g)))
      have U2 : Hid (∀ q, S2 q → G j q) := u2
      have P3 : Hid (ShelfR S3 wa s3 n3 V3) := O3.keep (by omega) (fun q g hq => bs.2.2.2.2 q hq (fun e => Gb (by rw [← e]; exact u3 q g)))
      have U3 : Hid (∀ q, S3 q → G j q) := u3
      have E0 : Hid (∀ k, S1 k → ¬ S2 k) := D0
      have E1 : Hid (∀ k, S1 k → ¬ S3 k) := D1
      have E2 : Hid (∀ k, S2 k → ¬ S3 k) := D2
      have HMa : Hid (b < wa.heap.size ∧ (∀ o, wa.frozen? ⟨b, o, none⟩ = false) ∧ ∀ i, j + 1 ≤ i → i < n → ScsAt b (G i) wa Z i) := ⟨by have := HM.out.1; omega, fun o => by rw [hwa]; simp [go_sem, HM.out.2.1], fun i h2 h3 => (HM.out.2.2 i (by omega) h3).keep (by omega) (fun y hy => by rw [hwa]; exact World.cell?_setCell_other _ _ _ _ (by intro q; cases q; omega)) (fun q g hq => bs.2.2.2.2 q hq (fun e => (HG.out i q h3 g).2 e))⟩
      have HTa : Hid (Turn S w wa) := HT.out.trans (Turn.of bs hSb)
      have zba : b < wa.heap.size := by omega
      clear O1 u1 O2 u2 O3 u3 D0 D1 D2 HM HT bs za
      go_wp2_with fail
      rw [← hwa]
      clear hwa c0_ f0_
      refine (markBoolS_r S1 s1 n1 c1 (x + 1) V1 _ hn1 (by omega) (by omega) P1.out).mono ?_
      rintro e wb1 ⟨rfl, -, T⟩
      have NB : ¬ S1 b := fun g => Gb (U1.out b g)
      replace p2 := (T.cell (p := ⟨b, j * 4 + 2, none⟩) zba NB).trans p2
      replace P2 : Hid (I64R S2 wb1 s2 n2 V2) := P2.out.keep T.size (fun q hq hl => T.2.2.2.2 q hl (fun g => E0.out q g hq))
      replace p3 := (T.cell (p := ⟨b, j * 4 + 3, none⟩) zba NB).trans p3
      replace P3 : Hid (ShelfR S3 wb1 s3 n3 V3) := P3.out.keep T.size (fun q hq hl => T.2.2.2.2 q hl (fun g => E1.out q g hq))
      replace HMa : Hid (b < wb1.heap.size ∧ (∀ o, wb1.frozen? ⟨b, o, none⟩ = false) ∧ ∀ i, j + 1 ≤ i → i < n → ScsAt b (G i) wb1 Z i) := ⟨Nat.lt_of_lt_of_le zba T.size, fun o => (T.frozen (p := ⟨b, o, none⟩) zba NB).trans (HMa.out.2.1 o), fun i h2 h3 => (HMa.out.2.2 i h2 h3).keep T.size (fun y hy => T.cell (p := ⟨b, y, none⟩) zba NB) (fun q g hq => T.2.2.2.2 q hq (fun g' => by have := HD.out i j q h3 h1 g (U1.out q g'); omega))⟩
      replace HTa : Hid (Turn S w wb1) := HTa.out.trans (T.mono (fun q g => (HG.out j q h1 (U1.out q g)).1))
      replace zba := Nat.lt_of_lt_of_le zba T.size
      clear T NB
      go_wp2_with fail
      refine (markInt64S_r S2 s2 n2 c2 (x + 1 + n1) V2 _ hn2 (by omega) (by omega) P2.out).mono ?_
      rintro e wb2 ⟨rfl, -, T⟩
      have NB : ¬ S2 b := fun g => Gb (U2.out b g)
      replace p3 := (T.cell (p := ⟨b, j * 4 + 3, none⟩) zba NB).trans p3
      replace P3 : Hid (ShelfR S3 wb2 s3 n3 V3) := P3.out.keep T.size (fun q hq hl => T.2.2.2.2 q hl (fun g => E2.out q g hq))
      replace HMa : Hid (b < wb2.heap.size ∧ (∀ o, wb2.frozen? ⟨b, o, none⟩ = false) ∧ ∀ i, j + 1 ≤ i → i < n → ScsAt b (G i) wb2 Z i) := ⟨Nat.lt_of_lt_of_le zba T.size, fun o => (T.frozen (p := ⟨b, o, none⟩) zba NB).trans (HMa.out.2.1 o), fun i h2 h3 => (HMa.out.2.2 i h2 h3).keep T.size (fun y hy => T.cell (p := ⟨b, y, none⟩) zba NB) (fun q g hq => T.2.2.2.2 q hq (fun g' => by have := HD.out i j q h3 h1 g (U2.out q g'); omega))⟩
      replace HTa : Hid (Turn S w wb2) := HTa.out.trans (T.mono (fun q g => (HG.out j q h1 (U2.out q g)).1))
      replace zba := Nat.lt_of_lt_of_le zba T.size
      clear T NB
      go_wp2_with fail
      refine (markShelfS_r S3 s3 n3 c3 (x + 1 + n1 + n2) V3 _ hn3 (by omega) (by omega) P3.out).mono ?_
      rintro e wb3 ⟨rfl, -, T⟩
      have NB : ¬ S3 b := fun g => Gb (U3.out b g)
      replace HMa : Hid (b < wb3.heap.size ∧ (∀ o, wb3.frozen? ⟨b, o, none⟩ = false) ∧ ∀ i, j + 1 ≤ i → i < n → ScsAt b (G i) wb3 Z i) := ⟨Nat.lt_of_lt_of_le zba T.size, fun o => (T.frozen (p := ⟨b, o, none⟩) zba NB).trans (HMa.out.2.1 o), fun i h2 h3 => (HMa.out.2.2 i h2 h3).keep T.size (fun y hy => T.cell (p := ⟨b, y, none⟩) zba NB) (fun q g hq => T.2.2.2.2 q hq (fun g' => by have := HD.out i j q h3 h1 g (U3.out q g'); omega))⟩
      replace HTa : Hid (Turn S w wb3) := HTa.out.trans (T.mono (fun q g => (HG.out j q h1 (U3.out q g)).1))
      replace zba := Nat.lt_of_lt_of_le zba T.size
      clear T NB
      go_wp2
      go_roundw
      case rel => exact ⟨j + 1, by omega, by go_num, by rw [HX.out]; simp, HMa, HTa⟩
      case measure => first | (simp [intOf]; done) | (simp [intOf]; omega)
    · obtain rfl : j = n := by omega
      go_wp2
      go_ret
      exact ⟨rfl, trivial, HT.out⟩
end Go.Proofs.Ytlbbdifmjdpfiaa
