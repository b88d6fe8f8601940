/-
What is proved: a list of permits: how it is kept; the law's own copy of it in new memory.
-/
import Derived.Test.YtikcfpjfcpbfcaaI64E
import Derived.Deep.OwnRows
import Derived.Deep.RegionHeld3
import Derived.Deep.DeepCutAuto
namespace Go.Proofs.Ytikcfpjfcpbfcaa
set_option maxRecDepth 40000
open Go.ChangeShapes Go.WideShapes Go.ChangeAt Go.RowKit
set_option linter.unusedVariables false
set_option linter.unusedSimpArgs false

/-- The list in memory. -/
def PermitR (w : World) (s : Option Addr) (n : Nat) (X0 : Nat → Int) (X1 : Nat → Int) (S2 : Nat → Option Addr) (K2 C2 : Nat → Nat) (V2 : Nat → Nat → Int) : Prop :=
  ∀ j, j < n → ∃ b o, s = some ⟨b, o, none⟩ ∧ b < w.heap.size ∧ w.cell? ⟨b, o + j * 3, none⟩ = some (.int .i64 (X0 j)) ∧ w.cell? ⟨b, o + j * 3 + 1, none⟩ = some (.int .i64 (X1 j)) ∧ w.cell? ⟨b, o + j * 3 + 2, none⟩ = some (.slice (S2 j) (K2 j) (C2 j)) ∧ RowI w (S2 j) (K2 j) (V2 j)
theorem PermitR.below {w w' : World} {s : Option Addr} {n : Nat} {X0 : Nat → Int} {X1 : Nat → Int} {S2 : Nat → Option Addr} {K2 C2 : Nat → Nat} {V2 : Nat → Nat → Int} (h : PermitR w s n X0 X1 S2 K2 C2 V2) (hb : Below w.heap.size w w') : PermitR w' s n X0 X1 S2 K2 C2 V2 := fun j hj => by
  obtain ⟨b, o, e, hl, c0, c1, c2, r2⟩ := h j hj
  exact ⟨b, o, e, Nat.lt_of_lt_of_le hl hb.size, (hb.cell (p := ⟨b, o + j * 3, none⟩) hl).trans c0, (hb.cell (p := ⟨b, o + j * 3 + 1, none⟩) hl).trans c1, (hb.cell (p := ⟨b, o + j * 3 + 2, none⟩) hl).trans c2, r2.below hb⟩
theorem Pe_store_sl : ∀ (W : World) (a : Addr) (s : Option Addr) (n c : Nat), (W.cell? a).isSome = true → W.frozen? a = false → (store a (.slice s n c)).run Try.prog W = .ok () (W.setCell a (.slice s n c)) := fun W a s n c h hf => by
  obtain ⟨u, hu⟩ := Option.isSome_iff_exists.1 h
  rw [run_store Try.prog W a _ _ rfl, hu]
  simp [hf]
theorem Pe_own_set {w : World} {b p o n base : Nat} {u : Value} {V : Nat → Int} (h : OwnI base w (some ⟨b, 0, none⟩) n V) (hp : b ≠ p) : OwnI base (w.setCell ⟨p, o, none⟩ u) (some ⟨b, 0, none⟩) n V := fun j hj => by
  obtain ⟨b', e, h0, hl, hc, hf⟩ := h j hj
  cases e
  exact ⟨b, rfl, h0, by simpa using hl, by simpa [go_sem, hp] using hc, by simpa [go_sem, hp] using hf⟩
set_option maxHeartbeats 4000000 in
theorem toPermit_any (x0 : Int) (x1 : Int) (t2 : Option Addr) (k2 c2 : Nat) (v2 : Nat → Int) (w : World) (hk2 : (k2 : Int) ≤ 1048576) (HR2 : Hid (RowI w t2 k2 v2)) : Calls Try.prog 15 #[.agg #[.int .i64 x0, .int .i64 x1, .slice t2 k2 c2]] w fun e w' => ∃ g2, e = .returned (.agg #[.int .i64 x0, .int .i64 x1, .slice (some ⟨g2, 0, none⟩) k2 k2]) ∧ w.heap.size ≤ g2 ∧ g2 < w'.heap.size ∧ OwnI g2 w' (some ⟨g2, 0, none⟩) k2 v2 ∧ Below w.heap.size w w' := by
  have sto := Pe_store_sl
  go_enter Try.func15, Try.ntmps15
  go_upto_region 2 with fail
  obtain ⟨wd, hwd⟩ : ∃ wd, wd = ((w.alloc (.cells #[.int .i64 x0, .int .i64 x1, .slice t2 k2 c2] 30)).alloc (.cells #[.int .i64 0, .int .i64 0, .slice none 0 0] 44)).alloc (.cells #[.int .i64 0, .int .i64 0, .slice none 0 0] 44) := ⟨_, rfl⟩
  rw [← hwd]
  have zd : w.heap.size + 1 + 1 + 1 ≤ wd.heap.size := by rw [hwd]; simp
  have a0 : wd.cell? ⟨w.heap.size, 0, none⟩ = some (.int .i64 x0) := by rw [hwd]; simp [go_sem]
  have a1 : wd.cell? ⟨w.heap.size, 1, none⟩ = some (.int .i64 x1) := by rw [hwd]; simp [go_sem]
  have a2 : wd.cell? ⟨w.heap.size, 2, none⟩ = some (.slice t2 k2 c2) := by rw [hwd]; simp [go_sem]
  have b0 : wd.cell? ⟨w.heap.size + 1, 0, none⟩ = some (.int .i64 0) := by rw [hwd]; simp [go_sem]
  have b1 : wd.cell? ⟨w.heap.size + 1, 1, none⟩ = some (.int .i64 0) := by rw [hwd]; simp [go_sem]
  have b2 : wd.cell? ⟨w.heap.size + 1, 2, none⟩ = some (.slice none 0 0) := by rw [hwd]; simp [go_sem]
  have d0 : wd.cell? ⟨w.heap.size + 1 + 1, 0, none⟩ = some (.int .i64 0) := by rw [hwd]; simp [go_sem]
  have d1 : wd.cell? ⟨w.heap.size + 1 + 1, 1, none⟩ = some (.int .i64 0) := by rw [hwd]; simp [go_sem]
  have d2 : wd.cell? ⟨w.heap.size + 1 + 1, 2, none⟩ = some (.slice none 0 0) := by rw [hwd]; simp [go_sem]
  have f1 : ∀ o, wd.frozen? ⟨w.heap.size + 1, o, none⟩ = false := fun o => by rw [hwd]; simp [go_sem]
  have f2 : ∀ o, wd.frozen? ⟨w.heap.size + 1 + 1, o, none⟩ = false := fun o => by rw [hwd]; simp [go_sem]
  have B0 : Below w.heap.size w wd := by rw [hwd]; exact (by repeat (first | with_reducible exact Below.refl _ _ | with_reducible refine Below.setCell ?_ (by first | omega | (simp; done) | (simp; omega)) _ | with_reducible refine bDrewN ?_ _ | with_reducible refine Below.drew ?_ | with_reducible refine Below.alloc ?_ (by first | omega | (simp; done) | (simp; omega)) _))
  clear hwd
  go_upto_region 4 with fail
  obtain ⟨wc0, hwc⟩ : ∃ wc, wc = ((wd.setCell ⟨w.heap.size + 1 + 1, 0, none⟩ (.int .i64 x0)).setCell ⟨w.heap.size + 1 + 1, 1, none⟩ (.int .i64 x1)) := ⟨_, rfl⟩
  rw [← hwc]
  replace a0 : wc0.cell? ⟨w.heap.size, 0, none⟩ = some (.int .i64 x0) := by rw [hwc]; simp [go_sem, a0]
  replace b0 : wc0.cell? ⟨w.heap.size + 1, 0, none⟩ = some (.int .i64 0) := by rw [hwc]; simp [go_sem, b0]
  replace d0 : wc0.cell? ⟨w.heap.size + 1 + 1, 0, none⟩ = some (.int .i64 x0) := by rw [hwc]; simp [go_sem, d0]
  replace a1 : wc0.cell? ⟨w.heap.size, 1, none⟩ = some (.int .i64 x1) := by rw [hwc]; simp [go_sem, a1]
  replace b1 : wc0.cell? ⟨w.heap.size + 1, 1, none⟩ = some (.int .i64 0) := by rw [hwc]; simp [go_sem, b1]
  replace d1 : wc0.cell? ⟨w.heap.size + 1 + 1, 1, none⟩ = some (.int .i64 x1) := by rw [hwc]; simp [go_sem, d1]
  replace a2 : wc0.cell? ⟨w.heap.size, 2, none⟩ = some (.slice t2 k2 c2) := by rw [hwc]; simp [go_sem, a2]
  replace b2 : wc0.cell? ⟨w.heap.size + 1, 2, none⟩ = some (.slice none 0 0) := by rw [hwc]; simp [go_sem, b2]
  replace d2 : wc0.cell? ⟨w.heap.size + 1 + 1, 2, none⟩ = some (.slice none 0 0) := by rw [hwc]; simp [go_sem, d2]
  replace f1 : ∀ o, wc0.frozen? ⟨w.heap.size + 1, o, none⟩ = false := fun o => by rw [hwc]; simp [go_sem, f1]
  replace f2 : ∀ o, wc0.frozen? ⟨w.heap.size + 1 + 1, o, none⟩ = false := fun o => by rw [hwc]; simp [go_sem, f2]
  replace zd : w.heap.size + 1 + 1 + 1 ≤ wc0.heap.size := by rw [hwc]; simpa using zd
  replace B0 : Below w.heap.size w wc0 := by rw [hwc]; exact (by repeat (first | with_reducible exact Below.refl _ _ | with_reducible exact B0 | with_reducible refine Below.setCell ?_ (by first | omega | (simp; done) | (simp; omega)) _ | with_reducible refine bDrewN ?_ _ | with_reducible refine Below.drew ?_ | with_reducible refine Below.alloc ?_ (by first | omega | (simp; done) | (simp; omega)) _))
  clear hwc
  go_wp2_with fail
  refine (toInt64S_any t2 k2 c2 v2 _ hk2 (HR2.out.below B0)).mono ?_
  rintro e w1 ⟨rfl, y2, OG, h1⟩
  replace a0 := (h1.cell (p := ⟨w.heap.size, 0, none⟩) (by show w.heap.size < _; omega)).trans a0
  replace b0 := (h1.cell (p := ⟨w.heap.size + 1, 0, none⟩) (by show w.heap.size + 1 < _; omega)).trans b0
  replace d0 := (h1.cell (p := ⟨w.heap.size + 1 + 1, 0, none⟩) (by show w.heap.size + 1 + 1 < _; omega)).trans d0
  replace a1 := (h1.cell (p := ⟨w.heap.size, 1, none⟩) (by show w.heap.size < _; omega)).trans a1
  replace b1 := (h1.cell (p := ⟨w.heap.size + 1, 1, none⟩) (by show w.heap.size + 1 < _; omega)).trans b1
  replace d1 := (h1.cell (p := ⟨w.heap.size + 1 + 1, 1, none⟩) (by show w.heap.size + 1 + 1 < _; omega)).trans d1
  replace a2 := (h1.cell (p := ⟨w.heap.size, 2, none⟩) (by show w.heap.size < _; omega)).trans a2
  replace b2 := (h1.cell (p := ⟨w.heap.size + 1, 2, none⟩) (by show w.heap.size + 1 < _; omega)).trans b2
  replace d2 := (h1.cell (p := ⟨w.heap.size + 1 + 1, 2, none⟩) (by show w.heap.size + 1 + 1 < _; omega)).trans d2
  replace f1 : ∀ o, w1.frozen? ⟨w.heap.size + 1, o, none⟩ = false := fun o => (h1.frozen (p := ⟨w.heap.size + 1, o, none⟩) (by show w.heap.size + 1 < _; omega)).trans (f1 o)
  replace f2 : ∀ o, w1.frozen? ⟨w.heap.size + 1 + 1, o, none⟩ = false := fun o => (h1.frozen (p := ⟨w.heap.size + 1 + 1, o, none⟩) (by show w.heap.size + 1 + 1 < _; omega)).trans (f2 o)
  replace B0 : Below w.heap.size w w1 := B0.trans (h1.mono B0.size)
  have O2 : Hid (OwnI wc0.heap.size w1 (some ⟨wc0.heap.size, 0, none⟩) k2 v2) := OG
  obtain ⟨g2, hg2⟩ : ∃ g, g = wc0.heap.size := ⟨_, rfl⟩
  have q2 : w.heap.size + 1 + 1 + 1 ≤ g2 := by omega
  have sz1 := h1.size
  replace zd : w.heap.size + 1 + 1 + 1 ≤ w1.heap.size := by omega
  rw [← hg2] at O2 y2 ⊢
  clear h1 OG hg2 sz1
  go_wp2
  refine bodyPost_ret (v := .agg #[.int .i64 x0, .int .i64 x1, .slice (some ⟨g2, 0, none⟩) k2 k2]) (by first | (simp [results, Try.results15, go_sem, b0, b1, b2, d0, d1, d2]; done) | (simp (maxDischargeDepth := 12) (maxSteps := 1000000) [results, Try.results15, go_sem, b0, b1, b2, d0, d1, d2]; done)) rfl ⟨g2, rfl, by omega, by simpa using y2, (Pe_own_set (Pe_own_set (Pe_own_set (Pe_own_set O2.out (by omega)) (by omega)) (by omega)) (by omega)), (by repeat (first | with_reducible exact Below.refl _ _ | with_reducible exact B0 | with_reducible refine Below.setCell ?_ (by first | omega | (simp; done) | (simp; omega)) _ | with_reducible refine bDrewN ?_ _ | with_reducible refine Below.drew ?_ | with_reducible refine Below.alloc ?_ (by first | omega | (simp; done) | (simp; omega)) _))⟩
/-- A copy of the list on its way: the first k of n, in the block b. -/
def PermitC (b : Nat) (w : World) (n k : Nat) (X0 : Nat → Int) (X1 : Nat → Int) (G2 : Nat → Nat) (K2 : Nat → Nat) (V2 : Nat → Nat → Int) : Prop :=
  b < w.heap.size ∧ (∀ o, w.frozen? ⟨b, o, none⟩ = false) ∧ (∀ j, j < k → w.cell? ⟨b, j * 3, none⟩ = some (.int .i64 (X0 j)) ∧ w.cell? ⟨b, j * 3 + 1, none⟩ = some (.int .i64 (X1 j)) ∧ w.cell? ⟨b, j * 3 + 2, none⟩ = some (.slice (some ⟨G2 j, 0, none⟩) (K2 j) (K2 j)) ∧ b < G2 j ∧ G2 j < w.heap.size ∧ OwnI (G2 j) w (some ⟨G2 j, 0, none⟩) (K2 j) (V2 j) ∧ (∀ i, i < j → G2 i < G2 j)) ∧ ∀ j, j < n → (w.cell? ⟨b, j * 3, none⟩).isSome = true ∧ (w.cell? ⟨b, j * 3 + 1, none⟩).isSome = true ∧ (w.cell? ⟨b, j * 3 + 2, none⟩).isSome = true
theorem PermitC.row {b n : Nat} {w : World} {X0 : Nat → Int} {X1 : Nat → Int} {G2 : Nat → Nat} {K2 : Nat → Nat} {V2 : Nat → Nat → Int} (h : PermitC b w n n X0 X1 G2 K2 V2) : PermitR w (some ⟨b, 0, none⟩) n X0 X1 (fun j => some ⟨G2 j, 0, none⟩) K2 K2 V2 := fun j hj => by
  obtain ⟨h1, h2, h3, h4⟩ := h
  obtain ⟨c0, c1, c2, -, -, r2, -⟩ := h3 j hj
  exact ⟨b, 0, rfl, h1, by simpa using c0, by simpa using c1, by simpa using c2, r2.row⟩
theorem PermitC.below {b n k : Nat} {w w' : World} {X0 : Nat → Int} {X1 : Nat → Int} {G2 : Nat → Nat} {K2 : Nat → Nat} {V2 : Nat → Nat → Int} (h : PermitC b w n k X0 X1 G2 K2 V2) (hb : Below w.heap.size w w') : PermitC b w' n k X0 X1 G2 K2 V2 := by
  obtain ⟨h1, h2, h3, h4⟩ := h
  refine ⟨Nat.lt_of_lt_of_le h1 hb.size, fun o => (hb.frozen (p := ⟨b, o, none⟩) h1).trans (h2 o), fun j hj => ?_, fun j hj => ?_⟩
  · obtain ⟨c0, c1, c2, r2, s2, u2, p⟩ := h3 j hj
    exact ⟨(hb.cell (p := ⟨b, j * 3, none⟩) h1).trans c0, (hb.cell (p := ⟨b, j * 3 + 1, none⟩) h1).trans c1, (hb.cell (p := ⟨b, j * 3 + 2, none⟩) h1).trans c2, r2, Nat.lt_of_lt_of_le s2 hb.size, u2.below hb, p⟩
  · obtain ⟨c0, c1, c2⟩ := h4 j hj
    exact ⟨by rw [hb.cell (p := ⟨b, j * 3, none⟩) h1]; exact c0, by rw [hb.cell (p := ⟨b, j * 3 + 1, none⟩) h1]; exact c1, by rw [hb.cell (p := ⟨b, j * 3 + 2, none⟩) h1]; exact c2⟩
theorem make_Permit (n : Nat) (hn : n ≤ 1048576) (w : World) : (Instr.makeSlice 34 (.int .i64 (n : Int)) (.int .i64 (n : Int))).run Try.prog w = .ok (.slice (some ⟨w.heap.size, 0, none⟩) n n) (w.alloc (.cells (madeCells #[.int .i64 0, .int .i64 0, .slice none 0 0] (n * 3)) 44)) := by
  have hinfo : (Try.prog.info? 44).map (fun i => (i.zero, i.size, i.bytes)) = some (some (.agg #[.int .i64 0, .int .i64 0, .slice none 0 0]), 3, 40) := by kernel_rfl
  obtain ⟨i, hi, hzz⟩ := Option.map_eq_some_iff.1 hinfo
  simp only [Prod.mk.injEq] at hzz
  obtain ⟨hz, hs, hb⟩ := hzz
  have hr := run_make (P := Try.prog) w 34 44 i _ Try.underlying34 hi hz .i64 .i64 n n (by omega) (Int.le_refl _) (by rw [hb]; omega) (by omega)
  simp only [Int.toNat_natCast, hs] at hr
  exact hr
theorem Pe_start (w : World) (n : Nat) (X0 : Nat → Int) (X1 : Nat → Int) (G2 : Nat → Nat) (K2 : Nat → Nat) (V2 : Nat → Nat → Int) (t : TypeId) : PermitC w.heap.size (w.alloc (.cells (madeCells #[.int .i64 0, .int .i64 0, .slice none 0 0] (n * 3)) t)) n 0 X0 X1 G2 K2 V2 := by
  refine ⟨by simp, fun o => by simp [go_sem], fun j hj => by omega, fun j hj => ?_⟩
  have hm : ∀ i, i < n * 3 → ((madeCells #[.int .i64 0, .int .i64 0, .slice none 0 0] (n * 3))[i]?).isSome = true := fun i hi => by
    simp only [madeCells, Array.getElem?_map, Array.getElem?_range, hi, if_true, Option.map_some, Option.isSome_some]
  refine ⟨?_, ?_, ?_⟩
  · have h0 := hm (j * 3) (by omega)
    simpa [go_sem] using h0
  · have h0 := hm (j * 3 + 1) (by omega)
    simpa [go_sem] using h0
  · have h0 := hm (j * 3 + 2) (by omega)
    simpa [go_sem] using h0
theorem Pe_on {wr w3 : World} {b n k : Nat} {g2 : Nat} {X0 : Nat → Int} {X1 : Nat → Int} {G2 : Nat → Nat} {K2 : Nat → Nat} {V2 : Nat → Nat → Int} (h : PermitC b wr n k X0 X1 G2 K2 V2) (h3 : Below wr.heap.size wr w3) (hk : k < n) (hb2 : wr.heap.size ≤ g2) (hz2 : g2 < w3.heap.size) (hr2 : OwnI g2 w3 (some ⟨g2, 0, none⟩) (K2 k) (V2 k))  :
    PermitC b (((w3.setCell ⟨b, k * 3, none⟩ (.int .i64 (X0 k))).setCell ⟨b, k * 3 + 1, none⟩ (.int .i64 (X1 k))).setCell ⟨b, k * 3 + 2, none⟩ (.slice (some ⟨g2, 0, none⟩) (K2 k) (K2 k))) n (k + 1) X0 X1 (fun j => if j = k then g2 else G2 j) K2 V2 := by
  obtain ⟨hz, hf, hdn, hc⟩ := h
  have z3 : b < w3.heap.size := Nat.lt_of_lt_of_le hz h3.size
  have fz : ∀ o, w3.frozen? ⟨b, o, none⟩ = false := fun o => (h3.frozen (p := ⟨b, o, none⟩) hz).trans (hf o)
  have ce : ∀ j, w3.cell? ⟨b, j, none⟩ = wr.cell? ⟨b, j, none⟩ := fun j => h3.cell (p := ⟨b, j, none⟩) hz
  obtain ⟨u0, e0⟩ : ∃ u, w3.cell? ⟨b, k * 3, none⟩ = some u := by rw [ce]; exact Option.isSome_iff_exists.1 (hc k hk).1
  obtain ⟨u1, e1⟩ : ∃ u, w3.cell? ⟨b, k * 3 + 1, none⟩ = some u := by rw [ce]; exact Option.isSome_iff_exists.1 (hc k hk).2.1
  obtain ⟨u2, e2⟩ : ∃ u, w3.cell? ⟨b, k * 3 + 2, none⟩ = some u := by rw [ce]; exact Option.isSome_iff_exists.1 (hc k hk).2.2
  refine ⟨by simpa using z3, fun o => by simp [go_sem, fz], fun j hj => ?_, fun j hj => ?_⟩
  · by_cases q : j = k
    · subst q
      refine ⟨?_, ?_, ?_, ?_, ?_, ?_, ?_⟩
      · simp [go_sem, e0, e1, e2]
      · simp [go_sem, e0, e1, e2]
      · simp [go_sem, e0, e1, e2]
      · dsimp only; rw [if_pos rfl]; omega
      · dsimp only; rw [if_pos rfl]; simpa using hz2
      · dsimp only; rw [if_pos rfl]; exact (Pe_own_set (Pe_own_set (Pe_own_set hr2 (by omega)) (by omega)) (by omega))
      · intro i hi
        dsimp only; rw [if_pos rfl, if_neg (by omega)]
        have := (hdn i hi).2.2.2.2.1
        omega
    · obtain ⟨c0, c1, c2, r2, s2, y2, p0⟩ := hdn j (by omega)
      have n00 : j * 3 ≠ k * 3 := by omega
      have n01 : j * 3 ≠ k * 3 + 1 := by omega
      have n02 : j * 3 ≠ k * 3 + 2 := by omega
      have n10 : j * 3 + 1 ≠ k * 3 := by omega
      have n11 : j * 3 + 1 ≠ k * 3 + 1 := by omega
      have n12 : j * 3 + 1 ≠ k * 3 + 2 := by omega
      have n20 : j * 3 + 2 ≠ k * 3 := by omega
      have n21 : j * 3 + 2 ≠ k * 3 + 1 := by omega
      have n22 : j * 3 + 2 ≠ k * 3 + 2 := by omega
      refine ⟨?_, ?_, ?_, ?_, ?_, ?_, ?_⟩
      · simp [go_sem, n00, n01, n02, n10, n11, n12, n20, n21, n22, q, ce, c0]
      · simp [go_sem, n00, n01, n02, n10, n11, n12, n20, n21, n22, q, ce, c1]
      · dsimp only; rw [if_neg q]; simp [go_sem, n00, n01, n02, n10, n11, n12, n20, n21, n22, q, ce, c2]
      · dsimp only; rw [if_neg q]; exact r2
      · dsimp only; rw [if_neg q]; have := h3.size; simp; omega
      · dsimp only; rw [if_neg q]; exact (Pe_own_set (Pe_own_set (Pe_own_set (y2.below h3) (by omega)) (by omega)) (by omega))
      · intro i hi
        dsimp only; rw [if_neg q, if_neg (by omega)]
        exact p0 i hi
  · obtain ⟨i0, i1, i2⟩ := hc j hj
    obtain ⟨v0, g0x⟩ := Option.isSome_iff_exists.1 i0
    obtain ⟨v1, g1x⟩ := Option.isSome_iff_exists.1 i1
    obtain ⟨v2, g2x⟩ := Option.isSome_iff_exists.1 i2
    by_cases q : j = k
    · subst q; simp [go_sem, e0, e1, e2]
    · have n00 : j * 3 ≠ k * 3 := by omega
      have n01 : j * 3 ≠ k * 3 + 1 := by omega
      have n02 : j * 3 ≠ k * 3 + 2 := by omega
      have n10 : j * 3 + 1 ≠ k * 3 := by omega
      have n11 : j * 3 + 1 ≠ k * 3 + 1 := by omega
      have n12 : j * 3 + 1 ≠ k * 3 + 2 := by omega
      have n20 : j * 3 + 2 ≠ k * 3 := by omega
      have n21 : j * 3 + 2 ≠ k * 3 + 1 := by omega
      have n22 : j * 3 + 2 ≠ k * 3 + 2 := by omega
      simp [go_sem, n00, n01, n02, n10, n11, n12, n20, n21, n22, q, ce, g0x, g1x, g2x]
set_option maxRecDepth 20000 in
set_option maxHeartbeats 4000000 in
theorem toPermitS_any (s : Option Addr) (n c : Nat) (X0 : Nat → Int) (X1 : Nat → Int) (S2 : Nat → Option Addr) (K2 C2 : Nat → Nat) (V2 : Nat → Nat → Int) (w : World) (hn : (n : Int) ≤ 1048576) (hK2 : Hid (∀ j, j < n → (K2 j : Int) ≤ 1048576)) (HR : Hid (PermitR w s n X0 X1 S2 K2 C2 V2)) :
    Calls Try.prog 50 #[.slice s n c] w fun e w' => e = .returned (.slice (some ⟨w.heap.size, 0, none⟩) n n) ∧ (∃ G2, PermitC w.heap.size w' n n X0 X1 G2 K2 V2) ∧ Below w.heap.size w w' := by
  have hmk := make_Permit n (by omega)
  have sto := Pe_store_sl
  go_enter Try.func50, Try.ntmps50
  go_wp2_with fail
  go_loopw [4] (fun i wr => ∃ k : Nat, k ≤ n ∧ i = .int .i64 k ∧ Hid (∃ G2, PermitC w.heap.size wr n k X0 X1 G2 K2 V2) ∧ Hid (Below w.heap.size w wr)) (fun i _ => n - (intOf i).toNat)
  case atStart => exact ⟨0, Nat.zero_le _, rfl, ⟨fun _ => 0, Pe_start w n X0 X1 _ K2 V2 44⟩, (by show Below _ _ _; exact (by repeat (first | with_reducible exact Below.refl _ _ | with_reducible refine Below.setCell ?_ (by first | omega | (simp; done) | (simp; omega)) _ | with_reducible refine bDrewN ?_ _ | with_reducible refine Below.drew ?_ | with_reducible refine Below.alloc ?_ (by first | omega | (simp; done) | (simp; omega)) _)))⟩
  case round =>
    obtain ⟨k, hk, rfl, HT0, HB⟩ := hrel
    obtain ⟨G2, hT⟩ := HT0.out
    have HT : Hid (PermitC w.heap.size wr n k X0 X1 G2 K2 V2) := hT
    clear HT0 hT
    by_cases h1 : k < n
    · obtain ⟨g, o, rfl, hg, c0, c1, c2, RK2⟩ := HR.out k h1
      have d0 : wr.cell? ⟨g, o + k * 3, none⟩ = some (.int .i64 (X0 k)) := (HB.out.cell (p := ⟨g, o + k * 3, none⟩) hg).trans c0
      have d1 : wr.cell? ⟨g, o + k * 3 + 1, none⟩ = some (.int .i64 (X1 k)) := (HB.out.cell (p := ⟨g, o + k * 3 + 1, none⟩) hg).trans c1
      have d2 : wr.cell? ⟨g, o + k * 3 + 2, none⟩ = some (.slice (S2 k) (K2 k) (C2 k)) := (HB.out.cell (p := ⟨g, o + k * 3 + 2, none⟩) hg).trans c2
      have RL2 : Hid (RowI wr (S2 k) (K2 k) (V2 k)) := RK2.below HB.out
      have kk2 := hK2.out k h1
      have k1 : (k : Int) < (n : Int) := by omega
      have HN : Hid (k < n) := h1
      have hz := HT.out.1
      clear hg c0 c1 c2 RK2
      go_wp2_with fail
      refine (toPermit_any (X0 k) (X1 k) (S2 k) (K2 k) (C2 k) (V2 k) _ kk2 RL2).mono ?_
      rintro e w3 ⟨g2, rfl, lb2, zb2, R2, h3⟩
      have TN : Hid _ := Pe_on HT.out h3 h1 lb2 zb2 R2 
      have BN : Hid (Below w.heap.size w w3) := HB.out.trans (h3.mono HB.out.size)
      obtain ⟨hz', hf, -, hc⟩ := HT.out.below h3
      obtain ⟨i0, i1, i2⟩ := hc k h1
      obtain ⟨u0, e0⟩ := Option.isSome_iff_exists.1 i0
      obtain ⟨u1, e1⟩ := Option.isSome_iff_exists.1 i1
      obtain ⟨u2, e2⟩ := Option.isSome_iff_exists.1 i2
      clear i0 i1 i2 d0 d1 d2 R2 RL2 h3 hc HT HB
      go_wp2
      go_roundw
      case rel => exact ⟨k + 1, by have := HN.out; omega, by go_num, ⟨_, TN.out⟩, (by have B := BN.out; show Below _ _ _; exact (by repeat (first | with_reducible exact Below.refl _ _ | with_reducible exact B | with_reducible refine Below.setCell ?_ (by first | omega | (simp; done) | (simp; omega)) _ | with_reducible refine bDrewN ?_ _ | with_reducible refine Below.drew ?_ | with_reducible refine Below.alloc ?_ (by first | omega | (simp; done) | (simp; omega)) _)))⟩
      case measure => have := HN.out; simp [intOf]; omega
    · obtain rfl : k = n := by omega
      go_wp2
      go_ret
      exact ⟨rfl, ⟨G2, HT.out⟩, HB.out⟩
end Go.Proofs.Ytikcfpjfcpbfcaa
