/-
What is proved: a list of permits: how it is kept; the law's own copy of it in new memory.
-/
import Derived.Test.YtikcfpjfcpbfcaaI64Ez
import Derived.Deep.OwnRows
import Derived.Deep.RegionHeld3
import Derived.Deep.DeepCutAuto
import Derived.Test.YtikcfpjfcpbfcaaZcA
namespace Go.Proofs.Ytikcfpjfcpbfcaa
set_option maxRecDepth 40000
open Go.ChangeShapes Go.WideShapes Go.ChangeAt Go.RowKit
set_option linter.unusedVariables false
set_option linter.unusedSimpArgs false

/-- The list in memory. -/
def PermitR (w : World) (s : Option Addr) (n : Nat) (X0 : Nat → Int) (X1 : Nat → Int) (S2 : Nat → Option Addr) (K2 C2 : Nat → Nat) (V2 : Nat → Nat → Int) : Prop :=
  ∀ j, j < n → ∃ b o, s = some ⟨b, o, none⟩ ∧ b < w.heap.size ∧ w.cell? ⟨b, o + j * 3, none⟩ = some (.int .i64 (X0 j)) ∧ w.cell? ⟨b, o + j * 3 + 1, none⟩ = some (.int .i64 (X1 j)) ∧ w.cell? ⟨b, o + j * 3 + 2, none⟩ = some (.slice (S2 j) (K2 j) (C2 j)) ∧ RowI w (S2 j) (K2 j) (V2 j)
theorem PermitR.below {w w' : World} {s : Option Addr} {n : Nat} {X0 : Nat → Int} {X1 : Nat → Int} {S2 : Nat → Option Addr} {K2 C2 : Nat → Nat} {V2 : Nat → Nat → Int} (h : PermitR w s n X0 X1 S2 K2 C2 V2) (hb : Below w.heap.size w w') : PermitR w' s n X0 X1 S2 K2 C2 V2 := fun j hj => by
  obtain ⟨b, o, e, hl, c0, c1, c2, r2⟩ := h j hj
  exact ⟨b, o, e, Nat.lt_of_lt_of_le hl hb.size, (hb.cell (p := ⟨b, o + j * 3, none⟩) hl).trans c0, (hb.cell (p := ⟨b, o + j * 3 + 1, none⟩) hl).trans c1, (hb.cell (p := ⟨b, o + j * 3 + 2, none⟩) hl).trans c2, r2.below hb⟩
theorem Pe_store_sl : ∀ (W : World) (a : Addr) (s : Option Addr) (n c : Nat), (W.cell? a).isSome = true → W.frozen? a = false → (store a (.slice s n c)).run Try.prog W = .ok () (W.setCell a (.slice s n c)) := fun W a s n c h hf => by
  obtain ⟨u, hu⟩ := Option.isSome_iff_exists.1 h
  rw [run_store Try.prog W a _ _ rfl, hu]
  simp [hf]
theorem Pe_own_set {w : World} {b p o n base : Nat} {u : Value} {V : Nat → Int} (h : OwnI base w (some ⟨b, 0, none⟩) n V) (hp : b ≠ p) : OwnI base (w.setCell ⟨p, o, none⟩ u) (some ⟨b, 0, none⟩) n V := fun j hj => by
  obtain ⟨b', e, h0, hl, hc, hf⟩ := h j hj
  cases e
  exact ⟨b, rfl, h0, by simpa using hl, by simpa [go_sem, hp] using hc, by simpa [go_sem, hp] using hf⟩
set_option maxHeartbeats 4000000 in
theorem toPermit_any (x0 : Int) (x1 : Int) (t2 : Option Addr) (k2 c2 : Nat) (v2 : Nat → Int) (w : World) (hk2 : (k2 : Int) ≤ 1048576) (HR2 : Hid (RowI w t2 k2 v2)) : Calls Try.prog 15 #[.agg #[.int .i64 x0, .int .i64 x1, .slice t2 k2 c2]] w fun e w' => ∃ g2, e = .returned (.agg #[.int .i64 x0, .int .i64 x1, .slice (some ⟨g2, 0, none⟩) k2 k2]) ∧ w.heap.size ≤ g2 ∧ g2 < w'.heap.size ∧ OwnI g2 w' (some ⟨g2, 0, none⟩) k2 v2 ∧ Below w.heap.size w w' := by
  have sto := Pe_store_sl
  go_enter Try.func15, Try.ntmps15
  go_upto_region 2 with fail
  obtain ⟨wd, hwd⟩ : ∃ wd, wd = ((w.alloc (.cells #[.int .i64 x0, .int .i64 x1, .slice t2 k2 c2] 30)).alloc (.cells #[.int .i64 0, .int .i64 0, .slice none 0 0] 44)).alloc (.cells #[.int .i64 0, .int .i64 0, .slice none 0 0] 44) := ⟨_, rfl⟩
  rw [← hwd]
  have zd : w.heap.size + 1 + 1 + 1 ≤ wd.heap.size := by rw [hwd]; simp
  have a0 : wd.cell? ⟨w.heap.size, 0, none⟩ = some (.int .i64 x0) := by rw [hwd]; simp [go_sem]
  have a1 : wd.cell? ⟨w.heap.size, 1, none⟩ = some (.int .i64 x1) := by rw [hwd]; simp [go_sem]
  have a2 : wd.cell? ⟨w.heap.size, 2, none⟩ = some (.slice t2 k2 c2) := by rw [hwd]; simp [go_sem]
  have b0 : wd.cell? ⟨w.heap.size + 1, 0, none⟩ = some (.int .i64 0) := by rw [hwd]; simp [go_sem]
  have b1 : wd.cell? ⟨w.heap.size + 1, 1, none⟩ = some (.int .i64 0) := by rw [hwd]; simp [go_sem]
  have b2 : wd.cell? ⟨w.heap.size + 1, 2, none⟩ = some (.slice none 0 0) := by rw [hwd]; simp [go_sem]
  have d0 : wd.cell? ⟨w.heap.size + 1 + 1, 0, none⟩ = some (.int .i64 0) := by rw [hwd]; simp [go_sem]
  have d1 : wd.cell? ⟨w.heap.size + 1 + 1, 1, none⟩ = some (.int .i64 0) := by rw [hwd]; simp [go_sem]
  have d2 : wd.cell? ⟨w.heap.size + 1 + 1, 2, none⟩ = some (.slice none 0 0) := by rw [hwd]; simp [go_sem]
  have f1 : ∀ o, wd.frozen? ⟨w.heap.size + 1, o, none⟩ = false := fun o => by rw [hwd]; simp [go_sem]
  have f2 : ∀ o, wd.frozen? ⟨w.heap.size + 1 + 1, o, none⟩ = false := fun o => by rw [hwd]; simp [go_sem]
  have B0 : Below w.heap.size w wd := by rw [hwd]; exact (by repeat (first | with_reducible exact Below.refl _ _ | with_reducible refine Below.setCell ?_ (by first | omega | (simp; done) | (simp; omega)) _ | with_reducible refine bDrewN ?_ _ | with_reducible refine Below.drew ?_ | with_reducible refine Below.alloc ?_ (by first | omega | (simp; done) | (simp; omega)) _))
  clear hwd
  go_upto_region 4 with fail
  obtain ⟨wc0, hwc⟩ : ∃ wc, wc = ((wd.setCell ⟨w.heap.size + 1 + 1, 0, none⟩ (.int .i64 x0)).setCell ⟨w.heap.size + 1 + 1, 1, none⟩ (.int .i64 x1)) := ⟨_, rfl⟩
  rw [← hwc]
  replace a0 : wc0.cell? ⟨w.heap.size, 0, none⟩ = some (.int .i64 x0) := by rw [hwc]; simp [go_sem, a0]
  replace b0 : wc0.cell? ⟨w.heap.size + 1, 0, none⟩ = some (.int .i64 0) := by rw [hwc]; simp [go_sem, b0]
  replace d0 : wc0.cell? ⟨w.heap.size + 1 + 1, 0, none⟩ = some (.int .i64 x0) := by rw [hwc]; simp [go_sem, d0]
  replace a1 : wc0.cell? ⟨w.heap.size, 1, none⟩ = some (.int .i64 x1) := by rw [hwc]; simp [go_sem, a1]
  replace b1 : wc0.cell? ⟨w.heap.size + 1, 1, none⟩ = some (.int .i64 0) := by rw [hwc]; simp [go_sem, b1]
  replace d1 : wc0.cell? ⟨w.heap.size + 1 + 1, 1, none⟩ = some (.int .i64 x1) := by rw [hwc]; simp [go_sem, d1]
  replace a2 : wc0.cell? ⟨w.heap.size, 2, none⟩ = some (.slice t2 k2 c2) := by rw [hwc]; simp [go_sem, a2]
  replace b2 : wc0.cell? ⟨w.heap.size + 1, 2, none⟩ = some (.slice none 0 0) := by rw [hwc]; simp [go_sem, b2]
  replace d2 : wc0.cell? ⟨w.heap.size + 1 + 1, 2, none⟩ = some (.slice none 0 0) := by rw [hwc]; simp [go_sem, d2]
  replace f1 : ∀ o, wc0.frozen? ⟨w.heap.size + 1, o, none⟩ = false := fun o => by rw [hwc]; simp [go_sem, f1]
  replace f2 : ∀ o, wc0.frozen? ⟨w.heap.size + 1 + 1, o, none⟩ = false := fun o => by rw [hwc]; simp [go_sem, f2]
  replace zd : w.heap.size + 1 + 1 + 1 ≤ wc0.heap.size := by rw [hwc]; simpa using zd
  replace B0 : Below w.heap.size w wc0 := by rw [hwc]; exact (by repeat (first | with_reducible exact Below.refl _ _ | with_reducible exact B0 | with_reducible refine Below.setCell ?_ (by first | omega | (simp; done) | (simp; omega)) _ | with_reducible refine bDrewN ?_ _ | with_reducible refine Below.drew ?_ | with_reducible refine Below.alloc ?_ (by first | omega | (simp; done) | (simp; omega)) _))
  clear hwc
  go_wp2_with fail
  refine (toInt64S_any t2 k2 c2 v2 _ hk2 (HR2.out.below B0)).mono ?_
  rintro e w1 ⟨rfl, y2, OG, h1⟩
  replace a0 := (h1.cell (p := ⟨w.heap.size, 0, none⟩) (by show w.heap.size < _; omega)).trans a0
  replace b0 := (h1.cell (p := ⟨w.heap.size + 1, 0, none⟩) (by show w.heap.size + 1 < _; omega)).trans b0
  replace d0 := (h1.cell (p := ⟨w.heap.size + 1 + 1, 0, none⟩) (by show w.heap.size + 1 + 1 < _; omega)).trans d0
  replace a1 := (h1.cell (p := ⟨w.heap.size, 1, none⟩) (by show w.heap.size < _; omega)).trans a1
  replace b1 := (h1.cell (p := ⟨w.heap.size + 1, 1, none⟩) (by show w.heap.size + 1 < _; omega)).trans b1
  replace d1 := (h1.cell (p := ⟨w.heap.size + 1 + 1, 1, none⟩) (by show w.heap.size + 1 + 1 < _; omega)).trans d1
  replace a2 := (h1.cell (p := ⟨w.heap.size, 2, none⟩) (by show w.heap.size < _; omega)).trans a2
  replace b2 := (h1.cell (p := ⟨w.heap.size + 1, 2, none⟩) (by show w.heap.size + 1 < _; omega)).trans b2
  replace d2 := (h1.cell (p := ⟨w.heap.size + 1 + 1, 2, none⟩) (by show w.heap.size + 1 + 1 < _; omega)).trans d2
  replace f1 : ∀ o, w1.frozen? ⟨w.heap.size + 1, o, none⟩ = false := fun o => (h1.frozen (p := ⟨w.heap.size + 1, o, none⟩) (by show w.heap.size + 1 < _; omega)).trans (f1 o)
  replace f2 : ∀ o, w1.frozen? ⟨w.heap.size + 1 + 1, o, none⟩ = false := fun o => (h1.frozen (p := ⟨w.heap.size + 1 + 1, o, none⟩) (by show w.heap.size + 1 + 1 < _; omega)).trans (f2 o)
  replace B0 : Below w.heap.size w w1 := B0.trans (h1.mono B0.size)
  have O2 : Hid (OwnI wc0.heap.size w1 (some ⟨wc0.heap.size, 0, none⟩) k2 v2) := OG
  obtain ⟨g2, hg2⟩ : ∃ g, g = wc0.heap.size := ⟨_, rfl⟩
  have q2 : w.heap.size + 1 + 1 + 1 ≤ g2 := by omega
  have sz1 := h1.size
  replace zd : w.heap.size + 1 + 1 + 1 ≤ w1.heap.size := by omega
  rw [← hg2] at O2 y2 ⊢
  clear h1 OG hg2 sz1
  go_wp2
  refine bodyPost_ret (v := .agg #[.int .i64 x0, .int .i64 x1, .slice (some ⟨g2, 0, none⟩) k2 k2]) (by first | (simp [results, Try.results15, go_sem, b0, b1, b2, d0, d1, d2]; done) | (simp (maxDischargeDepth := 12) (maxSteps := 1000000) [results, Try.results15, go_sem, b0, b1, b2, d0, d1, d2]; done)) rfl ⟨g2, rfl, by omega, by simpa using y2, (Pe_own_set (Pe_own_set (Pe_own_set (Pe_own_set O2.out (by omega)) (by omega)) (by omega)) (by omega)), (by repeat (first | with_reducible exact Below.refl _ _ | with_reducible exact B0 | with_reducible refine Below.setCell ?_ (by first | omega | (simp; done) | (simp; omega)) _ | with_reducible refine bDrewN ?_ _ | with_reducible refine Below.drew ?_ | with_reducible refine Below.alloc ?_ (by first | omega | (simp; done) | (simp; omega)) _))⟩
/-- A copy of the list on its way: the first k of n, in the block b. -/
def PermitC (b : Nat) (w : World) (n k : Nat) (X0 : Nat → Int) (X1 : Nat → Int) (G2 : Nat → Nat) (K2 : Nat → Nat) (V2 : Nat → Nat → Int) : Prop :=
  b < w.heap.size ∧ (∀ o, w.frozen? ⟨b, o, none⟩ = false) ∧ (∀ j, j < k → w.cell? ⟨b, j * 3, none⟩ = some (.int .i64 (X0 j)) ∧ w.cell? ⟨b, j * 3 + 1, none⟩ = some (.int .i64 (X1 j)) ∧ w.cell? ⟨b, j * 3 + 2, none⟩ = some (.slice (some ⟨G2 j, 0, none⟩) (K2 j) (K2 j)) ∧ b < G2 j ∧ G2 j < w.heap.size ∧ OwnI (G2 j) w (some ⟨G2 j, 0, none⟩) (K2 j) (V2 j) ∧ (∀ i, i < j → G2 i < G2 j)) ∧ ∀ j, j < n → (w.cell? ⟨b, j * 3, none⟩).isSome = true ∧ (w.cell? ⟨b, j * 3 + 1, none⟩).isSome = true ∧ (w.cell? ⟨b, j * 3 + 2, none⟩).isSome = true
theorem PermitC.row {b n : Nat} {w : World} {X0 : Nat → Int} {X1 : Nat → Int} {G2 : Nat → Nat} {K2 : Nat → Nat} {V2 : Nat → Nat → Int} (h : PermitC b w n n X0 X1 G2 K2 V2) : PermitR w (some ⟨b, 0, none⟩) n X0 X1 (fun j => some ⟨G2 j, 0, none⟩) K2 K2 V2 := fun j hj => by
  obtain ⟨h1, h2, h3, h4⟩ := h
  obtain ⟨c0, c1, c2, -, -, r2, -⟩ := h3 j hj
  exact ⟨b, 0, rfl, h1, by simpa using c0, by simpa using c1, by simpa using c2, r2.row⟩
theorem PermitC.below {b n k : Nat} {w w' : World} {X0 : Nat → Int} {X1 : Nat → Int} {G2 : Nat → Nat} {K2 : Nat → Nat} {V2 : Nat → Nat → Int} (h : PermitC b w n k X0 X1 G2 K2 V2) (hb : Below w.heap.size w w') : PermitC b w' n k X0 X1 G2 K2 V2 := by
  obtain ⟨h1, h2, h3, h4⟩ := h
  refine ⟨Nat.lt_of_lt_of_le h1 hb.size, fun o => (hb.frozen (p := ⟨b, o, none⟩) h1).trans (h2 o), fun j hj => ?_, fun j hj => ?_⟩
  · obtain ⟨c0, c1, c2, r2, s2, u2, p⟩ := h3 j hj
    exact ⟨(hb.cell (p := ⟨b, j * 3, none⟩) h1).trans c0, (hb.cell (p := ⟨b, j * 3 + 1, none⟩) h1).trans c1, (hb.cell (p := ⟨b, j * 3 + 2, none⟩) h1).trans c2, r2, Nat.lt_of_lt_of_le s2 hb.size, u2.below hb, p⟩
  · obtain ⟨c0, c1, c2⟩ := h4 j hj
    exact ⟨by rw [hb.cell (p := ⟨b, j * 3, none⟩) h1]; exact c0, by rw [hb.cell (p := ⟨b, j * 3 + 1, none⟩) h1]; exact c1, by rw [hb.cell (p := ⟨b, j * 3 + 2, none⟩) h1]; exact c2⟩
theorem make_Permit (n : Nat) (hn : n ≤ 1048576) (w : World) : (Instr.makeSlice 34 (.int .i64 (n : Int)) (.int .i64 (n : Int))).run Try.prog w = .ok (.slice (some ⟨w.heap.size, 0, none⟩) n n) (w.alloc (.cells (madeCells #[.int .i64 0, .int .i64 0, .slice none 0 0] (n * 3)) 44)) := by
  have hinfo : (Try.prog.info? 44).map (fun i => (i.zero, i.size, i.bytes)) = some (some (.agg #[.int .i64 0, .int .i64 0, .slice none 0 0]), 3, 40) := by kernel_rfl
  obtain ⟨i, hi, hzz⟩ := Option.map_eq_some_iff.1 hinfo
  simp only [Prod.mk.injEq] at hzz
  obtain ⟨hz, hs, hb⟩ := hzz
  have hr := run_make (P := Try.prog) w 34 44 i _ Try.underlying34 hi hz .i64 .i64 n n (by omega) (Int.le_refl _) (by rw [hb]; omega) (by omega)
  simp only [Int.toNat_natCast, hs] at hr
  exact hr
theorem Pe_start (w : World) (n : Nat) (X0 : Nat → Int) (X1 : Nat → Int) (G2 : Nat → Nat) (K2 : Nat → Nat) (V2 : Nat → Nat → Int) (t : TypeId) : PermitC w.heap.size (w.alloc (.cells (madeCells #[.int .i64 0, .int .i64 0, .slice none 0 0] (n * 3)) t)) n 0 X0 X1 G2 K2 V2 := by
  refine ⟨by simp, fun o => by simp [go_sem], fun j hj => by omega, fun j hj => ?_⟩
  have hm : ∀ i, i < n * 3 → ((madeCells #[.int .i64 0, .int .i64 0, .slice none 0 0] (n * 3))[i]?).isSome = true := fun i hi => by
    simp only [madeCells, Array.getElem?_map, Array.getElem?_range, hi, if_true, Option.map_some, Option.isSome_some]
  refine ⟨?_, ?_, ?_⟩
  · have h0 := hm (j * 3) (by omega)
    simpa [go_sem] using h0
  · have h0 := hm (j * 3 + 1) (by omega)
    simpa [go_sem] using h0
  · have h0 := hm (j * 3 + 2) (by omega)
    simpa [go_sem] using h0
theorem Pe_on {wr w3 : World} {b n k : Nat} {g2 : Nat} {X0 : Nat → Int} {X1 : Nat → Int} {G2 : Nat → Nat} {K2 : Nat → Nat} {V2 : Nat → Nat → Int} (h : PermitC b wr n k X0 X1 G2 K2 V2) (h3 : Below wr.heap.size wr w3) (hk : k < n) (hb2 : wr.heap.size ≤ g2) (hz2 : g2 < w3.heap.size) (hr2 : OwnI g2 w3 (some ⟨g2, 0, none⟩) (K2 k) (V2 k))  :
    PermitC b (((w3.setCell ⟨b, k * 3, none⟩ (.int .i64 (X0 k))).setCell ⟨b, k * 3 + 1, none⟩ (.int .i64 (X1 k))).setCell ⟨b, k * 3 + 2, none⟩ (.slice (some ⟨g2, 0, none⟩) (K2 k) (K2 k))) n (k + 1) X0 X1 (fun j => if j = k then g2 else G2 j) K2 V2 := by
  obtain ⟨hz, hf, hdn, hc⟩ := h
  have z3 : b < w3.heap.size := Nat.lt_of_lt_of_le hz h3.size
  have fz : ∀ o, w3.frozen? ⟨b, o, none⟩ = false := fun o => (h3.frozen (p := ⟨b, o, none⟩) hz).trans (hf o)
  have ce : ∀ j, w3.cell? ⟨b, j, none⟩ = wr.cell? ⟨b, j, none⟩ := fun j => h3.cell (p := ⟨b, j, none⟩) hz
  obtain ⟨u0, e0⟩ : ∃ u, w3.cell? ⟨b, k * 3, none⟩ = some u := by rw [ce]; exact Option.isSome_iff_exists.1 (hc k hk).1
  obtain ⟨u1, e1⟩ : ∃ u, w3.cell? ⟨b, k * 3 + 1, none⟩ = some u := by rw [ce]; exact Option.isSome_iff_exists.1 (hc k hk).2.1
  obtain ⟨u2, e2⟩ : ∃ u, w3.cell? ⟨b, k * 3 + 2, none⟩ = some u := by rw [ce]; exact Option.isSome_iff_exists.1 (hc k hk).2.2
  refine ⟨by simpa using z3, fun o => by simp [go_sem, fz], fun j hj => ?_, fun j hj => ?_⟩
  · by_cases q : j = k
    · subst q
      refine ⟨?_, ?_, ?_, ?_, ?_, ?_, ?_⟩
      · simp [go_sem, e0, e1, e2]
      · simp [go_sem, e0, e1, e2]
      · simp [go_sem, e0, e1, e2]
      · dsimp only; rw [if_pos rfl]; omega
      · dsimp only; rw [if_pos rfl]; simpa using hz2
      · dsimp only; rw [if_pos rfl]; exact (Pe_own_set (Pe_own_set (Pe_own_set hr2 (by omega)) (by omega)) (by omega))
      · intro i hi
        dsimp only; rw [if_pos rfl, if_neg (by omega)]
        have := (hdn i hi).2.2.2.2.1
        omega
    · obtain ⟨c0, c1, c2, r2, s2, y2, p0⟩ := hdn j (by omega)
      have n00 : j * 3 ≠ k * 3 := by omega
      have n01 : j * 3 ≠ k * 3 + 1 := by omega
      have n02 : j * 3 ≠ k * 3 + 2 := by omega
      have n10 : j * 3 + 1 ≠ k * 3 := by omega
      have n11 : j * 3 + 1 ≠ k * 3 + 1 := by omega
      have n12 : j * 3 + 1 ≠ k * 3 + 2 := by omega
      have n20 : j * 3 + 2 ≠ k * 3 := by omega
      have n21 : j * 3 + 2 ≠ k * 3 + 1 := by omega
      have n22 : j * 3 + 2 ≠ k * 3 + 2 := by omega
      refine ⟨?_, ?_, ?_, ?_, ?_, ?_, ?_⟩
      · simp [go_sem, n00, n01, n02, n10, n11, n12, n20, n21, n22, q, ce, c0]
      · simp [go_sem, n00, n01, n02, n10, n11, n12, n20, n21, n22, q, ce, c1]
      · dsimp only; rw [if_neg q]; simp [go_sem, n00, n01, n02, n10, n11, n12, n20, n21, n22, q, ce, c2]
      · dsimp only; rw [if_neg q]; exact r2
      · dsimp only; rw [if_neg q]; have := h3.size; simp; omega
      · dsimp only; rw [if_neg q]; exact (Pe_own_set (Pe_own_set (Pe_own_set (y2.below h3) (by omega)) (by omega)) (by omega))
      · intro i hi
        dsimp only; rw [if_neg q, if_neg (by omega)]
        exact p0 i hi
  · obtain ⟨i0, i1, i2⟩ := hc j hj
    obtain ⟨v0, g0x⟩ := Option.isSome_iff_exists.1 i0
    obtain ⟨v1, g1x⟩ := Option.isSome_iff_exists.1 i1
    obtain ⟨v2, g2x⟩ := Option.isSome_iff_exists.1 i2
    by_cases q : j = k
    · subst q; simp [go_sem, e0, e1, e2]
    · have n00 : j * 3 ≠ k * 3 := by omega
      have n01 : j * 3 ≠ k * 3 + 1 := by omega
      have n02 : j * 3 ≠ k * 3 + 2 := by omega
      have n10 : j * 3 + 1 ≠ k * 3 := by omega
      have n11 : j * 3 + 1 ≠ k * 3 + 1 := by omega
      have n12 : j * 3 + 1 ≠ k * 3 + 2 := by omega
      have n20 : j * 3 + 2 ≠ k * 3 := by omega
      have n21 : j * 3 + 2 ≠ k * 3 + 1 := by omega
      have n22 : j * 3 + 2 ≠ k * 3 + 2 := by omega
      simp [go_sem, n00, n01, n02, n10, n11, n12, n20, n21, n22, q, ce, g0x, g1x, g2x]
set_option maxRecDepth 20000 in
set_option maxHeartbeats 4000000 in
theorem toPermitS_any (s : Option Addr) (n c : Nat) (X0 : Nat → Int) (X1 : Nat → Int) (S2 : Nat → Option Addr) (K2 C2 : Nat → Nat) (V2 : Nat → Nat → Int) (w : World) (hn : (n : Int) ≤ 1048576) (hK2 : Hid (∀ j, j < n → (K2 j : Int) ≤ 1048576)) (HR : Hid (PermitR w s n X0 X1 S2 K2 C2 V2)) :
    Calls Try.prog 50 #[.slice s n c] w fun e w' => e = .returned (.slice (some ⟨w.heap.size, 0, none⟩) n n) ∧ (∃ G2, PermitC w.heap.size w' n n X0 X1 G2 K2 V2) ∧ Below w.heap.size w w' := by
  have hmk := make_Permit n (by omega)
  have sto := Pe_store_sl
  go_enter Try.func50, Try.ntmps50
  go_wp2_with fail
  go_loopw [4] (fun i wr => ∃ k : Nat, k ≤ n ∧ i = .int .i64 k ∧ Hid (∃ G2, PermitC w.heap.size wr n k X0 X1 G2 K2 V2) ∧ Hid (Below w.heap.size w wr)) (fun i _ => n - (intOf i).toNat)
  case atStart => exact ⟨0, Nat.zero_le _, rfl, ⟨fun _ => 0, Pe_start w n X0 X1 _ K2 V2 44⟩, (by show Below _ _ _; exact (by repeat (first | with_reducible exact Below.refl _ _ | with_reducible refine Below.setCell ?_ (by first | omega | (simp; done) | (simp; omega)) _ | with_reducible refine bDrewN ?_ _ | with_reducible refine Below.drew ?_ | with_reducible refine Below.alloc ?_ (by first | omega | (simp; done) | (simp; omega)) _)))⟩
  case round =>
    obtain ⟨k, hk, rfl, HT0, HB⟩ := hrel
    obtain ⟨G2, hT⟩ := HT0.out
    have HT : Hid (PermitC w.heap.size wr n k X0 X1 G2 K2 V2) := hT
    clear HT0 hT
    by_cases h1 : k < n
    · obtain ⟨g, o, rfl, hg, c0, c1, c2, RK2⟩ := HR.out k h1
      have d0 : wr.cell? ⟨g, o + k * 3, none⟩ = some (.int .i64 (X0 k)) := (HB.out.cell (p := ⟨g, o + k * 3, none⟩) hg).trans c0
      have d1 : wr.cell? ⟨g, o + k * 3 + 1, none⟩ = some (.int .i64 (X1 k)) := (HB.out.cell (p := ⟨g, o + k * 3 + 1, none⟩) hg).trans c1
      have d2 : wr.cell? ⟨g, o + k * 3 + 2, none⟩ = some (.slice (S2 k) (K2 k) (C2 k)) := (HB.out.cell (p := ⟨g, o + k * 3 + 2, none⟩) hg).trans c2
      have RL2 : Hid (RowI wr (S2 k) (K2 k) (V2 k)) := RK2.below HB.out
      have kk2 := hK2.out k h1
      have k1 : (k : Int) < (n : Int) := by omega
      have HN : Hid (k < n) := h1
      have hz := HT.out.1
      clear hg c0 c1 c2 RK2
      go_wp2_with fail
      refine (toPermit_any (X0 k) (X1 k) (S2 k) (K2 k) (C2 k) (V2 k) _ kk2 RL2).mono ?_
      rintro e w3 ⟨g2, rfl, lb2, zb2, R2, h3⟩
      have TN : Hid _ := Pe_on HT.out h3 h1 lb2 zb2 R2 
      have BN : Hid (Below w.heap.size w w3) := HB.out.trans (h3.mono HB.out.size)
      obtain ⟨hz', hf, -, hc⟩ := HT.out.below h3
      obtain ⟨i0, i1, i2⟩ := hc k h1
      obtain ⟨u0, e0⟩ := Option.isSome_iff_exists.1 i0
      obtain ⟨u1, e1⟩ := Option.isSome_iff_exists.1 i1
      obtain ⟨u2, e2⟩ := Option.isSome_iff_exists.1 i2
      clear i0 i1 i2 d0 d1 d2 R2 RL2 h3 hc HT HB
      go_wp2
      go_roundw
      case rel => exact ⟨k + 1, by have := HN.out; omega, by go_num, ⟨_, TN.out⟩, (by have B := BN.out; show Below _ _ _; exact (by repeat (first | with_reducible exact Below.refl _ _ | with_reducible exact B | with_reducible refine Below.setCell ?_ (by first | omega | (simp; done) | (simp; omega)) _ | with_reducible refine bDrewN ?_ _ | with_reducible refine Below.drew ?_ | with_reducible refine Below.alloc ?_ (by first | omega | (simp; done) | (simp; omega)) _)))⟩
      case measure => have := HN.out; simp [intOf]; omega
    · obtain rfl : k = n := by omega
      go_wp2
      go_ret
      exact ⟨rfl, ⟨G2, HT.out⟩, HB.out⟩

open Go.ChangeShapes Go.WideShapes Go.ChangeAt Go.RowKit
set_option linter.unusedVariables false
set_option linter.unusedSimpArgs false

set_option maxHeartbeats 1600000 in
theorem szPermit_on (x0 : Int) (x1 : Int) (t2 : Option Addr) (k2 c2 : Nat) (l : Int) (w : World) (h0 : 0 ≤ l) (h1 : l ≤ 1048576) (hn : (k2 : Int) ≤ l) : Calls Try.prog 11 #[.agg #[.int .i64 x0, .int .i64 x1, .slice t2 k2 c2], .int .i64 l] w fun e w' => e = .returned (.int .i64 (l - (k2 : Int))) ∧ Below w.heap.size w w' := by
  go_enter Try.func11, Try.ntmps11
  go_wp2_with fail
  refine (szInt64S_on _ k2 _ (l) _ (by omega) (by omega) (by omega)).mono ?_
  rintro e w1 ⟨rfl, rfl⟩
  go_wp2
  go_ret
  exact ⟨rfl, (by repeat (first | with_reducible exact Below.refl _ _ | with_reducible refine Below.setCell ?_ (by first | omega | (simp; done) | (simp; omega)) _ | with_reducible refine bDrewN ?_ _ | with_reducible refine Below.drew ?_ | with_reducible refine Below.alloc ?_ (by first | omega | (simp; done) | (simp; omega)) _))⟩
set_option maxHeartbeats 1600000 in
theorem szPermit_off0 (x0 : Int) (x1 : Int) (t2 : Option Addr) (k2 c2 : Nat) (l : Int) (w : World) (h0 : 0 ≤ l) (h1 : l ≤ 1048576)  (hx : l < (k2 : Int)) (hl : (k2 : Int) ≤ 9223372036854775807) : Calls Try.prog 11 #[.agg #[.int .i64 x0, .int .i64 x1, .slice t2 k2 c2], .int .i64 l] w fun e w' => e = .returned (.int .i64 (-1)) ∧ Below w.heap.size w w' := by
  go_enter Try.func11, Try.ntmps11
  go_wp2_with fail
  refine (szInt64S_off _ k2 _ (l) _ (by omega) (by omega) (by omega) hl).mono ?_
  rintro e w1 ⟨rfl, rfl⟩
  go_wp2
  go_ret
  exact ⟨rfl, (by repeat (first | with_reducible exact Below.refl _ _ | with_reducible refine Below.setCell ?_ (by first | omega | (simp; done) | (simp; omega)) _ | with_reducible refine bDrewN ?_ _ | with_reducible refine Below.drew ?_ | with_reducible refine Below.alloc ?_ (by first | omega | (simp; done) | (simp; omega)) _))⟩
set_option maxHeartbeats 800000 in
theorem szPermitS_far (s : Option Addr) (n c : Nat) (w : World) (hn : (1048576 : Int) < n) (hn' : (n : Int) ≤ 9223372036854775807) : Calls Try.prog 43 #[.slice s n c, .int .i64 1048576] w fun e w' => e = .returned (.int .i64 (-1)) ∧ Below w.heap.size w w' := by
  go_enter Try.func43, Try.ntmps43
  go_wp2
  go_ret
  exact ⟨rfl, (by repeat (first | with_reducible exact Below.refl _ _ | with_reducible refine Below.setCell ?_ (by first | omega | (simp; done) | (simp; omega)) _ | with_reducible refine bDrewN ?_ _ | with_reducible refine Below.drew ?_ | with_reducible refine Below.alloc ?_ (by first | omega | (simp; done) | (simp; omega)) _))⟩
set_option maxRecDepth 20000 in
set_option maxHeartbeats 4000000 in
theorem szPermitS_near (s : Option Addr) (n c : Nat) (X0 : Nat → Int) (X1 : Nat → Int) (S2 : Nat → Option Addr) (K2 C2 : Nat → Nat) (V2 : Nat → Nat → Int) (w : World) (l0 : Int) (z0 : 0 ≤ l0) (z1 : l0 ≤ 1048576) (hn : (n : Int) ≤ l0) (hK2 : Hid (∀ j, j < n → (K2 j : Int) ≤ 9223372036854775807)) (HR : Hid (PermitR w s n X0 X1 S2 K2 C2 V2)) : Calls Try.prog 43 #[.slice s n c, .int .i64 l0] w fun e w' => (e = .returned (.int .i64 (-1)) ∨ ∃ r : Int, 0 ≤ r ∧ r ≤ 1048576 ∧ e = .returned (.int .i64 r) ∧ (∀ j, j < n → (K2 j : Int) ≤ 1048576)) ∧ Below w.heap.size w w' := by
  go_enter Try.func43, Try.ntmps43
  go_wp2_with fail
  go_loopw [1, 5] (fun q i wr => ∃ (k : Nat) (l : Int), k ≤ n ∧ i = .int .i64 k ∧ q = .int .i64 l ∧ 0 ≤ l ∧ l ≤ 1048576 ∧ Below w.heap.size w wr ∧ Hid ((∀ j, j < k → (K2 j : Int) ≤ 1048576))) (fun _ i _ => n - (intOf i).toNat)
  case atStart => exact ⟨0, _, Nat.zero_le _, rfl, rfl, by omega, by omega, Below.refl _ _, fun j hj => by omega⟩
  case round =>
    obtain ⟨k, l, hk, rfl, rfl, l0, l1, hB, hP⟩ := hrel
    by_cases h1 : k < n
    · obtain ⟨g, o, rfl, hg, c0, c1, c2, RK2⟩ := HR.out k h1
      have u0 : wr.cell? ⟨g, o + k * 3, none⟩ = some (.int .i64 (X0 k)) := (hB.cell (p := ⟨g, o + k * 3, none⟩) hg).trans c0
      have u1 : wr.cell? ⟨g, o + k * 3 + 1, none⟩ = some (.int .i64 (X1 k)) := (hB.cell (p := ⟨g, o + k * 3 + 1, none⟩) hg).trans c1
      have u2 : wr.cell? ⟨g, o + k * 3 + 2, none⟩ = some (.slice (S2 k) (K2 k) (C2 k)) := (hB.cell (p := ⟨g, o + k * 3 + 2, none⟩) hg).trans c2
      have kk2 := hK2.out k h1
      have k1 : (k : Int) < (n : Int) := by omega
      have HN : Hid (k < n) := h1
      have sB := hB.size
      clear c0 c1 c2 RK2
      by_cases x0 : (K2 k : Int) ≤ l
      case neg =>
        go_wp2_with fail
        refine (szPermit_off0 (X0 k) (X1 k) (S2 k) (K2 k) (C2 k) l _ l0 l1   (by omega) kk2).mono ?_
        rintro e w1 ⟨rfl, h3⟩
        have B1 : Below w.heap.size w w1 := hB.trans (h3.mono sB)
        clear u0 u1 u2
        go_wp2
        go_ret
        exact ⟨.inl rfl, B1⟩
      case pos =>
        have PN : Hid ((∀ j, j < k + 1 → (K2 j : Int) ≤ 1048576)) := fun j hj => by
          by_cases q : j = k
          · subst q; omega
          · exact hP.out j (by omega)
        go_wp2_with fail
        refine (szPermit_on (X0 k) (X1 k) (S2 k) (K2 k) (C2 k) l _ l0 l1  (by omega)).mono ?_
        rintro e w1 ⟨rfl, h3⟩
        have B1 : Below w.heap.size w w1 := hB.trans (h3.mono sB)
        clear u0 u1 u2
        go_wp2
        go_roundw
        case rel => exact ⟨k + 1, _, by have := HN.out; omega, by go_num, rfl, by omega, by omega, (by repeat (first | with_reducible exact Below.refl _ _ | with_reducible exact B1 | with_reducible refine Below.setCell ?_ (by first | omega | (simp; done) | (simp; omega)) _ | with_reducible refine bDrewN ?_ _ | with_reducible refine Below.drew ?_ | with_reducible refine Below.alloc ?_ (by first | omega | (simp; done) | (simp; omega)) _)), PN⟩
        case measure => have := HN.out; simp [intOf]; omega
    · obtain rfl : k = n := by omega
      go_wp2
      go_ret
      exact ⟨.inr ⟨l, l0, l1, rfl, hP.out⟩, hB⟩
set_option maxHeartbeats 4000000 in
theorem eqPermit_any (x0 : Int) (x1 : Int) (t2 u2 : Option Addr) (k2 c2 d2 : Nat) (v2 : Nat → Int) (w : World) (hk2 : (k2 : Int) ≤ 1048576) (H2a : Hid (RowI w t2 k2 v2)) (H2b : Hid (RowI w u2 k2 v2)) : Calls Try.prog 19 #[.agg #[.int .i64 x0, .int .i64 x1, .slice t2 k2 c2], .agg #[.int .i64 x0, .int .i64 x1, .slice u2 k2 d2]] w fun e w' => e = .returned (.bool true) ∧ Below w.heap.size w w' := by
  go_enter Try.func19, Try.ntmps19
  go_upto_region 1 with fail
  obtain ⟨wd, hwd⟩ : ∃ wd, wd = (w.alloc (.cells #[.int .i64 x0, .int .i64 x1, .slice t2 k2 c2] 44)).alloc (.cells #[.int .i64 x0, .int .i64 x1, .slice u2 k2 d2] 44) := ⟨_, rfl⟩
  rw [← hwd]
  have z1 : w.heap.size < wd.heap.size := by rw [hwd]; simp; omega
  have z2 : w.heap.size + 1 < wd.heap.size := by rw [hwd]; simp
  have a0 : wd.cell? ⟨w.heap.size, 0, none⟩ = some (.int .i64 x0) := by rw [hwd]; simp [go_sem]
  have b0 : wd.cell? ⟨w.heap.size + 1, 0, none⟩ = some (.int .i64 x0) := by rw [hwd]; simp [go_sem]
  have a1 : wd.cell? ⟨w.heap.size, 1, none⟩ = some (.int .i64 x1) := by rw [hwd]; simp [go_sem]
  have b1 : wd.cell? ⟨w.heap.size + 1, 1, none⟩ = some (.int .i64 x1) := by rw [hwd]; simp [go_sem]
  have a2 : wd.cell? ⟨w.heap.size, 2, none⟩ = some (.slice t2 k2 c2) := by rw [hwd]; simp [go_sem]
  have b2 : wd.cell? ⟨w.heap.size + 1, 2, none⟩ = some (.slice u2 k2 d2) := by rw [hwd]; simp [go_sem]
  have B0 : Below w.heap.size w wd := by rw [hwd]; exact (by repeat (first | with_reducible exact Below.refl _ _ | with_reducible refine Below.setCell ?_ (by first | omega | (simp; done) | (simp; omega)) _ | with_reducible refine bDrewN ?_ _ | with_reducible refine Below.drew ?_ | with_reducible refine Below.alloc ?_ (by first | omega | (simp; done) | (simp; omega)) _))
  clear hwd
  go_wp2_with fail
  refine (eqInt64S_any t2 u2 k2 c2 d2 v2 _ hk2 (H2a.out.below B0) (H2b.out.below B0)).mono ?_
  rintro e w1 ⟨rfl, h1⟩
  replace a0 := (h1.cell (p := ⟨w.heap.size, 0, none⟩) z1).trans a0
  replace b0 := (h1.cell (p := ⟨w.heap.size + 1, 0, none⟩) z2).trans b0
  replace a1 := (h1.cell (p := ⟨w.heap.size, 1, none⟩) z1).trans a1
  replace b1 := (h1.cell (p := ⟨w.heap.size + 1, 1, none⟩) z2).trans b1
  replace a2 := (h1.cell (p := ⟨w.heap.size, 2, none⟩) z1).trans a2
  replace b2 := (h1.cell (p := ⟨w.heap.size + 1, 2, none⟩) z2).trans b2
  replace z1 := Nat.lt_of_lt_of_le z1 h1.size
  replace z2 := Nat.lt_of_lt_of_le z2 h1.size
  replace B0 : Below w.heap.size w w1 := B0.trans (h1.mono B0.size)
  clear h1
  go_wp2
  go_ret
  exact ⟨rfl, B0⟩
theorem keepPermitS {W W' : World} {p q i0 j0 i1 j1 i2 j2 : Nat} {a0 b0 a1 b1 a2 b2 : Value} (h0 : W.cell? ⟨p, i0, none⟩ = some a0) (h1 : W.cell? ⟨p, i1, none⟩ = some a1) (h2 : W.cell? ⟨p, i2, none⟩ = some a2) (g0 : W.cell? ⟨q, j0, none⟩ = some b0) (g1 : W.cell? ⟨q, j1, none⟩ = some b1) (g2 : W.cell? ⟨q, j2, none⟩ = some b2) (hp : p < W.heap.size) (hq : q < W.heap.size) (hb : Below W.heap.size W W') :
    W'.cell? ⟨p, i0, none⟩ = some a0 ∧ W'.cell? ⟨p, i1, none⟩ = some a1 ∧ W'.cell? ⟨p, i2, none⟩ = some a2 ∧ W'.cell? ⟨q, j0, none⟩ = some b0 ∧ W'.cell? ⟨q, j1, none⟩ = some b1 ∧ W'.cell? ⟨q, j2, none⟩ = some b2 :=
  ⟨(hb.cell (p := ⟨p, i0, none⟩) hp).trans h0, (hb.cell (p := ⟨p, i1, none⟩) hp).trans h1, (hb.cell (p := ⟨p, i2, none⟩) hp).trans h2, (hb.cell (p := ⟨q, j0, none⟩) hq).trans g0, (hb.cell (p := ⟨q, j1, none⟩) hq).trans g1, (hb.cell (p := ⟨q, j2, none⟩) hq).trans g2⟩
set_option maxRecDepth 20000 in
set_option maxHeartbeats 4000000 in
theorem eqPermitS_any (s t : Option Addr) (n c d : Nat) (X0 : Nat → Int) (X1 : Nat → Int) (S2 : Nat → Option Addr) (K2 C2 : Nat → Nat) (V2 : Nat → Nat → Int) (R2 : Nat → Option Addr) (D2 : Nat → Nat) (w : World) (hn : (n : Int) ≤ 1048576) (hK2 : Hid (∀ j, j < n → (K2 j : Int) ≤ 1048576)) (HR : Hid (PermitR w s n X0 X1 S2 K2 C2 V2)) (HT : Hid (PermitR w t n X0 X1 R2 K2 D2 V2)) :
    Calls Try.prog 57 #[.slice s n c, .slice t n d] w fun e w' => e = .returned (.bool true) ∧ Below w.heap.size w w' := by
  go_enter Try.func57, Try.ntmps57
  go_wp2_with fail
  go_loopw [5] (fun i wr => ∃ k : Nat, k ≤ n ∧ i = .int .i64 k ∧ Below w.heap.size w wr) (fun i _ => n - (intOf i).toNat)
  case atStart => exact ⟨0, Nat.zero_le _, rfl, Below.refl _ _⟩
  case round =>
    obtain ⟨k, hk, rfl, hB⟩ := hrel
    by_cases h1 : k < n
    · obtain ⟨g, o, rfl, hg, c0, c1, c2, RX2⟩ := HR.out k h1
      obtain ⟨p, q, rfl, hp, d0, d1, d2, RY2⟩ := HT.out k h1
      have u0 : wr.cell? ⟨g, o + k * 3, none⟩ = some (.int .i64 (X0 k)) := (hB.cell (p := ⟨g, o + k * 3, none⟩) hg).trans c0
      have v0 : wr.cell? ⟨p, q + k * 3, none⟩ = some (.int .i64 (X0 k)) := (hB.cell (p := ⟨p, q + k * 3, none⟩) hp).trans d0
      have u1 : wr.cell? ⟨g, o + k * 3 + 1, none⟩ = some (.int .i64 (X1 k)) := (hB.cell (p := ⟨g, o + k * 3 + 1, none⟩) hg).trans c1
      have v1 : wr.cell? ⟨p, q + k * 3 + 1, none⟩ = some (.int .i64 (X1 k)) := (hB.cell (p := ⟨p, q + k * 3 + 1, none⟩) hp).trans d1
      have u2 : wr.cell? ⟨g, o + k * 3 + 2, none⟩ = some (.slice (S2 k) (K2 k) (C2 k)) := (hB.cell (p := ⟨g, o + k * 3 + 2, none⟩) hg).trans c2
      have v2 : wr.cell? ⟨p, q + k * 3 + 2, none⟩ = some (.slice (R2 k) (K2 k) (D2 k)) := (hB.cell (p := ⟨p, q + k * 3 + 2, none⟩) hp).trans d2
      have kk2 := hK2.out k h1
      have EX2 : Hid (RowI wr (S2 k) (K2 k) (V2 k) ∧ RowI wr (R2 k) (K2 k) (V2 k)) := ⟨RX2.below hB, RY2.below hB⟩
      have k1 : (k : Int) < (n : Int) := by omega
      have zg : g < wr.heap.size := Nat.lt_of_lt_of_le hg hB.size
      have zp : p < wr.heap.size := Nat.lt_of_lt_of_le hp hB.size
      have HB : Hid (Below w.heap.size w wr) := hB
      clear hB c0 d0 c1 d1 c2 d2 hg hp RX2 RY2
      go_wp2_with fail
      go_region_held3 (fun w' => w'.cell? ⟨g, o + k * 3, none⟩ = some (.int .i64 (X0 k)) ∧ w'.cell? ⟨g, o + k * 3 + 1, none⟩ = some (.int .i64 (X1 k)) ∧ w'.cell? ⟨g, o + k * 3 + 2, none⟩ = some (.slice (S2 k) (K2 k) (C2 k)) ∧ w'.cell? ⟨p, q + k * 3, none⟩ = some (.int .i64 (X0 k)) ∧ w'.cell? ⟨p, q + k * 3 + 1, none⟩ = some (.int .i64 (X1 k)) ∧ w'.cell? ⟨p, q + k * 3 + 2, none⟩ = some (.slice (R2 k) (K2 k) (D2 k))) (first | (refine keepPermitS u0 u1 u2 v0 v1 v2 zg zp ?_; exact (by repeat (first | with_reducible exact Below.refl _ _ | with_reducible exact B3 | with_reducible refine Below.setCell ?_ (by first | omega | (simp; done) | (simp; omega)) _ | with_reducible refine bDrewN ?_ _ | with_reducible refine Below.drew ?_ | with_reducible refine Below.alloc ?_ (by first | omega | (simp; done) | (simp; omega)) _)))) (first
        | (go_at_call 19; refine (eqPermit_any (X0 k) (X1 k) (S2 k) (R2 k) (K2 k) (C2 k) (D2 k) (V2 k) _ kk2 (EX2.out.1.below (by repeat (first | with_reducible exact Below.refl _ _ | with_reducible refine Below.setCell ?_ (by first | omega | (simp; done) | (simp; omega)) _ | with_reducible refine bDrewN ?_ _ | with_reducible refine Below.drew ?_ | with_reducible refine Below.alloc ?_ (by first | omega | (simp; done) | (simp; omega)) _))) (EX2.out.2.below (by repeat (first | with_reducible exact Below.refl _ _ | with_reducible refine Below.setCell ?_ (by first | omega | (simp; done) | (simp; omega)) _ | with_reducible refine bDrewN ?_ _ | with_reducible refine Below.drew ?_ | with_reducible refine Below.alloc ?_ (by first | omega | (simp; done) | (simp; omega)) _)))).mono ?_; rintro r w3 ⟨rfl, h3⟩; have B3 : Below wr.heap.size wr w3 := Below.trans (by repeat (first | with_reducible exact Below.refl _ _ | with_reducible refine Below.setCell ?_ (by first | omega | (simp; done) | (simp; omega)) _ | with_reducible refine bDrewN ?_ _ | with_reducible refine Below.drew ?_ | with_reducible refine Below.alloc ?_ (by first | omega | (simp; done) | (simp; omega)) _)) (h3.mono (by first | omega | (simp; done) | (simp; omega)))))
      all_goals
        have B4 : Below w.heap.size w w3 := HB.out.trans (B3.mono HB.out.size)
        go_wp2
        go_roundw
        case rel => exact ⟨k + 1, by omega, by go_num, (by repeat (first | with_reducible exact Below.refl _ _ | with_reducible exact B4 | with_reducible refine Below.setCell ?_ (by first | omega | (simp; done) | (simp; omega)) _ | with_reducible refine bDrewN ?_ _ | with_reducible refine Below.drew ?_ | with_reducible refine Below.alloc ?_ (by first | omega | (simp; done) | (simp; omega)) _))⟩
        case measure => simp [intOf]; omega
    · obtain rfl : k = n := by omega
      go_wp2
      go_ret
      exact ⟨rfl, (by repeat (first | with_reducible exact Below.refl _ _ | with_reducible exact hB | with_reducible refine Below.setCell ?_ (by first | omega | (simp; done) | (simp; omega)) _ | with_reducible refine bDrewN ?_ _ | with_reducible refine Below.drew ?_ | with_reducible refine Below.alloc ?_ (by first | omega | (simp; done) | (simp; omega)) _))⟩

open Go.RowKit
set_option linter.unusedVariables false
set_option linter.unusedSimpArgs false

def suK (K : Nat → Nat) : Nat → Nat
  | 0 => 0
  | n + 1 => suK K n + K n
theorem suK_mono {K : Nat → Nat} {i n : Nat} (h : i ≤ n) : suK K i ≤ suK K n := by
  induction n with
  | zero => obtain rfl : i = 0 := by omega
            exact Nat.le_refl _
  | succ n ih =>
    by_cases e : i = n + 1
    · subst e; exact Nat.le_refl _
    · have := ih (by omega); show suK K i ≤ suK K n + K n; omega
theorem suK_in {K : Nat → Nat} {i n : Nat} (h : i < n) : suK K i + K i ≤ suK K n := suK_mono (K := K) (i := i + 1) h

open Go.ChangeShapes Go.WideShapes Go.ChangeAt Go.RowKit
set_option linter.unusedVariables false
set_option linter.unusedSimpArgs false

def RowPer (w : World) (s : Option Addr) (n : Nat) (X : Nat → Int) (Y : Nat → Int) (K : Nat → Nat) (V : Nat → Nat → Int) : Prop := ∀ i, i < n → ∃ b o a c, s = some ⟨b, o, none⟩ ∧ b < w.heap.size ∧ w.cell? ⟨b, o + i * 3, none⟩ = some (.int .i64 (X i)) ∧ w.cell? ⟨b, o + i * 3 + 1, none⟩ = some (.int .i64 (Y i)) ∧ w.cell? ⟨b, o + i * 3 + 2, none⟩ = some (.slice a (K i) c) ∧ RowI w a (K i) (V i)
theorem RowPer.below {w' : World} {w : World} {s : Option Addr} {n : Nat} {X : Nat → Int} {Y : Nat → Int} {K : Nat → Nat} {V : Nat → Nat → Int} (h : RowPer w s n X Y K V) (hb : Below w.heap.size w w') : RowPer w' s n X Y K V := fun i hi => by
  obtain ⟨b, o, a, c, e, hl, c0, c1, c2, hr⟩ := h i hi
  exact ⟨b, o, a, c, e, Nat.lt_of_lt_of_le hl hb.size, (hb.cell (p := ⟨b, o + i * 3, none⟩) hl).trans c0, (hb.cell (p := ⟨b, o + i * 3 + 1, none⟩) hl).trans c1, (hb.cell (p := ⟨b, o + i * 3 + 2, none⟩) hl).trans c2, hr.below hb⟩
theorem RowPer.pick {w : World} {s : Option Addr} {n : Nat} {X : Nat → Int} {Y : Nat → Int} {K : Nat → Nat} {V : Nat → Nat → Int} (h : RowPer w s n X Y K V) : ∃ A C, PermitR w s n X Y A K C V := by
  have h0 : ∀ i, ∃ z : Option Addr × Nat, i < n → ∃ b o, s = some ⟨b, o, none⟩ ∧ b < w.heap.size ∧ w.cell? ⟨b, o + i * 3, none⟩ = some (.int .i64 (X i)) ∧ w.cell? ⟨b, o + i * 3 + 1, none⟩ = some (.int .i64 (Y i)) ∧ w.cell? ⟨b, o + i * 3 + 2, none⟩ = some (.slice z.1 (K i) z.2) ∧ RowI w z.1 (K i) (V i) := fun i => by
    by_cases hi : i < n
    · obtain ⟨b, o, a, c, r⟩ := h i hi
      exact ⟨(a, c), fun _ => ⟨b, o, r⟩⟩
    · exact ⟨(none, 0), fun q => absurd q hi⟩
  obtain ⟨f, hf⟩ := Classical.axiomOfChoice h0
  exact ⟨fun i => (f i).1, fun i => (f i).2, fun j hj => hf j hj⟩
theorem RowPer.of {A : Nat → Option Addr} {C : Nat → Nat} {w : World} {s : Option Addr} {n : Nat} {X : Nat → Int} {Y : Nat → Int} {K : Nat → Nat} {V : Nat → Nat → Int} (h : PermitR w s n X Y A K C V) : RowPer w s n X Y K V := fun i hi => by
  obtain ⟨b, o, r⟩ := h i hi
  exact ⟨b, o, _, _, r⟩
/-- A list in blocks of S, each inner one its own, which may be written. -/
def PerR (S : Nat → Prop) (w : World) (s : Option Addr) (n : Nat) (X : Nat → Int) (Y : Nat → Int) (K : Nat → Nat) (V : Nat → Nat → Int) : Prop := ∃ A : Nat → Nat, (∀ i, i < n → ∃ b a c, s = some ⟨b, 0, none⟩ ∧ S b ∧ b < w.heap.size ∧ (∀ o, w.frozen? ⟨b, o, none⟩ = false) ∧ w.cell? ⟨b, i * 3, none⟩ = some (.int .i64 (X i)) ∧ w.cell? ⟨b, i * 3 + 1, none⟩ = some (.int .i64 (Y i)) ∧ w.cell? ⟨b, i * 3 + 2, none⟩ = some (.slice a (K i) c) ∧ (0 < K i → a = some ⟨A i, 0, none⟩ ∧ A i ≠ b ∧ S (A i) ∧ A i < w.heap.size ∧ ∀ j, j < K i → w.cell? ⟨A i, j, none⟩ = some (.int .i64 (V i j)) ∧ w.frozen? ⟨A i, j, none⟩ = false)) ∧ ∀ i i', i < n → i' < n → 0 < K i → 0 < K i' → A i = A i' → i = i'
theorem PerR.row {S : Nat → Prop} {w : World} {s : Option Addr} {n : Nat} {X : Nat → Int} {Y : Nat → Int} {K : Nat → Nat} {V : Nat → Nat → Int} (h : PerR S w s n X Y K V) : RowPer w s n X Y K V := fun i hi => by
  obtain ⟨A, h, -⟩ := h
  obtain ⟨b, a, c, e, _, hl, _, c0, c1, c2, hr⟩ := h i hi
  refine ⟨b, 0, a, c, e, by omega, by rw [Nat.zero_add]; exact c0, by rw [Nat.zero_add]; exact c1, by rw [Nat.zero_add]; exact c2, fun j hj => ?_⟩
  obtain ⟨ea, _, _, hA, hv⟩ := hr (by omega)
  exact ⟨A i, 0, ea, by omega, by rw [Nat.zero_add]; exact (hv j hj).1⟩
theorem PerR.keep {S : Nat → Prop} {w : World} {s : Option Addr} {n : Nat} {X : Nat → Int} {Y : Nat → Int} {K : Nat → Nat} {V : Nat → Nat → Int} {w' : World} (h : PerR S w s n X Y K V) (hs : w.heap.size ≤ w'.heap.size) (hb : ∀ k, S k → k < w.heap.size → w'.heap[k]? = w.heap[k]?) : PerR S w' s n X Y K V := by
  obtain ⟨A, h, hi⟩ := h
  refine ⟨A, fun i q => ?_, hi⟩
  obtain ⟨b, a, c, e, h1, hl, hf, c0, c1, c2, hr⟩ := h i q
  have eb := hb b h1 hl
  refine ⟨b, a, c, e, h1, Nat.lt_of_lt_of_le hl hs, fun o => (World.frozen?_of_block (w := w) (a := ⟨b, o, none⟩) eb).trans (hf o), (World.cell?_of_block (w := w) (a := ⟨b, i * 3, none⟩) eb).trans c0, (World.cell?_of_block (w := w) (a := ⟨b, i * 3 + 1, none⟩) eb).trans c1, (World.cell?_of_block (w := w) (a := ⟨b, i * 3 + 2, none⟩) eb).trans c2, fun k => ?_⟩
  obtain ⟨ea, n1, n2, hA, hv⟩ := hr k
  have eA := hb (A i) n2 hA
  exact ⟨ea, n1, n2, Nat.lt_of_lt_of_le hA hs, fun j hj => ⟨(World.cell?_of_block (w := w) (a := ⟨A i, j, none⟩) eA).trans (hv j hj).1, (World.frozen?_of_block (w := w) (a := ⟨A i, j, none⟩) eA).trans (hv j hj).2⟩⟩
theorem PerR.below {S : Nat → Prop} {w : World} {s : Option Addr} {n : Nat} {X : Nat → Int} {Y : Nat → Int} {K : Nat → Nat} {V : Nat → Nat → Int} {w' : World} (h : PerR S w s n X Y K V) (hb : Below w.heap.size w w') : PerR S w' s n X Y K V := h.keep hb.size fun k _ hk => hb.block k hk
theorem PerR.set {S : Nat → Prop} {w : World} {s : Option Addr} {n : Nat} {X : Nat → Int} {Y : Nat → Int} {K : Nat → Nat} {V : Nat → Nat → Int} {r o : Nat} {u : Value} (h : PerR S w s n X Y K V) (hr : ¬ S r) : PerR S (w.setCell ⟨r, o, none⟩ u) s n X Y K V := h.keep (by simp) fun k hk hl => set_block hl (fun e => hr (e ▸ hk))
theorem PerR.of {b : Nat} {G : Nat → Nat} {w : World} {n : Nat} {X : Nat → Int} {Y : Nat → Int} {K : Nat → Nat} {V : Nat → Nat → Int} {B : Nat} (hB : B ≤ b) (h : PermitC b w n n X Y G K V) : PerR (fun k => B ≤ k ∧ k < w.heap.size) w (some ⟨b, 0, none⟩) n X Y K V := by
  obtain ⟨h1, h2, h3, h4⟩ := h
  refine ⟨G, fun i hi => ?_, fun i i' hi hi' _ _ e => ?_⟩
  · obtain ⟨c0, c1, c2, q1, q2, q3, -⟩ := h3 i hi
    refine ⟨b, _, _, rfl, ⟨hB, h1⟩, h1, h2, c0, c1, c2, fun hk => ⟨rfl, by omega, ⟨by omega, q2⟩, q2, fun j hj => ?_⟩⟩
    obtain ⟨b', e', _, _, hc, hf⟩ := q3 j hj
    cases e'
    exact ⟨hc, hf⟩
  · have m1 := (h3 i hi).2.2.2.2.2.2
    have m2 := (h3 i' hi').2.2.2.2.2.2
    rcases Nat.lt_trichotomy i i' with q | q | q
    · have := m2 i q; omega
    · exact q
    · have := m1 i' q; omega
theorem Per_each {n : Nat} {K : Nat → Nat} (h : (n : Int) + (suK K n : Int) ≤ 1048576) : ∀ i, i < n → (K i : Int) ≤ 1048576 := fun i hi => by have := suK_in (K := K) hi; omega
theorem toPermitS_r (s : Option Addr) (n c : Nat) (X : Nat → Int) (Y : Nat → Int) (K : Nat → Nat) (V : Nat → Nat → Int) (w : World) (hn : (n : Int) + (suK K n : Int) ≤ 1048576) (HR : Hid (RowPer w s n X Y K V)) :
    Calls Try.prog 50 #[.slice s n c] w fun e w' => ∃ (s' : Option Addr) (S : Nat → Prop), e = .returned (.slice s' n n) ∧ (∀ k, S k → w.heap.size ≤ k ∧ k < w'.heap.size) ∧ PerR S w' s' n X Y K V ∧ Below w.heap.size w w' := by
  obtain ⟨A, C, hr⟩ := HR.out.pick
  exact (toPermitS_any s n c X Y A K C V w (by omega) (Per_each hn) hr).mono fun e w' ⟨h1, ⟨G, h2⟩, h3⟩ => ⟨_, _, h1, fun k hk => hk, PerR.of (Nat.le_refl _) h2, h3⟩
theorem eqPermitS_r (s t : Option Addr) (n c d : Nat) (X : Nat → Int) (Y : Nat → Int) (K : Nat → Nat) (V : Nat → Nat → Int) (w : World) (hn : (n : Int) + (suK K n : Int) ≤ 1048576) (HR : Hid (RowPer w s n X Y K V)) (HT : Hid (RowPer w t n X Y K V)) :
    Calls Try.prog 57 #[.slice s n c, .slice t n d] w fun e w' => e = .returned (.bool true) ∧ Below w.heap.size w w' := by
  obtain ⟨A, C, h1⟩ := HR.out.pick
  obtain ⟨A', C', h2⟩ := HT.out.pick
  exact eqPermitS_any s t n c d X Y A K C V A' C' w (by omega) (Per_each hn) h1 h2
set_option maxRecDepth 20000 in
set_option maxHeartbeats 4000000 in
theorem szPermitS_on (s : Option Addr) (n c : Nat) (X : Nat → Int) (Y : Nat → Int) (K : Nat → Nat) (V : Nat → Nat → Int) (l : Int) (w : World) (h0 : 0 ≤ l) (h1 : l ≤ 1048576) (hn : (n : Int) + (suK K n : Int) ≤ l) (HR : Hid (RowPer w s n X Y K V)) : Calls Try.prog 43 #[.slice s n c, .int .i64 l] w fun e w' => e = .returned (.int .i64 (l - (n : Int) - (suK K n : Int))) ∧ Below w.heap.size w w' := by
  have b0 : decide (l - (n : Int) < 0) = false := decide_eq_false (by omega)
  go_enter Try.func43, Try.ntmps43
  go_wp2_with fail
  go_loopw [1, 5] (fun q i wr => ∃ k : Nat, k ≤ n ∧ i = .int .i64 k ∧ q = .int .i64 (l - (n : Int) - (suK K k : Int)) ∧ Below w.heap.size w wr) (fun _ i _ => n - (intOf i).toNat)
  case atStart => exact ⟨0, Nat.zero_le _, rfl, by simp [suK], Below.refl _ _⟩
  case round =>
    obtain ⟨k, hk, rfl, rfl, hB⟩ := hrel
    by_cases q : k < n
    · obtain ⟨b, o, a, cc, rfl, hb, c0, c1, c2, -⟩ := HR.out k q
      replace c0 := (hB.cell (p := ⟨b, o + k * 3, none⟩) hb).trans c0
      replace c1 := (hB.cell (p := ⟨b, o + k * 3 + 1, none⟩) hb).trans c1
      replace c2 := (hB.cell (p := ⟨b, o + k * 3 + 2, none⟩) hb).trans c2
      have k1 : (k : Int) < (n : Int) := by omega
      have zW := hB.size
      have su := suK_in (K := K) q
      have e1 : suK K (k + 1) = suK K k + K k := rfl
      obtain ⟨L, hL⟩ : ∃ L, l - (n : Int) - (suK K k : Int) = L := ⟨_, rfl⟩
      have HL : Hid (l - (n : Int) - (suK K (k + 1) : Int) = L - (K k : Int)) := by show _ = _; rw [e1]; omega
      obtain ⟨xX, hxX⟩ : ∃ x, X k = x := ⟨_, rfl⟩
      rw [hxX] at c0
      obtain ⟨xY, hxY⟩ : ∃ x, Y k = x := ⟨_, rfl⟩
      rw [hxY] at c1
      obtain ⟨m, hm⟩ : ∃ m, K k = m := ⟨_, rfl⟩
      rw [hm] at c2 su e1 HL
      have l0 : 0 ≤ L := by omega
      have l1 : L ≤ 1048576 := by omega
      have l2 : (m : Int) ≤ L := by omega
      rw [hL]
      clear hm hL e1 su hxX hxY
      have b1 : decide (L - (m : Int) < 0) = false := decide_eq_false (by omega)
      go_wp2_with fail
      refine (szPermit_on xX xY a m cc L _ l0 l1 l2).mono ?_
      rintro e w1 ⟨rfl, h3⟩
      have B1 : Below w.heap.size w w1 := hB.trans (h3.mono zW)
      clear c0 c1 c2 h3
      go_wp2
      go_roundw
      case rel => exact ⟨k + 1, by omega, by go_num, by rw [HL.out], (by repeat (first | with_reducible exact Below.refl _ _ | with_reducible exact B1 | with_reducible refine Below.setCell ?_ (by first | omega | (simp; done) | (simp; omega)) _ | with_reducible refine bDrewN ?_ _ | with_reducible refine Below.drew ?_ | with_reducible refine Below.alloc ?_ (by first | omega | (simp; done) | (simp; omega)) _))⟩
      case measure => first | (simp [intOf]; done) | (simp [intOf]; omega)
    · obtain rfl : k = n := by omega
      go_wp2
      go_ret
      exact ⟨ret_int rfl, (by repeat (first | with_reducible exact Below.refl _ _ | with_reducible exact hB | with_reducible refine Below.setCell ?_ (by first | omega | (simp; done) | (simp; omega)) _ | with_reducible refine bDrewN ?_ _ | with_reducible refine Below.drew ?_ | with_reducible refine Below.alloc ?_ (by first | omega | (simp; done) | (simp; omega)) _))⟩
set_option maxRecDepth 20000 in
set_option maxHeartbeats 4000000 in
theorem szPermitS_off (s : Option Addr) (n c : Nat) (X : Nat → Int) (Y : Nat → Int) (K : Nat → Nat) (V : Nat → Nat → Int) (l : Int) (w : World) (h0 : 0 ≤ l) (h1 : l ≤ 1048576) (hn : l < (n : Int) + (suK K n : Int)) (n63 : (n : Int) ≤ 9223372036854775807) (k63 : ∀ i, i < n → (K i : Int) ≤ 9223372036854775807) (HR : Hid (RowPer w s n X Y K V)) : Calls Try.prog 43 #[.slice s n c, .int .i64 l] w fun e w' => e = .returned (.int .i64 (-1)) ∧ Below w.heap.size w w' := by
  by_cases hf : l < (n : Int)
  · have b0 : l - (n : Int) < 0 := by omega
    go_enter Try.func43, Try.ntmps43
    go_wp2
    go_ret
    exact ⟨ret_int rfl, (by repeat (first | with_reducible exact Below.refl _ _ | with_reducible refine Below.setCell ?_ (by first | omega | (simp; done) | (simp; omega)) _ | with_reducible refine bDrewN ?_ _ | with_reducible refine Below.drew ?_ | with_reducible refine Below.alloc ?_ (by first | omega | (simp; done) | (simp; omega)) _))⟩
  have b0 : decide (l - (n : Int) < 0) = false := decide_eq_false (by omega)
  go_enter Try.func43, Try.ntmps43
  go_wp2_with fail
  go_loopw [1, 5] (fun q i wr => ∃ k : Nat, k ≤ n ∧ i = .int .i64 k ∧ q = .int .i64 (l - (n : Int) - (suK K k : Int)) ∧ 0 ≤ l - (n : Int) - (suK K k : Int) ∧ Below w.heap.size w wr) (fun _ i _ => n - (intOf i).toNat)
  case atStart => exact ⟨0, Nat.zero_le _, rfl, by simp [suK], by show 0 ≤ l - (n : Int) - ((0 : Nat) : Int); omega, Below.refl _ _⟩
  case round =>
    obtain ⟨k, hk, rfl, rfl, hp, hB⟩ := hrel
    by_cases q : k < n
    · obtain ⟨b, o, a, cc, rfl, hb, c0, c1, c2, -⟩ := HR.out k q
      replace c0 := (hB.cell (p := ⟨b, o + k * 3, none⟩) hb).trans c0
      replace c1 := (hB.cell (p := ⟨b, o + k * 3 + 1, none⟩) hb).trans c1
      replace c2 := (hB.cell (p := ⟨b, o + k * 3 + 2, none⟩) hb).trans c2
      have k1 : (k : Int) < (n : Int) := by omega
      have zW := hB.size
      have su := suK_in (K := K) q
      have e1 : suK K (k + 1) = suK K k + K k := rfl
      have kk := k63 k q
      obtain ⟨L, hL⟩ : ∃ L, l - (n : Int) - (suK K k : Int) = L := ⟨_, rfl⟩
      have HL : Hid (l - (n : Int) - (suK K (k + 1) : Int) = L - (K k : Int)) := by show _ = _; rw [e1]; omega
      obtain ⟨xX, hxX⟩ : ∃ x, X k = x := ⟨_, rfl⟩
      rw [hxX] at c0
      obtain ⟨xY, hxY⟩ : ∃ x, Y k = x := ⟨_, rfl⟩
      rw [hxY] at c1
      obtain ⟨m, hm⟩ : ∃ m, K k = m := ⟨_, rfl⟩
      rw [hm] at c2 su e1 HL kk
      have l0 : 0 ≤ L := by omega
      have l1 : L ≤ 1048576 := by omega
      rw [hL] at hp ⊢
      clear hm hL e1 su hxX hxY
      by_cases l2 : (m : Int) ≤ L
      · have lp : 0 ≤ l - (n : Int) - (suK K (k + 1) : Int) := by rw [HL.out]; omega
        have b1 : decide (L - (m : Int) < 0) = false := decide_eq_false (by omega)
        go_wp2_with fail
        refine (szPermit_on xX xY a m cc L _ l0 l1 l2).mono ?_
        rintro e w1 ⟨rfl, h3⟩
        have B1 : Below w.heap.size w w1 := hB.trans (h3.mono zW)
        clear c0 c1 c2 h3
        go_wp2
        go_roundw
        case rel => exact ⟨k + 1, by omega, by go_num, by rw [HL.out], lp, (by repeat (first | with_reducible exact Below.refl _ _ | with_reducible exact B1 | with_reducible refine Below.setCell ?_ (by first | omega | (simp; done) | (simp; omega)) _ | with_reducible refine bDrewN ?_ _ | with_reducible refine Below.drew ?_ | with_reducible refine Below.alloc ?_ (by first | omega | (simp; done) | (simp; omega)) _))⟩
        case measure => first | (simp [intOf]; done) | (simp [intOf]; omega)
      · go_wp2_with fail
        refine (szPermit_off0 xX xY a m cc L _ l0 l1 (by omega) kk).mono ?_
        rintro e w1 ⟨rfl, h3⟩
        have B1 : Below w.heap.size w w1 := hB.trans (h3.mono zW)
        clear c0 c1 c2 h3
        go_wp2
        go_ret
        exact ⟨ret_int rfl, (by repeat (first | with_reducible exact Below.refl _ _ | with_reducible exact B1 | with_reducible refine Below.setCell ?_ (by first | omega | (simp; done) | (simp; omega)) _ | with_reducible refine bDrewN ?_ _ | with_reducible refine Below.drew ?_ | with_reducible refine Below.alloc ?_ (by first | omega | (simp; done) | (simp; omega)) _))⟩
    · obtain rfl : k = n := by omega
      omega

open Go.ChangeShapes Go.WideShapes Go.ChangeAt Go.RowKit
set_option linter.unusedVariables false
set_option linter.unusedSimpArgs false

def RowBook (w : World) (s0 : Option Addr) (n0 : Nat) (X0 : Nat → Int) (Y0 : Nat → Int) (K0 : Nat → Nat) (V0 : Nat → Nat → Int) : Prop := RowPer w s0 n0 X0 Y0 K0 V0
theorem RowBook.below {w w' : World} {s0 : Option Addr} {n0 : Nat} {X0 : Nat → Int} {Y0 : Nat → Int} {K0 : Nat → Nat} {V0 : Nat → Nat → Int} (h : RowBook w s0 n0 X0 Y0 K0 V0) (hb : Below w.heap.size w w') : RowBook w' s0 n0 X0 Y0 K0 V0 := RowPer.below h hb
def BookR (S : Nat → Prop) (w : World) (s0 : Option Addr) (n0 : Nat) (X0 : Nat → Int) (Y0 : Nat → Int) (K0 : Nat → Nat) (V0 : Nat → Nat → Int) : Prop := PerR S w s0 n0 X0 Y0 K0 V0
theorem BookR.row {S : Nat → Prop} {w : World} {s0 : Option Addr} {n0 : Nat} {X0 : Nat → Int} {Y0 : Nat → Int} {K0 : Nat → Nat} {V0 : Nat → Nat → Int} (h : BookR S w s0 n0 X0 Y0 K0 V0) : RowBook w s0 n0 X0 Y0 K0 V0 := PerR.row h
theorem BookR.keep {S : Nat → Prop} {w w' : World} {s0 : Option Addr} {n0 : Nat} {X0 : Nat → Int} {Y0 : Nat → Int} {K0 : Nat → Nat} {V0 : Nat → Nat → Int} (h : BookR S w s0 n0 X0 Y0 K0 V0) (hs : w.heap.size ≤ w'.heap.size) (hb : ∀ k, S k → k < w.heap.size → w'.heap[k]? = w.heap[k]?) : BookR S w' s0 n0 X0 Y0 K0 V0 := PerR.keep h hs hb
theorem BookR.below {S : Nat → Prop} {w w' : World} {s0 : Option Addr} {n0 : Nat} {X0 : Nat → Int} {Y0 : Nat → Int} {K0 : Nat → Nat} {V0 : Nat → Nat → Int} (h : BookR S w s0 n0 X0 Y0 K0 V0) (hb : Below w.heap.size w w') : BookR S w' s0 n0 X0 Y0 K0 V0 := h.keep hb.size fun k _ hk => hb.block k hk
set_option maxHeartbeats 800000 in
theorem szBook_on (n0 : Nat) (X0 : Nat → Int) (Y0 : Nat → Int) (K0 : Nat → Nat) (V0 : Nat → Nat → Int) (s0 : Option Addr) (c0 : Nat) (k : Int) (w : World) (h0 : 0 ≤ k) (h1 : k ≤ 1048576) (g0 : ((n0 : Int) + (suK K0 n0 : Int)) ≤ k) (HR0 : Hid (RowPer w s0 n0 X0 Y0 K0 V0)) : Calls Try.prog 10 #[.agg #[.slice s0 n0 c0], .int .i64 k] w fun e w' => e = .returned (.int .i64 (k - ((n0 : Int) + (suK K0 n0 : Int)))) ∧ Below w.heap.size w w' := by
  go_enter Try.func10, Try.ntmps10
  have bz : decide (k - ((n0 : Int) + (suK K0 n0 : Int)) < 0) = false := decide_eq_false (by omega)
  go_wp2_with fail
  refine (szPermitS_on _ n0 _ X0 Y0 K0 V0 _ _ (by omega) (by omega) g0 (HR0.out.below (by repeat (first | with_reducible exact Below.refl _ _ | with_reducible refine Below.setCell ?_ (by first | omega | (simp; done) | (simp; omega)) _ | with_reducible refine bDrewN ?_ _ | with_reducible refine Below.drew ?_ | with_reducible refine Below.alloc ?_ (by first | omega | (simp; done) | (simp; omega)) _)))).mono ?_
  rintro e w1 ⟨rfl, hz⟩
  have B1 : Below w.heap.size w w1 := Below.trans (by repeat (first | with_reducible exact Below.refl _ _ | with_reducible refine Below.setCell ?_ (by first | omega | (simp; done) | (simp; omega)) _ | with_reducible refine bDrewN ?_ _ | with_reducible refine Below.drew ?_ | with_reducible refine Below.alloc ?_ (by first | omega | (simp; done) | (simp; omega)) _)) (hz.mono (by first | omega | (simp; done) | (simp; omega)))
  clear hz
  have ez : k - (n0 : Int) - (suK K0 n0 : Int) = k - ((n0 : Int) + (suK K0 n0 : Int)) := by omega
  rw [ez]
  go_wp2
  go_ret
  exact ⟨rfl, (by repeat (first | with_reducible exact Below.refl _ _ | with_reducible exact B1 | with_reducible refine Below.setCell ?_ (by first | omega | (simp; done) | (simp; omega)) _ | with_reducible refine bDrewN ?_ _ | with_reducible refine Below.drew ?_ | with_reducible refine Below.alloc ?_ (by first | omega | (simp; done) | (simp; omega)) _))⟩
set_option maxHeartbeats 800000 in
theorem szBook_off0 (n0 : Nat) (X0 : Nat → Int) (Y0 : Nat → Int) (K0 : Nat → Nat) (V0 : Nat → Nat → Int) (s0 : Option Addr) (c0 : Nat) (k : Int) (w : World) (h0 : 0 ≤ k) (h1 : k ≤ 1048576) (g0 : k < ((n0 : Int) + (suK K0 n0 : Int))) (gg0 : (n0 : Int) ≤ 9223372036854775807) (k630 : ∀ i, i < n0 → (K0 i : Int) ≤ 9223372036854775807) (HR0 : Hid (RowPer w s0 n0 X0 Y0 K0 V0)) : Calls Try.prog 10 #[.agg #[.slice s0 n0 c0], .int .i64 k] w fun e w' => e = .returned (.int .i64 (-1)) ∧ Below w.heap.size w w' := by
  go_enter Try.func10, Try.ntmps10
  go_wp2_with fail
  refine (szPermitS_off _ n0 _ X0 Y0 K0 V0 _ _ (by omega) (by omega) g0 gg0 k630 (HR0.out.below (by repeat (first | with_reducible exact Below.refl _ _ | with_reducible refine Below.setCell ?_ (by first | omega | (simp; done) | (simp; omega)) _ | with_reducible refine bDrewN ?_ _ | with_reducible refine Below.drew ?_ | with_reducible refine Below.alloc ?_ (by first | omega | (simp; done) | (simp; omega)) _)))).mono ?_
  rintro e w1 ⟨rfl, hz⟩
  have B1 : Below w.heap.size w w1 := Below.trans (by repeat (first | with_reducible exact Below.refl _ _ | with_reducible refine Below.setCell ?_ (by first | omega | (simp; done) | (simp; omega)) _ | with_reducible refine bDrewN ?_ _ | with_reducible refine Below.drew ?_ | with_reducible refine Below.alloc ?_ (by first | omega | (simp; done) | (simp; omega)) _)) (hz.mono (by first | omega | (simp; done) | (simp; omega)))
  clear hz
  go_wp2
  go_ret
  exact ⟨rfl, (by repeat (first | with_reducible exact Below.refl _ _ | with_reducible exact B1 | with_reducible refine Below.setCell ?_ (by first | omega | (simp; done) | (simp; omega)) _ | with_reducible refine bDrewN ?_ _ | with_reducible refine Below.drew ?_ | with_reducible refine Below.alloc ?_ (by first | omega | (simp; done) | (simp; omega)) _))⟩
set_option maxHeartbeats 2000000 in
theorem eqBook_r (n0 : Nat) (X0 : Nat → Int) (Y0 : Nat → Int) (K0 : Nat → Nat) (V0 : Nat → Nat → Int) (s0 : Option Addr) (c0 : Nat) (t0 : Option Addr) (e0 : Nat) (w : World) (hn0 : ((n0 : Int) + (suK K0 n0 : Int)) ≤ 1048576) (H1 : Hid (RowBook w s0 n0 X0 Y0 K0 V0)) (H2 : Hid (RowBook w t0 n0 X0 Y0 K0 V0)) :
    Calls Try.prog 17 #[.agg #[.slice s0 n0 c0], .agg #[.slice t0 n0 e0]] w fun e w' => e = .returned (.bool true) ∧ Below w.heap.size w w' := by
  go_enter Try.func17, Try.ntmps17
  go_wp2_with fail
  obtain ⟨wa, hwa⟩ : ∃ x, x = (w.alloc (.cells #[.slice s0 n0 c0] 36)).alloc (.cells #[.slice t0 n0 e0] 36) := ⟨_, rfl⟩
  rw [← hwa]
  have B0 : Below w.heap.size w wa := by rw [hwa]; exact (by repeat (first | with_reducible exact Below.refl _ _ | with_reducible refine Below.setCell ?_ (by first | omega | (simp; done) | (simp; omega)) _ | with_reducible refine bDrewN ?_ _ | with_reducible refine Below.drew ?_ | with_reducible refine Below.alloc ?_ (by first | omega | (simp; done) | (simp; omega)) _))
  have p0 : wa.cell? ⟨w.heap.size, 0, none⟩ = some (.slice s0 n0 c0) := by rw [hwa]; simp [go_sem]
  have q0 : wa.cell? ⟨w.heap.size + 1, 0, none⟩ = some (.slice t0 n0 e0) := by rw [hwa]; simp [go_sem]
  have z : w.heap.size + 1 < wa.heap.size := by rw [hwa]; simp
  have z0 : w.heap.size < wa.heap.size := by omega
  clear hwa
  refine (eqPermitS_r s0 t0 n0 c0 e0 X0 Y0 K0 V0 _ hn0 ((show RowPer w s0 n0 X0 Y0 K0 V0 from H1.out).below B0) ((show RowPer w t0 n0 X0 Y0 K0 V0 from H2.out).below B0)).mono ?_
  rintro e w0 ⟨rfl, h⟩
  replace z := Nat.lt_of_lt_of_le z h.size
  replace z0 := Nat.lt_of_lt_of_le z0 h.size
  replace B0 : Below w.heap.size w w0 := B0.trans (h.mono B0.size)
  clear h
  go_wp2
  go_ret
  exact ⟨rfl, (by repeat (first | with_reducible exact Below.refl _ _ | with_reducible exact B0 | with_reducible refine Below.setCell ?_ (by first | omega | (simp; done) | (simp; omega)) _ | with_reducible refine bDrewN ?_ _ | with_reducible refine Below.drew ?_ | with_reducible refine Below.alloc ?_ (by first | omega | (simp; done) | (simp; omega)) _))⟩
set_option maxHeartbeats 4000000 in
theorem toBook_r (n0 : Nat) (X0 : Nat → Int) (Y0 : Nat → Int) (K0 : Nat → Nat) (V0 : Nat → Nat → Int) (s0 : Option Addr) (c0 : Nat) (w : World) (hn0 : ((n0 : Int) + (suK K0 n0 : Int)) ≤ 1048576) (HR : Hid (RowBook w s0 n0 X0 Y0 K0 V0)) :
    Calls Try.prog 14 #[.agg #[.slice s0 n0 c0]] w fun e w' => ∃ (s0' : Option Addr) (S : Nat → Prop), e = .returned (.agg #[.slice s0' n0 n0]) ∧ (∀ k, S k → w.heap.size ≤ k ∧ k < w'.heap.size) ∧ BookR S w' s0' n0 X0 Y0 K0 V0 ∧ Below w.heap.size w w' := by
  have sto := store_slT
  go_enter Try.func14, Try.ntmps14
  go_wp2_with fail
  obtain ⟨wa, hwa⟩ : ∃ x, x = ((w.alloc (.cells #[.slice s0 n0 c0] 28)).alloc (.cells #[.slice none 0 0] 36)).alloc (.cells #[.slice none 0 0] 36) := ⟨_, rfl⟩
  rw [← hwa]
  have B0 : Below w.heap.size w wa := by rw [hwa]; exact (by repeat (first | with_reducible exact Below.refl _ _ | with_reducible refine Below.setCell ?_ (by first | omega | (simp; done) | (simp; omega)) _ | with_reducible refine bDrewN ?_ _ | with_reducible refine Below.drew ?_ | with_reducible refine Below.alloc ?_ (by first | omega | (simp; done) | (simp; omega)) _))
  have p0 : wa.cell? ⟨w.heap.size, 0, none⟩ = some (.slice s0 n0 c0) := by rw [hwa]; simp [go_sem]
  have r0 : wa.cell? ⟨w.heap.size + 1, 0, none⟩ = some (.slice none 0 0) := by rw [hwa]; simp [go_sem]
  have d0 : wa.cell? ⟨w.heap.size + 1 + 1, 0, none⟩ = some (.slice none 0 0) := by rw [hwa]; simp [go_sem]
  have fr : ∀ o, wa.frozen? ⟨w.heap.size + 1, o, none⟩ = false := by intro o; rw [hwa]; simp [go_sem]
  have fd : ∀ o, wa.frozen? ⟨w.heap.size + 1 + 1, o, none⟩ = false := by intro o; rw [hwa]; simp [go_sem]
  have z2 : w.heap.size + 1 + 1 < wa.heap.size := by rw [hwa]; simp
  have z1 : w.heap.size + 1 < wa.heap.size := by omega
  have z0 : w.heap.size < wa.heap.size := by omega
  clear hwa
  refine (toPermitS_r s0 n0 c0 X0 Y0 K0 V0 _ hn0 ((show RowPer w s0 n0 X0 Y0 K0 V0 from HR.out).below B0)).mono ?_
  rintro e wc0 ⟨s0', S0, rfl, Q, O, h⟩
  have l0 : wa.heap.size ≤ wc0.heap.size := h.size
  have lo0 : w.heap.size + 1 + 1 + 1 ≤ wa.heap.size := z2
  replace p0 := (h.cell (p := ⟨w.heap.size, 0, none⟩) z0).trans p0
  replace r0 := (h.cell (p := ⟨w.heap.size + 1, 0, none⟩) z1).trans r0
  replace d0 := (h.cell (p := ⟨w.heap.size + 1 + 1, 0, none⟩) z2).trans d0
  replace fr : ∀ o, wc0.frozen? ⟨w.heap.size + 1, o, none⟩ = false := fun o => (h.frozen (p := ⟨w.heap.size + 1, o, none⟩) z1).trans (fr o)
  replace fd : ∀ o, wc0.frozen? ⟨w.heap.size + 1 + 1, o, none⟩ = false := fun o => (h.frozen (p := ⟨w.heap.size + 1 + 1, o, none⟩) z2).trans (fd o)
  replace z2 := Nat.lt_of_lt_of_le z2 h.size
  replace z1 := Nat.lt_of_lt_of_le z1 h.size
  replace z0 := Nat.lt_of_lt_of_le z0 h.size
  replace B0 : Below w.heap.size w wc0 := B0.trans (h.mono B0.size)
  have O0 : Hid (PerR S0 wc0 s0' n0 X0 Y0 K0 V0) := O
  have Q0 : Hid (∀ k, S0 k → wa.heap.size ≤ k ∧ k < wc0.heap.size) := Q
  clear h O Q
  go_wp2
  exact bodyPost_ret (v := .agg #[.slice s0' n0 n0]) (by simp [results, Try.results14, go_sem, r0, d0]) rfl ⟨s0', S0, rfl, fun k hk => by have := Q0.out k hk; simp; omega, (show BookR _ _ s0' n0 X0 Y0 K0 V0 from ((O0.out.set (fun q => by have := Q0.out _ q; omega)).set (fun q => by have := Q0.out _ q; omega))), (by repeat (first | with_reducible exact Below.refl _ _ | with_reducible exact B0 | with_reducible refine Below.setCell ?_ (by first | omega | (simp; done) | (simp; omega)) _ | with_reducible refine bDrewN ?_ _ | with_reducible refine Below.drew ?_ | with_reducible refine Below.alloc ?_ (by first | omega | (simp; done) | (simp; omega)) _))⟩

end Go.Proofs.Ytikcfpjfcpbfcaa
