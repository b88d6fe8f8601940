/-
What is proved: a list of jobs: how it is kept; the law's own copy of it in new memory.
-/
import Derived.Test.YtffjhbgnhnnfiaaDoorI64E
import Derived.Deep.OwnRows
import Derived.Deep.RegionHeld3
import Derived.Deep.DeepCutAuto
namespace Go.Proofs.YtffjhbgnhnnfiaaDoor
set_option maxRecDepth 40000
open Go.ChangeShapes Go.WideShapes Go.ChangeAt Go.RowKit
set_option linter.unusedVariables false
set_option linter.unusedSimpArgs false

/-- The list in memory. -/
def JobR (w : World) (s : Option Addr) (n : Nat) (X0 : Nat → Int) (S1 : Nat → Option Addr) (K1 C1 : Nat → Nat) (V1 : Nat → Nat → Int) : Prop :=
  ∀ j, j < n → ∃ b o, s = some ⟨b, o, none⟩ ∧ b < w.heap.size ∧ w.cell? ⟨b, o + j * 2, none⟩ = some (.int .i64 (X0 j)) ∧ w.cell? ⟨b, o + j * 2 + 1, none⟩ = some (.slice (S1 j) (K1 j) (C1 j)) ∧ RowI w (S1 j) (K1 j) (V1 j)
theorem JobR.below {w w' : World} {s : Option Addr} {n : Nat} {X0 : Nat → Int} {S1 : Nat → Option Addr} {K1 C1 : Nat → Nat} {V1 : Nat → Nat → Int} (h : JobR w s n X0 S1 K1 C1 V1) (hb : Below w.heap.size w w') : JobR w' s n X0 S1 K1 C1 V1 := fun j hj => by
  obtain ⟨b, o, e, hl, c0, c1, r1⟩ := h j hj
  exact ⟨b, o, e, Nat.lt_of_lt_of_le hl hb.size, (hb.cell (p := ⟨b, o + j * 2, none⟩) hl).trans c0, (hb.cell (p := ⟨b, o + j * 2 + 1, none⟩) hl).trans c1, r1.below hb⟩
theorem Jb_store_sl : ∀ (W : World) (a : Addr) (s : Option Addr) (n c : Nat), (W.cell? a).isSome = true → W.frozen? a = false → (store a (.slice s n c)).run Tryd.prog W = .ok () (W.setCell a (.slice s n c)) := fun W a s n c h hf => by
  obtain ⟨u, hu⟩ := Option.isSome_iff_exists.1 h
  rw [run_store Tryd.prog W a _ _ rfl, hu]
  simp [hf]
theorem Jb_own_set {w : World} {b p o n base : Nat} {u : Value} {V : Nat → Int} (h : OwnI base w (some ⟨b, 0, none⟩) n V) (hp : b ≠ p) : OwnI base (w.setCell ⟨p, o, none⟩ u) (some ⟨b, 0, none⟩) n V := fun j hj => by
  obtain ⟨b', e, h0, hl, hc, hf⟩ := h j hj
  cases e
  exact ⟨b, rfl, h0, by simpa using hl, by simpa [go_sem, hp] using hc, by simpa [go_sem, hp] using hf⟩
set_option maxHeartbeats 4000000 in
theorem toJob_any (x0 : Int) (t1 : Option Addr) (k1 c1 : Nat) (v1 : Nat → Int) (w : World) (hk1 : (k1 : Int) ≤ 1048576) (HR1 : Hid (RowI w t1 k1 v1)) : Calls Tryd.prog 46 #[.agg #[.int .i64 x0, .slice t1 k1 c1]] w fun e w' => ∃ g1, e = .returned (.agg #[.int .i64 x0, .slice (some ⟨g1, 0, none⟩) k1 k1]) ∧ w.heap.size ≤ g1 ∧ g1 < w'.heap.size ∧ OwnI g1 w' (some ⟨g1, 0, none⟩) k1 v1 ∧ Below w.heap.size w w' := by
  have sto := Jb_store_sl
  go_enter Tryd.func46, Tryd.ntmps46
  go_upto_region 2 with fail
  obtain ⟨wd, hwd⟩ : ∃ wd, wd = ((w.alloc (.cells #[.int .i64 x0, .slice t1 k1 c1] 70)).alloc (.cells #[.int .i64 0, .slice none 0 0] 33)).alloc (.cells #[.int .i64 0, .slice none 0 0] 33) := ⟨_, rfl⟩
  rw [← hwd]
  have zd : w.heap.size + 1 + 1 + 1 ≤ wd.heap.size := by rw [hwd]; simp
  have a0 : wd.cell? ⟨w.heap.size, 0, none⟩ = some (.int .i64 x0) := by rw [hwd]; simp [go_sem]
  have a1 : wd.cell? ⟨w.heap.size, 1, none⟩ = some (.slice t1 k1 c1) := by rw [hwd]; simp [go_sem]
  have b0 : wd.cell? ⟨w.heap.size + 1, 0, none⟩ = some (.int .i64 0) := by rw [hwd]; simp [go_sem]
  have b1 : wd.cell? ⟨w.heap.size + 1, 1, none⟩ = some (.slice none 0 0) := by rw [hwd]; simp [go_sem]
  have d0 : wd.cell? ⟨w.heap.size + 1 + 1, 0, none⟩ = some (.int .i64 0) := by rw [hwd]; simp [go_sem]
  have d1 : wd.cell? ⟨w.heap.size + 1 + 1, 1, none⟩ = some (.slice none 0 0) := by rw [hwd]; simp [go_sem]
  have f1 : ∀ o, wd.frozen? ⟨w.heap.size + 1, o, none⟩ = false := fun o => by rw [hwd]; simp [go_sem]
  have f2 : ∀ o, wd.frozen? ⟨w.heap.size + 1 + 1, o, none⟩ = false := fun o => by rw [hwd]; simp [go_sem]
  have B0 : Below w.heap.size w wd := by rw [hwd]; exact (by repeat (first | with_reducible exact Below.refl _ _ | with_reducible refine Below.setCell ?_ (by first | omega | (simp; done) | (simp; omega)) _ | with_reducible refine bDrewN ?_ _ | with_reducible refine Below.drew ?_ | with_reducible refine Below.alloc ?_ (by first | omega | (simp; done) | (simp; omega)) _))
  clear hwd
  go_upto_region 3 with fail
  obtain ⟨wc0, hwc⟩ : ∃ wc, wc = (wd.setCell ⟨w.heap.size + 1 + 1, 0, none⟩ (.int .i64 x0)) := ⟨_, rfl⟩
  rw [← hwc]
  replace a0 : wc0.cell? ⟨w.heap.size, 0, none⟩ = some (.int .i64 x0) := by rw [hwc]; simp [go_sem, a0]
  replace b0 : wc0.cell? ⟨w.heap.size + 1, 0, none⟩ = some (.int .i64 0) := by rw [hwc]; simp [go_sem, b0]
  replace d0 : wc0.cell? ⟨w.heap.size + 1 + 1, 0, none⟩ = some (.int .i64 x0) := by rw [hwc]; simp [go_sem, d0]
  replace a1 : wc0.cell? ⟨w.heap.size, 1, none⟩ = some (.slice t1 k1 c1) := by rw [hwc]; simp [go_sem, a1]
  replace b1 : wc0.cell? ⟨w.heap.size + 1, 1, none⟩ = some (.slice none 0 0) := by rw [hwc]; simp [go_sem, b1]
  replace d1 : wc0.cell? ⟨w.heap.size + 1 + 1, 1, none⟩ = some (.slice none 0 0) := by rw [hwc]; simp [go_sem, d1]
  replace f1 : ∀ o, wc0.frozen? ⟨w.heap.size + 1, o, none⟩ = false := fun o => by rw [hwc]; simp [go_sem, f1]
  replace f2 : ∀ o, wc0.frozen? ⟨w.heap.size + 1 + 1, o, none⟩ = false := fun o => by rw [hwc]; simp [go_sem, f2]
  replace zd : w.heap.size + 1 + 1 + 1 ≤ wc0.heap.size := by rw [hwc]; simpa using zd
  replace B0 : Below w.heap.size w wc0 := by rw [hwc]; exact (by repeat (first | with_reducible exact Below.refl _ _ | with_reducible exact B0 | with_reducible refine Below.setCell ?_ (by first | omega | (simp; done) | (simp; omega)) _ | with_reducible refine bDrewN ?_ _ | with_reducible refine Below.drew ?_ | with_reducible refine Below.alloc ?_ (by first | omega | (simp; done) | (simp; omega)) _))
  clear hwc
  go_wp2_with fail
  refine (toInt64S_any t1 k1 c1 v1 _ hk1 (HR1.out.below B0)).mono ?_
  rintro e w1 ⟨rfl, y1, OG, h1⟩
  replace a0 := (h1.cell (p := ⟨w.heap.size, 0, none⟩) (by show w.heap.size < _; omega)).trans a0
  replace b0 := (h1.cell (p := ⟨w.heap.size + 1, 0, none⟩) (by show w.heap.size + 1 < _; omega)).trans b0
  replace d0 := (h1.cell (p := ⟨w.heap.size + 1 + 1, 0, none⟩) (by show w.heap.size + 1 + 1 < _; omega)).trans d0
  replace a1 := (h1.cell (p := ⟨w.heap.size, 1, none⟩) (by show w.heap.size < _; omega)).trans a1
  replace b1 := (h1.cell (p := ⟨w.heap.size + 1, 1, none⟩) (by show w.heap.size + 1 < _; omega)).trans b1
  replace d1 := (h1.cell (p := ⟨w.heap.size + 1 + 1, 1, none⟩) (by show w.heap.size + 1 + 1 < _; omega)).trans d1
  replace f1 : ∀ o, w1.frozen? ⟨w.heap.size + 1, o, none⟩ = false := fun o => (h1.frozen (p := ⟨w.heap.size + 1, o, none⟩) (by show w.heap.size + 1 < _; omega)).trans (f1 o)
  replace f2 : ∀ o, w1.frozen? ⟨w.heap.size + 1 + 1, o, none⟩ = false := fun o => (h1.frozen (p := ⟨w.heap.size + 1 + 1, o, none⟩) (by show w.heap.size + 1 + 1 < _; omega)).trans (f2 o)
  replace B0 : Below w.heap.size w w1 := B0.trans (h1.mono B0.size)
  have O1 : Hid (OwnI wc0.heap.size w1 (some ⟨wc0.heap.size, 0, none⟩) k1 v1) := OG
  obtain ⟨g1, hg1⟩ : ∃ g, g = wc0.heap.size := ⟨_, rfl⟩
  have q1 : w.heap.size + 1 + 1 + 1 ≤ g1 := by omega
  have sz1 := h1.size
  replace zd : w.heap.size + 1 + 1 + 1 ≤ w1.heap.size := by omega
  rw [← hg1] at O1 y1 ⊢
  clear h1 OG hg1 sz1
  go_wp2
  refine bodyPost_ret (v := .agg #[.int .i64 x0, .slice (some ⟨g1, 0, none⟩) k1 k1]) (by first | (simp [results, Tryd.results46, go_sem, b0, b1, d0, d1]; done) | (simp (maxDischargeDepth := 12) (maxSteps := 1000000) [results, Tryd.results46, go_sem, b0, b1, d0, d1]; done)) rfl ⟨g1, rfl, by omega, by simpa using y1, (Jb_own_set (Jb_own_set (Jb_own_set O1.out (by omega)) (by omega)) (by omega)), (by repeat (first | with_reducible exact Below.refl _ _ | with_reducible exact B0 | with_reducible refine Below.setCell ?_ (by first | omega | (simp; done) | (simp; omega)) _ | with_reducible refine bDrewN ?_ _ | with_reducible refine Below.drew ?_ | with_reducible refine Below.alloc ?_ (by first | omega | (simp; done) | (simp; omega)) _))⟩
/-- A copy of the list on its way: the first k of n, in the block b. -/
def JobC (b : Nat) (w : World) (n k : Nat) (X0 : Nat → Int) (G1 : Nat → Nat) (K1 : Nat → Nat) (V1 : Nat → Nat → Int) : Prop :=
  b < w.heap.size ∧ (∀ o, w.frozen? ⟨b, o, none⟩ = false) ∧ (∀ j, j < k → w.cell? ⟨b, j * 2, none⟩ = some (.int .i64 (X0 j)) ∧ w.cell? ⟨b, j * 2 + 1, none⟩ = some (.slice (some ⟨G1 j, 0, none⟩) (K1 j) (K1 j)) ∧ b < G1 j ∧ G1 j < w.heap.size ∧ OwnI (G1 j) w (some ⟨G1 j, 0, none⟩) (K1 j) (V1 j) ∧ (∀ i, i < j → G1 i < G1 j)) ∧ ∀ j, j < n → (w.cell? ⟨b, j * 2, none⟩).isSome = true ∧ (w.cell? ⟨b, j * 2 + 1, none⟩).isSome = true
theorem JobC.row {b n : Nat} {w : World} {X0 : Nat → Int} {G1 : Nat → Nat} {K1 : Nat → Nat} {V1 : Nat → Nat → Int} (h : JobC b w n n X0 G1 K1 V1) : JobR w (some ⟨b, 0, none⟩) n X0 (fun j => some ⟨G1 j, 0, none⟩) K1 K1 V1 := fun j hj => by
  obtain ⟨h1, h2, h3, h4⟩ := h
  obtain ⟨c0, c1, -, -, r1, -⟩ := h3 j hj
  exact ⟨b, 0, rfl, h1, by simpa using c0, by simpa using c1, r1.row⟩
theorem JobC.below {b n k : Nat} {w w' : World} {X0 : Nat → Int} {G1 : Nat → Nat} {K1 : Nat → Nat} {V1 : Nat → Nat → Int} (h : JobC b w n k X0 G1 K1 V1) (hb : Below w.heap.size w w') : JobC b w' n k X0 G1 K1 V1 := by
  obtain ⟨h1, h2, h3, h4⟩ := h
  refine ⟨Nat.lt_of_lt_of_le h1 hb.size, fun o => (hb.frozen (p := ⟨b, o, none⟩) h1).trans (h2 o), fun j hj => ?_, fun j hj => ?_⟩
  · obtain ⟨c0, c1, r1, s1, u1, p⟩ := h3 j hj
    exact ⟨(hb.cell (p := ⟨b, j * 2, none⟩) h1).trans c0, (hb.cell (p := ⟨b, j * 2 + 1, none⟩) h1).trans c1, r1, Nat.lt_of_lt_of_le s1 hb.size, u1.below hb, p⟩
  · obtain ⟨c0, c1⟩ := h4 j hj
    exact ⟨by rw [hb.cell (p := ⟨b, j * 2, none⟩) h1]; exact c0, by rw [hb.cell (p := ⟨b, j * 2 + 1, none⟩) h1]; exact c1⟩
theorem make_Job (n : Nat) (hn : n ≤ 1048576) (w : World) : (Instr.makeSlice 24 (.int .i64 (n : Int)) (.int .i64 (n : Int))).run Tryd.prog w = .ok (.slice (some ⟨w.heap.size, 0, none⟩) n n) (w.alloc (.cells (madeCells #[.int .i64 0, .slice none 0 0] (n * 2)) 33)) := by
  have hinfo : (Tryd.prog.info? 33).map (fun i => (i.zero, i.size, i.bytes)) = some (some (.agg #[.int .i64 0, .slice none 0 0]), 2, 32) := by kernel_rfl
  obtain ⟨i, hi, hzz⟩ := Option.map_eq_some_iff.1 hinfo
  simp only [Prod.mk.injEq] at hzz
  obtain ⟨hz, hs, hb⟩ := hzz
  have hr := run_make (P := Tryd.prog) w 24 33 i _ Tryd.underlying24 hi hz .i64 .i64 n n (by omega) (Int.le_refl _) (by rw [hb]; omega) (by omega)
  simp only [Int.toNat_natCast, hs] at hr
  exact hr
theorem Jb_start (w : World) (n : Nat) (X0 : Nat → Int) (G1 : Nat → Nat) (K1 : Nat → Nat) (V1 : Nat → Nat → Int) (t : TypeId) : JobC w.heap.size (w.alloc (.cells (madeCells #[.int .i64 0, .slice none 0 0] (n * 2)) t)) n 0 X0 G1 K1 V1 := by
  refine ⟨by simp, fun o => by simp [go_sem], fun j hj => by omega, fun j hj => ?_⟩
  have hm : ∀ i, i < n * 2 → ((madeCells #[.int .i64 0, .slice none 0 0] (n * 2))[i]?).isSome = true := fun i hi => by
    simp only [madeCells, Array.getElem?_map, Array.getElem?_range, hi, if_true, Option.map_some, Option.isSome_some]
  refine ⟨?_, ?_⟩
  · have h0 := hm (j * 2) (by omega)
    simpa [go_sem] using h0
  · have h0 := hm (j * 2 + 1) (by omega)
    simpa [go_sem] using h0
theorem Jb_on {wr w3 : World} {b n k : Nat} {g1 : Nat} {X0 : Nat → Int} {G1 : Nat → Nat} {K1 : Nat → Nat} {V1 : Nat → Nat → Int} (h : JobC b wr n k X0 G1 K1 V1) (h3 : Below wr.heap.size wr w3) (hk : k < n) (hb1 : wr.heap.size ≤ g1) (hz1 : g1 < w3.heap.size) (hr1 : OwnI g1 w3 (some ⟨g1, 0, none⟩) (K1 k) (V1 k))  :
    JobC b ((w3.setCell ⟨b, k * 2, none⟩ (.int .i64 (X0 k))).setCell ⟨b, k * 2 + 1, none⟩ (.slice (some ⟨g1, 0, none⟩) (K1 k) (K1 k))) n (k + 1) X0 (fun j => if j = k then g1 else G1 j) K1 V1 := by
  obtain ⟨hz, hf, hdn, hc⟩ := h
  have z3 : b < w3.heap.size := Nat.lt_of_lt_of_le hz h3.size
  have fz : ∀ o, w3.frozen? ⟨b, o, none⟩ = false := fun o => (h3.frozen (p := ⟨b, o, none⟩) hz).trans (hf o)
  have ce : ∀ j, w3.cell? ⟨b, j, none⟩ = wr.cell? ⟨b, j, none⟩ := fun j => h3.cell (p := ⟨b, j, none⟩) hz
  obtain ⟨u0, e0⟩ : ∃ u, w3.cell? ⟨b, k * 2, none⟩ = some u := by rw [ce]; exact Option.isSome_iff_exists.1 (hc k hk).1
  obtain ⟨u1, e1⟩ : ∃ u, w3.cell? ⟨b, k * 2 + 1, none⟩ = some u := by rw [ce]; exact Option.isSome_iff_exists.1 (hc k hk).2
  refine ⟨by simpa using z3, fun o => by simp [go_sem, fz], fun j hj => ?_, fun j hj => ?_⟩
  · by_cases q : j = k
    · subst q
      refine ⟨?_, ?_, ?_, ?_, ?_, ?_⟩
      · simp [go_sem, e0, e1]
      · simp [go_sem, e0, e1]
      · dsimp only; rw [if_pos rfl]; omega
      · dsimp only; rw [if_pos rfl]; simpa using hz1
      · dsimp only; rw [if_pos rfl]; exact (Jb_own_set (Jb_own_set hr1 (by omega)) (by omega))
      · intro i hi
        dsimp only; rw [if_pos rfl, if_neg (by omega)]
        have := (hdn i hi).2.2.2.1
        omega
    · obtain ⟨c0, c1, r1, s1, y1, p0⟩ := hdn j (by omega)
      have n00 : j * 2 ≠ k * 2 := by omega
      have n01 : j * 2 ≠ k * 2 + 1 := by omega
      have n10 : j * 2 + 1 ≠ k * 2 := by omega
      have n11 : j * 2 + 1 ≠ k * 2 + 1 := by omega
      refine ⟨?_, ?_, ?_, ?_, ?_, ?_⟩
      · simp [go_sem, n00, n01, n10, n11, q, ce, c0]
      · dsimp only; rw [if_neg q]; simp [go_sem, n00, n01, n10, n11, q, ce, c1]
      · dsimp only; rw [if_neg q]; exact r1
      · dsimp only; rw [if_neg q]; have := h3.size; simp; omega
      · dsimp only; rw [if_neg q]; exact (Jb_own_set (Jb_own_set (y1.below h3) (by omega)) (by omega))
      · intro i hi
        dsimp only; rw [if_neg q, if_neg (by omega)]
        exact p0 i hi
  · obtain ⟨i0, i1⟩ := hc j hj
    obtain ⟨v0, g0x⟩ := Option.isSome_iff_exists.1 i0
    obtain ⟨v1, g1x⟩ := Option.isSome_iff_exists.1 i1
    by_cases q : j = k
    · subst q; simp [go_sem, e0, e1]
    · have n00 : j * 2 ≠ k * 2 := by omega
      have n01 : j * 2 ≠ k * 2 + 1 := by omega
      have n10 : j * 2 + 1 ≠ k * 2 := by omega
      have n11 : j * 2 + 1 ≠ k * 2 + 1 := by omega
      simp [go_sem, n00, n01, n10, n11, q, ce, g0x, g1x]
set_option maxRecDepth 20000 in
set_option maxHeartbeats 4000000 in
theorem toJobS_any (s : Option Addr) (n c : Nat) (X0 : Nat → Int) (S1 : Nat → Option Addr) (K1 C1 : Nat → Nat) (V1 : Nat → Nat → Int) (w : World) (hn : (n : Int) ≤ 1048576) (hK1 : Hid (∀ j, j < n → (K1 j : Int) ≤ 1048576)) (HR : Hid (JobR w s n X0 S1 K1 C1 V1)) :
    Calls Tryd.prog 16 #[.slice s n c] w fun e w' => e = .returned (.slice (some ⟨w.heap.size, 0, none⟩) n n) ∧ (∃ G1, JobC w.heap.size w' n n X0 G1 K1 V1) ∧ Below w.heap.size w w' := by
  have hmk := make_Job n (by omega)
  have sto := Jb_store_sl
  go_enter Tryd.func16, Tryd.ntmps16
  go_wp2_with fail
  go_loopw [4] (fun i wr => ∃ k : Nat, k ≤ n ∧ i = .int .i64 k ∧ Hid (∃ G1, JobC w.heap.size wr n k X0 G1 K1 V1) ∧ Hid (Below w.heap.size w wr)) (fun i _ => n - (intOf i).toNat)
  case atStart => exact ⟨0, Nat.zero_le _, rfl, ⟨fun _ => 0, Jb_start w n X0 _ K1 V1 33⟩, (by show Below _ _ _; exact (by repeat (first | with_reducible exact Below.refl _ _ | with_reducible refine Below.setCell ?_ (by first | omega | (simp; done) | (simp; omega)) _ | with_reducible refine bDrewN ?_ _ | with_reducible refine Below.drew ?_ | with_reducible refine Below.alloc ?_ (by first | omega | (simp; done) | (simp; omega)) _)))⟩
  case round =>
    obtain ⟨k, hk, rfl, HT0, HB⟩ := hrel
    obtain ⟨G1, hT⟩ := HT0.out
    have HT : Hid (JobC w.heap.size wr n k X0 G1 K1 V1) := hT
    clear HT0 hT
    by_cases h1 : k < n
    · obtain ⟨g, o, rfl, hg, c0, c1, RK1⟩ := HR.out k h1
      have d0 : wr.cell? ⟨g, o + k * 2, none⟩ = some (.int .i64 (X0 k)) := (HB.out.cell (p := ⟨g, o + k * 2, none⟩) hg).trans c0
      have d1 : wr.cell? ⟨g, o + k * 2 + 1, none⟩ = some (.slice (S1 k) (K1 k) (C1 k)) := (HB.out.cell (p := ⟨g, o + k * 2 + 1, none⟩) hg).trans c1
      have RL1 : Hid (RowI wr (S1 k) (K1 k) (V1 k)) := RK1.below HB.out
      have kk1 := hK1.out k h1
      have k1 : (k : Int) < (n : Int) := by omega
      have HN : Hid (k < n) := h1
      have hz := HT.out.1
      clear hg c0 c1 RK1
      go_wp2_with fail
      refine (toJob_any (X0 k) (S1 k) (K1 k) (C1 k) (V1 k) _ kk1 RL1).mono ?_
      rintro e w3 ⟨g1, rfl, lb1, zb1, R1, h3⟩
      have TN : Hid _ := Jb_on HT.out h3 h1 lb1 zb1 R1 
      have BN : Hid (Below w.heap.size w w3) := HB.out.trans (h3.mono HB.out.size)
      obtain ⟨hz', hf, -, hc⟩ := HT.out.below h3
      obtain ⟨i0, i1⟩ := hc k h1
      obtain ⟨u0, e0⟩ := Option.isSome_iff_exists.1 i0
      obtain ⟨u1, e1⟩ := Option.isSome_iff_exists.1 i1
      clear i0 i1 d0 d1 R1 RL1 h3 hc HT HB
      go_wp2
      go_roundw
      case rel => exact ⟨k + 1, by have := HN.out; omega, by go_num, ⟨_, TN.out⟩, (by have B := BN.out; show Below _ _ _; exact (by repeat (first | with_reducible exact Below.refl _ _ | with_reducible exact B | with_reducible refine Below.setCell ?_ (by first | omega | (simp; done) | (simp; omega)) _ | with_reducible refine bDrewN ?_ _ | with_reducible refine Below.drew ?_ | with_reducible refine Below.alloc ?_ (by first | omega | (simp; done) | (simp; omega)) _)))⟩
      case measure => have := HN.out; simp [intOf]; omega
    · obtain rfl : k = n := by omega
      go_wp2
      go_ret
      exact ⟨rfl, ⟨G1, HT.out⟩, HB.out⟩
end Go.Proofs.YtffjhbgnhnnfiaaDoor
