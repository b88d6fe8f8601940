/-
What is proved: lists of structs of an int64 and a list of knots: how they are kept; what the law's own helpers do with a map: a copy, its count, comparing.
-/
import Derived.Test.YtbabedfbadlhjaaCurveK
import Derived.Deep.OwnRows
import Derived.Deep.RegionHeld3
import Derived.Deep.DeepCutAuto
namespace Go.Proofs.Ytbabedfbadlhjaa
set_option maxRecDepth 40000
open Go.RowKit
set_option linter.unusedVariables false
set_option linter.unusedSimpArgs false

/-- A map in memory: n lines, each a speed and a list of knots. -/
def MapR (w : World) (s : Option Addr) (n : Nat) (S : Nat → Int) (K : Nat → Nat) (V : Nat → Nat → Int) : Prop := ∀ j, j < n → ∃ b o t c, s = some ⟨b, o, none⟩ ∧ b < w.heap.size ∧ w.cell? ⟨b, o + j * 2, none⟩ = some (.int .i64 (S j)) ∧ w.cell? ⟨b, o + j * 2 + 1, none⟩ = some (.slice t (K j) c) ∧ RowI w t (K j * 2) (V j)
theorem MapR.below {w w' : World} {s : Option Addr} {n : Nat} {S : Nat → Int} {K : Nat → Nat} {V : Nat → Nat → Int} (h : MapR w s n S K V) (hb : Below w.heap.size w w') : MapR w' s n S K V := fun j hj => by
  obtain ⟨b, o, t, c, e, hl, h1, h2, h3⟩ := h j hj
  exact ⟨b, o, t, c, e, Nat.lt_of_lt_of_le hl hb.size, (hb.cell (p := ⟨b, o + j * 2, none⟩) hl).trans h1, (hb.cell (p := ⟨b, o + j * 2 + 1, none⟩) hl).trans h2, h3.below hb⟩
theorem store_sl : ∀ (W : World) (a : Addr) (s : Option Addr) (n c : Nat), (W.cell? a).isSome = true → W.frozen? a = false → (store a (.slice s n c)).run Try.prog W = .ok () (W.setCell a (.slice s n c)) := fun W a s n c h hf => by
  obtain ⟨u, hu⟩ := Option.isSome_iff_exists.1 h
  rw [run_store Try.prog W a _ _ rfl, hu]
  simp [hf]
theorem row_set {w : World} {b p o m : Nat} {u : Value} {V : Nat → Int} (h : RowI w (some ⟨b, 0, none⟩) m V) (hp : b ≠ p) : RowI (w.setCell ⟨p, o, none⟩ u) (some ⟨b, 0, none⟩) m V := fun j hj => by
  obtain ⟨b', o', e, hl, hc⟩ := h j hj
  cases e
  exact ⟨b, 0, rfl, by simpa using hl, by simpa [go_sem, hp] using hc⟩

set_option maxHeartbeats 2000000 in
theorem toSpeedLine_any (x : Int) (t : Option Addr) (k c : Nat) (V : Nat → Int) (w : World) (hk : (k : Int) ≤ 1048576) (HR : Hid (RowI w t (k * 2) V)) : Calls Try.prog 44 #[.agg #[.int .i64 x, .slice t k c]] w fun e w' => ∃ b, e = .returned (.agg #[.int .i64 x, .slice (some ⟨b, 0, none⟩) k k]) ∧ w.heap.size ≤ b ∧ RowI w' (some ⟨b, 0, none⟩) (k * 2) V ∧ Below w.heap.size w w' := by
  have sto := store_sl
  have A1 : Hid (∀ W, Below w.heap.size w W → RowI W t (k * 2) V) := fun W h => HR.out.below h
  go_enter Try.func44, Try.ntmps44
  go_upto_region 3 with fail
  obtain ⟨wd, hwd⟩ : ∃ wd, wd = ((w.alloc (.cells #[.int .i64 x, .slice t k c] 66)).alloc (.cells #[.int .i64 0, .slice none 0 0] 29)).alloc (.cells #[.int .i64 x, .slice none 0 0] 29) := ⟨_, rfl⟩
  rw [← hwd]
  have zd : w.heap.size + 1 + 1 + 1 ≤ wd.heap.size := by rw [hwd]; simp
  have c1 : wd.cell? ⟨w.heap.size, 1, none⟩ = some (.slice t k c) := by rw [hwd]; simp [go_sem]
  have c2 : wd.cell? ⟨w.heap.size + 1, 0, none⟩ = some (.int .i64 0) := by rw [hwd]; simp [go_sem]
  have c3 : wd.cell? ⟨w.heap.size + 1, 1, none⟩ = some (.slice none 0 0) := by rw [hwd]; simp [go_sem]
  have c4 : wd.cell? ⟨w.heap.size + 1 + 1, 0, none⟩ = some (.int .i64 x) := by rw [hwd]; simp [go_sem]
  have c5 : wd.cell? ⟨w.heap.size + 1 + 1, 1, none⟩ = some (.slice none 0 0) := by rw [hwd]; simp [go_sem]
  have f2 : ∀ o, wd.frozen? ⟨w.heap.size + 1, o, none⟩ = false := fun o => by rw [hwd]; simp [go_sem]
  have f4 : ∀ o, wd.frozen? ⟨w.heap.size + 1 + 1, o, none⟩ = false := fun o => by rw [hwd]; simp [go_sem]
  have B0 : Below w.heap.size w wd := by rw [hwd]; exact (by repeat (first | with_reducible exact Below.refl _ _ | with_reducible refine Below.setCell ?_ (by first | omega | (simp; done) | (simp; omega)) _ | with_reducible refine bDrewN ?_ _ | with_reducible refine Below.drew ?_ | with_reducible refine Below.alloc ?_ (by first | omega | (simp; done) | (simp; omega)) _))
  have HB : Hid (Below w.heap.size w wd) := B0
  clear hwd
  go_wp2_with fail
  refine (toKnotS_any t k c V _ hk (A1.out _ HB.out)).mono ?_
  rintro e w1 ⟨b, rfl, hb1, hb2, R1, h1⟩
  have d2 := (h1.cell (p := ⟨w.heap.size + 1, 0, none⟩) (by show w.heap.size + 1 < _; omega)).trans c2
  have d3 := (h1.cell (p := ⟨w.heap.size + 1, 1, none⟩) (by show w.heap.size + 1 < _; omega)).trans c3
  have d4 := (h1.cell (p := ⟨w.heap.size + 1 + 1, 0, none⟩) (by show w.heap.size + 1 + 1 < _; omega)).trans c4
  have d5 := (h1.cell (p := ⟨w.heap.size + 1 + 1, 1, none⟩) (by show w.heap.size + 1 + 1 < _; omega)).trans c5
  have g2 : ∀ o, w1.frozen? ⟨w.heap.size + 1, o, none⟩ = false := fun o => (h1.frozen (p := ⟨w.heap.size + 1, o, none⟩) (by show w.heap.size + 1 < _; omega)).trans (f2 o)
  have g4 : ∀ o, w1.frozen? ⟨w.heap.size + 1 + 1, o, none⟩ = false := fun o => (h1.frozen (p := ⟨w.heap.size + 1 + 1, o, none⟩) (by show w.heap.size + 1 + 1 < _; omega)).trans (f4 o)
  have B1 : Below w.heap.size w w1 := B0.trans (h1.mono B0.size)
  have Q1 : Hid (RowI w1 (some ⟨b, 0, none⟩) (k * 2) V) := R1
  have s1 : w.heap.size + 1 + 1 + 1 ≤ w1.heap.size := Nat.le_trans zd h1.size
  clear c1 c2 c3 c4 c5 f2 f4 h1 B0 HB R1
  go_wp2
  refine bodyPost_ret (v := .agg #[.int .i64 x, .slice (some ⟨b, 0, none⟩) k k]) (by first | (simp [results, Try.results44, go_sem, d2, d3, d4, d5]; done) | (simp (maxDischargeDepth := 4) (maxSteps := 1000000) [results, Try.results44, go_sem, d2, d3, d4, d5]; done)) rfl ⟨b, rfl, by omega, ?_, (by repeat (first | with_reducible exact Below.refl _ _ | with_reducible exact B1 | with_reducible refine Below.setCell ?_ (by first | omega | (simp; done) | (simp; omega)) _ | with_reducible refine bDrewN ?_ _ | with_reducible refine Below.drew ?_ | with_reducible refine Below.alloc ?_ (by first | omega | (simp; done) | (simp; omega)) _))⟩
  exact row_set (row_set (row_set Q1.out (by omega)) (by omega)) (by omega)

/-- A copy of a map on its way. -/
def MapTo (w wr : World) (n k : Nat) (S : Nat → Int) (K : Nat → Nat) (V : Nat → Nat → Int) : Prop := Below w.heap.size w wr ∧ w.heap.size < wr.heap.size ∧ (∀ o, wr.frozen? ⟨w.heap.size, o, none⟩ = false) ∧ (∀ j, j < k → ∃ b, wr.cell? ⟨w.heap.size, j * 2, none⟩ = some (.int .i64 (S j)) ∧ wr.cell? ⟨w.heap.size, j * 2 + 1, none⟩ = some (.slice (some ⟨b, 0, none⟩) (K j) (K j)) ∧ w.heap.size < b ∧ RowI wr (some ⟨b, 0, none⟩) (K j * 2) (V j)) ∧ ∀ j, j < n → (wr.cell? ⟨w.heap.size, j * 2, none⟩).isSome = true ∧ (wr.cell? ⟨w.heap.size, j * 2 + 1, none⟩).isSome = true
theorem make_lines (n : Nat) (hn : n ≤ 1048576) (w : World) : (Instr.makeSlice 24 (.int .i64 (n : Int)) (.int .i64 (n : Int))).run Try.prog w = .ok (.slice (some ⟨w.heap.size, 0, none⟩) n n) (w.alloc (.cells (madeCells #[.int .i64 0, .slice none 0 0] (n * 2)) 29)) := by
  have hinfo : (Try.prog.info? 29).map (fun i => (i.zero, i.size, i.bytes)) = some (some (.agg #[.int .i64 0, .slice none 0 0]), 2, 32) := by kernel_rfl
  obtain ⟨i, hi, hzz⟩ := Option.map_eq_some_iff.1 hinfo
  simp only [Prod.mk.injEq] at hzz
  obtain ⟨hz, hs, hb⟩ := hzz
  have hr := run_make (P := Try.prog) w 24 29 i _ Try.underlying24 hi hz .i64 .i64 n n (by omega) (Int.le_refl _) (by rw [hb]; omega) (by omega)
  simp only [Int.toNat_natCast, hs] at hr
  exact hr
theorem mapTo_start (w : World) (n : Nat) (S : Nat → Int) (K : Nat → Nat) (V : Nat → Nat → Int) (t : TypeId) : MapTo w (w.alloc (.cells (madeCells #[.int .i64 0, .slice none 0 0] (n * 2)) t)) n 0 S K V := by
  refine ⟨below0 _ _, by simp, fun o => by simp [go_sem], fun j hj => by omega, fun j hj => ?_⟩
  have hm : ∀ i, i < n * 2 → ((madeCells #[.int .i64 0, .slice none 0 0] (n * 2))[i]?).isSome = true := fun i hi => by
    simp only [madeCells, Array.getElem?_map, Array.getElem?_range, hi, if_true, Option.map_some, Option.isSome_some]
  have h0 := hm (j * 2) (by omega)
  have h1 := hm (j * 2 + 1) (by omega)
  exact ⟨by simpa [go_sem] using h0, by simpa [go_sem] using h1⟩
theorem mapTo_on {w wr w3 : World} {n k b : Nat} {S : Nat → Int} {K : Nat → Nat} {V : Nat → Nat → Int} (h : MapTo w wr n k S K V) (h3 : Below wr.heap.size wr w3) (hk : k < n) (hb : wr.heap.size ≤ b) (hr : RowI w3 (some ⟨b, 0, none⟩) (K k * 2) (V k)) :
    MapTo w ((w3.setCell ⟨w.heap.size, k * 2, none⟩ (.int .i64 (S k))).setCell ⟨w.heap.size, k * 2 + 1, none⟩ (.slice (some ⟨b, 0, none⟩) (K k) (K k))) n (k + 1) S K V := by
  obtain ⟨hB, hz, hf, hd, hc⟩ := h
  have z3 : w.heap.size < w3.heap.size := Nat.lt_of_lt_of_le hz h3.size
  have B3 : Below w.heap.size w w3 := hB.trans (h3.mono (by omega))
  have fz : ∀ o, w3.frozen? ⟨w.heap.size, o, none⟩ = false := fun o => (h3.frozen (p := ⟨w.heap.size, o, none⟩) hz).trans (hf o)
  have ce : ∀ j, w3.cell? ⟨w.heap.size, j, none⟩ = wr.cell? ⟨w.heap.size, j, none⟩ := fun j => h3.cell (p := ⟨w.heap.size, j, none⟩) hz
  have i0 : (w3.cell? ⟨w.heap.size, k * 2, none⟩).isSome = true := by rw [ce]; exact (hc k hk).1
  have i1 : (w3.cell? ⟨w.heap.size, k * 2 + 1, none⟩).isSome = true := by rw [ce]; exact (hc k hk).2
  obtain ⟨u0, e0⟩ := Option.isSome_iff_exists.1 i0
  obtain ⟨u1, e1⟩ := Option.isSome_iff_exists.1 i1
  refine ⟨(by repeat (first | with_reducible exact Below.refl _ _ | with_reducible exact B3 | with_reducible refine Below.setCell ?_ (by first | omega | (simp; done) | (simp; omega)) _ | with_reducible refine bDrewN ?_ _ | with_reducible refine Below.drew ?_ | with_reducible refine Below.alloc ?_ (by first | omega | (simp; done) | (simp; omega)) _)), by simpa using z3, fun o => by simp [go_sem, fz], fun j hj => ?_, fun j hj => ?_⟩
  · by_cases q : j = k
    · subst q
      exact ⟨b, by simp [go_sem, e0, e1], by simp [go_sem, e0, e1], by omega, row_set (row_set hr (by omega)) (by omega)⟩
    · obtain ⟨b', h1, h2, h4, h5⟩ := hd j (by omega)
      have n0 : j * 2 ≠ k * 2 := by omega
      have n1 : j * 2 ≠ k * 2 + 1 := by omega
      have n2 : j * 2 + 1 ≠ k * 2 := by omega
      have n3 : j * 2 + 1 ≠ k * 2 + 1 := by omega
      exact ⟨b', by simp [go_sem, n0, n1, ce, h1], by simp [go_sem, n2, n3, q, ce, h2], h4, row_set (row_set (h5.below h3) (by omega)) (by omega)⟩
  · have hh := hc j hj
    obtain ⟨v0, g0⟩ := Option.isSome_iff_exists.1 hh.1
    obtain ⟨v1, g1⟩ := Option.isSome_iff_exists.1 hh.2
    by_cases q : j = k
    · subst q; simp [go_sem, e0, e1]
    · have n0 : j * 2 ≠ k * 2 := by omega
      have n1 : j * 2 ≠ k * 2 + 1 := by omega
      have n2 : j * 2 + 1 ≠ k * 2 := by omega
      have n3 : j * 2 + 1 ≠ k * 2 + 1 := by omega
      simp [go_sem, n0, n1, n2, n3, q, ce, g0, g1]
set_option maxRecDepth 20000 in
set_option maxHeartbeats 2000000 in
theorem toSpeedLineS_any (s : Option Addr) (n c : Nat) (S : Nat → Int) (K : Nat → Nat) (V : Nat → Nat → Int) (w : World) (hn : (n : Int) ≤ 1048576) (hK : Hid (∀ j, j < n → (K j : Int) ≤ 1048576)) (HR : Hid (MapR w s n S K V)) :
    Calls Try.prog 20 #[.slice s n c] w fun e w' => ∃ b, e = .returned (.slice (some ⟨b, 0, none⟩) n n) ∧ MapR w' (some ⟨b, 0, none⟩) n S K V ∧ Below w.heap.size w w' := by
  have hmk := make_lines n (by omega)
  have sto := store_sl
  go_enter Try.func20, Try.ntmps20
  go_wp2_with fail
  go_loopw [4] (fun i wr => ∃ k : Nat, k ≤ n ∧ i = .int .i64 k ∧ MapTo w wr n k S K V) (fun i _ => n - (intOf i).toNat)
  case atStart => exact ⟨0, Nat.zero_le _, rfl, mapTo_start w n S K V 29⟩
  case round =>
    obtain ⟨k, hk, rfl, hR⟩ := hrel
    have HT : Hid (MapTo w wr n k S K V) := hR
    obtain ⟨hB, hz, hf, hd, hc⟩ := hR
    by_cases h1 : k < n
    · obtain ⟨g, o, t, c', rfl, hg, c0, c1, RK⟩ := HR.out k h1
      have d0 : wr.cell? ⟨g, o + k * 2, none⟩ = some (.int .i64 (S k)) := (hB.cell (p := ⟨g, o + k * 2, none⟩) hg).trans c0
      have d1 : wr.cell? ⟨g, o + k * 2 + 1, none⟩ = some (.slice t (K k) c') := (hB.cell (p := ⟨g, o + k * 2 + 1, none⟩) hg).trans c1
      have RK2 : Hid (RowI wr t (K k * 2) (V k)) := RK.below hB
      have kk := hK.out k h1
      have k1 : (k : Int) < (n : Int) := by omega
      have HN : Hid (k < n) := h1
      have ci := hc k h1
      have CI : Hid _ := ci
      clear hc hB c0 c1 hg hd RK ci
      go_wp2_with fail
      refine (toSpeedLine_any (S k) t (K k) c' (V k) _ kk RK2.out).mono ?_
      rintro e w3 ⟨b, rfl, lb, R3, h3⟩
      have i0 : (w3.cell? ⟨w.heap.size, k * 2, none⟩).isSome = true := by rw [h3.cell (p := ⟨w.heap.size, k * 2, none⟩) hz]; exact CI.out.1
      have i1 : (w3.cell? ⟨w.heap.size, k * 2 + 1, none⟩).isSome = true := by rw [h3.cell (p := ⟨w.heap.size, k * 2 + 1, none⟩) hz]; exact CI.out.2
      obtain ⟨u0, e0⟩ := Option.isSome_iff_exists.1 i0
      obtain ⟨u1, e1⟩ := Option.isSome_iff_exists.1 i1
      have fz : ∀ o, w3.frozen? ⟨w.heap.size, o, none⟩ = false := fun o => (h3.frozen (p := ⟨w.heap.size, o, none⟩) hz).trans (hf o)
      have z3 : w.heap.size < w3.heap.size := Nat.lt_of_lt_of_le hz h3.size
      have TN : Hid _ := mapTo_on HT.out h3 h1 lb R3
      clear i0 i1 hf d0 d1 R3 h3
      go_wp2
      go_round
      case rel => exact ⟨k + 1, by have := HN.out; omega, by go_num, TN.out⟩
      case measure => have := HN.out; simp [intOf]; omega
    · obtain rfl : k = n := by omega
      go_wp2
      go_ret
      refine ⟨w.heap.size, rfl, fun j hj => ?_, hB⟩
      obtain ⟨b, q1, q2, q3, q4⟩ := hd j hj
      exact ⟨w.heap.size, 0, some ⟨b, 0, none⟩, K j, rfl, hz, by simpa using q1, by simpa using q2, q4⟩
end Go.Proofs.Ytbabedfbadlhjaa
