/-
What is proved: lists of zones: a copy in new memory, its count, whether two are the same; such a list opened.
-/
import Derived.Test.YtedkhhocbnldjaaZoL
import Derived.Deep.OwnRows
import Derived.Deep.Slices
import Derived.Deep.SlicePairs
import Derived.Deep.RegionHeld3
import Derived.Deep.DeepCutAuto
namespace Go.Proofs.Ytedkhhocbnldjaa
set_option maxRecDepth 40000
open Go.ChangeShapes Go.WideShapes Go.ChangeAt Go.RowKit
set_option linter.unusedVariables false
set_option linter.unusedSimpArgs false

def zV (C E R : Nat → Nat) (T : Nat → Int) (j : Nat) : Value := if j % 4 = 0 then .float .f64 (C (j / 4)) else if j % 4 = 1 then .float .f64 (E (j / 4)) else if j % 4 = 2 then .float .f64 (R (j / 4)) else .int .i64 (T (j / 4))
theorem zV0 (C E R : Nat → Nat) (T : Nat → Int) (k : Nat) : zV C E R T (k * 4) = .float .f64 (C k) := by unfold zV; rw [if_pos (by omega), show k * 4 / 4 = k by omega]
theorem zV1 (C E R : Nat → Nat) (T : Nat → Int) (k : Nat) : zV C E R T (k * 4 + 1) = .float .f64 (E k) := by unfold zV; rw [if_neg (by omega), if_pos (by omega), show (k * 4 + 1) / 4 = k by omega]
theorem zV2 (C E R : Nat → Nat) (T : Nat → Int) (k : Nat) : zV C E R T (k * 4 + 2) = .float .f64 (R k) := by unfold zV; rw [if_neg (by omega), if_neg (by omega), if_pos (by omega), show (k * 4 + 2) / 4 = k by omega]
theorem zV3 (C E R : Nat → Nat) (T : Nat → Int) (k : Nat) : zV C E R T (k * 4 + 3) = .int .i64 (T k) := by unfold zV; rw [if_neg (by omega), if_neg (by omega), if_neg (by omega), show (k * 4 + 3) / 4 = k by omega]
/-- A row of any cells. -/
def RowX (w : World) (s : Option Addr) (m : Nat) (V : Nat → Value) : Prop := ∀ j, j < m → ∃ b o, s = some ⟨b, o, none⟩ ∧ b < w.heap.size ∧ w.cell? ⟨b, o + j, none⟩ = some (V j)
theorem RowX.below {w w' : World} {s : Option Addr} {m : Nat} {V : Nat → Value} (h : RowX w s m V) (hb : Below w.heap.size w w') : RowX w' s m V := fun j hj => by
  obtain ⟨b, o, e, hl, hc⟩ := h j hj
  exact ⟨b, o, e, Nat.lt_of_lt_of_le hl hb.size, (hb.cell (p := ⟨b, o + j, none⟩) hl).trans hc⟩
theorem make_Zone (n : Nat) (hn : n ≤ 1048576) (w : World) : (Instr.makeSlice 37 (.int .i64 (n : Int)) (.int .i64 (n : Int))).run Try.prog w = .ok (.slice (some ⟨w.heap.size, 0, none⟩) n n) (w.alloc (.cells (madeCells #[.float .f64 0, .float .f64 0, .float .f64 0, .int .i64 0] (n * 4)) 30)) := by
  have hinfo : (Try.prog.info? 30).map (fun i => (i.zero, i.size, i.bytes)) = some (some (.agg #[.float .f64 0, .float .f64 0, .float .f64 0, .int .i64 0]), 4, 32) := by kernel_rfl
  obtain ⟨i, hi, hzz⟩ := Option.map_eq_some_iff.1 hinfo
  simp only [Prod.mk.injEq] at hzz
  obtain ⟨hz, hs, hb⟩ := hzz
  have hr := run_make (P := Try.prog) w 37 30 i _ Try.underlying37 hi hz .i64 .i64 n n (by omega) (Int.le_refl _) (by rw [hb]; omega) (by omega)
  simp only [Int.toNat_natCast, hs] at hr
  exact hr
def zZ : Nat → Value := zV (fun _ => 0) (fun _ => 0) (fun _ => 0) (fun _ => 0)
def ZoneRow (w wr : World) (n k : Nat) (V : Nat → Value) : Prop := Below w.heap.size w wr ∧ w.heap.size < wr.heap.size ∧ (∀ o, wr.frozen? ⟨w.heap.size, o, none⟩ = false) ∧ ∀ j, j < n * 4 → wr.cell? ⟨w.heap.size, j, none⟩ = some (if j < k * 4 then V j else zZ j)
theorem rowZone_start (w : World) (n : Nat) (V : Nat → Value) (t : TypeId) : ZoneRow w (w.alloc (.cells (madeCells #[.float .f64 0, .float .f64 0, .float .f64 0, .int .i64 0] (n * 4)) t)) n 0 V := by
  refine ⟨below0 _ _, by simp, fun o => by simp [go_sem], fun j hj => ?_⟩
  have hm : (madeCells #[.float .f64 0, .float .f64 0, .float .f64 0, .int .i64 0] (n * 4))[j]? = some (zZ j) := by
    simp only [madeCells, Array.getElem?_map, Array.getElem?_range, hj, if_true, Option.map_some]
    have : j % 4 = 0 ∨ j % 4 = 1 ∨ j % 4 = 2 ∨ j % 4 = 3 := by omega
    rcases this with h | h | h | h
    all_goals
      show some ((#[Value.float .f64 0, Value.float .f64 0, Value.float .f64 0, Value.int .i64 0] : Array Value)[j % 4]!) = _
      unfold zZ zV
      rw [h]; rfl
  rw [if_neg (by omega)]
  simpa [go_sem] using hm
theorem rowZone_on {w wr w3 : World} {n k : Nat} {V : Nat → Value} (h : ZoneRow w wr n k V) (h3 : Below wr.heap.size wr w3) {v0 v1 v2 v3 : Value} (e0 : V (k * 4) = v0) (e1 : V (k * 4 + 1) = v1) (e2 : V (k * 4 + 2) = v2) (e3 : V (k * 4 + 3) = v3) : ZoneRow w ((((w3.setCell ⟨w.heap.size, k * 4, none⟩ v0).setCell ⟨w.heap.size, k * 4 + 1, none⟩ v1).setCell ⟨w.heap.size, k * 4 + 2, none⟩ v2).setCell ⟨w.heap.size, k * 4 + 3, none⟩ v3) n (k + 1) V := by
  subst e0 e1 e2 e3
  obtain ⟨hB, hz, hf, hc⟩ := h
  have z3 : w.heap.size < w3.heap.size := Nat.lt_of_lt_of_le hz h3.size
  have B3 : Below w.heap.size w w3 := hB.trans (h3.mono (by omega))
  have fz : ∀ o, w3.frozen? ⟨w.heap.size, o, none⟩ = false := fun o => (h3.frozen (p := ⟨w.heap.size, o, none⟩) hz).trans (hf o)
  refine ⟨(by repeat (first | with_reducible exact Below.refl _ _ | with_reducible exact B3 | with_reducible refine Below.setCell ?_ (by first | omega | (simp; done) | (simp; omega)) _ | with_reducible refine bDrewN ?_ _ | with_reducible refine Below.drew ?_ | with_reducible refine Below.alloc ?_ (by first | omega | (simp; done) | (simp; omega)) _)), by simpa using z3, fun o => by simp [go_sem, fz], fun j hj => ?_⟩
  have c3 : w3.cell? ⟨w.heap.size, j, none⟩ = some (if j < k * 4 then V j else zZ j) := (h3.cell (p := ⟨w.heap.size, j, none⟩) hz).trans (hc j hj)
  by_cases a3 : j = k * 4 + 3
  · subst a3
    rw [if_pos (by omega)]
    simp [go_sem, c3]
  by_cases a2 : j = k * 4 + 2
  · subst a2
    rw [if_pos (by omega)]
    simp [go_sem, c3]
  by_cases a1 : j = k * 4 + 1
  · subst a1
    rw [if_pos (by omega)]
    simp [go_sem, c3]
  by_cases a0 : j = k * 4
  · subst a0
    rw [if_pos (by omega)]
    simp [go_sem, c3]
  have e : (if j < (k + 1) * 4 then V j else zZ j) = (if j < k * 4 then V j else zZ j) := by
    by_cases q : j < k * 4
    · rw [if_pos q, if_pos (by omega)]
    · rw [if_neg q, if_neg (by omega)]
  rw [e]
  simp [go_sem, c3, a0, a1, a2, a3]
set_option maxRecDepth 20000 in
set_option maxHeartbeats 4000000 in
theorem toZoneS_any (s : Option Addr) (n c : Nat) (C E R : Nat → Nat) (T : Nat → Int) (w : World) (hn : (n : Int) ≤ 1048576) (HR : Hid (RowX w s (n * 4) (zV C E R T))) :
    Calls Try.prog 13 #[.slice s n c] w fun q w' => q = .returned (.slice (some ⟨w.heap.size, 0, none⟩) n n) ∧ RowX w' (some ⟨w.heap.size, 0, none⟩) (n * 4) (zV C E R T) ∧ Below w.heap.size w w' := by
  have st := store_fp
  have hmk := make_Zone n (by omega)
  go_enter Try.func13, Try.ntmps13
  go_wp2_with fail
  go_loopw [4] (fun i wr => ∃ k : Nat, k ≤ n ∧ i = .int .i64 k ∧ Hid (ZoneRow w wr n k (zV C E R T))) (fun i _ => n - (intOf i).toNat)
  case atStart => exact ⟨0, Nat.zero_le _, rfl, rowZone_start w n _ 30⟩
  case round =>
    obtain ⟨k, hk, rfl, HZ⟩ := hrel
    obtain ⟨hB, hz, hf, hc⟩ := HZ.out
    by_cases h1 : k < n
    · obtain ⟨g, o, rfl, hg0, c0⟩ := HR.out (k * 4) (by omega)
      obtain ⟨g', o', e', hg1, c1⟩ := HR.out (k * 4 + 1) (by omega)
      cases e'
      obtain ⟨g', o', e', hg2, c2⟩ := HR.out (k * 4 + 2) (by omega)
      cases e'
      obtain ⟨g', o', e', hg3, c3⟩ := HR.out (k * 4 + 3) (by omega)
      cases e'
      rw [zV0] at c0
      have d0 : wr.cell? ⟨g, o + k * 4, none⟩ = some (.float .f64 (C k)) := (hB.cell (p := ⟨g, o + (k * 4), none⟩) hg0).trans c0
      rw [zV1] at c1
      have d1 : wr.cell? ⟨g, o + k * 4 + 1, none⟩ = some (.float .f64 (E k)) := (hB.cell (p := ⟨g, o + (k * 4 + 1), none⟩) hg1).trans c1
      rw [zV2] at c2
      have d2 : wr.cell? ⟨g, o + k * 4 + 2, none⟩ = some (.float .f64 (R k)) := (hB.cell (p := ⟨g, o + (k * 4 + 2), none⟩) hg2).trans c2
      rw [zV3] at c3
      have d3 : wr.cell? ⟨g, o + k * 4 + 3, none⟩ = some (.int .i64 (T k)) := (hB.cell (p := ⟨g, o + (k * 4 + 3), none⟩) hg3).trans c3
      have zg : g < wr.heap.size := Nat.lt_of_lt_of_le hg0 hB.size
      have e0 := hc (k * 4) (by omega)
      have e1 := hc (k * 4 + 1) (by omega)
      have e2 := hc (k * 4 + 2) (by omega)
      have e3 := hc (k * 4 + 3) (by omega)
      have k1 : (k : Int) < (n : Int) := by omega
      clear hc hB c0 hg0 c1 hg1 c2 hg2 c3 hg3
      go_wp2_with fail
      refine (toZone_any _ _ _ _ _).mono ?_
      rintro r w3 ⟨rfl, h3⟩
      have f0 : w3.cell? ⟨w.heap.size, k * 4, none⟩ = _ := (h3.cell (p := ⟨w.heap.size, k * 4, none⟩) hz).trans e0
      have y0 : w3.frozen? ⟨w.heap.size, k * 4, none⟩ = false := (h3.frozen (p := ⟨w.heap.size, k * 4, none⟩) hz).trans (hf _)
      have f1 : w3.cell? ⟨w.heap.size, k * 4 + 1, none⟩ = _ := (h3.cell (p := ⟨w.heap.size, k * 4 + 1, none⟩) hz).trans e1
      have y1 : w3.frozen? ⟨w.heap.size, k * 4 + 1, none⟩ = false := (h3.frozen (p := ⟨w.heap.size, k * 4 + 1, none⟩) hz).trans (hf _)
      have f2 : w3.cell? ⟨w.heap.size, k * 4 + 2, none⟩ = _ := (h3.cell (p := ⟨w.heap.size, k * 4 + 2, none⟩) hz).trans e2
      have y2 : w3.frozen? ⟨w.heap.size, k * 4 + 2, none⟩ = false := (h3.frozen (p := ⟨w.heap.size, k * 4 + 2, none⟩) hz).trans (hf _)
      have f3 : w3.cell? ⟨w.heap.size, k * 4 + 3, none⟩ = _ := (h3.cell (p := ⟨w.heap.size, k * 4 + 3, none⟩) hz).trans e3
      have y3 : w3.frozen? ⟨w.heap.size, k * 4 + 3, none⟩ = false := (h3.frozen (p := ⟨w.heap.size, k * 4 + 3, none⟩) hz).trans (hf _)
      have z3 : w.heap.size < w3.heap.size := Nat.lt_of_lt_of_le hz h3.size
      have H3 : Hid (Below wr.heap.size wr w3) := h3
      clear e0 d0 e1 d1 e2 d2 e3 d3 hf h3
      go_wp2
      go_roundw
      case rel => exact ⟨k + 1, by omega, by go_num, rowZone_on HZ.out H3.out (zV0 _ _ _ _ _) (zV1 _ _ _ _ _) (zV2 _ _ _ _ _) (zV3 _ _ _ _ _)⟩
      case measure => simp [intOf]; omega
    · obtain rfl : k = n := by omega
      go_wp2
      go_ret
      exact ⟨rfl, fun j hj => ⟨_, 0, rfl, hz, by rw [Nat.zero_add, hc j hj, if_pos hj]⟩, hB⟩
set_option maxHeartbeats 400000 in
theorem szZoneS_on (s : Option Addr) (n c : Nat) (l : Int) (w : World) (h0 : 0 ≤ l) (h1 : l ≤ 1048576) (hn : (n : Int) ≤ l) : Calls Try.prog 11 #[.slice s n c, .int .i64 l] w fun e w' => e = .returned (.int .i64 (l - (n : Int))) ∧ w' = w := by
  go_enter Try.func11, Try.ntmps11
  go_wp2
  go_ret
  exact ⟨ret_int rfl, rfl⟩
set_option maxHeartbeats 400000 in
theorem szZoneS_off (s : Option Addr) (n c : Nat) (l : Int) (w : World) (h0 : 0 ≤ l) (h1 : l ≤ 1048576) (hn : l < (n : Int)) (hn2 : (n : Int) ≤ 9223372036854775807) : Calls Try.prog 11 #[.slice s n c, .int .i64 l] w fun e w' => e = .returned (.int .i64 (-1)) ∧ w' = w := by
  go_enter Try.func11, Try.ntmps11
  go_wp2
  go_ret
  exact ⟨ret_int rfl, rfl⟩
theorem keepZone {W W' : World} {p q i0 j0 i1 j1 i2 j2 i3 j3 : Nat} {a0 b0 a1 b1 a2 b2 a3 b3 : Value} (h0 : W.cell? ⟨p, i0, none⟩ = some a0) (h1 : W.cell? ⟨p, i1, none⟩ = some a1) (h2 : W.cell? ⟨p, i2, none⟩ = some a2) (h3 : W.cell? ⟨p, i3, none⟩ = some a3) (g0 : W.cell? ⟨q, j0, none⟩ = some b0) (g1 : W.cell? ⟨q, j1, none⟩ = some b1) (g2 : W.cell? ⟨q, j2, none⟩ = some b2) (g3 : W.cell? ⟨q, j3, none⟩ = some b3) (hp : p < W.heap.size) (hq : q < W.heap.size) (hb : Below W.heap.size W W') :
    W'.cell? ⟨p, i0, none⟩ = some a0 ∧ W'.cell? ⟨p, i1, none⟩ = some a1 ∧ W'.cell? ⟨p, i2, none⟩ = some a2 ∧ W'.cell? ⟨p, i3, none⟩ = some a3 ∧ W'.cell? ⟨q, j0, none⟩ = some b0 ∧ W'.cell? ⟨q, j1, none⟩ = some b1 ∧ W'.cell? ⟨q, j2, none⟩ = some b2 ∧ W'.cell? ⟨q, j3, none⟩ = some b3 :=
  ⟨(hb.cell (p := ⟨p, i0, none⟩) hp).trans h0, (hb.cell (p := ⟨p, i1, none⟩) hp).trans h1, (hb.cell (p := ⟨p, i2, none⟩) hp).trans h2, (hb.cell (p := ⟨p, i3, none⟩) hp).trans h3, (hb.cell (p := ⟨q, j0, none⟩) hq).trans g0, (hb.cell (p := ⟨q, j1, none⟩) hq).trans g1, (hb.cell (p := ⟨q, j2, none⟩) hq).trans g2, (hb.cell (p := ⟨q, j3, none⟩) hq).trans g3⟩
set_option maxRecDepth 20000 in
set_option maxHeartbeats 4000000 in
theorem eqZoneS_any (s t : Option Addr) (n c d : Nat) (C E R : Nat → Nat) (T : Nat → Int) (w : World) (hn : (n : Int) ≤ 1048576) (hb : ∀ k, k < n → C k < 18446744073709551616 ∧ E k < 18446744073709551616 ∧ R k < 18446744073709551616) (HR : Hid (RowX w s (n * 4) (zV C E R T))) (HT : Hid (RowX w t (n * 4) (zV C E R T))) :
    Calls Try.prog 15 #[.slice s n c, .slice t n d] w fun e w' => e = .returned (.bool true) ∧ Below w.heap.size w w' := by
  go_enter Try.func15, Try.ntmps15
  go_wp2_with fail
  go_loopw [5] (fun i wr => ∃ k : Nat, k ≤ n ∧ i = .int .i64 k ∧ Below w.heap.size w wr) (fun i _ => n - (intOf i).toNat)
  case atStart => exact ⟨0, Nat.zero_le _, rfl, Below.refl _ _⟩
  case round =>
    obtain ⟨k, hk, rfl, hB⟩ := hrel
    by_cases h1 : k < n
    · obtain ⟨g, o, rfl, hg0, c0⟩ := HR.out (k * 4) (by omega)
      obtain ⟨g', o', e', hg1, c1⟩ := HR.out (k * 4 + 1) (by omega)
      cases e'
      obtain ⟨g', o', e', hg2, c2⟩ := HR.out (k * 4 + 2) (by omega)
      cases e'
      obtain ⟨g', o', e', hg3, c3⟩ := HR.out (k * 4 + 3) (by omega)
      cases e'
      rw [zV0] at c0
      have u0 : wr.cell? ⟨g, o + k * 4, none⟩ = some (.float .f64 (C k)) := (hB.cell (p := ⟨g, o + (k * 4), none⟩) hg0).trans c0
      rw [zV1] at c1
      have u1 : wr.cell? ⟨g, o + k * 4 + 1, none⟩ = some (.float .f64 (E k)) := (hB.cell (p := ⟨g, o + (k * 4 + 1), none⟩) hg1).trans c1
      rw [zV2] at c2
      have u2 : wr.cell? ⟨g, o + k * 4 + 2, none⟩ = some (.float .f64 (R k)) := (hB.cell (p := ⟨g, o + (k * 4 + 2), none⟩) hg2).trans c2
      rw [zV3] at c3
      have u3 : wr.cell? ⟨g, o + k * 4 + 3, none⟩ = some (.int .i64 (T k)) := (hB.cell (p := ⟨g, o + (k * 4 + 3), none⟩) hg3).trans c3
      have zg : g < wr.heap.size := Nat.lt_of_lt_of_le hg0 hB.size
      obtain ⟨p, q, rfl, hp0, y0⟩ := HT.out (k * 4) (by omega)
      obtain ⟨g', o', e', hp1, y1⟩ := HT.out (k * 4 + 1) (by omega)
      cases e'
      obtain ⟨g', o', e', hp2, y2⟩ := HT.out (k * 4 + 2) (by omega)
      cases e'
      obtain ⟨g', o', e', hp3, y3⟩ := HT.out (k * 4 + 3) (by omega)
      cases e'
      rw [zV0] at y0
      have v0 : wr.cell? ⟨p, q + k * 4, none⟩ = some (.float .f64 (C k)) := (hB.cell (p := ⟨p, q + (k * 4), none⟩) hp0).trans y0
      rw [zV1] at y1
      have v1 : wr.cell? ⟨p, q + k * 4 + 1, none⟩ = some (.float .f64 (E k)) := (hB.cell (p := ⟨p, q + (k * 4 + 1), none⟩) hp1).trans y1
      rw [zV2] at y2
      have v2 : wr.cell? ⟨p, q + k * 4 + 2, none⟩ = some (.float .f64 (R k)) := (hB.cell (p := ⟨p, q + (k * 4 + 2), none⟩) hp2).trans y2
      rw [zV3] at y3
      have v3 : wr.cell? ⟨p, q + k * 4 + 3, none⟩ = some (.int .i64 (T k)) := (hB.cell (p := ⟨p, q + (k * 4 + 3), none⟩) hp3).trans y3
      have zp : p < wr.heap.size := Nat.lt_of_lt_of_le hp0 hB.size
      have k1 : (k : Int) < (n : Int) := by omega
      have HB : Hid (Below w.heap.size w wr) := hB
      obtain ⟨lc, le, lr⟩ := hb k h1
      have HE : Hid (∀ w, Calls Try.prog 28 #[.agg #[.float .f64 (C k), .float .f64 (E k), .float .f64 (R k), .int .i64 (T k)], .agg #[.float .f64 (C k), .float .f64 (E k), .float .f64 (R k), .int .i64 (T k)]] w fun q w' => q = .returned (.bool true) ∧ Below w.heap.size w w') := fun w => eqZone_same _ _ _ _ lc le lr w
      clear hB c0 hg0 y0 hp0 c1 hg1 y1 hp1 c2 hg2 y2 hp2 c3 hg3 y3 hp3 lc le lr
      go_wp2_with fail
      go_region_held3 (fun w' => w'.cell? ⟨g, o + k * 4, none⟩ = some (.float .f64 (C k)) ∧ w'.cell? ⟨g, o + k * 4 + 1, none⟩ = some (.float .f64 (E k)) ∧ w'.cell? ⟨g, o + k * 4 + 2, none⟩ = some (.float .f64 (R k)) ∧ w'.cell? ⟨g, o + k * 4 + 3, none⟩ = some (.int .i64 (T k)) ∧ w'.cell? ⟨p, q + k * 4, none⟩ = some (.float .f64 (C k)) ∧ w'.cell? ⟨p, q + k * 4 + 1, none⟩ = some (.float .f64 (E k)) ∧ w'.cell? ⟨p, q + k * 4 + 2, none⟩ = some (.float .f64 (R k)) ∧ w'.cell? ⟨p, q + k * 4 + 3, none⟩ = some (.int .i64 (T k))) (first | (refine keepZone u0 u1 u2 u3 v0 v1 v2 v3 zg zp ?_; exact (by repeat (first | with_reducible exact Below.refl _ _ | with_reducible exact B3 | with_reducible refine Below.setCell ?_ (by first | omega | (simp; done) | (simp; omega)) _ | with_reducible refine bDrewN ?_ _ | with_reducible refine Below.drew ?_ | with_reducible refine Below.alloc ?_ (by first | omega | (simp; done) | (simp; omega)) _)))) (first
        | (go_at_call 28; refine (HE.out _).mono ?_; rintro r w3 ⟨rfl, h3⟩; have B3 : Below wr.heap.size wr w3 := Below.trans (by repeat (first | with_reducible exact Below.refl _ _ | with_reducible refine Below.setCell ?_ (by first | omega | (simp; done) | (simp; omega)) _ | with_reducible refine bDrewN ?_ _ | with_reducible refine Below.drew ?_ | with_reducible refine Below.alloc ?_ (by first | omega | (simp; done) | (simp; omega)) _)) (h3.mono (by first | omega | (simp; done) | (simp; omega)))))
      all_goals
        have B4 : Below w.heap.size w w3 := HB.out.trans (B3.mono HB.out.size)
        go_wp2
        go_round
        case rel => exact ⟨k + 1, by omega, by go_num, (by repeat (first | with_reducible exact Below.refl _ _ | with_reducible exact B4 | with_reducible refine Below.setCell ?_ (by first | omega | (simp; done) | (simp; omega)) _ | with_reducible refine bDrewN ?_ _ | with_reducible refine Below.drew ?_ | with_reducible refine Below.alloc ?_ (by first | omega | (simp; done) | (simp; omega)) _))⟩
        case measure => simp [intOf]; omega
    · obtain rfl : k = n := by omega
      go_wp2
      go_ret
      exact ⟨rfl, (by repeat (first | with_reducible exact Below.refl _ _ | with_reducible exact hB | with_reducible refine Below.setCell ?_ (by first | omega | (simp; done) | (simp; omega)) _ | with_reducible refine bDrewN ?_ _ | with_reducible refine Below.drew ?_ | with_reducible refine Below.alloc ?_ (by first | omega | (simp; done) | (simp; omega)) _))⟩
theorem addr_addF (b o k : Nat) : (⟨b, o, none⟩ : Addr).add k = ⟨b, o + k, none⟩ := by
  unfold Addr.add
  split
  · rename_i h; subst h; rfl
  · rfl
theorem slice_spotF {w : World} {b0 : Nat} {t e : TypeId} {a : Addr} {n c : Nat} (ht : Try.prog.underlying t = some (.slice e)) (hv : Value.okWide Try.prog w .any b0 t (.slice (some a) n c)) : a.spot = none := by
  simp only [Value.okWide, ht, Cell.okWide, Cell.ok] at hv
  exact hv.2.2.2.1
theorem cell_ltF {w : World} {p : Addr} {v : Value} (h : w.cell? p = some v) : p.block < w.heap.size := by
  rcases Nat.lt_or_ge p.block w.heap.size with z | z
  · exact z
  · exfalso
    simp [World.cell?, Array.getElem?_eq_none z] at h
theorem wf_f64 {x : Nat} (h : (Lit.float .f64 x).wf = true) : x < 18446744073709551616 := by
  simp only [Lit.wf, decide_eq_true_eq] at h
  exact h
theorem trod_f64 {H : Type} {enc : TypeId × Value → H} {P : Program} {w : World} {base : Nat} {sp : Nat → Bool} {held : Bool} {fuel : Nat} {t : TypeId} {cs : List Value} {x : DataW H × List MemPlace} (ht : P.underlying t = some (.float .f64)) (h : DataW.trod enc P w base sp held fuel t cs = some x) : ∃ n, cs = [.float .f64 n] ∧ n < 18446744073709551616 := by
  cases fuel with
  | zero => simp [DataW.trod] at h
  | succ n =>
    unfold DataW.trod at h
    simp only [ht] at h
    split at h <;> simp_all
    all_goals (first | exact wf_f64 (by simp_all) | (simp_all [Lit.wf]; done))
/-- THE LIST OPENED: zones. -/
theorem open_zones {H : Type} {enc : TypeId × Value → H} {w : World} {b0 : Nat} {t e : TypeId} {f0 f1 f2 p0 p1 : Field} {v : Value} {d : DataW H} {ps : List MemPlace} {sp : Nat → Bool} {held : Bool} (ht : Try.prog.underlying t = some (.slice e)) (he : Try.prog.underlying e = some (.struct #[f0, f1, f2])) (hp : Try.prog.underlying f0.type = some (.struct #[p0, p1]))
    (ce : Try.prog.cellsOf e = 4) (o0 : f0.offset = 0) (o1 : f1.offset = 2) (o2 : f2.offset = 3) (q0 : p0.offset = 0) (q1 : p1.offset = 1) (c0 : Try.prog.cellsOf f0.type = 2) (c1 : Try.prog.cellsOf f1.type = 1) (c2 : Try.prog.cellsOf f2.type = 1) (d0 : Try.prog.cellsOf p0.type = 1) (d1 : Try.prog.cellsOf p1.type = 1)
    (i0 : Try.prog.underlying p0.type = some (.float .f64)) (i1 : Try.prog.underlying p1.type = some (.float .f64)) (i2 : Try.prog.underlying f1.type = some (.float .f64)) (i3 : Try.prog.underlying f2.type = some (.int .i64))
    (hv : Value.okWide Try.prog w .any b0 t v) (h : DataW.Trod enc Try.prog w 0 sp held t v d ps) : ∃ s n c C E R T, v = .slice s n c ∧ n ≤ 9223372036854775807 ∧ (∀ k, k < n → C k < 18446744073709551616 ∧ E k < 18446744073709551616 ∧ R k < 18446744073709551616) ∧ RowX w s (n * 4) (zV C E R T) := by
  have hsl : ∃ s n c, v = .slice s n c := by
    simp only [Value.okWide, ht, Cell.okWide] at hv
    cases v <;> simp_all [Cell.ok]
  obtain ⟨s, n, c, rfl⟩ := hsl
  obtain ⟨fuel, hf⟩ := h
  have hf' : DataW.trod enc Try.prog w 0 sp held fuel t [.slice s n c] = some (d, ps) := hf
  rcases Go.Deep.open_slice ht hf' with ⟨e1, _⟩ | ⟨a, len, cap, m, k, D, Pl, e1, _, hl, hm, hmm, _, hx⟩
  · simp only [List.cons.injEq, and_true, Value.slice.injEq] at e1
    obtain ⟨rfl, rfl, rfl⟩ := e1
    exact ⟨none, 0, 0, fun _ => 0, fun _ => 0, fun _ => 0, fun _ => 0, rfl, by omega, fun k hk => by omega, fun j hj => by omega⟩
  · simp only [List.cons.injEq, and_true, Value.slice.injEq] at e1
    obtain ⟨rfl, rfl, rfl⟩ := e1
    have hsp := slice_spotF ht hv
    obtain ⟨b, o, spot⟩ := a
    simp only at hsp
    subst hsp
    have hle : n ≤ m := by rw [hmm]; split <;> omega
    have each : ∀ i, i < n → ∃ z : Nat × Nat × Nat × Int, (w.cell? ⟨b, o + i * 4, none⟩ = some (.float .f64 z.1) ∧ w.cell? ⟨b, o + (i * 4 + 1), none⟩ = some (.float .f64 z.2.1) ∧ w.cell? ⟨b, o + (i * 4 + 2), none⟩ = some (.float .f64 z.2.2.1) ∧ w.cell? ⟨b, o + (i * 4 + 3), none⟩ = some (.int .i64 z.2.2.2)) ∧ z.1 < 18446744073709551616 ∧ z.2.1 < 18446744073709551616 ∧ z.2.2.1 < 18446744073709551616 := by
      intro i hi
      obtain ⟨cs', h1, h2⟩ := hx i (by omega)
      rw [ce] at h1
      obtain ⟨_, hlen, hcell⟩ := World.cells?_some h1
      obtain ⟨xs, k', hk, hxy, _, hxl, hf⟩ := DataW.trod_struct he h2
      match xs, hxl, cs', hlen with
      | [y0, y1, y2], _, [v0, v1, v2, v3], _ =>
        have g0 := hf 0 f0 rfl
        have g1 := hf 1 f1 rfl
        have g2 := hf 2 f2 rfl
        simp [o0, c0, o1, c1, o2, c2] at g0 g1 g2
        obtain ⟨ys, k2, hk2, hxy2, _, hyl, hf2⟩ := DataW.trod_struct hp g0
        match ys, hyl with
        | [r0, r1], _ =>
          have m0 := hf2 0 p0 rfl
          have m1 := hf2 1 p1 rfl
          simp [q0, d0, q1, d1] at m0 m1
          have e0 := hcell 0 (by omega)
          have e1 := hcell 1 (by omega)
          have e2 := hcell 2 (by omega)
          have e3 := hcell 3 (by omega)
          rw [Go.Deep.add_add, addr_addF] at e0 e1 e2 e3
          obtain ⟨z0, t0, l0⟩ := trod_f64 i0 m0
          obtain ⟨z1, t1, l1⟩ := trod_f64 i1 m1
          obtain ⟨z2, t2, l2⟩ := trod_f64 i2 g1
          obtain ⟨z3, t3, _, _⟩ := DataW.trod_int i3 g2
          simp only [List.cons.injEq, and_true] at t0 t1 t2 t3
          subst t0 t1 t2 t3
          exact ⟨(z0, z1, z2, z3), ⟨by simpa using e0, by simpa using e1, by simpa using e2, by simpa using e3⟩, l0, l1, l2⟩
    obtain ⟨f, hfn⟩ := Go.Deep.choose_lt each
    have mx : maxLen = 9223372036854775807 := by decide
    refine ⟨some ⟨b, o, none⟩, n, c, fun k => (f k).1, fun k => (f k).2.1, fun k => (f k).2.2.1, fun k => (f k).2.2.2, rfl, by omega, fun k hk => (hfn k hk).2, fun j hj => ?_⟩
    obtain ⟨⟨h0, h1, h2, h3⟩, _⟩ := hfn (j / 4) (by omega)
    refine ⟨b, o, rfl, cell_ltF h0, ?_⟩
    have hj : j % 4 = 0 ∨ j % 4 = 1 ∨ j % 4 = 2 ∨ j % 4 = 3 := by omega
    rcases hj with z | z | z | z
    · have q : j = j / 4 * 4 := by omega
      rw [← q] at h0; simpa [zV, z] using h0
    · have q : j = j / 4 * 4 + 1 := by omega
      rw [← q] at h1; simpa [zV, z] using h1
    · have q : j = j / 4 * 4 + 2 := by omega
      rw [← q] at h2; simpa [zV, z] using h2
    · have q : j = j / 4 * 4 + 3 := by omega
      rw [← q] at h3; simpa [zV, z] using h3
end Go.Proofs.Ytedkhhocbnldjaa
