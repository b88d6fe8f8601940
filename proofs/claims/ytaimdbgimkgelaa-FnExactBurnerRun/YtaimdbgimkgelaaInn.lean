/-
What is proved: what the law's own helpers do with a list of what is seen: a copy in new memory, its count, whether two are the same; such a list opened.
-/
import Derived.Test.YtaimdbgimkgelaaBoR
import Derived.Deep.OwnRows
import Derived.Deep.RegionHeld3
import Derived.Deep.DeepCutAuto
import Derived.Deep.Slices
namespace Go.Proofs.Ytaimdbgimkgelaa
set_option maxRecDepth 40000
open Go.ChangeShapes Go.WideShapes Go.ChangeAt Go.RowKit
set_option linter.unusedVariables false
set_option linter.unusedSimpArgs false

set_option maxHeartbeats 800000 in
theorem toIn_any (x0 x1 x2 x3 x4 x5 : Bool) (w : World) : Calls Try.prog 13 #[.agg #[.bool x0, .bool x1, .bool x2, .bool x3, .bool x4, .bool x5]] w fun r w' => r = .returned (.agg #[.bool x0, .bool x1, .bool x2, .bool x3, .bool x4, .bool x5]) ∧ Below w.heap.size w w' := by
  go_enter Try.func13, Try.ntmps13
  go_wp2
  exact bodyPost_ret (v := .agg #[.bool x0, .bool x1, .bool x2, .bool x3, .bool x4, .bool x5]) (by simp [results, Try.results13, go_sem]) rfl ⟨rfl, (by repeat (first | with_reducible exact Below.refl _ _ | with_reducible refine Below.setCell ?_ (by first | omega | (simp; done) | (simp; omega)) _ | with_reducible refine bDrewN ?_ _ | with_reducible refine Below.drew ?_ | with_reducible refine Below.alloc ?_ (by first | omega | (simp; done) | (simp; omega)) _))⟩
theorem make_In (n : Nat) (hn : n ≤ 1048576) (w : World) : (Instr.makeSlice 44 (.int .i64 (n : Int)) (.int .i64 (n : Int))).run Try.prog w = .ok (.slice (some ⟨w.heap.size, 0, none⟩) n n) (w.alloc (.cells (madeCells #[.bool false, .bool false, .bool false, .bool false, .bool false, .bool false] (n * 6)) 34)) := by
  have hinfo : (Try.prog.info? 34).map (fun i => (i.zero, i.size, i.bytes)) = some (some (.agg #[.bool false, .bool false, .bool false, .bool false, .bool false, .bool false]), 6, 6) := by kernel_rfl
  obtain ⟨i, hi, hzz⟩ := Option.map_eq_some_iff.1 hinfo
  simp only [Prod.mk.injEq] at hzz
  obtain ⟨hz, hs, hb⟩ := hzz
  have hr := run_make (P := Try.prog) w 44 34 i _ Try.underlying44 hi hz .i64 .i64 n n (by omega) (Int.le_refl _) (by rw [hb]; omega) (by omega)
  simp only [Int.toNat_natCast, hs] at hr
  exact hr
/-- A copy on its way: k of n are there, in the block at the end of w. -/
def InRow (w wr : World) (n k : Nat) (V : Nat → Bool) : Prop := Below w.heap.size w wr ∧ w.heap.size < wr.heap.size ∧ (∀ o, wr.frozen? ⟨w.heap.size, o, none⟩ = false) ∧ ∀ j, j < n * 6 → wr.cell? ⟨w.heap.size, j, none⟩ = some (.bool (if j < k * 6 then V j else false))
theorem rowIn_start (w : World) (n : Nat) (V : Nat → Bool) (t : TypeId) : InRow w (w.alloc (.cells (madeCells #[.bool false, .bool false, .bool false, .bool false, .bool false, .bool false] (n * 6)) t)) n 0 V := by
  refine ⟨below0 _ _, by simp, fun o => by simp [go_sem], fun j hj => ?_⟩
  have hm : (madeCells #[.bool false, .bool false, .bool false, .bool false, .bool false, .bool false] (n * 6))[j]? = some (.bool false) := by
    simp only [madeCells, Array.getElem?_map, Array.getElem?_range, hj, if_true, Option.map_some]
    have : j % 6 = 0 ∨ j % 6 = 1 ∨ j % 6 = 2 ∨ j % 6 = 3 ∨ j % 6 = 4 ∨ j % 6 = 5 := by omega
    rcases this with h | h | h | h | h | h
    all_goals
      show some ((#[Value.bool false, Value.bool false, Value.bool false, Value.bool false, Value.bool false, Value.bool false] : Array Value)[j % 6]!) = _
      rw [h]; rfl
  rw [if_neg (by omega)]
  simpa [go_sem] using hm
theorem rowIn_on {w wr w3 : World} {n k : Nat} {V : Nat → Bool} (hB : Below w.heap.size w wr) (hz : w.heap.size < wr.heap.size) (hc : ∀ j, j < n * 6 → wr.cell? ⟨w.heap.size, j, none⟩ = some (.bool (if j < k * 6 then V j else false))) (h3 : Below wr.heap.size wr w3) (fz : ∀ o, w3.frozen? ⟨w.heap.size, o, none⟩ = false) :
    InRow w ((((((w3.setCell ⟨w.heap.size, k * 6, none⟩ (.bool (V (k * 6)))).setCell ⟨w.heap.size, k * 6 + 1, none⟩ (.bool (V (k * 6 + 1)))).setCell ⟨w.heap.size, k * 6 + 2, none⟩ (.bool (V (k * 6 + 2)))).setCell ⟨w.heap.size, k * 6 + 3, none⟩ (.bool (V (k * 6 + 3)))).setCell ⟨w.heap.size, k * 6 + 4, none⟩ (.bool (V (k * 6 + 4)))).setCell ⟨w.heap.size, k * 6 + 5, none⟩ (.bool (V (k * 6 + 5)))) n (k + 1) V := by
  have z3 : w.heap.size < w3.heap.size := Nat.lt_of_lt_of_le hz h3.size
  have B3 : Below w.heap.size w w3 := hB.trans (h3.mono (by omega))
  refine ⟨(by repeat (first | with_reducible exact Below.refl _ _ | with_reducible exact B3 | with_reducible refine Below.setCell ?_ (by first | omega | (simp; done) | (simp; omega)) _ | with_reducible refine bDrewN ?_ _ | with_reducible refine Below.drew ?_ | with_reducible refine Below.alloc ?_ (by first | omega | (simp; done) | (simp; omega)) _)), by simpa using z3, fun o => by simp [go_sem, fz], fun j hj => ?_⟩
  have c3 : w3.cell? ⟨w.heap.size, j, none⟩ = some (.bool (if j < k * 6 then V j else false)) := (h3.cell (p := ⟨w.heap.size, j, none⟩) hz).trans (hc j hj)
  by_cases a5 : j = k * 6 + 5
  · subst a5
    rw [if_pos (by omega)]
    simp [go_sem, c3]
  by_cases a4 : j = k * 6 + 4
  · subst a4
    rw [if_pos (by omega)]
    simp [go_sem, c3]
  by_cases a3 : j = k * 6 + 3
  · subst a3
    rw [if_pos (by omega)]
    simp [go_sem, c3]
  by_cases a2 : j = k * 6 + 2
  · subst a2
    rw [if_pos (by omega)]
    simp [go_sem, c3]
  by_cases a1 : j = k * 6 + 1
  · subst a1
    rw [if_pos (by omega)]
    simp [go_sem, c3]
  by_cases a0 : j = k * 6
  · subst a0
    rw [if_pos (by omega)]
    simp [go_sem, c3]
  have e : (if j < (k + 1) * 6 then V j else false) = (if j < k * 6 then V j else false) := by
    by_cases q : j < k * 6
    · rw [if_pos q, if_pos (by omega)]
    · rw [if_neg q, if_neg (by omega)]
  rw [e]
  simp [go_sem, c3, a0, a1, a2, a3, a4, a5]
set_option maxRecDepth 20000 in
set_option maxHeartbeats 4000000 in
theorem toInS_any (s : Option Addr) (n c : Nat) (V : Nat → Bool) (w : World) (hn : (n : Int) ≤ 1048576) (HR : Hid (RowB w s (n * 6) V)) :
    Calls Try.prog 19 #[.slice s n c] w fun e w' => e = .returned (.slice (some ⟨w.heap.size, 0, none⟩) n n) ∧ w.heap.size < w'.heap.size ∧ OwnB w.heap.size w' (some ⟨w.heap.size, 0, none⟩) (n * 6) V ∧ Below w.heap.size w w' := by
  have hmk := make_In n (by omega)
  go_enter Try.func19, Try.ntmps19
  go_wp2_with fail
  go_loopw [4] (fun i wr => ∃ k : Nat, k ≤ n ∧ i = .int .i64 k ∧ InRow w wr n k V) (fun i _ => n - (intOf i).toNat)
  case atStart => exact ⟨0, Nat.zero_le _, rfl, rowIn_start w n V 34⟩
  case round =>
    obtain ⟨k, hk, rfl, hB, hz, hf, hc⟩ := hrel
    by_cases h1 : k < n
    · obtain ⟨g, o, rfl, hg, c0⟩ := HR.out (k * 6) (by omega)
      obtain ⟨g', o', e', hg1, c1⟩ := HR.out (k * 6 + 1) (by omega)
      cases e'
      obtain ⟨g', o', e', hg2, c2⟩ := HR.out (k * 6 + 2) (by omega)
      cases e'
      obtain ⟨g', o', e', hg3, c3⟩ := HR.out (k * 6 + 3) (by omega)
      cases e'
      obtain ⟨g', o', e', hg4, c4⟩ := HR.out (k * 6 + 4) (by omega)
      cases e'
      obtain ⟨g', o', e', hg5, c5⟩ := HR.out (k * 6 + 5) (by omega)
      cases e'
      have d0 : wr.cell? ⟨g, o + k * 6, none⟩ = some (.bool (V (k * 6))) := (hB.cell (p := ⟨g, o + k * 6, none⟩) hg).trans c0
      have d1 : wr.cell? ⟨g, o + k * 6 + 1, none⟩ = some (.bool (V (k * 6 + 1))) := (hB.cell (p := ⟨g, o + (k * 6 + 1), none⟩) hg).trans c1
      have d2 : wr.cell? ⟨g, o + k * 6 + 2, none⟩ = some (.bool (V (k * 6 + 2))) := (hB.cell (p := ⟨g, o + (k * 6 + 2), none⟩) hg).trans c2
      have d3 : wr.cell? ⟨g, o + k * 6 + 3, none⟩ = some (.bool (V (k * 6 + 3))) := (hB.cell (p := ⟨g, o + (k * 6 + 3), none⟩) hg).trans c3
      have d4 : wr.cell? ⟨g, o + k * 6 + 4, none⟩ = some (.bool (V (k * 6 + 4))) := (hB.cell (p := ⟨g, o + (k * 6 + 4), none⟩) hg).trans c4
      have d5 : wr.cell? ⟨g, o + k * 6 + 5, none⟩ = some (.bool (V (k * 6 + 5))) := (hB.cell (p := ⟨g, o + (k * 6 + 5), none⟩) hg).trans c5
      have e0 := hc (k * 6) (by omega)
      have e1 := hc (k * 6 + 1) (by omega)
      have e2 := hc (k * 6 + 2) (by omega)
      have e3 := hc (k * 6 + 3) (by omega)
      have e4 := hc (k * 6 + 4) (by omega)
      have e5 := hc (k * 6 + 5) (by omega)
      have k1 : (k : Int) < (n : Int) := by omega
      have zg : g < wr.heap.size := Nat.lt_of_lt_of_le hg hB.size
      have hc' : Hid (∀ j, j < n * 6 → wr.cell? ⟨w.heap.size, j, none⟩ = some (.bool (if j < k * 6 then V j else false))) := hc
      have HB : Hid (Below w.heap.size w wr) := hB
      clear hc hB c0 c1 c2 c3 c4 c5 hg hg1 hg2 hg3 hg4 hg5
      go_wp2_with fail
      refine (toIn_any _ _ _ _ _ _ _).mono ?_
      rintro r w3 ⟨rfl, h3⟩
      have f0 : w3.cell? ⟨w.heap.size, k * 6, none⟩ = _ := (h3.cell (p := ⟨w.heap.size, k * 6, none⟩) hz).trans e0
      have f1 : w3.cell? ⟨w.heap.size, k * 6 + 1, none⟩ = _ := (h3.cell (p := ⟨w.heap.size, k * 6 + 1, none⟩) hz).trans e1
      have f2 : w3.cell? ⟨w.heap.size, k * 6 + 2, none⟩ = _ := (h3.cell (p := ⟨w.heap.size, k * 6 + 2, none⟩) hz).trans e2
      have f3 : w3.cell? ⟨w.heap.size, k * 6 + 3, none⟩ = _ := (h3.cell (p := ⟨w.heap.size, k * 6 + 3, none⟩) hz).trans e3
      have f4 : w3.cell? ⟨w.heap.size, k * 6 + 4, none⟩ = _ := (h3.cell (p := ⟨w.heap.size, k * 6 + 4, none⟩) hz).trans e4
      have f5 : w3.cell? ⟨w.heap.size, k * 6 + 5, none⟩ = _ := (h3.cell (p := ⟨w.heap.size, k * 6 + 5, none⟩) hz).trans e5
      have fz : ∀ o, w3.frozen? ⟨w.heap.size, o, none⟩ = false := fun o => (h3.frozen (p := ⟨w.heap.size, o, none⟩) hz).trans (hf o)
      have z3 : w.heap.size < w3.heap.size := Nat.lt_of_lt_of_le hz h3.size
      have H3 : Hid (Below wr.heap.size wr w3) := h3
      clear e0 e1 e2 e3 e4 e5 hf h3 d0 d1 d2 d3 d4 d5
      go_wp2
      go_round
      case rel => exact ⟨k + 1, by omega, by go_num, rowIn_on HB.out hz hc'.out H3.out fz⟩
      case measure => simp [intOf]; omega
    · obtain rfl : k = n := by omega
      go_wp2
      go_ret
      exact ⟨rfl, hz, fun j hj => ⟨_, rfl, Nat.le_refl _, hz, by rw [hc j hj, if_pos hj], hf j⟩, hB⟩
set_option maxHeartbeats 400000 in
theorem szInS_on (s : Option Addr) (n c : Nat) (l : Int) (w : World) (h0 : 0 ≤ l) (h1 : l ≤ 1048576) (hn : (n : Int) ≤ l) : Calls Try.prog 17 #[.slice s n c, .int .i64 l] w fun e w' => e = .returned (.int .i64 (l - (n : Int))) ∧ w' = w := by
  go_enter Try.func17, Try.ntmps17
  go_wp2
  go_ret
  exact ⟨ret_int rfl, rfl⟩
set_option maxHeartbeats 400000 in
theorem szInS_off (s : Option Addr) (n c : Nat) (l : Int) (w : World) (h0 : 0 ≤ l) (h1 : l ≤ 1048576) (hn : l < (n : Int)) (hn2 : (n : Int) ≤ 9223372036854775807) : Calls Try.prog 17 #[.slice s n c, .int .i64 l] w fun e w' => e = .returned (.int .i64 (-1)) ∧ w' = w := by
  go_enter Try.func17, Try.ntmps17
  go_wp2
  go_ret
  exact ⟨ret_int rfl, rfl⟩
set_option maxHeartbeats 1600000 in
theorem eqIn_same (x0 x1 x2 x3 x4 x5 : Bool) (w : World) : Calls Try.prog 40 #[.agg #[.bool x0, .bool x1, .bool x2, .bool x3, .bool x4, .bool x5], .agg #[.bool x0, .bool x1, .bool x2, .bool x3, .bool x4, .bool x5]] w fun r w' => r = .returned (.bool true) ∧ Below w.heap.size w w' := by
  have n0 : (x0 != x0) = false := bne_self_eq_false x0
  have n1 : (x1 != x1) = false := bne_self_eq_false x1
  have n2 : (x2 != x2) = false := bne_self_eq_false x2
  have n3 : (x3 != x3) = false := bne_self_eq_false x3
  have n4 : (x4 != x4) = false := bne_self_eq_false x4
  have n5 : (x5 != x5) = false := bne_self_eq_false x5
  go_enter Try.func40, Try.ntmps40
  go_wp2
  go_ret
  exact ⟨rfl, (by repeat (first | with_reducible exact Below.refl _ _ | with_reducible refine Below.setCell ?_ (by first | omega | (simp; done) | (simp; omega)) _ | with_reducible refine bDrewN ?_ _ | with_reducible refine Below.drew ?_ | with_reducible refine Below.alloc ?_ (by first | omega | (simp; done) | (simp; omega)) _))⟩
theorem keepIn {W W' : World} {p q i0 j0 i1 j1 i2 j2 i3 j3 i4 j4 i5 j5 : Nat} {a0 b0 a1 b1 a2 b2 a3 b3 a4 b4 a5 b5 : Value} (h0 : W.cell? ⟨p, i0, none⟩ = some a0) (h1 : W.cell? ⟨p, i1, none⟩ = some a1) (h2 : W.cell? ⟨p, i2, none⟩ = some a2) (h3 : W.cell? ⟨p, i3, none⟩ = some a3) (h4 : W.cell? ⟨p, i4, none⟩ = some a4) (h5 : W.cell? ⟨p, i5, none⟩ = some a5) (g0 : W.cell? ⟨q, j0, none⟩ = some b0) (g1 : W.cell? ⟨q, j1, none⟩ = some b1) (g2 : W.cell? ⟨q, j2, none⟩ = some b2) (g3 : W.cell? ⟨q, j3, none⟩ = some b3) (g4 : W.cell? ⟨q, j4, none⟩ = some b4) (g5 : W.cell? ⟨q, j5, none⟩ = some b5) (hp : p < W.heap.size) (hq : q < W.heap.size) (hb : Below W.heap.size W W') :
    W'.cell? ⟨p, i0, none⟩ = some a0 ∧ W'.cell? ⟨p, i1, none⟩ = some a1 ∧ W'.cell? ⟨p, i2, none⟩ = some a2 ∧ W'.cell? ⟨p, i3, none⟩ = some a3 ∧ W'.cell? ⟨p, i4, none⟩ = some a4 ∧ W'.cell? ⟨p, i5, none⟩ = some a5 ∧ W'.cell? ⟨q, j0, none⟩ = some b0 ∧ W'.cell? ⟨q, j1, none⟩ = some b1 ∧ W'.cell? ⟨q, j2, none⟩ = some b2 ∧ W'.cell? ⟨q, j3, none⟩ = some b3 ∧ W'.cell? ⟨q, j4, none⟩ = some b4 ∧ W'.cell? ⟨q, j5, none⟩ = some b5 :=
  ⟨(hb.cell (p := ⟨p, i0, none⟩) hp).trans h0, (hb.cell (p := ⟨p, i1, none⟩) hp).trans h1, (hb.cell (p := ⟨p, i2, none⟩) hp).trans h2, (hb.cell (p := ⟨p, i3, none⟩) hp).trans h3, (hb.cell (p := ⟨p, i4, none⟩) hp).trans h4, (hb.cell (p := ⟨p, i5, none⟩) hp).trans h5, (hb.cell (p := ⟨q, j0, none⟩) hq).trans g0, (hb.cell (p := ⟨q, j1, none⟩) hq).trans g1, (hb.cell (p := ⟨q, j2, none⟩) hq).trans g2, (hb.cell (p := ⟨q, j3, none⟩) hq).trans g3, (hb.cell (p := ⟨q, j4, none⟩) hq).trans g4, (hb.cell (p := ⟨q, j5, none⟩) hq).trans g5⟩
set_option maxRecDepth 20000 in
set_option maxHeartbeats 4000000 in
theorem eqInS_any (s t : Option Addr) (n c d : Nat) (V : Nat → Bool) (w : World) (hn : (n : Int) ≤ 1048576) (HR : Hid (RowB w s (n * 6) V)) (HT : Hid (RowB w t (n * 6) V)) :
    Calls Try.prog 22 #[.slice s n c, .slice t n d] w fun e w' => e = .returned (.bool true) ∧ Below w.heap.size w w' := by
  go_enter Try.func22, Try.ntmps22
  go_wp2_with fail
  go_loopw [5] (fun i wr => ∃ k : Nat, k ≤ n ∧ i = .int .i64 k ∧ Below w.heap.size w wr) (fun i _ => n - (intOf i).toNat)
  case atStart => exact ⟨0, Nat.zero_le _, rfl, Below.refl _ _⟩
  case round =>
    obtain ⟨k, hk, rfl, hB⟩ := hrel
    by_cases h1 : k < n
    · obtain ⟨g, o, rfl, hg, c0⟩ := HR.out (k * 6) (by omega)
      obtain ⟨g', o', e', hg1, c1⟩ := HR.out (k * 6 + 1) (by omega)
      cases e'
      obtain ⟨g', o', e', hg2, c2⟩ := HR.out (k * 6 + 2) (by omega)
      cases e'
      obtain ⟨g', o', e', hg3, c3⟩ := HR.out (k * 6 + 3) (by omega)
      cases e'
      obtain ⟨g', o', e', hg4, c4⟩ := HR.out (k * 6 + 4) (by omega)
      cases e'
      obtain ⟨g', o', e', hg5, c5⟩ := HR.out (k * 6 + 5) (by omega)
      cases e'
      obtain ⟨p, q, rfl, hp, d0⟩ := HT.out (k * 6) (by omega)
      obtain ⟨p', q', e', hp1, d1⟩ := HT.out (k * 6 + 1) (by omega)
      cases e'
      obtain ⟨p', q', e', hp2, d2⟩ := HT.out (k * 6 + 2) (by omega)
      cases e'
      obtain ⟨p', q', e', hp3, d3⟩ := HT.out (k * 6 + 3) (by omega)
      cases e'
      obtain ⟨p', q', e', hp4, d4⟩ := HT.out (k * 6 + 4) (by omega)
      cases e'
      obtain ⟨p', q', e', hp5, d5⟩ := HT.out (k * 6 + 5) (by omega)
      cases e'
      have u0 : wr.cell? ⟨g, o + k * 6, none⟩ = some (.bool (V (k * 6))) := (hB.cell (p := ⟨g, o + k * 6, none⟩) hg).trans c0
      have u1 : wr.cell? ⟨g, o + k * 6 + 1, none⟩ = some (.bool (V (k * 6 + 1))) := (hB.cell (p := ⟨g, o + (k * 6 + 1), none⟩) hg).trans c1
      have u2 : wr.cell? ⟨g, o + k * 6 + 2, none⟩ = some (.bool (V (k * 6 + 2))) := (hB.cell (p := ⟨g, o + (k * 6 + 2), none⟩) hg).trans c2
      have u3 : wr.cell? ⟨g, o + k * 6 + 3, none⟩ = some (.bool (V (k * 6 + 3))) := (hB.cell (p := ⟨g, o + (k * 6 + 3), none⟩) hg).trans c3
      have u4 : wr.cell? ⟨g, o + k * 6 + 4, none⟩ = some (.bool (V (k * 6 + 4))) := (hB.cell (p := ⟨g, o + (k * 6 + 4), none⟩) hg).trans c4
      have u5 : wr.cell? ⟨g, o + k * 6 + 5, none⟩ = some (.bool (V (k * 6 + 5))) := (hB.cell (p := ⟨g, o + (k * 6 + 5), none⟩) hg).trans c5
      have v0 : wr.cell? ⟨p, q + k * 6, none⟩ = some (.bool (V (k * 6))) := (hB.cell (p := ⟨p, q + k * 6, none⟩) hp).trans d0
      have v1 : wr.cell? ⟨p, q + k * 6 + 1, none⟩ = some (.bool (V (k * 6 + 1))) := (hB.cell (p := ⟨p, q + (k * 6 + 1), none⟩) hp).trans d1
      have v2 : wr.cell? ⟨p, q + k * 6 + 2, none⟩ = some (.bool (V (k * 6 + 2))) := (hB.cell (p := ⟨p, q + (k * 6 + 2), none⟩) hp).trans d2
      have v3 : wr.cell? ⟨p, q + k * 6 + 3, none⟩ = some (.bool (V (k * 6 + 3))) := (hB.cell (p := ⟨p, q + (k * 6 + 3), none⟩) hp).trans d3
      have v4 : wr.cell? ⟨p, q + k * 6 + 4, none⟩ = some (.bool (V (k * 6 + 4))) := (hB.cell (p := ⟨p, q + (k * 6 + 4), none⟩) hp).trans d4
      have v5 : wr.cell? ⟨p, q + k * 6 + 5, none⟩ = some (.bool (V (k * 6 + 5))) := (hB.cell (p := ⟨p, q + (k * 6 + 5), none⟩) hp).trans d5
      have k1 : (k : Int) < (n : Int) := by omega
      have zg : g < wr.heap.size := Nat.lt_of_lt_of_le hg hB.size
      have zp : p < wr.heap.size := Nat.lt_of_lt_of_le hp hB.size
      have HB : Hid (Below w.heap.size w wr) := hB
      clear hB c0 d0 c1 d1 c2 d2 c3 d3 c4 d4 c5 d5 hg hp hg1 hp1 hg2 hp2 hg3 hp3 hg4 hp4 hg5 hp5
      go_wp2_with fail
      go_region_held3 (fun w' => w'.cell? ⟨g, o + k * 6, none⟩ = some (.bool (V (k * 6))) ∧ w'.cell? ⟨g, o + k * 6 + 1, none⟩ = some (.bool (V (k * 6 + 1))) ∧ w'.cell? ⟨g, o + k * 6 + 2, none⟩ = some (.bool (V (k * 6 + 2))) ∧ w'.cell? ⟨g, o + k * 6 + 3, none⟩ = some (.bool (V (k * 6 + 3))) ∧ w'.cell? ⟨g, o + k * 6 + 4, none⟩ = some (.bool (V (k * 6 + 4))) ∧ w'.cell? ⟨g, o + k * 6 + 5, none⟩ = some (.bool (V (k * 6 + 5))) ∧ w'.cell? ⟨p, q + k * 6, none⟩ = some (.bool (V (k * 6))) ∧ w'.cell? ⟨p, q + k * 6 + 1, none⟩ = some (.bool (V (k * 6 + 1))) ∧ w'.cell? ⟨p, q + k * 6 + 2, none⟩ = some (.bool (V (k * 6 + 2))) ∧ w'.cell? ⟨p, q + k * 6 + 3, none⟩ = some (.bool (V (k * 6 + 3))) ∧ w'.cell? ⟨p, q + k * 6 + 4, none⟩ = some (.bool (V (k * 6 + 4))) ∧ w'.cell? ⟨p, q + k * 6 + 5, none⟩ = some (.bool (V (k * 6 + 5)))) (first | (refine keepIn u0 u1 u2 u3 u4 u5 v0 v1 v2 v3 v4 v5 zg zp ?_; exact (by repeat (first | with_reducible exact Below.refl _ _ | with_reducible exact B3 | with_reducible refine Below.setCell ?_ (by first | omega | (simp; done) | (simp; omega)) _ | with_reducible refine bDrewN ?_ _ | with_reducible refine Below.drew ?_ | with_reducible refine Below.alloc ?_ (by first | omega | (simp; done) | (simp; omega)) _)))) (first
        | (go_at_call 40; refine (eqIn_same _ _ _ _ _ _ _).mono ?_; rintro r w3 ⟨rfl, h3⟩; have B3 : Below wr.heap.size wr w3 := Below.trans (by repeat (first | with_reducible exact Below.refl _ _ | with_reducible refine Below.setCell ?_ (by first | omega | (simp; done) | (simp; omega)) _ | with_reducible refine bDrewN ?_ _ | with_reducible refine Below.drew ?_ | with_reducible refine Below.alloc ?_ (by first | omega | (simp; done) | (simp; omega)) _)) (h3.mono (by first | omega | (simp; done) | (simp; omega)))))
      all_goals
        have B4 : Below w.heap.size w w3 := HB.out.trans (B3.mono HB.out.size)
        go_wp2
        go_round
        case rel => exact ⟨k + 1, by omega, by go_num, (by repeat (first | with_reducible exact Below.refl _ _ | with_reducible exact B4 | with_reducible refine Below.setCell ?_ (by first | omega | (simp; done) | (simp; omega)) _ | with_reducible refine bDrewN ?_ _ | with_reducible refine Below.drew ?_ | with_reducible refine Below.alloc ?_ (by first | omega | (simp; done) | (simp; omega)) _))⟩
        case measure => simp [intOf]; omega
    · obtain rfl : k = n := by omega
      go_wp2
      go_ret
      exact ⟨rfl, (by repeat (first | with_reducible exact Below.refl _ _ | with_reducible exact hB | with_reducible refine Below.setCell ?_ (by first | omega | (simp; done) | (simp; omega)) _ | with_reducible refine bDrewN ?_ _ | with_reducible refine Below.drew ?_ | with_reducible refine Below.alloc ?_ (by first | omega | (simp; done) | (simp; omega)) _))⟩
theorem addr_add6 (b o k : Nat) : (⟨b, o, none⟩ : Addr).add k = ⟨b, o + k, none⟩ := by
  unfold Addr.add
  split
  · rename_i h; subst h; rfl
  · rfl
theorem slice_spot6 {w : World} {b0 : Nat} {t e : TypeId} {a : Addr} {n c : Nat} (ht : Try.prog.underlying t = some (.slice e)) (hv : Value.okWide Try.prog w .any b0 t (.slice (some a) n c)) : a.spot = none := by
  simp only [Value.okWide, ht, Cell.okWide, Cell.ok] at hv
  exact hv.2.2.2.1
theorem cell_lt6 {w : World} {p : Addr} {v : Value} (h : w.cell? p = some v) : p.block < w.heap.size := by
  rcases Nat.lt_or_ge p.block w.heap.size with z | z
  · exact z
  · exfalso
    simp [World.cell?, Array.getElem?_eq_none z] at h
/-- THE LIST OPENED: structs of 6 bools. -/
theorem open_rowsb6 {H : Type} {enc : TypeId × Value → H} {w : World} {b0 : Nat} {t e : TypeId} {f0 f1 f2 f3 f4 f5 : Field} {v : Value} {d : DataW H} {ps : List MemPlace} {sp : Nat → Bool} {held : Bool} (ht : Try.prog.underlying t = some (.slice e)) (he : Try.prog.underlying e = some (.struct #[f0, f1, f2, f3, f4, f5]))
    (ce : Try.prog.cellsOf e = 6) (o0 : f0.offset = 0) (o1 : f1.offset = 1) (o2 : f2.offset = 2) (o3 : f3.offset = 3) (o4 : f4.offset = 4) (o5 : f5.offset = 5) (c0 : Try.prog.cellsOf f0.type = 1) (c1 : Try.prog.cellsOf f1.type = 1) (c2 : Try.prog.cellsOf f2.type = 1) (c3 : Try.prog.cellsOf f3.type = 1) (c4 : Try.prog.cellsOf f4.type = 1) (c5 : Try.prog.cellsOf f5.type = 1) (i0 : Try.prog.underlying f0.type = some .bool) (i1 : Try.prog.underlying f1.type = some .bool) (i2 : Try.prog.underlying f2.type = some .bool) (i3 : Try.prog.underlying f3.type = some .bool) (i4 : Try.prog.underlying f4.type = some .bool) (i5 : Try.prog.underlying f5.type = some .bool)
    (hv : Value.okWide Try.prog w .any b0 t v) (h : DataW.Trod enc Try.prog w 0 sp held t v d ps) : ∃ s n c V, v = .slice s n c ∧ n ≤ 9223372036854775807 ∧ RowB w s (n * 6) V := by
  have hsl : ∃ s n c, v = .slice s n c := by
    simp only [Value.okWide, ht, Cell.okWide] at hv
    cases v <;> simp_all [Cell.ok]
  obtain ⟨s, n, c, rfl⟩ := hsl
  obtain ⟨fuel, hf⟩ := h
  have hf' : DataW.trod enc Try.prog w 0 sp held fuel t [.slice s n c] = some (d, ps) := hf
  rcases Go.Deep.open_slice ht hf' with ⟨e1, _⟩ | ⟨a, len, cap, m, k, D, Pl, e1, _, hl, hm, hmm, _, hx⟩
  · simp only [List.cons.injEq, and_true, Value.slice.injEq] at e1
    obtain ⟨rfl, rfl, rfl⟩ := e1
    exact ⟨none, 0, 0, fun _ => false, rfl, by omega, fun j hj => by omega⟩
  · simp only [List.cons.injEq, and_true, Value.slice.injEq] at e1
    obtain ⟨rfl, rfl, rfl⟩ := e1
    have hsp := slice_spot6 ht hv
    obtain ⟨b, o, spot⟩ := a
    simp only at hsp
    subst hsp
    have hle : n ≤ m := by rw [hmm]; split <;> omega
    have each : ∀ i, i < n → ∃ z : Bool × Bool × Bool × Bool × Bool × Bool, w.cell? ⟨b, o + i * 6, none⟩ = some (.bool z.1) ∧ w.cell? ⟨b, o + (i * 6 + 1), none⟩ = some (.bool z.2.1) ∧ w.cell? ⟨b, o + (i * 6 + 2), none⟩ = some (.bool z.2.2.1) ∧ w.cell? ⟨b, o + (i * 6 + 3), none⟩ = some (.bool z.2.2.2.1) ∧ w.cell? ⟨b, o + (i * 6 + 4), none⟩ = some (.bool z.2.2.2.2.1) ∧ w.cell? ⟨b, o + (i * 6 + 5), none⟩ = some (.bool z.2.2.2.2.2) := by
      intro i hi
      obtain ⟨cs', h1, h2⟩ := hx i (by omega)
      rw [ce] at h1
      obtain ⟨_, hlen, hcell⟩ := World.cells?_some h1
      obtain ⟨xs, k', hk, hxy, _, hxl, hf⟩ := DataW.trod_struct he h2
      match xs, hxl, cs', hlen with
      | [y0, y1, y2, y3, y4, y5], _, [v0, v1, v2, v3, v4, v5], _ =>
        have g0 := hf 0 f0 rfl
        have g1 := hf 1 f1 rfl
        have g2 := hf 2 f2 rfl
        have g3 := hf 3 f3 rfl
        have g4 := hf 4 f4 rfl
        have g5 := hf 5 f5 rfl
        simp [o0, c0, o1, c1, o2, c2, o3, c3, o4, c4, o5, c5] at g0 g1 g2 g3 g4 g5
        have e0 := hcell 0 (by omega)
        have e1 := hcell 1 (by omega)
        have e2 := hcell 2 (by omega)
        have e3 := hcell 3 (by omega)
        have e4 := hcell 4 (by omega)
        have e5 := hcell 5 (by omega)
        rw [Go.Deep.add_add, addr_add6] at e0 e1 e2 e3 e4 e5
        obtain ⟨z0, q0, _, _⟩ := DataW.trod_bool i0 g0
        obtain ⟨z1, q1, _, _⟩ := DataW.trod_bool i1 g1
        obtain ⟨z2, q2, _, _⟩ := DataW.trod_bool i2 g2
        obtain ⟨z3, q3, _, _⟩ := DataW.trod_bool i3 g3
        obtain ⟨z4, q4, _, _⟩ := DataW.trod_bool i4 g4
        obtain ⟨z5, q5, _, _⟩ := DataW.trod_bool i5 g5
        simp only [List.cons.injEq, and_true] at q0 q1 q2 q3 q4 q5
        subst q0 q1 q2 q3 q4 q5
        exact ⟨(z0, z1, z2, z3, z4, z5), by simpa using e0, by simpa using e1, by simpa using e2, by simpa using e3, by simpa using e4, by simpa using e5⟩
    obtain ⟨f, hfn⟩ := Go.Deep.choose_lt each
    refine ⟨some ⟨b, o, none⟩, n, c, fun j => if j % 6 = 0 then (f (j / 6)).1 else if j % 6 = 1 then (f (j / 6)).2.1 else if j % 6 = 2 then (f (j / 6)).2.2.1 else if j % 6 = 3 then (f (j / 6)).2.2.2.1 else if j % 6 = 4 then (f (j / 6)).2.2.2.2.1 else (f (j / 6)).2.2.2.2.2, rfl, ?_, fun j hj => ?_⟩
    · have : maxLen = 9223372036854775807 := by decide
      omega
    · obtain ⟨h0, h1, h2, h3, h4, h5⟩ := hfn (j / 6) (by omega)
      refine ⟨b, o, rfl, cell_lt6 h0, ?_⟩
      show w.cell? ⟨b, o + j, none⟩ = some (.bool (if j % 6 = 0 then (f (j / 6)).1 else if j % 6 = 1 then (f (j / 6)).2.1 else if j % 6 = 2 then (f (j / 6)).2.2.1 else if j % 6 = 3 then (f (j / 6)).2.2.2.1 else if j % 6 = 4 then (f (j / 6)).2.2.2.2.1 else (f (j / 6)).2.2.2.2.2))
      have hj : j % 6 = 0 ∨ j % 6 = 1 ∨ j % 6 = 2 ∨ j % 6 = 3 ∨ j % 6 = 4 ∨ j % 6 = 5 := by omega
      rcases hj with z | z | z | z | z | z
      · have q : j = j / 6 * 6 := by omega
        rw [← q] at h0
        simpa [z] using h0
      · have q : j = j / 6 * 6 + 1 := by omega
        rw [← q] at h1
        simpa [z] using h1
      · have q : j = j / 6 * 6 + 2 := by omega
        rw [← q] at h2
        simpa [z] using h2
      · have q : j = j / 6 * 6 + 3 := by omega
        rw [← q] at h3
        simpa [z] using h3
      · have q : j = j / 6 * 6 + 4 := by omega
        rw [← q] at h4
        simpa [z] using h4
      · have q : j = j / 6 * 6 + 5 := by omega
        rw [← q] at h5
        simpa [z] using h5
end Go.Proofs.Ytaimdbgimkgelaa
