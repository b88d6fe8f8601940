/-
What is proved: what impl.Burn leaves of a fuel and air, where the table of burnings holds what the program's text lays.
-/
import Derived.Test.YtphmdnpmekdglaaDoorBurn
import Derived.Test.YtphmdnpmekdglaaDoorLaid
namespace Go.Proofs.YtphmdnpmekdglaaDoor
set_option maxRecDepth 40000
open Go.RowKit
set_option linter.unusedVariables false

/-- The table of burnings lies in its block. -/
def TabB (w : World) : Prop := ∃ t fr, w.heap[0]? = some (.cells #[.int .i64 4, .int .i64 1, .int .i64 3, .int .i64 6, .int .i64 2, .int .i64 5, .int .i64 2, .int .i64 1, .int .i64 1, .int .i64 1, .int .i64 1, .int .i64 0] t fr)
theorem TabB.lt {w : World} (h : TabB w) : 0 < w.heap.size := by
  obtain ⟨t, fr, h⟩ := h
  rcases Nat.lt_or_ge 0 w.heap.size with z | z
  · exact z
  · rw [Array.getElem?_eq_none z] at h; cases h
theorem TabB.below {B : Nat} {W w : World} (h : TabB W) (hb : Below B W w) (hB : 0 < B) : TabB w := by
  obtain ⟨t, fr, h⟩ := h
  exact ⟨t, fr, (hb.block _ hB).trans h⟩

set_option maxHeartbeats 1000000 in
theorem flueOf_any (g0 g1 g2 g3 g4 g5 g6 g7 g8 : Int) (w : World) :
    Calls Tryd.prog 32 #[.agg #[.int .i64 g0, .int .i64 g1, .int .i64 g2, .int .i64 g3, .int .i64 g4, .int .i64 g5, .int .i64 g6, .int .i64 g7, .int .i64 g8]] w fun e w' => e = .returned (.agg #[.int .i64 g0, .int .i64 g1, .int .i64 g2, .int .i64 g3, .int .i64 g4, .int .i64 g5, .int .i64 g6, .int .i64 g7, .int .i64 g8]) ∧ Below w.heap.size w w' := by
  go_enter Tryd.func32, Tryd.ntmps32
  go_wp2
  exact bodyPost_ret (v := .agg #[.int .i64 g0, .int .i64 g1, .int .i64 g2, .int .i64 g3, .int .i64 g4, .int .i64 g5, .int .i64 g6, .int .i64 g7, .int .i64 g8]) (by simp [results, Tryd.results32, go_sem]) rfl ⟨rfl, (by repeat (first | with_reducible exact Below.refl _ _ | with_reducible refine Below.setCell ?_ (by first | omega | (simp; done) | (simp; omega)) _ | with_reducible refine bDrewN ?_ _ | with_reducible refine Below.drew ?_ | with_reducible refine Below.alloc ?_ (by first | omega | (simp; done) | (simp; omega)) _))⟩

set_option maxHeartbeats 2000000 in
theorem implBurn_core (c h s o n air m1 m2 m3 m4 : Int) (w : World) (HT : Hid (TabB w)) (hc1 : 0 ≤ c) (hc2 : c ≤ 1000000000) (hh1 : 0 ≤ h) (hh2 : h ≤ 1000000000) (hs1 : 0 ≤ s) (hs2 : s ≤ 1000000000) (ho1 : 0 ≤ o) (ho2 : o ≤ 1000000000) (hn1 : 0 ≤ n) (hn2 : n ≤ 1000000000) (ha1 : 0 ≤ air) (ha2 : air ≤ 1000000000)
    (e1 : (if o + 42 * air < h / 2 then o + 42 * air else h / 2) = m1) (e2 : (if (o + 42 * air - m1) / 2 < s then (o + 42 * air - m1) / 2 else s) = m2) (e3 : (if o + 42 * air - m1 - m2 * 2 < c then o + 42 * air - m1 - m2 * 2 else c) = m3) (e4 : (if o + 42 * air - m1 - m2 * 2 - m3 < m3 then o + 42 * air - m1 - m2 * 2 - m3 else m3) = m4)
    (b1 : 0 ≤ m1) (b1' : m1 ≤ h / 2) (b1'' : m1 ≤ o + 42 * air) (b2 : 0 ≤ m2) (b2' : m2 ≤ s) (b2'' : m2 ≤ (o + 42 * air - m1) / 2) (b3 : 0 ≤ m3) (b3' : m3 ≤ c) (b3'' : m3 ≤ o + 42 * air - m1 - m2 * 2) (b4 : 0 ≤ m4) (b4' : m4 ≤ m3) (b4'' : m4 ≤ o + 42 * air - m1 - m2 * 2 - m3)
    (K1 : Hid (∀ w, Calls Tryd.prog 30 #[.agg #[.int .i64 c, .int .i64 h, .int .i64 s, .int .i64 o, .int .i64 n]] w fun e w' => e = .returned (.bool true) ∧ Below w.heap.size w w'))
    (K2 : Hid (∀ w, Calls Tryd.prog 31 #[.int .i64 air] w fun e w' => e = .returned (.bool true) ∧ w' = w)) :
    Calls Tryd.prog 11 #[.agg #[.int .i64 c, .int .i64 h, .int .i64 s, .int .i64 o, .int .i64 n], .int .i64 air] w fun e w' => e = .returned (.tuple #[.agg #[.int .i64 (m4), .int .i64 (m3 - m4), .int .i64 (c - m3), .int .i64 (m1), .int .i64 (h / 2 - m1), .int .i64 (m2), .int .i64 (s - m2), .int .i64 (o + 42 * air - m1 - m2 * 2 - m3 - m4), .int .i64 (n + 158 * air)], .bool true]) ∧ Below w.heap.size w w' := by
  go_enter Tryd.func11, Tryd.ntmps11
  go_wp2_with fail
  refine (K1.out _).mono ?_
  rintro e w1 ⟨rfl, hx1⟩
  obtain ⟨hc, hf⟩ := bcell hx1
  have B1 : Below w.heap.size w w1 := Below.trans (by repeat (first | with_reducible exact Below.refl _ _ | with_reducible refine Below.setCell ?_ (by first | omega | (simp; done) | (simp; omega)) _ | with_reducible refine bDrewN ?_ _ | with_reducible refine Below.drew ?_ | with_reducible refine Below.alloc ?_ (by first | omega | (simp; done) | (simp; omega)) _)) (hx1.mono (by first | omega | (simp; done) | (simp; omega)))
  have z1 : w.heap.size + 1 < w1.heap.size := by have := hx1.size; simp at this; omega
  have z1a : w.heap.size < w1.heap.size := by omega
  go_wp2_with fail
  refine (K2.out _).mono ?_
  rintro e w2 ⟨rfl, rfl⟩
  have T2 : TabB w2 := HT.out.below B1 HT.out.lt
  have hlt := T2.lt
  obtain ⟨tt, fr, ht⟩ := T2
  have hg1 : Hid (∀ ob : Obj, (w2.alloc ob).drew.heap[0]? = some (.cells #[.int .i64 4, .int .i64 1, .int .i64 3, .int .i64 6, .int .i64 2, .int .i64 5, .int .i64 2, .int .i64 1, .int .i64 1, .int .i64 1, .int .i64 1, .int .i64 0] tt fr)) := fun ob => (Below.heap_alloc w2 ob _ hlt).trans ht
  clear ht hlt
  go_wp2
  go_region
  go_wp2_with (refine wpList_load_row rfl 57 _ rfl 0 rfl tt _ fr _ (hg1.out _) Tryd.underlying57 rfl (by kernel_rfl) ?_)
  go_loopw [42] (fun i wr => Below w2.heap.size w2 wr ∧ w2.heap.size < wr.heap.size ∧ (∀ o, wr.frozen? ⟨w2.heap.size, o, none⟩ = false) ∧ ((i = .int .i64 0 ∧ wr.cell? ⟨w2.heap.size, 0, none⟩ = some (.int .i64 (0)) ∧ wr.cell? ⟨w2.heap.size, 1, none⟩ = some (.int .i64 (0)) ∧ wr.cell? ⟨w2.heap.size, 2, none⟩ = some (.int .i64 (c)) ∧ wr.cell? ⟨w2.heap.size, 3, none⟩ = some (.int .i64 (0)) ∧ wr.cell? ⟨w2.heap.size, 4, none⟩ = some (.int .i64 (h / 2)) ∧ wr.cell? ⟨w2.heap.size, 5, none⟩ = some (.int .i64 (0)) ∧ wr.cell? ⟨w2.heap.size, 6, none⟩ = some (.int .i64 (s)) ∧ wr.cell? ⟨w2.heap.size, 7, none⟩ = some (.int .i64 (o + 42 * air)) ∧ wr.cell? ⟨w2.heap.size, 8, none⟩ = some (.int .i64 (n + 158 * air))) ∨ (i = .int .i64 1 ∧ wr.cell? ⟨w2.heap.size, 0, none⟩ = some (.int .i64 (0)) ∧ wr.cell? ⟨w2.heap.size, 1, none⟩ = some (.int .i64 (0)) ∧ wr.cell? ⟨w2.heap.size, 2, none⟩ = some (.int .i64 (c)) ∧ wr.cell? ⟨w2.heap.size, 3, none⟩ = some (.int .i64 (m1)) ∧ wr.cell? ⟨w2.heap.size, 4, none⟩ = some (.int .i64 (h / 2 - m1)) ∧ wr.cell? ⟨w2.heap.size, 5, none⟩ = some (.int .i64 (0)) ∧ wr.cell? ⟨w2.heap.size, 6, none⟩ = some (.int .i64 (s)) ∧ wr.cell? ⟨w2.heap.size, 7, none⟩ = some (.int .i64 (o + 42 * air - m1)) ∧ wr.cell? ⟨w2.heap.size, 8, none⟩ = some (.int .i64 (n + 158 * air))) ∨ (i = .int .i64 2 ∧ wr.cell? ⟨w2.heap.size, 0, none⟩ = some (.int .i64 (0)) ∧ wr.cell? ⟨w2.heap.size, 1, none⟩ = some (.int .i64 (0)) ∧ wr.cell? ⟨w2.heap.size, 2, none⟩ = some (.int .i64 (c)) ∧ wr.cell? ⟨w2.heap.size, 3, none⟩ = some (.int .i64 (m1)) ∧ wr.cell? ⟨w2.heap.size, 4, none⟩ = some (.int .i64 (h / 2 - m1)) ∧ wr.cell? ⟨w2.heap.size, 5, none⟩ = some (.int .i64 (m2)) ∧ wr.cell? ⟨w2.heap.size, 6, none⟩ = some (.int .i64 (s - m2)) ∧ wr.cell? ⟨w2.heap.size, 7, none⟩ = some (.int .i64 (o + 42 * air - m1 - m2 * 2)) ∧ wr.cell? ⟨w2.heap.size, 8, none⟩ = some (.int .i64 (n + 158 * air))) ∨ (i = .int .i64 3 ∧ wr.cell? ⟨w2.heap.size, 0, none⟩ = some (.int .i64 (0)) ∧ wr.cell? ⟨w2.heap.size, 1, none⟩ = some (.int .i64 (m3)) ∧ wr.cell? ⟨w2.heap.size, 2, none⟩ = some (.int .i64 (c - m3)) ∧ wr.cell? ⟨w2.heap.size, 3, none⟩ = some (.int .i64 (m1)) ∧ wr.cell? ⟨w2.heap.size, 4, none⟩ = some (.int .i64 (h / 2 - m1)) ∧ wr.cell? ⟨w2.heap.size, 5, none⟩ = some (.int .i64 (m2)) ∧ wr.cell? ⟨w2.heap.size, 6, none⟩ = some (.int .i64 (s - m2)) ∧ wr.cell? ⟨w2.heap.size, 7, none⟩ = some (.int .i64 (o + 42 * air - m1 - m2 * 2 - m3)) ∧ wr.cell? ⟨w2.heap.size, 8, none⟩ = some (.int .i64 (n + 158 * air))) ∨ (i = .int .i64 4 ∧ wr.cell? ⟨w2.heap.size, 0, none⟩ = some (.int .i64 (m4)) ∧ wr.cell? ⟨w2.heap.size, 1, none⟩ = some (.int .i64 (m3 - m4)) ∧ wr.cell? ⟨w2.heap.size, 2, none⟩ = some (.int .i64 (c - m3)) ∧ wr.cell? ⟨w2.heap.size, 3, none⟩ = some (.int .i64 (m1)) ∧ wr.cell? ⟨w2.heap.size, 4, none⟩ = some (.int .i64 (h / 2 - m1)) ∧ wr.cell? ⟨w2.heap.size, 5, none⟩ = some (.int .i64 (m2)) ∧ wr.cell? ⟨w2.heap.size, 6, none⟩ = some (.int .i64 (s - m2)) ∧ wr.cell? ⟨w2.heap.size, 7, none⟩ = some (.int .i64 (o + 42 * air - m1 - m2 * 2 - m3 - m4)) ∧ wr.cell? ⟨w2.heap.size, 8, none⟩ = some (.int .i64 (n + 158 * air))))) (fun i _ => 4 - (intOf i).toNat)
  case atStart =>
    refine ⟨(by repeat (first | with_reducible exact Below.refl _ _ | with_reducible refine Below.setCell ?_ (by first | omega | (simp; done) | (simp; omega)) _ | with_reducible refine bDrewN ?_ _ | with_reducible refine Below.drew ?_ | with_reducible refine Below.alloc ?_ (by first | omega | (simp; done) | (simp; omega)) _)), by simp, fun q => by simp [go_sem], .inl ⟨rfl, ?_, ?_, ?_, ?_, ?_, ?_, ?_, ?_, ?_⟩⟩
    all_goals simp [go_sem]
  case round =>
    obtain ⟨hb, hz, hfr, hrel⟩ := hrel
    have FZ : Hid (∀ ob q, (wr.alloc ob).frozen? ⟨w2.heap.size, q, none⟩ = false) := fun ob q => ((below0 wr ob).frozen (p := ⟨w2.heap.size, q, none⟩) hz).trans (hfr q)
    rcases hrel with ⟨rfl, c0, c1, c2, c3, c4, c5, c6, c7, c8⟩ | ⟨rfl, c0, c1, c2, c3, c4, c5, c6, c7, c8⟩ | ⟨rfl, c0, c1, c2, c3, c4, c5, c6, c7, c8⟩ | ⟨rfl, c0, c1, c2, c3, c4, c5, c6, c7, c8⟩ | ⟨rfl, c0, c1, c2, c3, c4, c5, c6, c7, c8⟩
    · -- round 0
      have ix : ∀ w, (Instr.index 57 (.agg #[.int .i64 4, .int .i64 1, .int .i64 3, .int .i64 6, .int .i64 2, .int .i64 5, .int .i64 2, .int .i64 1, .int .i64 1, .int .i64 1, .int .i64 1, .int .i64 0]) (.int .i64 0)).run Tryd.prog w = .ok (.agg #[.int .i64 4, .int .i64 1, .int .i64 3]) w := fun _ => by kernel_rfl
      go_wp2
      go_quiet (fail)
      go_wp2
      go_roundw
      case rel =>
        refine ⟨(by repeat (first | with_reducible exact Below.refl _ _ | with_reducible exact hb | with_reducible refine Below.setCell ?_ (by first | omega | (simp; done) | (simp; omega)) _ | with_reducible refine bDrewN ?_ _ | with_reducible refine Below.drew ?_ | with_reducible refine Below.alloc ?_ (by first | omega | (simp; done) | (simp; omega)) _)), by simp; omega, fun q => by simp [go_sem, FZ.out], .inr (.inl ⟨rfl, ?_, ?_, ?_, ?_, ?_, ?_, ?_, ?_, ?_⟩)⟩
        all_goals simp [go_sem, *]
      case measure => simp [intOf]
    · -- round 1
      have ix : ∀ w, (Instr.index 57 (.agg #[.int .i64 4, .int .i64 1, .int .i64 3, .int .i64 6, .int .i64 2, .int .i64 5, .int .i64 2, .int .i64 1, .int .i64 1, .int .i64 1, .int .i64 1, .int .i64 0]) (.int .i64 1)).run Tryd.prog w = .ok (.agg #[.int .i64 6, .int .i64 2, .int .i64 5]) w := fun _ => by kernel_rfl
      go_wp2
      go_quiet (fail)
      go_wp2
      go_roundw
      case rel =>
        refine ⟨(by repeat (first | with_reducible exact Below.refl _ _ | with_reducible exact hb | with_reducible refine Below.setCell ?_ (by first | omega | (simp; done) | (simp; omega)) _ | with_reducible refine bDrewN ?_ _ | with_reducible refine Below.drew ?_ | with_reducible refine Below.alloc ?_ (by first | omega | (simp; done) | (simp; omega)) _)), by simp; omega, fun q => by simp [go_sem, FZ.out], .inr (.inr (.inl ⟨rfl, ?_, ?_, ?_, ?_, ?_, ?_, ?_, ?_, ?_⟩))⟩
        all_goals simp [go_sem, *]
      case measure => simp [intOf]
    · -- round 2
      have ix : ∀ w, (Instr.index 57 (.agg #[.int .i64 4, .int .i64 1, .int .i64 3, .int .i64 6, .int .i64 2, .int .i64 5, .int .i64 2, .int .i64 1, .int .i64 1, .int .i64 1, .int .i64 1, .int .i64 0]) (.int .i64 2)).run Tryd.prog w = .ok (.agg #[.int .i64 2, .int .i64 1, .int .i64 1]) w := fun _ => by kernel_rfl
      go_wp2
      go_quiet (fail)
      go_wp2
      go_roundw
      case rel =>
        refine ⟨(by repeat (first | with_reducible exact Below.refl _ _ | with_reducible exact hb | with_reducible refine Below.setCell ?_ (by first | omega | (simp; done) | (simp; omega)) _ | with_reducible refine bDrewN ?_ _ | with_reducible refine Below.drew ?_ | with_reducible refine Below.alloc ?_ (by first | omega | (simp; done) | (simp; omega)) _)), by simp; omega, fun q => by simp [go_sem, FZ.out], .inr (.inr (.inr (.inl ⟨rfl, ?_, ?_, ?_, ?_, ?_, ?_, ?_, ?_, ?_⟩)))⟩
        all_goals simp [go_sem, *]
      case measure => simp [intOf]
    · -- round 3
      have ix : ∀ w, (Instr.index 57 (.agg #[.int .i64 4, .int .i64 1, .int .i64 3, .int .i64 6, .int .i64 2, .int .i64 5, .int .i64 2, .int .i64 1, .int .i64 1, .int .i64 1, .int .i64 1, .int .i64 0]) (.int .i64 3)).run Tryd.prog w = .ok (.agg #[.int .i64 1, .int .i64 1, .int .i64 0]) w := fun _ => by kernel_rfl
      go_wp2
      go_quiet (fail)
      go_wp2
      go_roundw
      case rel =>
        refine ⟨(by repeat (first | with_reducible exact Below.refl _ _ | with_reducible exact hb | with_reducible refine Below.setCell ?_ (by first | omega | (simp; done) | (simp; omega)) _ | with_reducible refine bDrewN ?_ _ | with_reducible refine Below.drew ?_ | with_reducible refine Below.alloc ?_ (by first | omega | (simp; done) | (simp; omega)) _)), by simp; omega, fun q => by simp [go_sem, FZ.out], .inr (.inr (.inr (.inr ⟨rfl, ?_, ?_, ?_, ?_, ?_, ?_, ?_, ?_, ?_⟩)))⟩
        all_goals simp [go_sem, *]
      case measure => simp [intOf]
    · have Bx : Below w.heap.size w wr := B1.trans (hb.mono (by omega))
      have sx := Bx.size
      have rc : ∀ j, j < 9 → wr.cell? ⟨w.heap.size + 1, j, none⟩ = some (.int .i64 0) := fun j hj9 => by
        rw [hb.cell (p := ⟨w.heap.size + 1, j, none⟩) z1, hx1.cell (p := ⟨w.heap.size + 1, j, none⟩) (by simp)]
        have : j = 0 ∨ j = 1 ∨ j = 2 ∨ j = 3 ∨ j = 4 ∨ j = 5 ∨ j = 6 ∨ j = 7 ∨ j = 8 := by omega
        rcases this with rfl | rfl | rfl | rfl | rfl | rfl | rfl | rfl | rfl <;> simp [go_sem]
      have rf : ∀ q, wr.frozen? ⟨w.heap.size + 1, q, none⟩ = false := fun q => by
        rw [hb.frozen (p := ⟨w.heap.size + 1, q, none⟩) z1, hx1.frozen (p := ⟨w.heap.size + 1, q, none⟩) (by simp)]; simp [go_sem]
      have r0 := rc 0 (by omega)
      have r1 := rc 1 (by omega)
      have r2 := rc 2 (by omega)
      have r3 := rc 3 (by omega)
      have r4 := rc 4 (by omega)
      have r5 := rc 5 (by omega)
      have r6 := rc 6 (by omega)
      have r7 := rc 7 (by omega)
      have r8 := rc 8 (by omega)
      have zw : w.heap.size + 1 < wr.heap.size := by omega
      have FL : Hid (∀ w, Calls Tryd.prog 32 #[.agg #[.int .i64 (m4), .int .i64 (m3 - m4), .int .i64 (c - m3), .int .i64 (m1), .int .i64 (h / 2 - m1), .int .i64 (m2), .int .i64 (s - m2), .int .i64 (o + 42 * air - m1 - m2 * 2 - m3 - m4), .int .i64 (n + 158 * air)]] w fun e w' => e = .returned (.agg #[.int .i64 (m4), .int .i64 (m3 - m4), .int .i64 (c - m3), .int .i64 (m1), .int .i64 (h / 2 - m1), .int .i64 (m2), .int .i64 (s - m2), .int .i64 (o + 42 * air - m1 - m2 * 2 - m3 - m4), .int .i64 (n + 158 * air)]) ∧ Below w.heap.size w w') := fun w => flueOf_any _ _ _ _ _ _ _ _ _ w
      clear rc e1 e2 e3 e4
      go_wp2_with fail
      refine (FL.out _).mono ?_
      rintro e w5 ⟨rfl, hx5⟩
      obtain ⟨hc5, hf5⟩ := bcell hx5
      have B5 : Below w.heap.size w w5 := Bx.trans (hx5.mono Bx.size)
      go_wp2
      refine bodyPost_ret (v := .tuple #[.agg #[.int .i64 (m4), .int .i64 (m3 - m4), .int .i64 (c - m3), .int .i64 (m1), .int .i64 (h / 2 - m1), .int .i64 (m2), .int .i64 (s - m2), .int .i64 (o + 42 * air - m1 - m2 * 2 - m3 - m4), .int .i64 (n + 158 * air)], .bool true]) (by simp [results, Tryd.results11, go_sem, *]) rfl ⟨rfl, ?_⟩
      exact (by repeat (first | with_reducible exact Below.refl _ _ | with_reducible exact B5 | with_reducible refine Below.setCell ?_ (by first | omega | (simp; done) | (simp; omega)) _ | with_reducible refine bDrewN ?_ _ | with_reducible refine Below.drew ?_ | with_reducible refine Below.alloc ?_ (by first | omega | (simp; done) | (simp; omega)) _))
end Go.Proofs.YtphmdnpmekdglaaDoor
