/-
What is proved: what the law's own helpers do with a pipe: its count, a copy, comparing; a pipe that is handed in, opened.
-/
import Derived.Test.YtebjeoljbbkakaaPipeR
import Derived.Deep.Slices
namespace Go.Proofs.Ytebjeoljbbkakaa
set_option maxRecDepth 40000
open Go.ChangeShapes Go.WideShapes Go.ChangeAt Go.RowKit
set_option linter.unusedVariables false
set_option linter.unusedSimpArgs false

theorem store_sl : ∀ (W : World) (a : Addr) (s : Option Addr) (n c : Nat), (W.cell? a).isSome = true → W.frozen? a = false → (store a (.slice s n c)).run Try.prog W = .ok () (W.setCell a (.slice s n c)) := fun W a s n c h hf => by
  obtain ⟨u, hu⟩ := Option.isSome_iff_exists.1 h
  rw [run_store Try.prog W a _ _ rfl, hu]
  simp [hf]
set_option maxHeartbeats 800000 in
theorem szPipe_on (s : Option Addr) (n c : Nat) (V : Nat → Option Nat) (s2 : Option Addr) (n2 c2 : Nat) (V2 : Nat → Option Nat) (l : Int) (w : World) (h0 : 0 ≤ l) (h1 : l ≤ 1048576) (hn : (n : Int) ≤ l) (hn2 : (n2 : Int) ≤ l - n) : Calls Try.prog 6 #[.agg #[.slice s n c, .slice s2 n2 c2], .int .i64 l] w fun e w' => e = .returned (.int .i64 (l - n - n2)) ∧ Below w.heap.size w w' := by
  go_enter Try.func6, Try.ntmps6
  go_wp2_with fail
  refine (szF_on _ n _ _ _ h0 h1 hn).mono ?_
  rintro e w1 ⟨rfl, rfl⟩
  go_wp2_with fail
  refine (szF_on _ n2 _ _ _ (by omega) (by omega) hn2).mono ?_
  rintro e w1 ⟨rfl, rfl⟩
  go_wp2
  go_ret
  exact ⟨rfl, (by repeat (first | with_reducible exact Below.refl _ _ | with_reducible refine Below.setCell ?_ (by first | omega | (simp; done) | (simp; omega)) _ | with_reducible refine bDrewN ?_ _ | with_reducible refine Below.drew ?_ | with_reducible refine Below.alloc ?_ (by first | omega | (simp; done) | (simp; omega)) _))⟩
set_option maxHeartbeats 800000 in
theorem szPipe_off1 (s : Option Addr) (n c : Nat) (V : Nat → Option Nat) (s2 : Option Addr) (n2 c2 : Nat) (V2 : Nat → Option Nat) (l : Int) (w : World) (h0 : 0 ≤ l) (h1 : l ≤ 1048576) (hn : l < (n : Int)) (hn' : (n : Int) ≤ 9223372036854775807) : Calls Try.prog 6 #[.agg #[.slice s n c, .slice s2 n2 c2], .int .i64 l] w fun e w' => e = .returned (.int .i64 (-1)) ∧ Below w.heap.size w w' := by
  go_enter Try.func6, Try.ntmps6
  go_wp2_with fail
  refine (szF_off _ n _ _ _ h0 h1 hn hn').mono ?_
  rintro e w1 ⟨rfl, rfl⟩
  go_wp2
  go_ret
  exact ⟨rfl, (by repeat (first | with_reducible exact Below.refl _ _ | with_reducible refine Below.setCell ?_ (by first | omega | (simp; done) | (simp; omega)) _ | with_reducible refine bDrewN ?_ _ | with_reducible refine Below.drew ?_ | with_reducible refine Below.alloc ?_ (by first | omega | (simp; done) | (simp; omega)) _))⟩
set_option maxHeartbeats 800000 in
theorem szPipe_off2 (s : Option Addr) (n c : Nat) (V : Nat → Option Nat) (s2 : Option Addr) (n2 c2 : Nat) (V2 : Nat → Option Nat) (l : Int) (w : World) (h0 : 0 ≤ l) (h1 : l ≤ 1048576) (hn : (n : Int) ≤ l) (hn2 : l - n < (n2 : Int)) (hn' : (n2 : Int) ≤ 9223372036854775807) : Calls Try.prog 6 #[.agg #[.slice s n c, .slice s2 n2 c2], .int .i64 l] w fun e w' => e = .returned (.int .i64 (-1)) ∧ Below w.heap.size w w' := by
  go_enter Try.func6, Try.ntmps6
  go_wp2_with fail
  refine (szF_on _ n _ _ _ h0 h1 hn).mono ?_
  rintro e w1 ⟨rfl, rfl⟩
  go_wp2_with fail
  refine (szF_off _ n2 _ _ _ (by omega) (by omega) hn2 hn').mono ?_
  rintro e w1 ⟨rfl, rfl⟩
  go_wp2
  go_ret
  exact ⟨rfl, (by repeat (first | with_reducible exact Below.refl _ _ | with_reducible refine Below.setCell ?_ (by first | omega | (simp; done) | (simp; omega)) _ | with_reducible refine bDrewN ?_ _ | with_reducible refine Below.drew ?_ | with_reducible refine Below.alloc ?_ (by first | omega | (simp; done) | (simp; omega)) _))⟩
set_option maxHeartbeats 2000000 in
theorem toPipe_any (s : Option Addr) (n c : Nat) (V : Nat → Option Nat) (s2 : Option Addr) (n2 c2 : Nat) (V2 : Nat → Option Nat) (w : World) (hn : (n : Int) ≤ 1048576) (hn2 : (n2 : Int) ≤ 1048576) (HR : Hid (RowF w s n V)) (HR2 : Hid (RowF w s2 n2 V2)) : Calls Try.prog 8 #[.agg #[.slice s n c, .slice s2 n2 c2]] w fun e w' => ∃ b b2, e = .returned (.agg #[.slice (some ⟨b, 0, none⟩) n n, .slice (some ⟨b2, 0, none⟩) n2 n2]) ∧ RowF w' (some ⟨b, 0, none⟩) n V ∧ RowF w' (some ⟨b2, 0, none⟩) n2 V2 ∧ Below w.heap.size w w' := by
  have sto := store_sl
  have A1 : Hid (∀ W, Below w.heap.size w W → RowF W s n V) := fun W h => HR.out.below h
  have A2 : Hid (∀ W, Below w.heap.size w W → RowF W s2 n2 V2) := fun W h => HR2.out.below h
  go_enter Try.func8, Try.ntmps8
  go_wp2_with fail
  refine (toFloat64S_any s n c V _ hn (A1.out _ (by repeat (first | with_reducible exact Below.refl _ _ | with_reducible refine Below.setCell ?_ (by first | omega | (simp; done) | (simp; omega)) _ | with_reducible refine bDrewN ?_ _ | with_reducible refine Below.drew ?_ | with_reducible refine Below.alloc ?_ (by first | omega | (simp; done) | (simp; omega)) _)))).mono ?_
  rintro e w1 ⟨rfl, z1, O1, h1⟩
  obtain ⟨wd, hwd⟩ : ∃ wd, wd = ((w.alloc (.cells #[.slice s n c, .slice s2 n2 c2] 24)).alloc (.cells #[.slice none 0 0, .slice none 0 0] 27)).alloc (.cells #[.slice none 0 0, .slice none 0 0] 27) := ⟨_, rfl⟩
  have hb1 : Below wd.heap.size wd w1 := by rw [hwd]; exact h1
  have zd : w.heap.size + 1 + 1 + 1 ≤ wd.heap.size := by rw [hwd]; simp
  have c1 : wd.cell? ⟨w.heap.size, 1, none⟩ = some (.slice s2 n2 c2) := by rw [hwd]; simp [go_sem]
  have c2' : wd.cell? ⟨w.heap.size + 1, 0, none⟩ = some (.slice none 0 0) := by rw [hwd]; simp [go_sem]
  have c3 : wd.cell? ⟨w.heap.size + 1, 1, none⟩ = some (.slice none 0 0) := by rw [hwd]; simp [go_sem]
  have c4 : wd.cell? ⟨w.heap.size + 1 + 1, 0, none⟩ = some (.slice none 0 0) := by rw [hwd]; simp [go_sem]
  have c5 : wd.cell? ⟨w.heap.size + 1 + 1, 1, none⟩ = some (.slice none 0 0) := by rw [hwd]; simp [go_sem]
  have f2 : ∀ o, wd.frozen? ⟨w.heap.size + 1, o, none⟩ = false := fun o => by rw [hwd]; simp [go_sem]
  have f4 : ∀ o, wd.frozen? ⟨w.heap.size + 1 + 1, o, none⟩ = false := fun o => by rw [hwd]; simp [go_sem]
  have B0 : Below w.heap.size w wd := by rw [hwd]; exact (by repeat (first | with_reducible exact Below.refl _ _ | with_reducible refine Below.setCell ?_ (by first | omega | (simp; done) | (simp; omega)) _ | with_reducible refine bDrewN ?_ _ | with_reducible refine Below.drew ?_ | with_reducible refine Below.alloc ?_ (by first | omega | (simp; done) | (simp; omega)) _))
  have eb : (((w.alloc (.cells #[.slice s n c, .slice s2 n2 c2] 24)).alloc (.cells #[.slice none 0 0, .slice none 0 0] 27)).alloc (.cells #[.slice none 0 0, .slice none 0 0] 27)).heap.size = wd.heap.size := by rw [hwd]
  have R1 : Hid (RowF w1 (some ⟨wd.heap.size, 0, none⟩) n V) := by rw [hwd]; exact O1.row
  have d1 := (hb1.cell (p := ⟨w.heap.size, 1, none⟩) (by show w.heap.size < _; omega)).trans c1
  have d2 := (hb1.cell (p := ⟨w.heap.size + 1, 0, none⟩) (by show w.heap.size + 1 < _; omega)).trans c2'
  have d3 := (hb1.cell (p := ⟨w.heap.size + 1, 1, none⟩) (by show w.heap.size + 1 < _; omega)).trans c3
  have d4 := (hb1.cell (p := ⟨w.heap.size + 1 + 1, 0, none⟩) (by show w.heap.size + 1 + 1 < _; omega)).trans c4
  have d5 := (hb1.cell (p := ⟨w.heap.size + 1 + 1, 1, none⟩) (by show w.heap.size + 1 + 1 < _; omega)).trans c5
  have g2 : ∀ o, w1.frozen? ⟨w.heap.size + 1, o, none⟩ = false := fun o => (hb1.frozen (p := ⟨w.heap.size + 1, o, none⟩) (by show w.heap.size + 1 < _; omega)).trans (f2 o)
  have g4 : ∀ o, w1.frozen? ⟨w.heap.size + 1 + 1, o, none⟩ = false := fun o => (hb1.frozen (p := ⟨w.heap.size + 1 + 1, o, none⟩) (by show w.heap.size + 1 + 1 < _; omega)).trans (f4 o)
  have B1 : Below w.heap.size w w1 := B0.trans (hb1.mono B0.size)
  have s1 : w.heap.size + 1 + 1 + 1 ≤ w1.heap.size := Nat.le_trans zd hb1.size
  rw [eb]
  clear c1 c2' c3 c4 c5 f2 f4 O1 h1 z1 eb hwd B0
  have HBx0 : Below w.heap.size w (w1.setCell ⟨w.heap.size + 1 + 1, 0, none⟩ (.slice (some ⟨wd.heap.size, 0, none⟩) n n)) := (by repeat (first | with_reducible exact Below.refl _ _ | with_reducible exact B1 | with_reducible refine Below.setCell ?_ (by first | omega | (simp; done) | (simp; omega)) _ | with_reducible refine bDrewN ?_ _ | with_reducible refine Below.drew ?_ | with_reducible refine Below.alloc ?_ (by first | omega | (simp; done) | (simp; omega)) _))
  have HBx : Hid (Below w.heap.size w (w1.setCell ⟨w.heap.size + 1 + 1, 0, none⟩ (.slice (some ⟨wd.heap.size, 0, none⟩) n n))) := HBx0
  clear HBx0
  go_wp2_with fail
  refine (toFloat64S_any s2 n2 c2 V2 _ hn2 (A2.out _ HBx.out)).mono ?_
  rintro e w2 ⟨rfl, z2, O2, h2⟩
  obtain ⟨wm, hwm⟩ : ∃ wm, wm = w1.setCell ⟨w.heap.size + 1 + 1, 0, none⟩ (.slice (some ⟨wd.heap.size, 0, none⟩) n n) := ⟨_, rfl⟩
  have hb2 : Below wm.heap.size wm w2 := by rw [hwm]; exact h2
  have zm : w1.heap.size ≤ wm.heap.size := by rw [hwm]; simp
  have m2 : wm.cell? ⟨w.heap.size + 1, 0, none⟩ = some (.slice none 0 0) := by rw [hwm]; simp [go_sem, d2]
  have m3 : wm.cell? ⟨w.heap.size + 1, 1, none⟩ = some (.slice none 0 0) := by rw [hwm]; simp [go_sem, d3]
  have m4 : wm.cell? ⟨w.heap.size + 1 + 1, 0, none⟩ = some (.slice (some ⟨wd.heap.size, 0, none⟩) n n) := by rw [hwm]; simp [go_sem, d4]
  have m5 : wm.cell? ⟨w.heap.size + 1 + 1, 1, none⟩ = some (.slice none 0 0) := by rw [hwm]; simp [go_sem, d5]
  have y2 : ∀ o, wm.frozen? ⟨w.heap.size + 1, o, none⟩ = false := fun o => by rw [hwm]; simp [go_sem, g2 o]
  have y4 : ∀ o, wm.frozen? ⟨w.heap.size + 1 + 1, o, none⟩ = false := fun o => by rw [hwm]; simp [go_sem, g4 o]
  have RM : Hid (RowF wm (some ⟨wd.heap.size, 0, none⟩) n V) := fun j hj => by
    obtain ⟨b, o, x, e, hl, hc, hx⟩ := R1.out j hj
    cases e
    have n1 : wd.heap.size ≠ w.heap.size + 1 + 1 := by omega
    exact ⟨wd.heap.size, 0, x, rfl, Nat.lt_of_lt_of_le hl zm, by rw [hwm]; simpa [go_sem, n1] using hc, hx⟩
  have R2 : Hid (RowF w2 (some ⟨wd.heap.size, 0, none⟩) n V) := RM.out.below hb2
  have Q2 : Hid (RowF w2 (some ⟨wm.heap.size, 0, none⟩) n2 V2) := by rw [hwm]; exact O2.row
  have eb2 : (w1.setCell ⟨w.heap.size + 1 + 1, 0, none⟩ (.slice (some ⟨wd.heap.size, 0, none⟩) n n)).heap.size = wm.heap.size := by rw [hwm]
  have k2 := (hb2.cell (p := ⟨w.heap.size + 1, 0, none⟩) (by show w.heap.size + 1 < _; omega)).trans m2
  have k3 := (hb2.cell (p := ⟨w.heap.size + 1, 1, none⟩) (by show w.heap.size + 1 < _; omega)).trans m3
  have k4 := (hb2.cell (p := ⟨w.heap.size + 1 + 1, 0, none⟩) (by show w.heap.size + 1 + 1 < _; omega)).trans m4
  have k5 := (hb2.cell (p := ⟨w.heap.size + 1 + 1, 1, none⟩) (by show w.heap.size + 1 + 1 < _; omega)).trans m5
  have x2 : ∀ o, w2.frozen? ⟨w.heap.size + 1, o, none⟩ = false := fun o => (hb2.frozen (p := ⟨w.heap.size + 1, o, none⟩) (by show w.heap.size + 1 < _; omega)).trans (y2 o)
  have x4 : ∀ o, w2.frozen? ⟨w.heap.size + 1 + 1, o, none⟩ = false := fun o => (hb2.frozen (p := ⟨w.heap.size + 1 + 1, o, none⟩) (by show w.heap.size + 1 + 1 < _; omega)).trans (y4 o)
  have HBm : Below w.heap.size w wm := by rw [hwm]; exact HBx.out
  have B2 : Below w.heap.size w w2 := HBm.trans (hb2.mono HBm.size)
  have s2' : w.heap.size + 1 + 1 + 1 ≤ w2.heap.size := by have := hb2.size; omega
  have hne : w.heap.size + 1 + 1 < wd.heap.size := by omega
  have hne2 : w.heap.size + 1 + 1 < wm.heap.size := by omega
  rw [eb2]
  clear d1 d2 d3 d4 d5 g2 g4 m2 m3 m4 m5 y2 y4 O2 h2 z2 eb2 hwm RM R1 HBx B1 HBm hb2 hb1
  go_wp2
  refine bodyPost_ret (v := .agg #[.slice (some ⟨wd.heap.size, 0, none⟩) n n, .slice (some ⟨wm.heap.size, 0, none⟩) n2 n2]) (by first | (simp [results, Try.results8, go_sem, k2, k3, k4, k5]; done) | (simp (maxDischargeDepth := 4) (maxSteps := 1000000) [results, Try.results8, go_sem, k2, k3, k4, k5]; done)) rfl ⟨wd.heap.size, wm.heap.size, rfl, ?_, ?_, (by repeat (first | with_reducible exact Below.refl _ _ | with_reducible exact B2 | with_reducible refine Below.setCell ?_ (by first | omega | (simp; done) | (simp; omega)) _ | with_reducible refine bDrewN ?_ _ | with_reducible refine Below.drew ?_ | with_reducible refine Below.alloc ?_ (by first | omega | (simp; done) | (simp; omega)) _))⟩
  · intro j hj
    obtain ⟨b, o, x, e, hl, hc, hx⟩ := R2.out j hj
    cases e
    refine ⟨wd.heap.size, 0, x, rfl, by simpa using hl, ?_, hx⟩
    have n1 : wd.heap.size ≠ w.heap.size + 1 + 1 := by omega
    have n2 : wd.heap.size ≠ w.heap.size + 1 := by omega
    simpa [go_sem, n1, n2] using hc
  · intro j hj
    obtain ⟨b, o, x, e, hl, hc, hx⟩ := Q2.out j hj
    cases e
    refine ⟨wm.heap.size, 0, x, rfl, by simpa using hl, ?_, hx⟩
    have n1 : wm.heap.size ≠ w.heap.size + 1 + 1 := by omega
    have n2 : wm.heap.size ≠ w.heap.size + 1 := by omega
    simpa [go_sem, n1, n2] using hc
set_option maxHeartbeats 1000000 in
theorem eqPipe_any (s t : Option Addr) (n c d : Nat) (V : Nat → Option Nat) (s2 t2 : Option Addr) (n2 c2 d2 : Nat) (V2 : Nat → Option Nat) (w : World) (hn : (n : Int) ≤ 1048576) (hn2 : (n2 : Int) ≤ 1048576) (H1 : Hid (RowF w s n V)) (H2 : Hid (RowF w s2 n2 V2)) (G1 : Hid (RowF w t n V)) (G2 : Hid (RowF w t2 n2 V2)) :
    Calls Try.prog 10 #[.agg #[.slice s n c, .slice s2 n2 c2], .agg #[.slice t n d, .slice t2 n2 d2]] w fun e w' => e = .returned (.bool true) ∧ Below w.heap.size w w' := by
  have A1 : Hid (∀ W, Below w.heap.size w W → RowF W s n V ∧ RowF W t n V) := fun W h => ⟨H1.out.below h, G1.out.below h⟩
  have A2 : Hid (∀ W, Below w.heap.size w W → RowF W s2 n2 V2 ∧ RowF W t2 n2 V2) := fun W h => ⟨H2.out.below h, G2.out.below h⟩
  have HW0 : Below w.heap.size w ((w.alloc (.cells #[.slice s n c, .slice s2 n2 c2] 27)).alloc (.cells #[.slice t n d, .slice t2 n2 d2] 27)) := (by repeat (first | with_reducible exact Below.refl _ _ | with_reducible refine Below.setCell ?_ (by first | omega | (simp; done) | (simp; omega)) _ | with_reducible refine bDrewN ?_ _ | with_reducible refine Below.drew ?_ | with_reducible refine Below.alloc ?_ (by first | omega | (simp; done) | (simp; omega)) _))
  have HW : Hid (Below w.heap.size w ((w.alloc (.cells #[.slice s n c, .slice s2 n2 c2] 27)).alloc (.cells #[.slice t n d, .slice t2 n2 d2] 27))) := HW0
  clear HW0
  go_enter Try.func10, Try.ntmps10
  go_wp2_with fail
  refine (eqFloat64S_any s t n c d V _ hn (A1.out _ HW.out).1 (A1.out _ HW.out).2).mono ?_
  rintro e w1 ⟨rfl, h1⟩
  have B1 : Below w.heap.size w w1 := HW.out.trans (h1.mono HW.out.size)
  have k1 : w1.cell? ⟨w.heap.size, 1, none⟩ = some (.slice s2 n2 c2) := by rw [h1.cell (by first | omega | (simp; done) | (simp; omega))]; simp [go_sem]
  have k2 : w1.cell? ⟨w.heap.size + 1, 1, none⟩ = some (.slice t2 n2 d2) := by rw [h1.cell (by first | omega | (simp; done) | (simp; omega))]; simp [go_sem]
  have HB : Hid (Below w.heap.size w w1) := B1
  have s1 := B1.size
  clear h1
  go_wp2_with fail
  refine (eqFloat64S_any s2 t2 n2 c2 d2 V2 _ hn2 (A2.out _ HB.out).1 (A2.out _ HB.out).2).mono ?_
  rintro e w2 ⟨rfl, h2⟩
  have B2 : Below w.heap.size w w2 := B1.trans (h2.mono s1)
  go_wp2
  go_ret
  exact ⟨rfl, B2⟩
end Go.Proofs.Ytebjeoljbbkakaa
