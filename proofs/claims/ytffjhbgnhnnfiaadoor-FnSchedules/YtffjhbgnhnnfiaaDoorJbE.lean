/-
What is proved: what the law's own helpers do with a list of jobs: its count, comparing.
-/
import Derived.Test.YtffjhbgnhnnfiaaDoorJbR
namespace Go.Proofs.YtffjhbgnhnnfiaaDoor
set_option maxRecDepth 40000
open Go.ChangeShapes Go.WideShapes Go.ChangeAt Go.RowKit
set_option linter.unusedVariables false
set_option linter.unusedSimpArgs false

set_option maxHeartbeats 1600000 in
theorem szJob_on (x0 : Int) (t1 : Option Addr) (k1 c1 : Nat) (l : Int) (w : World) (h0 : 0 ≤ l) (h1 : l ≤ 1048576) (hn : (k1 : Int) ≤ l) : Calls Tryd.prog 45 #[.agg #[.int .i64 x0, .slice t1 k1 c1], .int .i64 l] w fun e w' => e = .returned (.int .i64 (l - (k1 : Int))) ∧ Below w.heap.size w w' := by
  go_enter Tryd.func45, Tryd.ntmps45
  go_wp2_with fail
  refine (szInt64S_on _ k1 _ (l) _ (by omega) (by omega) (by omega)).mono ?_
  rintro e w1 ⟨rfl, rfl⟩
  go_wp2
  go_ret
  exact ⟨rfl, (by repeat (first | with_reducible exact Below.refl _ _ | with_reducible refine Below.setCell ?_ (by first | omega | (simp; done) | (simp; omega)) _ | with_reducible refine bDrewN ?_ _ | with_reducible refine Below.drew ?_ | with_reducible refine Below.alloc ?_ (by first | omega | (simp; done) | (simp; omega)) _))⟩
set_option maxHeartbeats 1600000 in
theorem szJob_off0 (x0 : Int) (t1 : Option Addr) (k1 c1 : Nat) (l : Int) (w : World) (h0 : 0 ≤ l) (h1 : l ≤ 1048576)  (hx : l < (k1 : Int)) (hl : (k1 : Int) ≤ 9223372036854775807) : Calls Tryd.prog 45 #[.agg #[.int .i64 x0, .slice t1 k1 c1], .int .i64 l] w fun e w' => e = .returned (.int .i64 (-1)) ∧ Below w.heap.size w w' := by
  go_enter Tryd.func45, Tryd.ntmps45
  go_wp2_with fail
  refine (szInt64S_off _ k1 _ (l) _ (by omega) (by omega) (by omega) hl).mono ?_
  rintro e w1 ⟨rfl, rfl⟩
  go_wp2
  go_ret
  exact ⟨rfl, (by repeat (first | with_reducible exact Below.refl _ _ | with_reducible refine Below.setCell ?_ (by first | omega | (simp; done) | (simp; omega)) _ | with_reducible refine bDrewN ?_ _ | with_reducible refine Below.drew ?_ | with_reducible refine Below.alloc ?_ (by first | omega | (simp; done) | (simp; omega)) _))⟩
set_option maxHeartbeats 800000 in
theorem szJobS_far (s : Option Addr) (n c : Nat) (w : World) (hn : (1048576 : Int) < n) (hn' : (n : Int) ≤ 9223372036854775807) : Calls Tryd.prog 15 #[.slice s n c, .int .i64 1048576] w fun e w' => e = .returned (.int .i64 (-1)) ∧ Below w.heap.size w w' := by
  go_enter Tryd.func15, Tryd.ntmps15
  go_wp2
  go_ret
  exact ⟨rfl, (by repeat (first | with_reducible exact Below.refl _ _ | with_reducible refine Below.setCell ?_ (by first | omega | (simp; done) | (simp; omega)) _ | with_reducible refine bDrewN ?_ _ | with_reducible refine Below.drew ?_ | with_reducible refine Below.alloc ?_ (by first | omega | (simp; done) | (simp; omega)) _))⟩
set_option maxRecDepth 20000 in
set_option maxHeartbeats 4000000 in
theorem szJobS_near (s : Option Addr) (n c : Nat) (X0 : Nat → Int) (S1 : Nat → Option Addr) (K1 C1 : Nat → Nat) (V1 : Nat → Nat → Int) (w : World) (l0 : Int) (z0 : 0 ≤ l0) (z1 : l0 ≤ 1048576) (hn : (n : Int) ≤ l0) (hK1 : Hid (∀ j, j < n → (K1 j : Int) ≤ 9223372036854775807)) (HR : Hid (JobR w s n X0 S1 K1 C1 V1)) : Calls Tryd.prog 15 #[.slice s n c, .int .i64 l0] w fun e w' => (e = .returned (.int .i64 (-1)) ∨ ∃ r : Int, 0 ≤ r ∧ r ≤ 1048576 ∧ e = .returned (.int .i64 r) ∧ (∀ j, j < n → (K1 j : Int) ≤ 1048576)) ∧ Below w.heap.size w w' := by
  go_enter Tryd.func15, Tryd.ntmps15
  go_wp2_with fail
  go_loopw [1, 5] (fun q i wr => ∃ (k : Nat) (l : Int), k ≤ n ∧ i = .int .i64 k ∧ q = .int .i64 l ∧ 0 ≤ l ∧ l ≤ 1048576 ∧ Below w.heap.size w wr ∧ Hid ((∀ j, j < k → (K1 j : Int) ≤ 1048576))) (fun _ i _ => n - (intOf i).toNat)
  case atStart => exact ⟨0, _, Nat.zero_le _, rfl, rfl, by omega, by omega, Below.refl _ _, fun j hj => by omega⟩
  case round =>
    obtain ⟨k, l, hk, rfl, rfl, l0, l1, hB, hP⟩ := hrel
    by_cases h1 : k < n
    · obtain ⟨g, o, rfl, hg, c0, c1, RK1⟩ := HR.out k h1
      have u0 : wr.cell? ⟨g, o + k * 2, none⟩ = some (.int .i64 (X0 k)) := (hB.cell (p := ⟨g, o + k * 2, none⟩) hg).trans c0
      have u1 : wr.cell? ⟨g, o + k * 2 + 1, none⟩ = some (.slice (S1 k) (K1 k) (C1 k)) := (hB.cell (p := ⟨g, o + k * 2 + 1, none⟩) hg).trans c1
      have kk1 := hK1.out k h1
      have k1 : (k : Int) < (n : Int) := by omega
      have HN : Hid (k < n) := h1
      have sB := hB.size
      clear c0 c1 RK1
      by_cases x0 : (K1 k : Int) ≤ l
      case neg =>
        go_wp2_with fail
        refine (szJob_off0 (X0 k) (S1 k) (K1 k) (C1 k) l _ l0 l1   (by omega) kk1).mono ?_
        rintro e w1 ⟨rfl, h3⟩
        have B1 : Below w.heap.size w w1 := hB.trans (h3.mono sB)
        clear u0 u1
        go_wp2
        go_ret
        exact ⟨.inl rfl, B1⟩
      case pos =>
        have PN : Hid ((∀ j, j < k + 1 → (K1 j : Int) ≤ 1048576)) := fun j hj => by
          by_cases q : j = k
          · subst q; omega
          · exact hP.out j (by omega)
        go_wp2_with fail
        refine (szJob_on (X0 k) (S1 k) (K1 k) (C1 k) l _ l0 l1  (by omega)).mono ?_
        rintro e w1 ⟨rfl, h3⟩
        have B1 : Below w.heap.size w w1 := hB.trans (h3.mono sB)
        clear u0 u1
        go_wp2
        go_roundw
        case rel => exact ⟨k + 1, _, by have := HN.out; omega, by go_num, rfl, by omega, by omega, (by repeat (first | with_reducible exact Below.refl _ _ | with_reducible exact B1 | with_reducible refine Below.setCell ?_ (by first | omega | (simp; done) | (simp; omega)) _ | with_reducible refine bDrewN ?_ _ | with_reducible refine Below.drew ?_ | with_reducible refine Below.alloc ?_ (by first | omega | (simp; done) | (simp; omega)) _)), PN⟩
        case measure => have := HN.out; simp [intOf]; omega
    · obtain rfl : k = n := by omega
      go_wp2
      go_ret
      exact ⟨.inr ⟨l, l0, l1, rfl, hP.out⟩, hB⟩
set_option maxHeartbeats 4000000 in
theorem eqJob_any (x0 : Int) (t1 u1 : Option Addr) (k1 c1 d1 : Nat) (v1 : Nat → Int) (w : World) (hk1 : (k1 : Int) ≤ 1048576) (H1a : Hid (RowI w t1 k1 v1)) (H1b : Hid (RowI w u1 k1 v1)) : Calls Tryd.prog 47 #[.agg #[.int .i64 x0, .slice t1 k1 c1], .agg #[.int .i64 x0, .slice u1 k1 d1]] w fun e w' => e = .returned (.bool true) ∧ Below w.heap.size w w' := by
  go_enter Tryd.func47, Tryd.ntmps47
  go_upto_region 1 with fail
  obtain ⟨wd, hwd⟩ : ∃ wd, wd = (w.alloc (.cells #[.int .i64 x0, .slice t1 k1 c1] 33)).alloc (.cells #[.int .i64 x0, .slice u1 k1 d1] 33) := ⟨_, rfl⟩
  rw [← hwd]
  have z1 : w.heap.size < wd.heap.size := by rw [hwd]; simp; omega
  have z2 : w.heap.size + 1 < wd.heap.size := by rw [hwd]; simp
  have a0 : wd.cell? ⟨w.heap.size, 0, none⟩ = some (.int .i64 x0) := by rw [hwd]; simp [go_sem]
  have b0 : wd.cell? ⟨w.heap.size + 1, 0, none⟩ = some (.int .i64 x0) := by rw [hwd]; simp [go_sem]
  have a1 : wd.cell? ⟨w.heap.size, 1, none⟩ = some (.slice t1 k1 c1) := by rw [hwd]; simp [go_sem]
  have b1 : wd.cell? ⟨w.heap.size + 1, 1, none⟩ = some (.slice u1 k1 d1) := by rw [hwd]; simp [go_sem]
  have B0 : Below w.heap.size w wd := by rw [hwd]; exact (by repeat (first | with_reducible exact Below.refl _ _ | with_reducible refine Below.setCell ?_ (by first | omega | (simp; done) | (simp; omega)) _ | with_reducible refine bDrewN ?_ _ | with_reducible refine Below.drew ?_ | with_reducible refine Below.alloc ?_ (by first | omega | (simp; done) | (simp; omega)) _))
  clear hwd
  go_wp2_with fail
  refine (eqInt64S_any t1 u1 k1 c1 d1 v1 _ hk1 (H1a.out.below B0) (H1b.out.below B0)).mono ?_
  rintro e w1 ⟨rfl, h1⟩
  replace a0 := (h1.cell (p := ⟨w.heap.size, 0, none⟩) z1).trans a0
  replace b0 := (h1.cell (p := ⟨w.heap.size + 1, 0, none⟩) z2).trans b0
  replace a1 := (h1.cell (p := ⟨w.heap.size, 1, none⟩) z1).trans a1
  replace b1 := (h1.cell (p := ⟨w.heap.size + 1, 1, none⟩) z2).trans b1
  replace z1 := Nat.lt_of_lt_of_le z1 h1.size
  replace z2 := Nat.lt_of_lt_of_le z2 h1.size
  replace B0 : Below w.heap.size w w1 := B0.trans (h1.mono B0.size)
  clear h1
  go_wp2
  go_ret
  exact ⟨rfl, B0⟩
theorem keepJobS {W W' : World} {p q i0 j0 i1 j1 : Nat} {a0 b0 a1 b1 : Value} (h0 : W.cell? ⟨p, i0, none⟩ = some a0) (h1 : W.cell? ⟨p, i1, none⟩ = some a1) (g0 : W.cell? ⟨q, j0, none⟩ = some b0) (g1 : W.cell? ⟨q, j1, none⟩ = some b1) (hp : p < W.heap.size) (hq : q < W.heap.size) (hb : Below W.heap.size W W') :
    W'.cell? ⟨p, i0, none⟩ = some a0 ∧ W'.cell? ⟨p, i1, none⟩ = some a1 ∧ W'.cell? ⟨q, j0, none⟩ = some b0 ∧ W'.cell? ⟨q, j1, none⟩ = some b1 :=
  ⟨(hb.cell (p := ⟨p, i0, none⟩) hp).trans h0, (hb.cell (p := ⟨p, i1, none⟩) hp).trans h1, (hb.cell (p := ⟨q, j0, none⟩) hq).trans g0, (hb.cell (p := ⟨q, j1, none⟩) hq).trans g1⟩
set_option maxRecDepth 20000 in
set_option maxHeartbeats 4000000 in
theorem eqJobS_any (s t : Option Addr) (n c d : Nat) (X0 : Nat → Int) (S1 : Nat → Option Addr) (K1 C1 : Nat → Nat) (V1 : Nat → Nat → Int) (R1 : Nat → Option Addr) (D1 : Nat → Nat) (w : World) (hn : (n : Int) ≤ 1048576) (hK1 : Hid (∀ j, j < n → (K1 j : Int) ≤ 1048576)) (HR : Hid (JobR w s n X0 S1 K1 C1 V1)) (HT : Hid (JobR w t n X0 R1 K1 D1 V1)) :
    Calls Tryd.prog 17 #[.slice s n c, .slice t n d] w fun e w' => e = .returned (.bool true) ∧ Below w.heap.size w w' := by
  go_enter Tryd.func17, Tryd.ntmps17
  go_wp2_with fail
  go_loopw [5] (fun i wr => ∃ k : Nat, k ≤ n ∧ i = .int .i64 k ∧ Below w.heap.size w wr) (fun i _ => n - (intOf i).toNat)
  case atStart => exact ⟨0, Nat.zero_le _, rfl, Below.refl _ _⟩
  case round =>
    obtain ⟨k, hk, rfl, hB⟩ := hrel
    by_cases h1 : k < n
    · obtain ⟨g, o, rfl, hg, c0, c1, RX1⟩ := HR.out k h1
      obtain ⟨p, q, rfl, hp, d0, d1, RY1⟩ := HT.out k h1
      have u0 : wr.cell? ⟨g, o + k * 2, none⟩ = some (.int .i64 (X0 k)) := (hB.cell (p := ⟨g, o + k * 2, none⟩) hg).trans c0
      have v0 : wr.cell? ⟨p, q + k * 2, none⟩ = some (.int .i64 (X0 k)) := (hB.cell (p := ⟨p, q + k * 2, none⟩) hp).trans d0
      have u1 : wr.cell? ⟨g, o + k * 2 + 1, none⟩ = some (.slice (S1 k) (K1 k) (C1 k)) := (hB.cell (p := ⟨g, o + k * 2 + 1, none⟩) hg).trans c1
      have v1 : wr.cell? ⟨p, q + k * 2 + 1, none⟩ = some (.slice (R1 k) (K1 k) (D1 k)) := (hB.cell (p := ⟨p, q + k * 2 + 1, none⟩) hp).trans d1
      have kk1 := hK1.out k h1
      have EX1 : Hid (RowI wr (S1 k) (K1 k) (V1 k) ∧ RowI wr (R1 k) (K1 k) (V1 k)) := ⟨RX1.below hB, RY1.below hB⟩
      have k1 : (k : Int) < (n : Int) := by omega
      have zg : g < wr.heap.size := Nat.lt_of_lt_of_le hg hB.size
      have zp : p < wr.heap.size := Nat.lt_of_lt_of_le hp hB.size
      have HB : Hid (Below w.heap.size w wr) := hB
      clear hB c0 d0 c1 d1 hg hp RX1 RY1
      go_wp2_with fail
      go_region_held3 (fun w' => w'.cell? ⟨g, o + k * 2, none⟩ = some (.int .i64 (X0 k)) ∧ w'.cell? ⟨g, o + k * 2 + 1, none⟩ = some (.slice (S1 k) (K1 k) (C1 k)) ∧ w'.cell? ⟨p, q + k * 2, none⟩ = some (.int .i64 (X0 k)) ∧ w'.cell? ⟨p, q + k * 2 + 1, none⟩ = some (.slice (R1 k) (K1 k) (D1 k))) (first | (refine keepJobS u0 u1 v0 v1 zg zp ?_; exact (by repeat (first | with_reducible exact Below.refl _ _ | with_reducible exact B3 | with_reducible refine Below.setCell ?_ (by first | omega | (simp; done) | (simp; omega)) _ | with_reducible refine bDrewN ?_ _ | with_reducible refine Below.drew ?_ | with_reducible refine Below.alloc ?_ (by first | omega | (simp; done) | (simp; omega)) _)))) (first
        | (go_at_call 47; refine (eqJob_any (X0 k) (S1 k) (R1 k) (K1 k) (C1 k) (D1 k) (V1 k) _ kk1 (EX1.out.1.below (by repeat (first | with_reducible exact Below.refl _ _ | with_reducible refine Below.setCell ?_ (by first | omega | (simp; done) | (simp; omega)) _ | with_reducible refine bDrewN ?_ _ | with_reducible refine Below.drew ?_ | with_reducible refine Below.alloc ?_ (by first | omega | (simp; done) | (simp; omega)) _))) (EX1.out.2.below (by repeat (first | with_reducible exact Below.refl _ _ | with_reducible refine Below.setCell ?_ (by first | omega | (simp; done) | (simp; omega)) _ | with_reducible refine bDrewN ?_ _ | with_reducible refine Below.drew ?_ | with_reducible refine Below.alloc ?_ (by first | omega | (simp; done) | (simp; omega)) _)))).mono ?_; rintro r w3 ⟨rfl, h3⟩; have B3 : Below wr.heap.size wr w3 := Below.trans (by repeat (first | with_reducible exact Below.refl _ _ | with_reducible refine Below.setCell ?_ (by first | omega | (simp; done) | (simp; omega)) _ | with_reducible refine bDrewN ?_ _ | with_reducible refine Below.drew ?_ | with_reducible refine Below.alloc ?_ (by first | omega | (simp; done) | (simp; omega)) _)) (h3.mono (by first | omega | (simp; done) | (simp; omega)))))
      all_goals
        have B4 : Below w.heap.size w w3 := HB.out.trans (B3.mono HB.out.size)
        go_wp2
        go_roundw
        case rel => exact ⟨k + 1, by omega, by go_num, (by repeat (first | with_reducible exact Below.refl _ _ | with_reducible exact B4 | with_reducible refine Below.setCell ?_ (by first | omega | (simp; done) | (simp; omega)) _ | with_reducible refine bDrewN ?_ _ | with_reducible refine Below.drew ?_ | with_reducible refine Below.alloc ?_ (by first | omega | (simp; done) | (simp; omega)) _))⟩
        case measure => simp [intOf]; omega
    · obtain rfl : k = n := by omega
      go_wp2
      go_ret
      exact ⟨rfl, (by repeat (first | with_reducible exact Below.refl _ _ | with_reducible exact hB | with_reducible refine Below.setCell ?_ (by first | omega | (simp; done) | (simp; omega)) _ | with_reducible refine bDrewN ?_ _ | with_reducible refine Below.drew ?_ | with_reducible refine Below.alloc ?_ (by first | omega | (simp; done) | (simp; omega)) _))⟩
end Go.Proofs.YtffjhbgnhnnfiaaDoor
