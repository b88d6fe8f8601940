/-
What is proved: what the law's own helpers do with a list of permits: its count, comparing.
-/
import Derived.Test.YtikcfpjfcpbfcaaPeR
namespace Go.Proofs.Ytikcfpjfcpbfcaa
set_option maxRecDepth 40000
open Go.ChangeShapes Go.WideShapes Go.ChangeAt Go.RowKit
set_option linter.unusedVariables false
set_option linter.unusedSimpArgs false

set_option maxHeartbeats 1600000 in
theorem szPermit_on (x0 : Int) (x1 : Int) (t2 : Option Addr) (k2 c2 : Nat) (l : Int) (w : World) (h0 : 0 ≤ l) (h1 : l ≤ 1048576) (hn : (k2 : Int) ≤ l) : Calls Try.prog 11 #[.agg #[.int .i64 x0, .int .i64 x1, .slice t2 k2 c2], .int .i64 l] w fun e w' => e = .returned (.int .i64 (l - (k2 : Int))) ∧ Below w.heap.size w w' := by
  go_enter Try.func11, Try.ntmps11
  go_wp2_with fail
  refine (szInt64S_on _ k2 _ (l) _ (by omega) (by omega) (by omega)).mono ?_
  rintro e w1 ⟨rfl, rfl⟩
  go_wp2
  go_ret
  exact ⟨rfl, (by repeat (first | with_reducible exact Below.refl _ _ | with_reducible refine Below.setCell ?_ (by first | omega | (simp; done) | (simp; omega)) _ | with_reducible refine bDrewN ?_ _ | with_reducible refine Below.drew ?_ | with_reducible refine Below.alloc ?_ (by first | omega | (simp; done) | (simp; omega)) _))⟩
set_option maxHeartbeats 1600000 in
theorem szPermit_off0 (x0 : Int) (x1 : Int) (t2 : Option Addr) (k2 c2 : Nat) (l : Int) (w : World) (h0 : 0 ≤ l) (h1 : l ≤ 1048576)  (hx : l < (k2 : Int)) (hl : (k2 : Int) ≤ 9223372036854775807) : Calls Try.prog 11 #[.agg #[.int .i64 x0, .int .i64 x1, .slice t2 k2 c2], .int .i64 l] w fun e w' => e = .returned (.int .i64 (-1)) ∧ Below w.heap.size w w' := by
  go_enter Try.func11, Try.ntmps11
  go_wp2_with fail
  refine (szInt64S_off _ k2 _ (l) _ (by omega) (by omega) (by omega) hl).mono ?_
  rintro e w1 ⟨rfl, rfl⟩
  go_wp2
  go_ret
  exact ⟨rfl, (by repeat (first | with_reducible exact Below.refl _ _ | with_reducible refine Below.setCell ?_ (by first | omega | (simp; done) | (simp; omega)) _ | with_reducible refine bDrewN ?_ _ | with_reducible refine Below.drew ?_ | with_reducible refine Below.alloc ?_ (by first | omega | (simp; done) | (simp; omega)) _))⟩
set_option maxHeartbeats 800000 in
theorem szPermitS_far (s : Option Addr) (n c : Nat) (w : World) (hn : (1048576 : Int) < n) (hn' : (n : Int) ≤ 9223372036854775807) : Calls Try.prog 43 #[.slice s n c, .int .i64 1048576] w fun e w' => e = .returned (.int .i64 (-1)) ∧ Below w.heap.size w w' := by
  go_enter Try.func43, Try.ntmps43
  go_wp2
  go_ret
  exact ⟨rfl, (by repeat (first | with_reducible exact Below.refl _ _ | with_reducible refine Below.setCell ?_ (by first | omega | (simp; done) | (simp; omega)) _ | with_reducible refine bDrewN ?_ _ | with_reducible refine Below.drew ?_ | with_reducible refine Below.alloc ?_ (by first | omega | (simp; done) | (simp; omega)) _))⟩
set_option maxRecDepth 20000 in
set_option maxHeartbeats 4000000 in
theorem szPermitS_near (s : Option Addr) (n c : Nat) (X0 : Nat → Int) (X1 : Nat → Int) (S2 : Nat → Option Addr) (K2 C2 : Nat → Nat) (V2 : Nat → Nat → Int) (w : World) (l0 : Int) (z0 : 0 ≤ l0) (z1 : l0 ≤ 1048576) (hn : (n : Int) ≤ l0) (hK2 : Hid (∀ j, j < n → (K2 j : Int) ≤ 9223372036854775807)) (HR : Hid (PermitR w s n X0 X1 S2 K2 C2 V2)) : Calls Try.prog 43 #[.slice s n c, .int .i64 l0] w fun e w' => (e = .returned (.int .i64 (-1)) ∨ ∃ r : Int, 0 ≤ r ∧ r ≤ 1048576 ∧ e = .returned (.int .i64 r) ∧ (∀ j, j < n → (K2 j : Int) ≤ 1048576)) ∧ Below w.heap.size w w' := by
  go_enter Try.func43, Try.ntmps43
  go_wp2_with fail
  go_loopw [1, 5] (fun q i wr => ∃ (k : Nat) (l : Int), k ≤ n ∧ i = .int .i64 k ∧ q = .int .i64 l ∧ 0 ≤ l ∧ l ≤ 1048576 ∧ Below w.heap.size w wr ∧ Hid ((∀ j, j < k → (K2 j : Int) ≤ 1048576))) (fun _ i _ => n - (intOf i).toNat)
  case atStart => exact ⟨0, _, Nat.zero_le _, rfl, rfl, by omega, by omega, Below.refl _ _, fun j hj => by omega⟩
  case round =>
    obtain ⟨k, l, hk, rfl, rfl, l0, l1, hB, hP⟩ := hrel
    by_cases h1 : k < n
    · obtain ⟨g, o, rfl, hg, c0, c1, c2, RK2⟩ := HR.out k h1
      have u0 : wr.cell? ⟨g, o + k * 3, none⟩ = some (.int .i64 (X0 k)) := (hB.cell (p := ⟨g, o + k * 3, none⟩) hg).trans c0
      have u1 : wr.cell? ⟨g, o + k * 3 + 1, none⟩ = some (.int .i64 (X1 k)) := (hB.cell (p := ⟨g, o + k * 3 + 1, none⟩) hg).trans c1
      have u2 : wr.cell? ⟨g, o + k * 3 + 2, none⟩ = some (.slice (S2 k) (K2 k) (C2 k)) := (hB.cell (p := ⟨g, o + k * 3 + 2, none⟩) hg).trans c2
      have kk2 := hK2.out k h1
      have k1 : (k : Int) < (n : Int) := by omega
      have HN : Hid (k < n) := h1
      have sB := hB.size
      clear c0 c1 c2 RK2
      by_cases x0 : (K2 k : Int) ≤ l
      case neg =>
        go_wp2_with fail
        refine (szPermit_off0 (X0 k) (X1 k) (S2 k) (K2 k) (C2 k) l _ l0 l1   (by omega) kk2).mono ?_
        rintro e w1 ⟨rfl, h3⟩
        have B1 : Below w.heap.size w w1 := hB.trans (h3.mono sB)
        clear u0 u1 u2
        go_wp2
        go_ret
        exact ⟨.inl rfl, B1⟩
      case pos =>
        have PN : Hid ((∀ j, j < k + 1 → (K2 j : Int) ≤ 1048576)) := fun j hj => by
          by_cases q : j = k
          · subst q; omega
          · exact hP.out j (by omega)
        go_wp2_with fail
        refine (szPermit_on (X0 k) (X1 k) (S2 k) (K2 k) (C2 k) l _ l0 l1  (by omega)).mono ?_
        rintro e w1 ⟨rfl, h3⟩
        have B1 : Below w.heap.size w w1 := hB.trans (h3.mono sB)
        clear u0 u1 u2
        go_wp2
        go_roundw
        case rel => exact ⟨k + 1, _, by have := HN.out; omega, by go_num, rfl, by omega, by omega, (by repeat (first | with_reducible exact Below.refl _ _ | with_reducible exact B1 | with_reducible refine Below.setCell ?_ (by first | omega | (simp; done) | (simp; omega)) _ | with_reducible refine bDrewN ?_ _ | with_reducible refine Below.drew ?_ | with_reducible refine Below.alloc ?_ (by first | omega | (simp; done) | (simp; omega)) _)), PN⟩
        case measure => have := HN.out; simp [intOf]; omega
    · obtain rfl : k = n := by omega
      go_wp2
      go_ret
      exact ⟨.inr ⟨l, l0, l1, rfl, hP.out⟩, hB⟩
set_option maxHeartbeats 4000000 in
theorem eqPermit_any (x0 : Int) (x1 : Int) (t2 u2 : Option Addr) (k2 c2 d2 : Nat) (v2 : Nat → Int) (w : World) (hk2 : (k2 : Int) ≤ 1048576) (H2a : Hid (RowI w t2 k2 v2)) (H2b : Hid (RowI w u2 k2 v2)) : Calls Try.prog 19 #[.agg #[.int .i64 x0, .int .i64 x1, .slice t2 k2 c2], .agg #[.int .i64 x0, .int .i64 x1, .slice u2 k2 d2]] w fun e w' => e = .returned (.bool true) ∧ Below w.heap.size w w' := by
  go_enter Try.func19, Try.ntmps19
  go_upto_region 1 with fail
  obtain ⟨wd, hwd⟩ : ∃ wd, wd = (w.alloc (.cells #[.int .i64 x0, .int .i64 x1, .slice t2 k2 c2] 44)).alloc (.cells #[.int .i64 x0, .int .i64 x1, .slice u2 k2 d2] 44) := ⟨_, rfl⟩
  rw [← hwd]
  have z1 : w.heap.size < wd.heap.size := by rw [hwd]; simp; omega
  have z2 : w.heap.size + 1 < wd.heap.size := by rw [hwd]; simp
  have a0 : wd.cell? ⟨w.heap.size, 0, none⟩ = some (.int .i64 x0) := by rw [hwd]; simp [go_sem]
  have b0 : wd.cell? ⟨w.heap.size + 1, 0, none⟩ = some (.int .i64 x0) := by rw [hwd]; simp [go_sem]
  have a1 : wd.cell? ⟨w.heap.size, 1, none⟩ = some (.int .i64 x1) := by rw [hwd]; simp [go_sem]
  have b1 : wd.cell? ⟨w.heap.size + 1, 1, none⟩ = some (.int .i64 x1) := by rw [hwd]; simp [go_sem]
  have a2 : wd.cell? ⟨w.heap.size, 2, none⟩ = some (.slice t2 k2 c2) := by rw [hwd]; simp [go_sem]
  have b2 : wd.cell? ⟨w.heap.size + 1, 2, none⟩ = some (.slice u2 k2 d2) := by rw [hwd]; simp [go_sem]
  have B0 : Below w.heap.size w wd := by rw [hwd]; exact (by repeat (first | with_reducible exact Below.refl _ _ | with_reducible refine Below.setCell ?_ (by first | omega | (simp; done) | (simp; omega)) _ | with_reducible refine bDrewN ?_ _ | with_reducible refine Below.drew ?_ | with_reducible refine Below.alloc ?_ (by first | omega | (simp; done) | (simp; omega)) _))
  clear hwd
  go_wp2_with fail
  refine (eqInt64S_any t2 u2 k2 c2 d2 v2 _ hk2 (H2a.out.below B0) (H2b.out.below B0)).mono ?_
  rintro e w1 ⟨rfl, h1⟩
  replace a0 := (h1.cell (p := ⟨w.heap.size, 0, none⟩) z1).trans a0
  replace b0 := (h1.cell (p := ⟨w.heap.size + 1, 0, none⟩) z2).trans b0
  replace a1 := (h1.cell (p := ⟨w.heap.size, 1, none⟩) z1).trans a1
  replace b1 := (h1.cell (p := ⟨w.heap.size + 1, 1, none⟩) z2).trans b1
  replace a2 := (h1.cell (p := ⟨w.heap.size, 2, none⟩) z1).trans a2
  replace b2 := (h1.cell (p := ⟨w.heap.size + 1, 2, none⟩) z2).trans b2
  replace z1 := Nat.lt_of_lt_of_le z1 h1.size
  replace z2 := Nat.lt_of_lt_of_le z2 h1.size
  replace B0 : Below w.heap.size w w1 := B0.trans (h1.mono B0.size)
  clear h1
  go_wp2
  go_ret
  exact ⟨rfl, B0⟩
theorem keepPermitS {W W' : World} {p q i0 j0 i1 j1 i2 j2 : Nat} {a0 b0 a1 b1 a2 b2 : Value} (h0 : W.cell? ⟨p, i0, none⟩ = some a0) (h1 : W.cell? ⟨p, i1, none⟩ = some a1) (h2 : W.cell? ⟨p, i2, none⟩ = some a2) (g0 : W.cell? ⟨q, j0, none⟩ = some b0) (g1 : W.cell? ⟨q, j1, none⟩ = some b1) (g2 : W.cell? ⟨q, j2, none⟩ = some b2) (hp : p < W.heap.size) (hq : q < W.heap.size) (hb : Below W.heap.size W W') :
    W'.cell? ⟨p, i0, none⟩ = some a0 ∧ W'.cell? ⟨p, i1, none⟩ = some a1 ∧ W'.cell? ⟨p, i2, none⟩ = some a2 ∧ W'.cell? ⟨q, j0, none⟩ = some b0 ∧ W'.cell? ⟨q, j1, none⟩ = some b1 ∧ W'.cell? ⟨q, j2, none⟩ = some b2 :=
  ⟨(hb.cell (p := ⟨p, i0, none⟩) hp).trans h0, (hb.cell (p := ⟨p, i1, none⟩) hp).trans h1, (hb.cell (p := ⟨p, i2, none⟩) hp).trans h2, (hb.cell (p := ⟨q, j0, none⟩) hq).trans g0, (hb.cell (p := ⟨q, j1, none⟩) hq).trans g1, (hb.cell (p := ⟨q, j2, none⟩) hq).trans g2⟩
set_option maxRecDepth 20000 in
set_option maxHeartbeats 4000000 in
theorem eqPermitS_any (s t : Option Addr) (n c d : Nat) (X0 : Nat → Int) (X1 : Nat → Int) (S2 : Nat → Option Addr) (K2 C2 : Nat → Nat) (V2 : Nat → Nat → Int) (R2 : Nat → Option Addr) (D2 : Nat → Nat) (w : World) (hn : (n : Int) ≤ 1048576) (hK2 : Hid (∀ j, j < n → (K2 j : Int) ≤ 1048576)) (HR : Hid (PermitR w s n X0 X1 S2 K2 C2 V2)) (HT : Hid (PermitR w t n X0 X1 R2 K2 D2 V2)) :
    Calls Try.prog 57 #[.slice s n c, .slice t n d] w fun e w' => e = .returned (.bool true) ∧ Below w.heap.size w w' := by
  go_enter Try.func57, Try.ntmps57
  go_wp2_with fail
  go_loopw [5] (fun i wr => ∃ k : Nat, k ≤ n ∧ i = .int .i64 k ∧ Below w.heap.size w wr) (fun i _ => n - (intOf i).toNat)
  case atStart => exact ⟨0, Nat.zero_le _, rfl, Below.refl _ _⟩
  case round =>
    obtain ⟨k, hk, rfl, hB⟩ := hrel
    by_cases h1 : k < n
    · obtain ⟨g, o, rfl, hg, c0, c1, c2, RX2⟩ := HR.out k h1
      obtain ⟨p, q, rfl, hp, d0, d1, d2, RY2⟩ := HT.out k h1
      have u0 : wr.cell? ⟨g, o + k * 3, none⟩ = some (.int .i64 (X0 k)) := (hB.cell (p := ⟨g, o + k * 3, none⟩) hg).trans c0
      have v0 : wr.cell? ⟨p, q + k * 3, none⟩ = some (.int .i64 (X0 k)) := (hB.cell (p := ⟨p, q + k * 3, none⟩) hp).trans d0
      have u1 : wr.cell? ⟨g, o + k * 3 + 1, none⟩ = some (.int .i64 (X1 k)) := (hB.cell (p := ⟨g, o + k * 3 + 1, none⟩) hg).trans c1
      have v1 : wr.cell? ⟨p, q + k * 3 + 1, none⟩ = some (.int .i64 (X1 k)) := (hB.cell (p := ⟨p, q + k * 3 + 1, none⟩) hp).trans d1
      have u2 : wr.cell? ⟨g, o + k * 3 + 2, none⟩ = some (.slice (S2 k) (K2 k) (C2 k)) := (hB.cell (p := ⟨g, o + k * 3 + 2, none⟩) hg).trans c2
      have v2 : wr.cell? ⟨p, q + k * 3 + 2, none⟩ = some (.slice (R2 k) (K2 k) (D2 k)) := (hB.cell (p := ⟨p, q + k * 3 + 2, none⟩) hp).trans d2
      have kk2 := hK2.out k h1
      have EX2 : Hid (RowI wr (S2 k) (K2 k) (V2 k) ∧ RowI wr (R2 k) (K2 k) (V2 k)) := ⟨RX2.below hB, RY2.below hB⟩
      have k1 : (k : Int) < (n : Int) := by omega
      have zg : g < wr.heap.size := Nat.lt_of_lt_of_le hg hB.size
      have zp : p < wr.heap.size := Nat.lt_of_lt_of_le hp hB.size
      have HB : Hid (Below w.heap.size w wr) := hB
      clear hB c0 d0 c1 d1 c2 d2 hg hp RX2 RY2
      go_wp2_with fail
      go_region_held3 (fun w' => w'.cell? ⟨g, o + k * 3, none⟩ = some (.int .i64 (X0 k)) ∧ w'.cell? ⟨g, o + k * 3 + 1, none⟩ = some (.int .i64 (X1 k)) ∧ w'.cell? ⟨g, o + k * 3 + 2, none⟩ = some (.slice (S2 k) (K2 k) (C2 k)) ∧ w'.cell? ⟨p, q + k * 3, none⟩ = some (.int .i64 (X0 k)) ∧ w'.cell? ⟨p, q + k * 3 + 1, none⟩ = some (.int .i64 (X1 k)) ∧ w'.cell? ⟨p, q + k * 3 + 2, none⟩ = some (.slice (R2 k) (K2 k) (D2 k))) (first | (refine keepPermitS u0 u1 u2 v0 v1 v2 zg zp ?_; exact (by repeat (first | with_reducible exact Below.refl _ _ | with_reducible exact B3 | with_reducible refine Below.setCell ?_ (by first | omega | (simp; done) | (simp; omega)) _ | with_reducible refine bDrewN ?_ _ | with_reducible refine Below.drew ?_ | with_reducible refine Below.alloc ?_ (by first | omega | (simp; done) | (simp; omega)) _)))) (first
        | (go_at_call 19; refine (eqPermit_any (X0 k) (X1 k) (S2 k) (R2 k) (K2 k) (C2 k) (D2 k) (V2 k) _ kk2 (EX2.out.1.below (by repeat (first | with_reducible exact Below.refl _ _ | with_reducible refine Below.setCell ?_ (by first | omega | (simp; done) | (simp; omega)) _ | with_reducible refine bDrewN ?_ _ | with_reducible refine Below.drew ?_ | with_reducible refine Below.alloc ?_ (by first | omega | (simp; done) | (simp; omega)) _))) (EX2.out.2.below (by repeat (first | with_reducible exact Below.refl _ _ | with_reducible refine Below.setCell ?_ (by first | omega | (simp; done) | (simp; omega)) _ | with_reducible refine bDrewN ?_ _ | with_reducible refine Below.drew ?_ | with_reducible refine Below.alloc ?_ (by first | omega | (simp; done) | (simp; omega)) _)))).mono ?_; rintro r w3 ⟨rfl, h3⟩; have B3 : Below wr.heap.size wr w3 := Below.trans (by repeat (first | with_reducible exact Below.refl _ _ | with_reducible refine Below.setCell ?_ (by first | omega | (simp; done) | (simp; omega)) _ | with_reducible refine bDrewN ?_ _ | with_reducible refine Below.drew ?_ | with_reducible refine Below.alloc ?_ (by first | omega | (simp; done) | (simp; omega)) _)) (h3.mono (by first | omega | (simp; done) | (simp; omega)))))
      all_goals
        have B4 : Below w.heap.size w w3 := HB.out.trans (B3.mono HB.out.size)
        go_wp2
        go_roundw
        case rel => exact ⟨k + 1, by omega, by go_num, (by repeat (first | with_reducible exact Below.refl _ _ | with_reducible exact B4 | with_reducible refine Below.setCell ?_ (by first | omega | (simp; done) | (simp; omega)) _ | with_reducible refine bDrewN ?_ _ | with_reducible refine Below.drew ?_ | with_reducible refine Below.alloc ?_ (by first | omega | (simp; done) | (simp; omega)) _))⟩
        case measure => simp [intOf]; omega
    · obtain rfl : k = n := by omega
      go_wp2
      go_ret
      exact ⟨rfl, (by repeat (first | with_reducible exact Below.refl _ _ | with_reducible exact hB | with_reducible refine Below.setCell ?_ (by first | omega | (simp; done) | (simp; omega)) _ | with_reducible refine bDrewN ?_ _ | with_reducible refine Below.drew ?_ | with_reducible refine Below.alloc ?_ (by first | omega | (simp; done) | (simp; omega)) _))⟩
end Go.Proofs.Ytikcfpjfcpbfcaa
