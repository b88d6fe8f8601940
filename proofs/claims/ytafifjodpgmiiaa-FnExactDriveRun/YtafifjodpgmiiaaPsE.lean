/-
What is proved: what the law's own helpers do with a list of pushes: its count, comparing.
-/
import Derived.Test.YtafifjodpgmiiaaPsR
import Derived.Test.YtafifjodpgmiiaaOdrE
namespace Go.Proofs.Ytafifjodpgmiiaa
set_option maxRecDepth 40000
open Go.ChangeShapes Go.WideShapes Go.ChangeAt Go.RowKit
set_option linter.unusedVariables false
set_option linter.unusedSimpArgs false

set_option maxHeartbeats 1600000 in
theorem szPush_on (t0 : Option Addr) (k0 c0 : Nat) (x1 : Int) (x2 : Bool) (l : Int) (w : World) (h0 : 0 ≤ l) (h1 : l ≤ 1048576) (hn : (k0 : Int) ≤ l) : Calls Try.prog 34 #[.agg #[.slice t0 k0 c0, .int .i64 x1, .bool x2], .int .i64 l] w fun e w' => e = .returned (.int .i64 (l - (k0 : Int))) ∧ Below w.heap.size w w' := by
  go_enter Try.func34, Try.ntmps34
  go_wp2_with fail
  refine (szOrderS_on _ k0 _ (l) _ (by omega) (by omega) (by omega)).mono ?_
  rintro e w1 ⟨rfl, rfl⟩
  go_wp2
  go_ret
  exact ⟨rfl, (by repeat (first | with_reducible exact Below.refl _ _ | with_reducible refine Below.setCell ?_ (by first | omega | (simp; done) | (simp; omega)) _ | with_reducible refine bDrewN ?_ _ | with_reducible refine Below.drew ?_ | with_reducible refine Below.alloc ?_ (by first | omega | (simp; done) | (simp; omega)) _))⟩
set_option maxHeartbeats 1600000 in
theorem szPush_off0 (t0 : Option Addr) (k0 c0 : Nat) (x1 : Int) (x2 : Bool) (l : Int) (w : World) (h0 : 0 ≤ l) (h1 : l ≤ 1048576)  (hx : l < (k0 : Int)) (hl : (k0 : Int) ≤ 9223372036854775807) : Calls Try.prog 34 #[.agg #[.slice t0 k0 c0, .int .i64 x1, .bool x2], .int .i64 l] w fun e w' => e = .returned (.int .i64 (-1)) ∧ Below w.heap.size w w' := by
  go_enter Try.func34, Try.ntmps34
  go_wp2_with fail
  refine (szOrderS_off _ k0 _ (l) _ (by omega) (by omega) (by omega) hl).mono ?_
  rintro e w1 ⟨rfl, rfl⟩
  go_wp2
  go_ret
  exact ⟨rfl, (by repeat (first | with_reducible exact Below.refl _ _ | with_reducible refine Below.setCell ?_ (by first | omega | (simp; done) | (simp; omega)) _ | with_reducible refine bDrewN ?_ _ | with_reducible refine Below.drew ?_ | with_reducible refine Below.alloc ?_ (by first | omega | (simp; done) | (simp; omega)) _))⟩
set_option maxHeartbeats 800000 in
theorem szPushS_far (s : Option Addr) (n c : Nat) (w : World) (hn : (1048576 : Int) < n) (hn' : (n : Int) ≤ 9223372036854775807) : Calls Try.prog 14 #[.slice s n c, .int .i64 1048576] w fun e w' => e = .returned (.int .i64 (-1)) ∧ Below w.heap.size w w' := by
  go_enter Try.func14, Try.ntmps14
  go_wp2
  go_ret
  exact ⟨rfl, (by repeat (first | with_reducible exact Below.refl _ _ | with_reducible refine Below.setCell ?_ (by first | omega | (simp; done) | (simp; omega)) _ | with_reducible refine bDrewN ?_ _ | with_reducible refine Below.drew ?_ | with_reducible refine Below.alloc ?_ (by first | omega | (simp; done) | (simp; omega)) _))⟩
set_option maxRecDepth 20000 in
set_option maxHeartbeats 4000000 in
theorem szPushS_near (s : Option Addr) (n c : Nat) (S0 : Nat → Option Addr) (K0 C0 : Nat → Nat) (V0 : Nat → Nat → Int) (X1 : Nat → Int) (J2 : Nat → Bool) (w : World) (l0 : Int) (z0 : 0 ≤ l0) (z1 : l0 ≤ 1048576) (hn : (n : Int) ≤ l0) (hK0 : Hid (∀ j, j < n → (K0 j : Int) ≤ 9223372036854775807)) (HR : Hid (PshR w s n S0 K0 C0 V0 X1 J2)) : Calls Try.prog 14 #[.slice s n c, .int .i64 l0] w fun e w' => (e = .returned (.int .i64 (-1)) ∨ ∃ r : Int, 0 ≤ r ∧ r ≤ 1048576 ∧ e = .returned (.int .i64 r) ∧ (∀ j, j < n → (K0 j : Int) ≤ 1048576)) ∧ Below w.heap.size w w' := by
  go_enter Try.func14, Try.ntmps14
  go_wp2_with fail
  go_loopw [1, 5] (fun q i wr => ∃ (k : Nat) (l : Int), k ≤ n ∧ i = .int .i64 k ∧ q = .int .i64 l ∧ 0 ≤ l ∧ l ≤ 1048576 ∧ Below w.heap.size w wr ∧ Hid ((∀ j, j < k → (K0 j : Int) ≤ 1048576))) (fun _ i _ => n - (intOf i).toNat)
  case atStart => exact ⟨0, _, Nat.zero_le _, rfl, rfl, by omega, by omega, Below.refl _ _, fun j hj => by omega⟩
  case round =>
    obtain ⟨k, l, hk, rfl, rfl, l0, l1, hB, hP⟩ := hrel
    by_cases h1 : k < n
    · obtain ⟨g, o, rfl, hg, c0, c1, c2, RK0⟩ := HR.out k h1
      have u0 : wr.cell? ⟨g, o + k * 3, none⟩ = some (.slice (S0 k) (K0 k) (C0 k)) := (hB.cell (p := ⟨g, o + k * 3, none⟩) hg).trans c0
      have u1 : wr.cell? ⟨g, o + k * 3 + 1, none⟩ = some (.int .i64 (X1 k)) := (hB.cell (p := ⟨g, o + k * 3 + 1, none⟩) hg).trans c1
      have u2 : wr.cell? ⟨g, o + k * 3 + 2, none⟩ = some (.bool (J2 k)) := (hB.cell (p := ⟨g, o + k * 3 + 2, none⟩) hg).trans c2
      have kk0 := hK0.out k h1
      have k1 : (k : Int) < (n : Int) := by omega
      have HN : Hid (k < n) := h1
      have sB := hB.size
      clear c0 c1 c2 RK0
      by_cases x0 : (K0 k : Int) ≤ l
      case neg =>
        go_wp2_with fail
        refine (szPush_off0 (S0 k) (K0 k) (C0 k) (X1 k) (J2 k) l _ l0 l1  (by omega) kk0).mono ?_
        rintro e w1 ⟨rfl, h3⟩
        have B1 : Below w.heap.size w w1 := hB.trans (h3.mono sB)
        clear u0 u1 u2
        go_wp2
        go_ret
        exact ⟨.inl rfl, B1⟩
      case pos =>
        have PN : Hid ((∀ j, j < k + 1 → (K0 j : Int) ≤ 1048576)) := fun j hj => by
          by_cases q : j = k
          · subst q; omega
          · exact hP.out j (by omega)
        go_wp2_with fail
        refine (szPush_on (S0 k) (K0 k) (C0 k) (X1 k) (J2 k) l _ l0 l1 (by omega)).mono ?_
        rintro e w1 ⟨rfl, h3⟩
        have B1 : Below w.heap.size w w1 := hB.trans (h3.mono sB)
        clear u0 u1 u2
        go_wp2
        go_roundw
        case rel => exact ⟨k + 1, _, by have := HN.out; omega, by go_num, rfl, by omega, by omega, (by repeat (first | with_reducible exact Below.refl _ _ | with_reducible exact B1 | with_reducible refine Below.setCell ?_ (by first | omega | (simp; done) | (simp; omega)) _ | with_reducible refine bDrewN ?_ _ | with_reducible refine Below.drew ?_ | with_reducible refine Below.alloc ?_ (by first | omega | (simp; done) | (simp; omega)) _)), PN⟩
        case measure => have := HN.out; simp [intOf]; omega
    · obtain rfl : k = n := by omega
      go_wp2
      go_ret
      exact ⟨.inr ⟨l, l0, l1, rfl, hP.out⟩, hB⟩
set_option maxHeartbeats 4000000 in
theorem eqPush_any (t0 u0 : Option Addr) (k0 c0 d0 : Nat) (v0 : Nat → Int) (x1 : Int) (x2 : Bool) (w : World) (hk0 : (k0 : Int) ≤ 1048576) (H0a : Hid (RowI w t0 (k0 * 2) v0)) (H0b : Hid (RowI w u0 (k0 * 2) v0)) : Calls Try.prog 39 #[.agg #[.slice t0 k0 c0, .int .i64 x1, .bool x2], .agg #[.slice u0 k0 d0, .int .i64 x1, .bool x2]] w fun e w' => e = .returned (.bool true) ∧ Below w.heap.size w w' := by
  go_enter Try.func39, Try.ntmps39
  go_upto_region 1 with fail
  obtain ⟨wd, hwd⟩ : ∃ wd, wd = (w.alloc (.cells #[.slice t0 k0 c0, .int .i64 x1, .bool x2] 57)).alloc (.cells #[.slice u0 k0 d0, .int .i64 x1, .bool x2] 57) := ⟨_, rfl⟩
  rw [← hwd]
  have z1 : w.heap.size < wd.heap.size := by rw [hwd]; simp; omega
  have z2 : w.heap.size + 1 < wd.heap.size := by rw [hwd]; simp
  have a0 : wd.cell? ⟨w.heap.size, 0, none⟩ = some (.slice t0 k0 c0) := by rw [hwd]; simp [go_sem]
  have b0 : wd.cell? ⟨w.heap.size + 1, 0, none⟩ = some (.slice u0 k0 d0) := by rw [hwd]; simp [go_sem]
  have a1 : wd.cell? ⟨w.heap.size, 1, none⟩ = some (.int .i64 x1) := by rw [hwd]; simp [go_sem]
  have b1 : wd.cell? ⟨w.heap.size + 1, 1, none⟩ = some (.int .i64 x1) := by rw [hwd]; simp [go_sem]
  have a2 : wd.cell? ⟨w.heap.size, 2, none⟩ = some (.bool x2) := by rw [hwd]; simp [go_sem]
  have b2 : wd.cell? ⟨w.heap.size + 1, 2, none⟩ = some (.bool x2) := by rw [hwd]; simp [go_sem]
  have B0 : Below w.heap.size w wd := by rw [hwd]; exact (by repeat (first | with_reducible exact Below.refl _ _ | with_reducible refine Below.setCell ?_ (by first | omega | (simp; done) | (simp; omega)) _ | with_reducible refine bDrewN ?_ _ | with_reducible refine Below.drew ?_ | with_reducible refine Below.alloc ?_ (by first | omega | (simp; done) | (simp; omega)) _))
  clear hwd
  have nb2 : (x2 != x2) = false := bne_self_eq_false x2
  go_wp2_with fail
  refine (eqOrderS_any t0 u0 k0 c0 d0 v0 _ hk0 (H0a.out.below B0) (H0b.out.below B0)).mono ?_
  rintro e w1 ⟨rfl, h1⟩
  replace a0 := (h1.cell (p := ⟨w.heap.size, 0, none⟩) z1).trans a0
  replace b0 := (h1.cell (p := ⟨w.heap.size + 1, 0, none⟩) z2).trans b0
  replace a1 := (h1.cell (p := ⟨w.heap.size, 1, none⟩) z1).trans a1
  replace b1 := (h1.cell (p := ⟨w.heap.size + 1, 1, none⟩) z2).trans b1
  replace a2 := (h1.cell (p := ⟨w.heap.size, 2, none⟩) z1).trans a2
  replace b2 := (h1.cell (p := ⟨w.heap.size + 1, 2, none⟩) z2).trans b2
  replace z1 := Nat.lt_of_lt_of_le z1 h1.size
  replace z2 := Nat.lt_of_lt_of_le z2 h1.size
  replace B0 : Below w.heap.size w w1 := B0.trans (h1.mono B0.size)
  clear h1
  go_wp2
  go_ret
  exact ⟨rfl, B0⟩
theorem keepPushS {W W' : World} {p q i0 j0 i1 j1 i2 j2 : Nat} {a0 b0 a1 b1 a2 b2 : Value} (h0 : W.cell? ⟨p, i0, none⟩ = some a0) (h1 : W.cell? ⟨p, i1, none⟩ = some a1) (h2 : W.cell? ⟨p, i2, none⟩ = some a2) (g0 : W.cell? ⟨q, j0, none⟩ = some b0) (g1 : W.cell? ⟨q, j1, none⟩ = some b1) (g2 : W.cell? ⟨q, j2, none⟩ = some b2) (hp : p < W.heap.size) (hq : q < W.heap.size) (hb : Below W.heap.size W W') :
    W'.cell? ⟨p, i0, none⟩ = some a0 ∧ W'.cell? ⟨p, i1, none⟩ = some a1 ∧ W'.cell? ⟨p, i2, none⟩ = some a2 ∧ W'.cell? ⟨q, j0, none⟩ = some b0 ∧ W'.cell? ⟨q, j1, none⟩ = some b1 ∧ W'.cell? ⟨q, j2, none⟩ = some b2 :=
  ⟨(hb.cell (p := ⟨p, i0, none⟩) hp).trans h0, (hb.cell (p := ⟨p, i1, none⟩) hp).trans h1, (hb.cell (p := ⟨p, i2, none⟩) hp).trans h2, (hb.cell (p := ⟨q, j0, none⟩) hq).trans g0, (hb.cell (p := ⟨q, j1, none⟩) hq).trans g1, (hb.cell (p := ⟨q, j2, none⟩) hq).trans g2⟩
set_option maxRecDepth 20000 in
set_option maxHeartbeats 4000000 in
theorem eqPushS_any (s t : Option Addr) (n c d : Nat) (S0 : Nat → Option Addr) (K0 C0 : Nat → Nat) (V0 : Nat → Nat → Int) (X1 : Nat → Int) (J2 : Nat → Bool) (R0 : Nat → Option Addr) (D0 : Nat → Nat) (w : World) (hn : (n : Int) ≤ 1048576) (hK0 : Hid (∀ j, j < n → (K0 j : Int) ≤ 1048576)) (HR : Hid (PshR w s n S0 K0 C0 V0 X1 J2)) (HT : Hid (PshR w t n R0 K0 D0 V0 X1 J2)) :
    Calls Try.prog 21 #[.slice s n c, .slice t n d] w fun e w' => e = .returned (.bool true) ∧ Below w.heap.size w w' := by
  go_enter Try.func21, Try.ntmps21
  go_wp2_with fail
  go_loopw [5] (fun i wr => ∃ k : Nat, k ≤ n ∧ i = .int .i64 k ∧ Below w.heap.size w wr) (fun i _ => n - (intOf i).toNat)
  case atStart => exact ⟨0, Nat.zero_le _, rfl, Below.refl _ _⟩
  case round =>
    obtain ⟨k, hk, rfl, hB⟩ := hrel
    by_cases h1 : k < n
    · obtain ⟨g, o, rfl, hg, c0, c1, c2, RX0⟩ := HR.out k h1
      obtain ⟨p, q, rfl, hp, d0, d1, d2, RY0⟩ := HT.out k h1
      have u0 : wr.cell? ⟨g, o + k * 3, none⟩ = some (.slice (S0 k) (K0 k) (C0 k)) := (hB.cell (p := ⟨g, o + k * 3, none⟩) hg).trans c0
      have v0 : wr.cell? ⟨p, q + k * 3, none⟩ = some (.slice (R0 k) (K0 k) (D0 k)) := (hB.cell (p := ⟨p, q + k * 3, none⟩) hp).trans d0
      have u1 : wr.cell? ⟨g, o + k * 3 + 1, none⟩ = some (.int .i64 (X1 k)) := (hB.cell (p := ⟨g, o + k * 3 + 1, none⟩) hg).trans c1
      have v1 : wr.cell? ⟨p, q + k * 3 + 1, none⟩ = some (.int .i64 (X1 k)) := (hB.cell (p := ⟨p, q + k * 3 + 1, none⟩) hp).trans d1
      have u2 : wr.cell? ⟨g, o + k * 3 + 2, none⟩ = some (.bool (J2 k)) := (hB.cell (p := ⟨g, o + k * 3 + 2, none⟩) hg).trans c2
      have v2 : wr.cell? ⟨p, q + k * 3 + 2, none⟩ = some (.bool (J2 k)) := (hB.cell (p := ⟨p, q + k * 3 + 2, none⟩) hp).trans d2
      have kk0 := hK0.out k h1
      have EX0 : Hid (RowI wr (S0 k) (K0 k * 2) (V0 k) ∧ RowI wr (R0 k) (K0 k * 2) (V0 k)) := ⟨RX0.below hB, RY0.below hB⟩
      have k1 : (k : Int) < (n : Int) := by omega
      have zg : g < wr.heap.size := Nat.lt_of_lt_of_le hg hB.size
      have zp : p < wr.heap.size := Nat.lt_of_lt_of_le hp hB.size
      have HB : Hid (Below w.heap.size w wr) := hB
      clear hB c0 d0 c1 d1 c2 d2 hg hp RX0 RY0
      go_wp2_with fail
      go_region_held3 (fun w' => w'.cell? ⟨g, o + k * 3, none⟩ = some (.slice (S0 k) (K0 k) (C0 k)) ∧ w'.cell? ⟨g, o + k * 3 + 1, none⟩ = some (.int .i64 (X1 k)) ∧ w'.cell? ⟨g, o + k * 3 + 2, none⟩ = some (.bool (J2 k)) ∧ w'.cell? ⟨p, q + k * 3, none⟩ = some (.slice (R0 k) (K0 k) (D0 k)) ∧ w'.cell? ⟨p, q + k * 3 + 1, none⟩ = some (.int .i64 (X1 k)) ∧ w'.cell? ⟨p, q + k * 3 + 2, none⟩ = some (.bool (J2 k))) (first | (refine keepPushS u0 u1 u2 v0 v1 v2 zg zp ?_; exact (by repeat (first | with_reducible exact Below.refl _ _ | with_reducible exact B3 | with_reducible refine Below.setCell ?_ (by first | omega | (simp; done) | (simp; omega)) _ | with_reducible refine bDrewN ?_ _ | with_reducible refine Below.drew ?_ | with_reducible refine Below.alloc ?_ (by first | omega | (simp; done) | (simp; omega)) _)))) (first
        | (go_at_call 39; refine (eqPush_any (S0 k) (R0 k) (K0 k) (C0 k) (D0 k) (V0 k) (X1 k) (J2 k) _ kk0 (EX0.out.1.below (by repeat (first | with_reducible exact Below.refl _ _ | with_reducible refine Below.setCell ?_ (by first | omega | (simp; done) | (simp; omega)) _ | with_reducible refine bDrewN ?_ _ | with_reducible refine Below.drew ?_ | with_reducible refine Below.alloc ?_ (by first | omega | (simp; done) | (simp; omega)) _))) (EX0.out.2.below (by repeat (first | with_reducible exact Below.refl _ _ | with_reducible refine Below.setCell ?_ (by first | omega | (simp; done) | (simp; omega)) _ | with_reducible refine bDrewN ?_ _ | with_reducible refine Below.drew ?_ | with_reducible refine Below.alloc ?_ (by first | omega | (simp; done) | (simp; omega)) _)))).mono ?_; rintro r w3 ⟨rfl, h3⟩; have B3 : Below wr.heap.size wr w3 := Below.trans (by repeat (first | with_reducible exact Below.refl _ _ | with_reducible refine Below.setCell ?_ (by first | omega | (simp; done) | (simp; omega)) _ | with_reducible refine bDrewN ?_ _ | with_reducible refine Below.drew ?_ | with_reducible refine Below.alloc ?_ (by first | omega | (simp; done) | (simp; omega)) _)) (h3.mono (by first | omega | (simp; done) | (simp; omega)))))
      all_goals
        have B4 : Below w.heap.size w w3 := HB.out.trans (B3.mono HB.out.size)
        go_wp2
        go_roundw
        case rel => exact ⟨k + 1, by omega, by go_num, (by repeat (first | with_reducible exact Below.refl _ _ | with_reducible exact B4 | with_reducible refine Below.setCell ?_ (by first | omega | (simp; done) | (simp; omega)) _ | with_reducible refine bDrewN ?_ _ | with_reducible refine Below.drew ?_ | with_reducible refine Below.alloc ?_ (by first | omega | (simp; done) | (simp; omega)) _))⟩
        case measure => simp [intOf]; omega
    · obtain rfl : k = n := by omega
      go_wp2
      go_ret
      exact ⟨rfl, (by repeat (first | with_reducible exact Below.refl _ _ | with_reducible exact hB | with_reducible refine Below.setCell ?_ (by first | omega | (simp; done) | (simp; omega)) _ | with_reducible refine bDrewN ?_ _ | with_reducible refine Below.drew ?_ | with_reducible refine Below.alloc ?_ (by first | omega | (simp; done) | (simp; omega)) _))⟩
end Go.Proofs.Ytafifjodpgmiiaa
