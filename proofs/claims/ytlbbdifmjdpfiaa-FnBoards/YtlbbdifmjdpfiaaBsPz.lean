/-
What is proved: alarms shelved and seen, as the program does it.
-/
import Derived.Test.YtlbbdifmjdpfiaaBsCz
import Derived.Test.YtlbbdifmjdpfiaaBsAz
import Derived.Test.YtlbbdifmjdpfiaaZdC
import Derived.Test.YtlbbdifmjdpfiaaZdB
import Derived.Deep.RegionHeld3
import Derived.Deep.DeepCutAuto
namespace Go.Proofs.Ytlbbdifmjdpfiaa
set_option maxRecDepth 40000
open Go.ChangeShapes Go.WideShapes Go.ChangeAt Go.RowKit
set_option linter.unusedVariables false
set_option linter.unusedSimpArgs false

theorem shf_yes {n : Nat} {z : Int × Int} (h : shfB n z = true) : (0 ≤ z.1 ∧ z.1 ≤ (n : Int) - 1) ∧ (1 ≤ z.2 ∧ z.2 ≤ 1000) := by
  unfold shfB at h
  simp only [Bool.and_eq_true] at h
  exact ⟨inB_yes h.1, inB_yes h.2⟩
theorem keepSet {W : World} {p q b o : Nat} {u v0 v1 u0 u1 : Value} (h0 : W.cell? ⟨p, 0, none⟩ = some v0) (h1 : W.cell? ⟨p, 1, none⟩ = some v1) (g0 : W.cell? ⟨q, 0, none⟩ = some u0) (g1 : W.cell? ⟨q, 1, none⟩ = some u1) (hp : p ≠ b) (hq : q ≠ b) : (W.setCell ⟨b, o, none⟩ u).cell? ⟨p, 0, none⟩ = some v0 ∧ (W.setCell ⟨b, o, none⟩ u).cell? ⟨p, 1, none⟩ = some v1 ∧ (W.setCell ⟨b, o, none⟩ u).cell? ⟨q, 0, none⟩ = some u0 ∧ (W.setCell ⟨b, o, none⟩ u).cell? ⟨q, 1, none⟩ = some u1 :=
  ⟨by rw [World.cell?_setCell_other _ _ _ _ (by intro e; cases e; exact hp rfl)]; exact h0, by rw [World.cell?_setCell_other _ _ _ _ (by intro e; cases e; exact hp rfl)]; exact h1, by rw [World.cell?_setCell_other _ _ _ _ (by intro e; cases e; exact hq rfl)]; exact g0, by rw [World.cell?_setCell_other _ _ _ _ (by intro e; cases e; exact hq rfl)]; exact g1⟩
set_option maxRecDepth 20000 in
set_option maxHeartbeats 8000000 in
theorem shelve_any (p b : Nat) (x : Int) (n : Nat) (V : Nat → Int × Int × Int × Bool × Int) (s : Option Addr) (m c : Nat) (Sh : Nat → Int × Int) (w : World) (q0 : w.cell? ⟨p, 0, none⟩ = some (.int .i64 x)) (q1 : w.cell? ⟨p, 1, none⟩ = some (.slice (some ⟨b, 0, none⟩) n n)) (zp : p < w.heap.size) (pb : p ≠ b) (hn : (n : Int) ≤ 60) (HM : Hid (AlM b w n V)) (x0 : 0 ≤ x) (x1 : x ≤ 1000000000) (hm : (m : Int) ≤ 60) (hS : ∀ j, j < m → shfB n (Sh j) = true) (HR : Hid (RowShelf w s m Sh)) (HF : Hid (0 < m → ∀ b' o', s = some ⟨b', o', none⟩ → b' ≠ b)) :
    Calls Try.prog 49 #[.pointer (some ⟨p, 0, none⟩), .slice s m c] w fun e w' => e = .returned (.tuple #[]) ∧ AlM b w' n (shV x V Sh m) ∧ Beside b w w' := by
  have HS : Hid (∀ j, j < m → shfB n (Sh j) = true) := hS
  clear hS
  go_enter Try.func49, Try.ntmps49
  go_wp2_with fail
  go_loopw [8] (fun i wr => ∃ k : Nat, k ≤ m ∧ i = .int .i64 k ∧ AlM b wr n (shV x V Sh k) ∧ Beside b w wr) (fun i _ => m - (intOf i).toNat)
  case atStart => exact ⟨0, Nat.zero_le _, rfl, HM.out, Beside.of (Below.refl _ _)⟩
  case round =>
    obtain ⟨k, hk, rfl, hA, hB⟩ := hrel
    have HA : Hid (AlM b wr n (shV x V Sh k)) := hA
    have zs := hB.2.2.2.1
    by_cases h1 : k < m
    · obtain ⟨g, o, rfl, hg, c0, c1⟩ := HR.out k h1
      have nb := HF.out (by omega) g o rfl
      replace c0 := (hB.cell (p := ⟨g, o + k * 2, none⟩) hg nb).trans c0
      replace c1 := (hB.cell (p := ⟨g, o + k * 2 + 1, none⟩) hg nb).trans c1
      obtain ⟨⟨a, t⟩, hV⟩ : ∃ z, Sh k = z := ⟨_, rfl⟩
      rw [hV] at c0 c1
      simp only at c0 c1
      obtain ⟨⟨a0, a1⟩, t0, t1⟩ := shf_yes (HS.out k h1)
      rw [hV] at a0 a1 t0 t1
      simp only at a0 a1 t0 t1
      obtain ⟨j, rfl⟩ : ∃ j : Nat, a = (j : Int) := ⟨a.toNat, by omega⟩
      have HV : Hid (Sh k = ((j : Int), t)) := hV
      have hj : j < n := by omega
      have jn : (j : Int) < (n : Int) := by omega
      have r0 := (hB.cell (p := ⟨p, 0, none⟩) zp pb).trans q0
      have r1 := (hB.cell (p := ⟨p, 1, none⟩) zp pb).trans q1
      obtain ⟨-, hf, hc⟩ := hA
      obtain ⟨-, -, -, -, e4⟩ := hc j hj
      have f4 := hf (j * 5 + 4)
      have k1 : (k : Int) < (m : Int) := by omega
      have zpr : p < wr.heap.size := by omega
      have zbr : b < wr.heap.size := HA.out.1
      have wk : IntKind.i64.wrap (x + t) = x + t := by rw [IntKind.wrap_i64]; omega
      have HB : Hid (Beside b w wr) := hB
      clear hB hc hf hV hg
      go_upto_region 3 with fail
      obtain ⟨wa, hwa⟩ : ∃ wa, wa = wr.alloc (.cells #[.int .i64 (j : Int), .int .i64 t] 94) := ⟨_, rfl⟩
      obtain ⟨r, hr⟩ : ∃ r, wr.heap.size = r := ⟨_, rfl⟩
      rw [← hwa, hr]
      have hb : Below wr.heap.size wr wa := by rw [hwa]; exact below0 _ _
      have s0 : wa.cell? ⟨r, 0, none⟩ = some (.int .i64 (j : Int)) := by rw [hwa, ← hr]; simp [go_sem]
      have s1 : wa.cell? ⟨r, 1, none⟩ = some (.int .i64 t) := by rw [hwa, ← hr]; simp [go_sem]
      replace r0 := (hb.cell (p := ⟨p, 0, none⟩) zpr).trans r0
      replace r1 := (hb.cell (p := ⟨p, 1, none⟩) zpr).trans r1
      replace e4 := (hb.cell (p := ⟨b, j * 5 + 4, none⟩) zbr).trans e4
      replace f4 := (hb.frozen (p := ⟨b, j * 5 + 4, none⟩) zbr).trans f4
      have rb : r ≠ b := by omega
      have HX : Hid (AlM b (wa.setCell ⟨b, j * 5 + 4, none⟩ (.int .i64 (x + t))) n (shV x V Sh (k + 1))) := by
        have := (HA.out.below hb).f4 hj (x + t)
        show AlM b _ n (upd (shV x V Sh k) (Sh k).1.toNat (toF (shV x V Sh k (Sh k).1.toNat) (x + (Sh k).2)))
        rw [HV.out]
        exact this
      have HY : Hid (Beside b w (wa.setCell ⟨b, j * 5 + 4, none⟩ (.int .i64 (x + t)))) := (HB.out.trans (Beside.of hb)).trans (Beside.setCell b wa _ _)
      clear hwa hr hb c0 c1
      go_region_held3 (fun w' => w'.cell? ⟨p, 0, none⟩ = some (.int .i64 x) ∧ w'.cell? ⟨p, 1, none⟩ = some (.slice (some ⟨b, 0, none⟩) n n) ∧ w'.cell? ⟨r, 0, none⟩ = some (.int .i64 (j : Int)) ∧ w'.cell? ⟨r, 1, none⟩ = some (.int .i64 t)) (first | exact ⟨r0, r1, s0, s1⟩ | exact keepSet r0 r1 s0 s1 pb rb | (simp [go_sem, r0, r1, s0, s1, pb, rb]; done)) (fail)
      all_goals
        go_wp2
        go_roundw
        case rel => exact ⟨k + 1, by omega, by go_num, HX.out, HY.out⟩
        case measure => first | (simp [intOf]; done) | (simp [intOf]; omega)
    · obtain rfl : k = m := by omega
      go_wp2
      go_end0
      exact ⟨rfl, hA, hB⟩
set_option maxRecDepth 20000 in
set_option maxHeartbeats 8000000 in
theorem see_any (p b : Nat) (x : Int) (n : Nat) (V : Nat → Int × Int × Int × Bool × Int) (s : Option Addr) (m c : Nat) (Se : Nat → Int) (w : World) (q0 : w.cell? ⟨p, 0, none⟩ = some (.int .i64 x)) (q1 : w.cell? ⟨p, 1, none⟩ = some (.slice (some ⟨b, 0, none⟩) n n)) (zp : p < w.heap.size) (pb : p ≠ b) (hn : (n : Int) ≤ 60) (HM : Hid (AlM b w n V)) (hm : (m : Int) ≤ 60) (hS : ∀ j, j < m → 0 ≤ Se j ∧ Se j ≤ (n : Int) - 1) (HR : Hid (RowI w s m Se)) (HF : Hid (0 < m → ∀ b' o', s = some ⟨b', o', none⟩ → b' ≠ b)) :
    Calls Try.prog 50 #[.pointer (some ⟨p, 0, none⟩), .slice s m c] w fun e w' => e = .returned (.tuple #[]) ∧ AlM b w' n (seV V Se m) ∧ Beside b w w' := by
  have HS : Hid (∀ j, j < m → 0 ≤ Se j ∧ Se j ≤ (n : Int) - 1) := hS
  clear hS
  go_enter Try.func50, Try.ntmps50
  go_wp2_with fail
  go_loopw [8] (fun i wr => ∃ k : Nat, k ≤ m ∧ i = .int .i64 k ∧ AlM b wr n (seV V Se k) ∧ Beside b w wr) (fun i _ => m - (intOf i).toNat)
  case atStart => exact ⟨0, Nat.zero_le _, rfl, HM.out, Beside.of (Below.refl _ _)⟩
  case round =>
    obtain ⟨k, hk, rfl, hA, hB⟩ := hrel
    have HA : Hid (AlM b wr n (seV V Se k)) := hA
    have zs := hB.2.2.2.1
    by_cases h1 : k < m
    · obtain ⟨g, o, rfl, hg, c0⟩ := HR.out k h1
      have nb := HF.out (by omega) g o rfl
      replace c0 := (hB.cell (p := ⟨g, o + k, none⟩) hg nb).trans c0
      obtain ⟨a0, a1⟩ := HS.out k h1
      obtain ⟨j, hV⟩ : ∃ j : Nat, Se k = (j : Int) := ⟨(Se k).toNat, by omega⟩
      rw [hV] at c0 a0 a1
      have HV : Hid (Se k = (j : Int)) := hV
      have hj : j < n := by omega
      have jn : (j : Int) < (n : Int) := by omega
      have r1 := (hB.cell (p := ⟨p, 1, none⟩) zp pb).trans q1
      obtain ⟨zbr, hf, hc⟩ := hA
      obtain ⟨e0, e1, e2, e3, e4⟩ := hc j hj
      obtain ⟨⟨G, O, T, F, U⟩, hW⟩ : ∃ z, seV V Se k j = z := ⟨_, rfl⟩
      rw [hW] at e0 e1 e2 e3 e4
      simp only at e0 e1 e2 e3 e4
      obtain ⟨⟨G2, O2, T2, F2, U2⟩, hZ⟩ : ∃ z, seenF (G, O, T, F, U) = z := ⟨_, rfl⟩
      have HE : Hid (seV V Se (k + 1) = upd (seV V Se k) j (G2, O2, T2, F2, U2)) := by
        show upd (seV V Se k) (Se k).toNat (seenF (seV V Se k (Se k).toNat)) = _
        rw [hV, Int.toNat_natCast, hW, hZ]
      have HC : Hid (∀ w, Calls Try.prog 78 #[.agg #[.int .i64 G, .int .i64 O, .int .i64 T, .bool F, .int .i64 U]] w fun e w' => e = .returned (.agg #[.int .i64 G2, .int .i64 O2, .int .i64 T2, .bool F2, .int .i64 U2]) ∧ Below w.heap.size w w') := fun w => by
        have := seen_any G O T U F w
        rw [hZ] at this
        exact this
      have k1 : (k : Int) < (m : Int) := by omega
      have zpr : p < wr.heap.size := by omega
      have HB : Hid (Beside b w wr) := hB
      have HK : Hid (∀ w3, Below wr.heap.size wr w3 → AlM b (((((w3.setCell ⟨b, j * 5, none⟩ (.int .i64 G2)).setCell ⟨b, j * 5 + 1, none⟩ (.int .i64 O2)).setCell ⟨b, j * 5 + 2, none⟩ (.int .i64 T2)).setCell ⟨b, j * 5 + 3, none⟩ (.bool F2)).setCell ⟨b, j * 5 + 4, none⟩ (.int .i64 U2)) n (seV V Se (k + 1)) ∧ Beside b w (((((w3.setCell ⟨b, j * 5, none⟩ (.int .i64 G2)).setCell ⟨b, j * 5 + 1, none⟩ (.int .i64 O2)).setCell ⟨b, j * 5 + 2, none⟩ (.int .i64 T2)).setCell ⟨b, j * 5 + 3, none⟩ (.bool F2)).setCell ⟨b, j * 5 + 4, none⟩ (.int .i64 U2))) := fun w3 h3 => by
        rw [HE.out]
        exact ⟨(HA.out.below h3).on hj G2 O2 T2 F2 U2, (HB.out.trans (Beside.of h3)).trans set5_beside⟩
      clear hB hc hV hg hW hZ
      go_wp2_with fail
      first
        | go_region_with (first | (go_at_call 78; refine (HC.out _).mono ?_; rintro e w3 ⟨rfl, h3⟩; have B3 : Below wr.heap.size wr w3 := Below.trans (by repeat (first | with_reducible exact Below.refl _ _ | with_reducible refine Below.setCell ?_ (by first | omega | (simp; done) | (simp; omega)) _ | with_reducible refine bDrewN ?_ _ | with_reducible refine Below.drew ?_ | with_reducible refine Below.alloc ?_ (by first | omega | (simp; done) | (simp; omega)) _)) (h3.mono (by first | omega | (simp; done) | (simp; omega))); have y0 := (B3.cell (p := ⟨b, j * 5, none⟩) zbr).trans e0; have y1 := (B3.cell (p := ⟨b, j * 5 + 1, none⟩) zbr).trans e1; have y2 := (B3.cell (p := ⟨b, j * 5 + 2, none⟩) zbr).trans e2; have y3 := (B3.cell (p := ⟨b, j * 5 + 3, none⟩) zbr).trans e3; have y4 := (B3.cell (p := ⟨b, j * 5 + 4, none⟩) zbr).trans e4; have g0 := fun o => (B3.frozen (p := ⟨b, o, none⟩) zbr).trans (hf o); have t1 := (B3.cell (p := ⟨p, 1, none⟩) zpr).trans r1; clear h3))
        | fail
      all_goals
        have HX := HK.out _ B3
        have HX1 : Hid (AlM b (((((w3.setCell ⟨b, j * 5, none⟩ (.int .i64 G2)).setCell ⟨b, j * 5 + 1, none⟩ (.int .i64 O2)).setCell ⟨b, j * 5 + 2, none⟩ (.int .i64 T2)).setCell ⟨b, j * 5 + 3, none⟩ (.bool F2)).setCell ⟨b, j * 5 + 4, none⟩ (.int .i64 U2)) n (seV V Se (k + 1))) := HX.1
        have HX2 : Hid (Beside b w (((((w3.setCell ⟨b, j * 5, none⟩ (.int .i64 G2)).setCell ⟨b, j * 5 + 1, none⟩ (.int .i64 O2)).setCell ⟨b, j * 5 + 2, none⟩ (.int .i64 T2)).setCell ⟨b, j * 5 + 3, none⟩ (.bool F2)).setCell ⟨b, j * 5 + 4, none⟩ (.int .i64 U2))) := HX.2
        clear HX
        go_wp2
        go_roundw
        case rel => exact ⟨k + 1, by omega, by go_num, HX1.out, HX2.out⟩
        case measure => first | (simp [intOf]; done) | (simp [intOf]; omega)
    · obtain rfl : k = m := by omega
      go_wp2
      go_end0
      exact ⟨rfl, hA, hB⟩
end Go.Proofs.Ytlbbdifmjdpfiaa
