/-
What is proved: what a right curve has at a flow, as the program tells it, up to a NaN's bits.
-/
import Derived.Test.YtbabedfbadlhjaaRatV
import Derived.Deep.DeepCutAuto
import Derived.Deep.RegionHeld3
namespace Go.Proofs.Ytbabedfbadlhjaa
set_option maxRecDepth 40000
open Go.RowKit
set_option linter.unusedVariables false
set_option linter.unusedSimpArgs false

set_option maxHeartbeats 1000000 in
theorem atKnot_any (p q g o n c i : Nat) (x v : Int) (w : World) (hp : w.cell? ⟨p, 0, none⟩ = some (.slice (some ⟨g, o, none⟩) n c)) (hq : w.cell? ⟨q, 0, none⟩ = some (.int .i64 x)) (hi : i < n) (hn : (n : Int) ≤ 60) (u0 : w.cell? ⟨g, o + i * 2, none⟩ = some (.int .i64 v)) :
    Calls Try.prog 55 #[.int .i64 (i : Int), .pointer (some ⟨p, 0, none⟩), .pointer (some ⟨q, 0, none⟩)] w fun e w' => e = .returned (.bool (decide (x ≤ v))) ∧ ∃ m, w' = w.drewN m := by
  have k1 : (i : Int) < (n : Int) := by omega
  go_enter Try.func55, Try.ntmps55
  go_upto_region 1 with fail
  go_quiet (fail)
  go_wp2
  go_ret
  exact ⟨rfl, _, rfl⟩
set_option maxRecDepth 20000 in
set_option maxHeartbeats 2000000 in
theorem searchK_any (n L : Nat) (p q : Nat) (w : World) (hL : L ≤ n) (hn : (n : Int) ≤ 60)
    (M : Hid (∀ (z : Nat) w', (∃ m, w' = w.drewN m) → z < n → Calls Try.prog 55 #[.int .i64 (z : Int), .pointer (some ⟨p, 0, none⟩), .pointer (some ⟨q, 0, none⟩)] w' fun e w'' => e = .returned (.bool (decide (L ≤ z))) ∧ ∃ m, w'' = w'.drewN m)) :
    Calls Try.prog 52 #[.int .i64 (n : Int), .func (.func 55) #[] #[.pointer (some ⟨p, 0, none⟩), .pointer (some ⟨q, 0, none⟩)]] w fun e w' => e = .returned (.int .i64 (L : Int)) ∧ ∃ m, w' = w.drewN m := by
  go_enter Try.func52, Try.ntmps52
  go_wp2_with fail
  go_loopw [5, 6] (fun i j wr => ∃ l h : Nat, i = .int .i64 l ∧ j = .int .i64 h ∧ l ≤ L ∧ L ≤ h ∧ h ≤ n ∧ ∃ m, wr = w.drewN m) (fun i j _ => (intOf j - intOf i).toNat)
  case atStart => exact ⟨0, n, rfl, rfl, Nat.zero_le _, hL, Nat.le_refl _, 0, rfl⟩
  case round =>
    obtain ⟨l, h, rfl, rfl, r2, r3, r4, hW⟩ := hrel
    have HW : Hid (∃ m, wr = w.drewN m) := hW
    clear hW
    by_cases t : l < h
    · obtain ⟨z, hz⟩ : ∃ z : Nat, (l + h) / 2 = z := ⟨_, rfl⟩
      have z1 : l ≤ z := by omega
      have z2 : z < h := by omega
      have lh : (l : Int) < (h : Int) := by omega
      have l1 : (l : Int) + (h : Int) ≤ 120 := by omega
      have hz' : ((l : Int) + (h : Int)) / 2 = (z : Int) := by omega
      go_wp2_with fail
      refine (M.out z _ HW.out (by omega)).mono ?_
      rintro r w3 ⟨rfl, m3, rfl⟩
      have HW3 : Hid (∃ m, wr.drewN m3 = w.drewN m) := dq HW.out _
      clear hz' hz
      by_cases u : L ≤ z
      · have bu : decide (L ≤ z) = true := decide_eq_true u
        rw [bu]
        go_wp2
        go_round
        case rel => exact ⟨l, z, rfl, rfl, r2, u, by omega, HW3.out⟩
        case measure => simp [intOf]; omega
      · have bu : decide (L ≤ z) = false := decide_eq_false u
        rw [bu]
        go_wp2
        go_round
        case rel => exact ⟨z + 1, h, by go_num, rfl, by omega, r3, r4, HW3.out⟩
        case measure => simp [intOf]; omega
    · obtain rfl : l = L := by omega
      go_wp2
      go_ret
      exact ⟨rfl, HW.out⟩

theorem knots_least {n : Nat} {V : Nat → Int} (hl : curveB n V = true) (x : Int) : ∃ L, L ≤ n ∧ ∀ i, i < n → (L ≤ i ↔ x ≤ V (i * 2)) := by
  have key : ∀ m, m ≤ n → ∃ L, L ≤ m ∧ ∀ i, i < m → (L ≤ i ↔ x ≤ V (i * 2)) := by
    intro m
    induction m with
    | zero => exact fun _ => ⟨0, Nat.le_refl _, fun i hi => by omega⟩
    | succ m ih =>
      intro hm
      obtain ⟨L, h1, h2⟩ := ih (by omega)
      by_cases e : L = m
      · by_cases q : x ≤ V (m * 2)
        · refine ⟨m, by omega, fun i hi => ?_⟩
          by_cases r : i = m
          · subst r; exact ⟨fun _ => q, fun _ => Nat.le_refl _⟩
          · rw [← h2 i (by omega), e]
        · refine ⟨m + 1, Nat.le_refl _, fun i hi => ?_⟩
          by_cases r : i = m
          · subst r; exact ⟨fun _ => by omega, fun _ => absurd (by assumption) q⟩
          · have := h2 i (by omega)
            rw [e] at this
            exact ⟨fun _ => by omega, fun h => by have := this.2 h; omega⟩
      · refine ⟨L, by omega, fun i hi => ?_⟩
        by_cases r : i = m
        · subst r
          have a1 : x ≤ V (L * 2) := (h2 L (by omega)).1 (Nat.le_refl _)
          have a2 := knot_mono hl (i := L) (j := i) (by omega) (by omega)
          exact ⟨fun _ => by omega, fun _ => by omega⟩
        · exact h2 i (by omega)
  exact key n (Nat.le_refl _)
set_option maxRecDepth 20000 in
set_option maxHeartbeats 4000000 in
theorem ratio_any (v : Int) (s : Option Addr) (n c : Nat) (V : Nat → Int) (x : Int) (w : World) (hc : curveB n V = true) (HR : Hid (RowI w s (n * 2) V)) :
    Calls Try.prog 37 #[.agg #[.int .i64 v, .slice s n c], .int .i64 x] w fun e w' => ∃ r o, onV n V x o ∧ e = .returned (.float .f64 r) ∧ Fl r o ∧ Below w.heap.size w w' := by
  have sto := store_sl
  have cv : ∀ k w, (convert 2 30 (.int .i64 k)).run Try.prog w = .ok (.float .f64 (itf k)) w := fun k w => conv_run k w
  obtain ⟨n1, n2⟩ := curve_bounds hc
  obtain ⟨L, L1, L2⟩ := knots_least hc x
  have hn : (n : Int) ≤ 60 := by omega
  have HC : Hid (curveB n V = true) := hc
  have HL2 : Hid (∀ i, i < n → (L ≤ i ↔ x ≤ V (i * 2))) := L2
  have HM : Hid (∀ W p q, W.cell? ⟨p, 0, none⟩ = some (.slice s n c) → W.cell? ⟨q, 0, none⟩ = some (.int .i64 x) → RowI W s (n * 2) V → ∀ (z : Nat) w', (∃ m, w' = W.drewN m) → z < n → Calls Try.prog 55 #[.int .i64 (z : Int), .pointer (some ⟨p, 0, none⟩), .pointer (some ⟨q, 0, none⟩)] w' fun e w'' => e = .returned (.bool (decide (L ≤ z))) ∧ ∃ m, w'' = w'.drewN m) := fun W p q q0 q1 RW z w' hw hz => by
    obtain ⟨m, rfl⟩ := hw
    obtain ⟨g, o, rfl, hg, c0⟩ := RW (z * 2) (by omega)
    have e1 : decide (L ≤ z) = decide (x ≤ V (z * 2)) := by rw [decide_eq_decide]; exact HL2.out z hz
    rw [e1]
    exact atKnot_any p q g o n c z x (V (z * 2)) (W.drewN m) q0 q1 hz hn c0
  clear L2 hc
  go_enter Try.func37, Try.ntmps37
  go_wp2_with fail
  refine (searchK_any n L _ _ _ L1 hn (HM.out _ _ _ (by simp [go_sem]) (by simp [go_sem]) (HR.out.below (by repeat (first | with_reducible exact Below.refl _ _ | with_reducible refine Below.setCell ?_ (by first | omega | (simp; done) | (simp; omega)) _ | with_reducible refine bDrewN ?_ _ | with_reducible refine Below.drew ?_ | with_reducible refine Below.alloc ?_ (by first | omega | (simp; done) | (simp; omega)) _))))).mono ?_
  rintro e w3 ⟨rfl, m2, hw3⟩
  have B3 : Below w.heap.size w w3 := by rw [hw3]; exact (by repeat (first | with_reducible exact Below.refl _ _ | with_reducible refine Below.setCell ?_ (by first | omega | (simp; done) | (simp; omega)) _ | with_reducible refine bDrewN ?_ _ | with_reducible refine Below.drew ?_ | with_reducible refine Below.alloc ?_ (by first | omega | (simp; done) | (simp; omega)) _))
  have q0 : w3.cell? ⟨w.heap.size + 1 + 1, 0, none⟩ = some (.slice s n c) := by rw [hw3]; simp [go_sem]
  have q1 : w3.cell? ⟨w.heap.size + 1, 0, none⟩ = some (.int .i64 x) := by rw [hw3]; simp [go_sem]
  have z1 : w.heap.size + 1 + 1 < w3.heap.size := by rw [hw3]; simp
  clear hw3 HM
  by_cases hLn : L = n
  · subst hLn
    have HV : Hid (onV L V x none) := .inr (.inr ⟨fun a ha e => by have := (HL2.out a ha).2 (by omega); omega, fun a ha e => by have := (HL2.out (a + 1) ha).2 (by omega); omega, rfl⟩)
    have b0 : ((L : Int) == (L : Int)) = true := by simp
    go_wp2_with fail
    refine (nanM_any _).mono ?_
    rintro e w4 ⟨r, rfl, hr, rfl⟩
    go_wp2
    go_ret
    exact ⟨r, none, HV.out, rfl, hr, B3⟩
  · have hLt : L < n := by omega
    have b0 : ((L : Int) == (n : Int)) = false := by simp; omega
    have k1 : (L : Int) < (n : Int) := by omega
    obtain ⟨g, o, rfl, hg, c0⟩ := HR.out (L * 2) (by omega)
    obtain ⟨g', o', e', _, c1⟩ := HR.out (L * 2 + 1) (by omega)
    cases e'
    have u0 : w3.cell? ⟨g, o + L * 2, none⟩ = some (.int .i64 (V (L * 2))) := (B3.cell (p := ⟨g, o + L * 2, none⟩) hg).trans c0
    have u1 : w3.cell? ⟨g, o + L * 2 + 1, none⟩ = some (.int .i64 (V (L * 2 + 1))) := (B3.cell (p := ⟨g, o + (L * 2 + 1), none⟩) hg).trans c1
    have s3 := B3.size
    clear c0 c1
    have SL := (HL2.out L hLt).1 (Nat.le_refl _)
    by_cases e1 : V (L * 2) = x
    · have HV : Hid (onV n V x (some (itf (V (L * 2 + 1))))) := .inl ⟨L, hLt, e1, rfl⟩
      have b1 : (V (L * 2) == x) = true := by simp [e1]
      clear e1
      go_upto_region 5 with fail
      go_quiet (fail)
      go_wp2
      go_ret
      exact ⟨_, _, HV.out, rfl, itf_fl _, (by repeat (first | with_reducible exact Below.refl _ _ | with_reducible exact B3 | with_reducible refine Below.setCell ?_ (by first | omega | (simp; done) | (simp; omega)) _ | with_reducible refine bDrewN ?_ _ | with_reducible refine Below.drew ?_ | with_reducible refine Below.alloc ?_ (by first | omega | (simp; done) | (simp; omega)) _))⟩
    · have b1 : (V (L * 2) == x) = false := by simp [e1]
      rcases Nat.eq_zero_or_pos L with z | z
      · have HV : Hid (onV n V x none) := .inr (.inr ⟨fun a ha e => by
            by_cases q : a = L
            · subst q; exact e1 e
            · have := knot_mono HC.out (i := L) (j := a) (by omega) ha; omega, fun a ha e => by
            by_cases q : a = L
            · subst q; omega
            · have := knot_mono HC.out (i := L) (j := a) (by omega) (by omega); omega, rfl⟩)
        have b2 : ((L : Int) == 0) = true := by simp; omega
        clear e1 z
        go_upto_region 5 with fail
        go_quiet (fail)
        go_wp2_with fail
        refine (nanM_any _).mono ?_
        rintro e w4 ⟨r, rfl, hr, rfl⟩
        go_wp2
        go_ret
        exact ⟨r, none, HV.out, rfl, hr, (by repeat (first | with_reducible exact Below.refl _ _ | with_reducible exact B3 | with_reducible refine Below.setCell ?_ (by first | omega | (simp; done) | (simp; omega)) _ | with_reducible refine bDrewN ?_ _ | with_reducible refine Below.drew ?_ | with_reducible refine Below.alloc ?_ (by first | omega | (simp; done) | (simp; omega)) _))⟩
      · obtain ⟨a, ha⟩ : ∃ a, L = a + 1 := ⟨L - 1, by omega⟩
        have haL : (L : Int) - 1 = (a : Int) := by omega
        have hw : IntKind.i64.wrap (a : Int) = (a : Int) := by rw [IntKind.wrap_i64]; omega
        have hal : a < n := by omega
        have Sa : V (a * 2) < x := by
          rcases Int.lt_or_le (V (a * 2)) x with q | q
          · exact q
          · have := (HL2.out a hal).2 q; omega
        have Sx : x < V (L * 2) := by omega
        have HV : Hid (onV n V x (partO (some (itf (V (a * 2 + 1)))) (some (itf (V (L * 2 + 1) - V (a * 2 + 1)))) (x - V (a * 2)) (V (L * 2) - V (a * 2)))) := .inr (.inl ⟨a, by omega, Sa, by rw [← ha]; exact Sx, by unfold betw; rw [← ha]⟩)
        obtain ⟨g', o', e', _, d0⟩ := HR.out (a * 2) (by omega)
        cases e'
        obtain ⟨g', o', e', _, d1⟩ := HR.out (a * 2 + 1) (by omega)
        cases e'
        obtain ⟨⟨i1, i2⟩, ⟨i3, i4⟩, _⟩ := knot_in HC.out hal
        obtain ⟨⟨j1, j2⟩, ⟨j3, j4⟩, _⟩ := knot_in HC.out hLt
        have y0 : w3.cell? ⟨g, o + a * 2, none⟩ = some (.int .i64 (V (a * 2))) := (B3.cell (p := ⟨g, o + a * 2, none⟩) hg).trans d0
        have y1 : w3.cell? ⟨g, o + a * 2 + 1, none⟩ = some (.int .i64 (V (a * 2 + 1))) := (B3.cell (p := ⟨g, o + (a * 2 + 1), none⟩) hg).trans d1
        have zg : g < w3.heap.size := Nat.lt_of_lt_of_le hg B3.size
        have b2 : ((L : Int) == 0) = false := by simp; omega
        have k4 : (a : Int) < (n : Int) := by omega
        have x1 : IntKind.i64.wrap (V (L * 2 + 1) - V (a * 2 + 1)) = V (L * 2 + 1) - V (a * 2 + 1) := by rw [IntKind.wrap_i64]; omega
        have x2 : IntKind.i64.wrap (x - V (a * 2)) = x - V (a * 2) := by rw [IntKind.wrap_i64]; omega
        have x3 : IntKind.i64.wrap (V (L * 2) - V (a * 2)) = V (L * 2) - V (a * 2) := by rw [IntKind.wrap_i64]; omega
        clear e1 z d0 d1 ha SL i1 i2 i3 i4 j1 j2 j3 j4 Sa Sx
        go_upto_region 5 with fail
        go_quiet (fail)
        go_upto_region 9 with fail
        obtain ⟨w4, hw4⟩ : ∃ w4, w4 = w3.drewN nq := ⟨_, rfl⟩
        rw [← hw4]
        have b34 : Below w3.heap.size w3 w4 := by rw [hw4]; exact bDrewN (Below.refl _ _) _
        have p0 := (b34.cell (p := ⟨w.heap.size + 1 + 1, 0, none⟩) z1).trans q0
        have p1 := (b34.cell (p := ⟨w.heap.size + 1, 0, none⟩) (by show w.heap.size + 1 < _; omega)).trans q1
        have t0 := (b34.cell (p := ⟨g, o + L * 2, none⟩) zg).trans u0
        have t1 := (b34.cell (p := ⟨g, o + L * 2 + 1, none⟩) zg).trans u1
        have t2 := (b34.cell (p := ⟨g, o + a * 2, none⟩) zg).trans y0
        have t3 := (b34.cell (p := ⟨g, o + a * 2 + 1, none⟩) zg).trans y1
        have zb : w.heap.size + 1 + 1 < w4.heap.size := Nat.lt_of_lt_of_le z1 b34.size
        have zb1 : w.heap.size + 1 < w4.heap.size := by omega
        have zg4 : g < w4.heap.size := Nat.lt_of_lt_of_le zg b34.size
        have B4 : Below w.heap.size w w4 := B3.trans (b34.mono s3)
        have s4 := B4.size
        clear hw4 u0 u1 y0 y1 q0 q1 b34
        go_cut [7, 8] (fun s t wx => ∃ p q : Nat, s = .pointer (some ⟨p, 0, none⟩) ∧ t = .pointer (some ⟨q, 0, none⟩) ∧ w4.heap.size ≤ p ∧ w4.heap.size ≤ q ∧ p < wx.heap.size ∧ q < wx.heap.size ∧ wx.cell? ⟨p, 0, none⟩ = some (.int .i64 (V (a * 2))) ∧ wx.cell? ⟨p, 1, none⟩ = some (.int .i64 (V (a * 2 + 1))) ∧ wx.cell? ⟨q, 0, none⟩ = some (.int .i64 (V (L * 2))) ∧ wx.cell? ⟨q, 1, none⟩ = some (.int .i64 (V (L * 2 + 1))) ∧ Below w4.heap.size w4 wx)
        case first =>
          go_region_held3 (fun w' => w'.cell? ⟨w.heap.size + 1 + 1, 0, none⟩ = some (.slice (some ⟨g, o, none⟩) n c) ∧ w'.cell? ⟨g, o + L * 2, none⟩ = some (.int .i64 (V (L * 2))) ∧ w'.cell? ⟨g, o + L * 2 + 1, none⟩ = some (.int .i64 (V (L * 2 + 1))) ∧ w'.cell? ⟨g, o + a * 2, none⟩ = some (.int .i64 (V (a * 2))) ∧ w'.cell? ⟨g, o + a * 2 + 1, none⟩ = some (.int .i64 (V (a * 2 + 1)))) (first | (refine keep5m p0 t0 t1 t2 t3 zb zg4 ?_; exact (by repeat (first | with_reducible exact Below.refl _ _ | with_reducible refine Below.setCell ?_ (by first | omega | (simp; done) | (simp; omega)) _ | with_reducible refine bDrewN ?_ _ | with_reducible refine Below.drew ?_ | with_reducible refine Below.alloc ?_ (by first | omega | (simp; done) | (simp; omega)) _)))) (fail)
          all_goals
            go_wp2_with fail
            go_meet
            case rel =>
              refine ⟨_, _, rfl, rfl, ?_, ?_, ?_, ?_, ?_, ?_, ?_, ?_, (by repeat (first | with_reducible exact Below.refl _ _ | with_reducible refine Below.setCell ?_ (by first | omega | (simp; done) | (simp; omega)) _ | with_reducible refine bDrewN ?_ _ | with_reducible refine Below.drew ?_ | with_reducible refine Below.alloc ?_ (by first | omega | (simp; done) | (simp; omega)) _))⟩
              all_goals first | omega | (simp [go_sem, *]; done) | (simp [go_sem, *, Nat.add_assoc]; done) | (simp; omega) | (simp [*]; omega)
        case rest =>
          obtain ⟨p, q, rfl, rfl, hp1, hq1, hp2, hq2, v0, v1, v2, v3, hB⟩ := hcut
          have m1 := (hB.cell (p := ⟨w.heap.size + 1, 0, none⟩) zb1).trans p1
          have BC : Below w.heap.size w wc := B4.trans (hB.mono s4)
          clear p0 p1 t0 t1 t2 t3 hB
          go_wp2_with fail
          refine (partWay_any (itf_fl _) (itf_fl _) _ _ _).mono ?_
          rintro e w7 ⟨r, n7, rfl, hr, rfl⟩
          go_wp2
          go_ret
          exact ⟨r, _, HV.out, rfl, hr, (by repeat (first | with_reducible exact Below.refl _ _ | with_reducible exact BC | with_reducible refine Below.setCell ?_ (by first | omega | (simp; done) | (simp; omega)) _ | with_reducible refine bDrewN ?_ _ | with_reducible refine Below.drew ?_ | with_reducible refine Below.alloc ?_ (by first | omega | (simp; done) | (simp; omega)) _))⟩
end Go.Proofs.Ytbabedfbadlhjaa
