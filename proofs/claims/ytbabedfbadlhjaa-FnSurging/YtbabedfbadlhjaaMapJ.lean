/-
What is proved: where a map surges at a speed, as the program tells it, up to a NaN's bits.
-/
import Derived.Test.YtbabedfbadlhjaaMapH
import Derived.Deep.DeepCutAuto
import Derived.Deep.RegionHeld3
namespace Go.Proofs.Ytbabedfbadlhjaa
set_option maxRecDepth 40000
open Go.RowKit
set_option linter.unusedVariables false
set_option linter.unusedSimpArgs false

def RF : Value := .func (.func 38) #[] #[]
theorem curve_bounds {n : Nat} {V : Nat → Int} (h : curveB n V = true) : 2 ≤ n ∧ n ≤ 60 := by
  unfold curveB at h
  rw [Bool.and_eq_true, decide_eq_true_eq] at h
  exact h.1
set_option maxHeartbeats 1000000 in
theorem readMap_no (s : Option Addr) (n c : Nat) (x : Int) (w : World)
    (MK : Hid (∀ w', Below w.heap.size w w' → Calls Try.prog 11 #[.slice s n c] w' fun e w'' => e = .returned (.bool false) ∧ Below w'.heap.size w' w'')) :
    Calls Try.prog 35 #[.slice s n c, .int .i64 x, .func (.func 38) #[] #[]] w fun e w' => ∃ r, e = .returned (.float .f64 r) ∧ Fl r none ∧ Below w.heap.size w w' := by
  have HB0 : Below w.heap.size w ((w.alloc (.cells #[.slice s n c] 24)).alloc (.cells #[.int .i64 x] 2)) := (by repeat (first | with_reducible exact Below.refl _ _ | with_reducible refine Below.setCell ?_ (by first | omega | (simp; done) | (simp; omega)) _ | with_reducible refine bDrewN ?_ _ | with_reducible refine Below.drew ?_ | with_reducible refine Below.alloc ?_ (by first | omega | (simp; done) | (simp; omega)) _))
  have HB : Hid (Below w.heap.size w ((w.alloc (.cells #[.slice s n c] 24)).alloc (.cells #[.int .i64 x] 2))) := HB0
  clear HB0
  go_enter Try.func35, Try.ntmps35
  go_wp2_with fail
  refine (MK.out _ HB.out).mono ?_
  rintro e w1 ⟨rfl, h1⟩
  have B1 : Below w.heap.size w w1 := HB.out.trans (h1.mono HB.out.size)
  go_wp2_with fail
  refine (nanM_any _).mono ?_
  rintro e w2 ⟨r, rfl, hr, rfl⟩
  go_wp2
  go_ret
  exact ⟨r, rfl, hr, B1⟩
theorem keep5m {W W' : World} {p r i0 i1 i2 i3 : Nat} {a b0 b1 b2 b3 : Value} (h0 : W.cell? ⟨p, 0, none⟩ = some a) (g0 : W.cell? ⟨r, i0, none⟩ = some b0) (g1 : W.cell? ⟨r, i1, none⟩ = some b1) (g2 : W.cell? ⟨r, i2, none⟩ = some b2) (g3 : W.cell? ⟨r, i3, none⟩ = some b3) (zp : p < W.heap.size) (zr : r < W.heap.size) (hb : Below W.heap.size W W') :
    W'.cell? ⟨p, 0, none⟩ = some a ∧ W'.cell? ⟨r, i0, none⟩ = some b0 ∧ W'.cell? ⟨r, i1, none⟩ = some b1 ∧ W'.cell? ⟨r, i2, none⟩ = some b2 ∧ W'.cell? ⟨r, i3, none⟩ = some b3 :=
  ⟨(hb.cell (p := ⟨p, 0, none⟩) zp).trans h0, (hb.cell (p := ⟨r, i0, none⟩) zr).trans g0, (hb.cell (p := ⟨r, i1, none⟩) zr).trans g1, (hb.cell (p := ⟨r, i2, none⟩) zr).trans g2, (hb.cell (p := ⟨r, i3, none⟩) zr).trans g3⟩
theorem keep4m {W W' : World} {p r : Nat} {a0 a1 b0 b1 : Value} (h0 : W.cell? ⟨p, 0, none⟩ = some a0) (h1 : W.cell? ⟨p, 1, none⟩ = some a1) (g0 : W.cell? ⟨r, 0, none⟩ = some b0) (g1 : W.cell? ⟨r, 1, none⟩ = some b1) (zp : p < W.heap.size) (zr : r < W.heap.size) (hb : Below W.heap.size W W') : W'.cell? ⟨p, 0, none⟩ = some a0 ∧ W'.cell? ⟨p, 1, none⟩ = some a1 ∧ W'.cell? ⟨r, 0, none⟩ = some b0 ∧ W'.cell? ⟨r, 1, none⟩ = some b1 :=
  ⟨(hb.cell (p := ⟨p, 0, none⟩) zp).trans h0, (hb.cell (p := ⟨p, 1, none⟩) zp).trans h1, (hb.cell (p := ⟨r, 0, none⟩) zr).trans g0, (hb.cell (p := ⟨r, 1, none⟩) zr).trans g1⟩
/-- Up to the place that was found. -/
def At2 (w wx : World) (s : Option Addr) (n c : Nat) (x : Int) : Prop := Below w.heap.size w wx ∧ w.heap.size + 1 < wx.heap.size ∧ wx.cell? ⟨w.heap.size, 0, none⟩ = some (.slice s n c) ∧ wx.cell? ⟨w.heap.size + 1, 0, none⟩ = some (.int .i64 x)
set_option maxRecDepth 20000 in
set_option maxHeartbeats 4000000 in
theorem readMap_go (s : Option Addr) (n c : Nat) (S : Nat → Int) (K : Nat → Nat) (V : Nat → Nat → Int) (x : Int) (w : World) (hm : mapB n S K V = true) (HR : Hid (MapR w s n S K V)) :
    Calls Try.prog 35 #[.slice s n c, .int .i64 x, .func (.func 38) #[] #[]] w fun e w' => ∃ r o, readV n S x (surgeF V) o ∧ e = .returned (.float .f64 r) ∧ Fl r o ∧ Below w.heap.size w w' := by
  have sto := store_sl
  obtain ⟨⟨n1, n2⟩, hl⟩ := map_ok hm
  obtain ⟨L, L1, L2⟩ := lines_least hl x
  have hn : (n : Int) ≤ 12 := by omega
  have HL : Hid (∀ j, j < n → lineB S K V j = true) := hl
  have HL2 : Hid (∀ i, i < n → (L ≤ i ↔ x ≤ S i)) := L2
  have MK : Hid (∀ w', Below w.heap.size w w' → Calls Try.prog 11 #[.slice s n c] w' fun e w'' => e = .returned (.bool true) ∧ Below w'.heap.size w' w'') := fun w' hb => by rw [← hm]; exact implMapOk_any s n c S K V w' (HR.out.below hb)
  have HB0 : Below w.heap.size w ((w.alloc (.cells #[.slice s n c] 24)).alloc (.cells #[.int .i64 x] 2)) := (by repeat (first | with_reducible exact Below.refl _ _ | with_reducible refine Below.setCell ?_ (by first | omega | (simp; done) | (simp; omega)) _ | with_reducible refine bDrewN ?_ _ | with_reducible refine Below.drew ?_ | with_reducible refine Below.alloc ?_ (by first | omega | (simp; done) | (simp; omega)) _))
  have HB : Hid (Below w.heap.size w ((w.alloc (.cells #[.slice s n c] 24)).alloc (.cells #[.int .i64 x] 2))) := HB0
  clear HB0 hl L2
  go_enter Try.func35, Try.ntmps35
  go_wp2_with fail
  refine (MK.out _ HB.out).mono ?_
  rintro e w1 ⟨rfl, h1⟩
  have B1 : Below w.heap.size w w1 := HB.out.trans (h1.mono HB.out.size)
  have q0 : w1.cell? ⟨w.heap.size, 0, none⟩ = some (.slice s n c) := by rw [h1.cell (by first | omega | (simp; done) | (simp; omega))]; simp [go_sem]
  have q1 : w1.cell? ⟨w.heap.size + 1, 0, none⟩ = some (.int .i64 x) := by rw [h1.cell (by first | omega | (simp; done) | (simp; omega))]; simp [go_sem]
  have z1 : w.heap.size + 1 < w1.heap.size := by have := h1.size; simp at this; omega
  clear h1 MK HB
  have HM : Hid (∀ (z : Nat) w', (∃ m, w' = w1.drewN m) → z < n → Calls Try.prog 53 #[.int .i64 (z : Int), .pointer (some ⟨w.heap.size, 0, none⟩), .pointer (some ⟨w.heap.size + 1, 0, none⟩)] w' fun e w'' => e = .returned (.bool (decide (L ≤ z))) ∧ ∃ m, w'' = w'.drewN m) := fun z w' hw hz => by
    obtain ⟨m, rfl⟩ := hw
    obtain ⟨g, o, t, c', rfl, hg, c0, c1, RK⟩ := HR.out z hz
    have e1 : decide (L ≤ z) = decide (x ≤ S z) := by rw [decide_eq_decide]; exact HL2.out z hz
    rw [e1]
    exact atLeast_any w.heap.size (w.heap.size + 1) g o n c z x (S z) (w1.drewN m) q0 q1 hz hn ((B1.cell (p := ⟨g, o + z * 2, none⟩) hg).trans c0)
  go_wp2_with fail
  refine (search_any n L w.heap.size (w.heap.size + 1) _ L1 hn HM.out).mono ?_
  rintro e w2 ⟨rfl, m2, rfl⟩
  obtain ⟨w3, hw3⟩ : ∃ w3, w3 = w1.drewN m2 := ⟨_, rfl⟩
  rw [← hw3]
  have B3 : Below w.heap.size w w3 := by rw [hw3]; exact bDrewN B1 _
  replace q0 : w3.cell? ⟨w.heap.size, 0, none⟩ = some (.slice s n c) := by rw [hw3]; exact q0
  replace q1 : w3.cell? ⟨w.heap.size + 1, 0, none⟩ = some (.int .i64 x) := by rw [hw3]; exact q1
  replace z1 : w.heap.size + 1 < w3.heap.size := by rw [hw3]; exact z1
  clear hw3 B1 HM
  by_cases hLn : L = n
  · subst hLn
    have HV : Hid (readV L S x (surgeF V) none) := .inr (.inr ⟨fun a ha e => by have := (HL2.out a ha).2 (by omega); omega, fun a ha e => by have := (HL2.out (a + 1) ha).2 (by omega); omega, rfl⟩)
    have b0 : ((L : Int) == (L : Int)) = true := by simp
    go_wp2_with fail
    refine (nanM_any _).mono ?_
    rintro e w4 ⟨r, rfl, hr, rfl⟩
    go_wp2
    go_ret
    exact ⟨r, none, HV.out, rfl, hr, B3⟩
  · have hLt : L < n := by omega
    have b0 : ((L : Int) == (n : Int)) = false := by simp; omega
    have k1 : (L : Int) < (n : Int) := by omega
    obtain ⟨g, o, t, c', rfl, hg, c0, c1, RK⟩ := HR.out L hLt
    obtain ⟨⟨sL1, sL2⟩, cvL, _⟩ := line_in (HL.out L hLt)
    obtain ⟨kL1, kL2⟩ := curve_bounds cvL
    obtain ⟨gt, ot, rfl, hgt, ct⟩ := RK 0 (by omega)
    have u0 : w3.cell? ⟨g, o + L * 2, none⟩ = some (.int .i64 (S L)) := (B3.cell (p := ⟨g, o + L * 2, none⟩) hg).trans c0
    have u1 : w3.cell? ⟨g, o + L * 2 + 1, none⟩ = some (.slice (some ⟨gt, ot, none⟩) (K L) c') := (B3.cell (p := ⟨g, o + L * 2 + 1, none⟩) hg).trans c1
    have ut : w3.cell? ⟨gt, ot, none⟩ = some (.int .i64 (V L 0)) := (B3.cell (p := ⟨gt, ot, none⟩) hgt).trans (by simpa using ct)
    have zt : gt < w3.heap.size := Nat.lt_of_lt_of_le hgt B3.size
    have s3 := B3.size
    clear c0 c1 RK ct
    have SL := (HL2.out L hLt).1 (Nat.le_refl _)
    by_cases e1 : S L = x
    · have HV : Hid (readV n S x (surgeF V) (some (itf (V L 0)))) := .inl ⟨L, hLt, e1, rfl⟩
      have b1 : (S L == x) = true := by simp [e1]
      clear e1
      have SU : Hid (∀ m, Calls Try.prog 38 #[.agg #[.int .i64 (S L), .slice (some ⟨gt, ot, none⟩) (K L) c']] (w3.drewN m) fun e w' => e = .returned (.float .f64 (itf (V L 0))) ∧ Below w3.heap.size w3 w') := fun m => (surge1_any (S L) gt ot (K L) c' (V L 0) (w3.drewN m) (by omega) (by omega) zt ut).mono fun e w' ⟨h1, h2⟩ => ⟨h1, Below.trans (bDrewN (Below.refl _ _) m) h2⟩
      go_upto_region 6 with fail
      go_quiet (fail)
      go_wp2_with fail
      refine (SU.out _).mono ?_
      rintro e w4 ⟨rfl, h4⟩
      have B4 : Below w.heap.size w w4 := B3.trans (h4.mono s3)
      go_wp2
      go_ret
      exact ⟨_, _, HV.out, rfl, itf_fl _, B4⟩
    · have b1 : (S L == x) = false := by simp [e1]
      rcases Nat.eq_zero_or_pos L with z | z
      · have HV : Hid (readV n S x (surgeF V) none) := .inr (.inr ⟨fun a ha e => by
            by_cases q : a = L
            · subst q; exact e1 e
            · have := map_mono HL.out (i := L) (j := a) (by omega) ha; omega, fun a ha e => by
            by_cases q : a = L
            · subst q; omega
            · have := map_mono HL.out (i := L) (j := a) (by omega) (by omega); omega, rfl⟩)
        have b2 : ((L : Int) == 0) = true := by simp; omega
        clear e1 z
        go_upto_region 6 with fail
        go_quiet (fail)
        go_wp2_with fail
        refine (nanM_any _).mono ?_
        rintro e w4 ⟨r, rfl, hr, rfl⟩
        go_wp2
        go_ret
        exact ⟨r, none, HV.out, rfl, hr, (by repeat (first | with_reducible exact Below.refl _ _ | with_reducible exact B3 | with_reducible refine Below.setCell ?_ (by first | omega | (simp; done) | (simp; omega)) _ | with_reducible refine bDrewN ?_ _ | with_reducible refine Below.drew ?_ | with_reducible refine Below.alloc ?_ (by first | omega | (simp; done) | (simp; omega)) _))⟩
      · obtain ⟨a, ha⟩ : ∃ a, L = a + 1 := ⟨L - 1, by omega⟩
        have haL : (L : Int) - 1 = (a : Int) := by omega
        have hw : IntKind.i64.wrap (a : Int) = (a : Int) := by rw [IntKind.wrap_i64]; omega
        have hal : a < n := by omega
        have Sa : S a < x := by
          rcases Int.lt_or_le (S a) x with q | q
          · exact q
          · have := (HL2.out a hal).2 q; omega
        have Sx : x < S L := by omega
        have HV : Hid (readV n S x (surgeF V) (partO (some (itf (V a 0))) (opO .sub (some (itf (V L 0))) (some (itf (V a 0)))) (x - S a) (S L - S a))) := .inr (.inl ⟨a, by omega, Sa, by rw [← ha]; exact Sx, by rw [← ha]; rfl⟩)
        obtain ⟨g', o', t', c'', e', hg', d0, d1, RJ⟩ := HR.out a hal
        cases e'
        obtain ⟨⟨sA1, sA2⟩, cvA, _⟩ := line_in (HL.out a hal)
        obtain ⟨kA1, kA2⟩ := curve_bounds cvA
        obtain ⟨ga, oa, rfl, hga, ca⟩ := RJ 0 (by omega)
        have y0 : w3.cell? ⟨g, o + a * 2, none⟩ = some (.int .i64 (S a)) := (B3.cell (p := ⟨g, o + a * 2, none⟩) hg').trans d0
        have y1 : w3.cell? ⟨g, o + a * 2 + 1, none⟩ = some (.slice (some ⟨ga, oa, none⟩) (K a) c'') := (B3.cell (p := ⟨g, o + a * 2 + 1, none⟩) hg').trans d1
        have yt : w3.cell? ⟨ga, oa, none⟩ = some (.int .i64 (V a 0)) := (B3.cell (p := ⟨ga, oa, none⟩) hga).trans (by simpa using ca)
        have za : ga < w3.heap.size := Nat.lt_of_lt_of_le hga B3.size
        have zg : g < w3.heap.size := Nat.lt_of_lt_of_le hg' B3.size
        have b2 : ((L : Int) == 0) = false := by simp; omega
        have k4 : (a : Int) < (n : Int) := by omega
        have SA : Hid (∀ W, Below w3.heap.size w3 W → Calls Try.prog 38 #[.agg #[.int .i64 (S a), .slice (some ⟨ga, oa, none⟩) (K a) c'']] W fun e w' => e = .returned (.float .f64 (itf (V a 0))) ∧ Below W.heap.size W w') := fun W hb => surge1_any (S a) ga oa (K a) c'' (V a 0) W (by omega) (by omega) (Nat.lt_of_lt_of_le za hb.size) ((hb.cell (p := ⟨ga, oa, none⟩) za).trans yt)
        have SB : Hid (∀ W, Below w3.heap.size w3 W → Calls Try.prog 38 #[.agg #[.int .i64 (S L), .slice (some ⟨gt, ot, none⟩) (K L) c']] W fun e w' => e = .returned (.float .f64 (itf (V L 0))) ∧ Below W.heap.size W w') := fun W hb => surge1_any (S L) gt ot (K L) c' (V L 0) W (by omega) (by omega) (Nat.lt_of_lt_of_le zt hb.size) ((hb.cell (p := ⟨gt, ot, none⟩) zt).trans ut)
        have hla : a ≠ L := by omega
        clear e1 z d0 d1 RJ ca cvA cvL ha yt ut SL
        go_upto_region 6 with fail
        go_quiet (fail)
        go_upto_region 10 with fail
        obtain ⟨w4, hw4⟩ : ∃ w4, w4 = w3.drewN nq := ⟨_, rfl⟩
        rw [← hw4]
        have b34 : Below w3.heap.size w3 w4 := by rw [hw4]; exact bDrewN (Below.refl _ _) _
        have p0 := (b34.cell (p := ⟨w.heap.size, 0, none⟩) (by show w.heap.size < _; omega)).trans q0
        have p1 := (b34.cell (p := ⟨w.heap.size + 1, 0, none⟩) z1).trans q1
        have x0 := (b34.cell (p := ⟨g, o + L * 2, none⟩) zg).trans u0
        have x1 := (b34.cell (p := ⟨g, o + L * 2 + 1, none⟩) zg).trans u1
        have x2 := (b34.cell (p := ⟨g, o + a * 2, none⟩) zg).trans y0
        have x3 := (b34.cell (p := ⟨g, o + a * 2 + 1, none⟩) zg).trans y1
        have zb : w.heap.size < w4.heap.size := by have := b34.size; omega
        have zb1 : w.heap.size + 1 < w4.heap.size := by have := b34.size; omega
        have zg4 : g < w4.heap.size := Nat.lt_of_lt_of_le zg b34.size
        clear hw4 u0 u1 y0 y1 q0 q1
        go_cut [8, 9] (fun s t wx => ∃ p q : Nat, s = .pointer (some ⟨p, 0, none⟩) ∧ t = .pointer (some ⟨q, 0, none⟩) ∧ w4.heap.size ≤ p ∧ w4.heap.size ≤ q ∧ p < wx.heap.size ∧ q < wx.heap.size ∧ wx.cell? ⟨p, 0, none⟩ = some (.int .i64 (S a)) ∧ wx.cell? ⟨p, 1, none⟩ = some (.slice (some ⟨ga, oa, none⟩) (K a) c'') ∧ wx.cell? ⟨q, 0, none⟩ = some (.int .i64 (S L)) ∧ wx.cell? ⟨q, 1, none⟩ = some (.slice (some ⟨gt, ot, none⟩) (K L) c') ∧ Below w4.heap.size w4 wx)
        case first =>
          go_region_held3 (fun w' => w'.cell? ⟨w.heap.size, 0, none⟩ = some (.slice (some ⟨g, o, none⟩) n c) ∧ w'.cell? ⟨g, o + L * 2, none⟩ = some (.int .i64 (S L)) ∧ w'.cell? ⟨g, o + L * 2 + 1, none⟩ = some (.slice (some ⟨gt, ot, none⟩) (K L) c') ∧ w'.cell? ⟨g, o + a * 2, none⟩ = some (.int .i64 (S a)) ∧ w'.cell? ⟨g, o + a * 2 + 1, none⟩ = some (.slice (some ⟨ga, oa, none⟩) (K a) c'')) (first | (refine keep5m p0 x0 x1 x2 x3 zb zg4 ?_; exact (by repeat (first | with_reducible exact Below.refl _ _ | with_reducible refine Below.setCell ?_ (by first | omega | (simp; done) | (simp; omega)) _ | with_reducible refine bDrewN ?_ _ | with_reducible refine Below.drew ?_ | with_reducible refine Below.alloc ?_ (by first | omega | (simp; done) | (simp; omega)) _)))) (fail)
          all_goals
            go_wp2_with fail
            go_meet
            case rel =>
              refine ⟨_, _, rfl, rfl, ?_, ?_, ?_, ?_, ?_, ?_, ?_, ?_, (by repeat (first | with_reducible exact Below.refl _ _ | with_reducible refine Below.setCell ?_ (by first | omega | (simp; done) | (simp; omega)) _ | with_reducible refine bDrewN ?_ _ | with_reducible refine Below.drew ?_ | with_reducible refine Below.alloc ?_ (by first | omega | (simp; done) | (simp; omega)) _))⟩
              all_goals first | omega | (simp [go_sem, *]; done) | (simp [go_sem, *, Nat.add_assoc]; done) | (simp; omega) | (simp [*]; omega)
        case rest =>
          obtain ⟨p, q, rfl, rfl, hp1, hq1, hp2, hq2, v0, v1, v2, v3, hB⟩ := hcut
          have BW : Below w3.heap.size w3 wc := b34.trans (hB.mono b34.size)
          have sW := BW.size
          have m1 := (hB.cell (p := ⟨w.heap.size + 1, 0, none⟩) zb1).trans p1
          have zc : w.heap.size + 1 < wc.heap.size := Nat.lt_of_lt_of_le zb1 hB.size
          have BC : Below w.heap.size w wc := B3.trans (BW.mono s3)
          have sC := BC.size
          have HBW : Hid (Below w3.heap.size w3 wc) := BW
          clear p0 p1 x0 x1 x2 x3 zb zb1 zg4 b34 hB BW
          go_upto_region 11 with fail
          go_cut [10, 11] (fun s t wx => s = .float .f64 (itf (V a 0)) ∧ t = .float .f64 (itf (V L 0)) ∧ Below wc.heap.size wc wx)
          case first =>
            go_region_held3 (fun w' => w'.cell? ⟨p, 0, none⟩ = some (.int .i64 (S a)) ∧ w'.cell? ⟨p, 1, none⟩ = some (.slice (some ⟨ga, oa, none⟩) (K a) c'') ∧ w'.cell? ⟨q, 0, none⟩ = some (.int .i64 (S L)) ∧ w'.cell? ⟨q, 1, none⟩ = some (.slice (some ⟨gt, ot, none⟩) (K L) c')) (first | (refine keep4m v0 v1 v2 v3 hp2 hq2 ?_; exact (by repeat (first | with_reducible exact Below.refl _ _ | with_reducible exact B6 | with_reducible exact B5 | with_reducible refine Below.setCell ?_ (by first | omega | (simp; done) | (simp; omega)) _ | with_reducible refine bDrewN ?_ _ | with_reducible refine Below.drew ?_ | with_reducible refine Below.alloc ?_ (by first | omega | (simp; done) | (simp; omega)) _)))) (first
              | (go_at_call_of 38 (Value.int IntKind.i64 (S a)); refine (SA.out _ (HBW.out.trans (Below.mono (by repeat (first | with_reducible exact Below.refl _ _ | with_reducible refine Below.setCell ?_ (by first | omega | (simp; done) | (simp; omega)) _ | with_reducible refine bDrewN ?_ _ | with_reducible refine Below.drew ?_ | with_reducible refine Below.alloc ?_ (by first | omega | (simp; done) | (simp; omega)) _)) HBW.out.size))).mono ?_; rintro e w5 ⟨rfl, h5⟩; have B5 : Below wc.heap.size wc w5 := Below.trans (by repeat (first | with_reducible exact Below.refl _ _ | with_reducible refine Below.setCell ?_ (by first | omega | (simp; done) | (simp; omega)) _ | with_reducible refine bDrewN ?_ _ | with_reducible refine Below.drew ?_ | with_reducible refine Below.alloc ?_ (by first | omega | (simp; done) | (simp; omega)) _)) (h5.mono (by first | omega | (simp; done) | (simp; omega))); have s5 := B5.size; clear h5)
              | (go_at_call_of 38 (Value.int IntKind.i64 (S L)); refine (SB.out _ (HBW.out.trans (Below.mono (by repeat (first | with_reducible exact Below.refl _ _ | with_reducible exact B5 | with_reducible refine Below.setCell ?_ (by first | omega | (simp; done) | (simp; omega)) _ | with_reducible refine bDrewN ?_ _ | with_reducible refine Below.drew ?_ | with_reducible refine Below.alloc ?_ (by first | omega | (simp; done) | (simp; omega)) _)) HBW.out.size))).mono ?_; rintro e w6 ⟨rfl, h6⟩; have B6 : Below wc.heap.size wc w6 := Below.trans (by repeat (first | with_reducible exact Below.refl _ _ | with_reducible exact B5 | with_reducible refine Below.setCell ?_ (by first | omega | (simp; done) | (simp; omega)) _ | with_reducible refine bDrewN ?_ _ | with_reducible refine Below.drew ?_ | with_reducible refine Below.alloc ?_ (by first | omega | (simp; done) | (simp; omega)) _)) (h6.mono (by first | omega | (simp; done) | (simp; omega))); clear h6))
            all_goals
              go_wp2_with fail
              go_meet
              case rel => exact ⟨rfl, rfl, (by repeat (first | with_reducible exact Below.refl _ _ | with_reducible exact B6 | with_reducible refine Below.setCell ?_ (by first | omega | (simp; done) | (simp; omega)) _ | with_reducible refine bDrewN ?_ _ | with_reducible refine Below.drew ?_ | with_reducible refine Below.alloc ?_ (by first | omega | (simp; done) | (simp; omega)) _))⟩
          case rest =>
            obtain ⟨rfl, rfl, hC⟩ := hcut
            replace m1 := (hC.cell (p := ⟨w.heap.size + 1, 0, none⟩) zc).trans m1
            have v0' := (hC.cell (p := ⟨p, 0, none⟩) hp2).trans v0
            have v2' := (hC.cell (p := ⟨q, 0, none⟩) hq2).trans v2
            have BD : Below w.heap.size w wc := BC.trans (hC.mono sC)
            have r1 : -1000000 ≤ x := by omega
            have r2 : x ≤ 1000000 := by omega
            clear v0 v1 v2 v3 hC BC sC
            go_wp2_with (first
              | (refine list_fop .sub rfl 30 30 (.tmp 60) (.tmp 61) (by rfl) (by rfl) (by rfl) (by rfl) (itf_fl _) (itf_fl _) ?_; intro d n1 hd)
              | fail)
            refine (partWay_any (itf_fl _) hd _ _ _).mono ?_
            rintro e w7 ⟨r, n7, rfl, hr, rfl⟩
            go_wp2
            go_ret
            exact ⟨r, _, HV.out, rfl, hr, (by repeat (first | with_reducible exact Below.refl _ _ | with_reducible exact BD | with_reducible refine Below.setCell ?_ (by first | omega | (simp; done) | (simp; omega)) _ | with_reducible refine bDrewN ?_ _ | with_reducible refine Below.drew ?_ | with_reducible refine Below.alloc ?_ (by first | omega | (simp; done) | (simp; omega)) _))⟩
end Go.Proofs.Ytbabedfbadlhjaa
