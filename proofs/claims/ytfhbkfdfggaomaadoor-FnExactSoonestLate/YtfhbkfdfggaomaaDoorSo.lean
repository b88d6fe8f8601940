/-
What is proved: in how many ticks the first limit is late, as both packages say it.
-/
import Derived.Test.YtfhbkfdfggaomaaDoorClI
import Derived.Test.YtfhbkfdfggaomaaDoorClS
import Derived.Deep.RegionHeld3
import Derived.Deep.DeepCutAuto
import Derived.BigQuiet
namespace Go.Proofs.YtfhbkfdfggaomaaDoor
set_option maxRecDepth 40000
open Go.ChangeShapes Go.WideShapes Go.ChangeAt Go.RowKit
set_option linter.unusedVariables false
set_option linter.unusedSimpArgs false

theorem soo_take {a l r : Int} (h0 : 0 ≤ r) (h1 : 0 < l) (h2 : a < 0 ∨ l < a) : sooN a l r = l := by
  unfold sooN sooT
  rw [decide_eq_true h0, decide_eq_true h1]
  rcases h2 with h | h
  · rw [decide_eq_true h]; rfl
  · rw [decide_eq_true h]; cases (decide (a < 0)) <;> rfl
theorem soo_keep {a l r : Int} (h : r < 0 ∨ l ≤ 0 ∨ (0 ≤ a ∧ a ≤ l)) : sooN a l r = a := by
  unfold sooN sooT
  rcases h with h | h | h
  · rw [decide_eq_false (by omega : ¬ 0 ≤ r)]; rfl
  · rw [decide_eq_false (by omega : ¬ 0 < l)]; cases (decide (0 ≤ r)) <;> rfl
  · rw [decide_eq_false (by omega : ¬ a < 0), decide_eq_false (by omega : ¬ l < a)]; cases (decide (0 ≤ r) && decide (0 < l)) <;> rfl
theorem soov_no {n m : Nat} {V : Nat → Int × Int} {U : Nat → Int × Bool} (h : clsB n V m U = false) : sooV n V m U = -1 := by unfold sooV; rw [h]; rfl
theorem soov_yes {n m : Nat} {V : Nat → Int × Int} {U : Nat → Int × Bool} (h : clsB n V m U = true) : sooV n V m U = sooF V U n := by unfold sooV; rw [h]; rfl
set_option maxRecDepth 20000 in
set_option maxHeartbeats 8000000 in
theorem specSoonest_any (s t : Option Addr) (n c m d : Nat) (V : Nat → Int × Int) (U : Nat → Int × Bool) (w : World) (hn : (n : Int) ≤ 1048576) (hm : (m : Int) ≤ 1048576) (HR : Hid (RowLimit w s n V)) (HU : Hid (RowClock w t m U)) :
    Calls Tryd.prog 11 #[.slice s n c, .slice t m d] w fun e w' => e = .returned (.int .i64 (sooV n V m U)) ∧ Below w.heap.size w w' := by
  have HL : Hid (∀ w1, Below w.heap.size w w1 → Calls Tryd.prog 48 #[.slice s n c, .slice t m d] w1 fun e w' => e = .returned (.bool (clsB n V m U)) ∧ Below w1.heap.size w1 w') := fun w1 hb => l25Ok_any s t n c m d V U w1 hn hm (HR.out.below hb) (HU.out.below hb)
  cases hc : clsB n V m U
  · have HO : Hid (sooV n V m U = -1) := soov_no hc
    rw [hc] at HL
    go_enter Tryd.func11, Tryd.ntmps11
    go_wp2_with fail
    go_loopw [5, 6] (fun v i wr => v = .int .i64 (-1) ∧ i = .int .i64 0 ∧ Below w.heap.size w wr) (fun _ _ _ => 0)
    case atStart => exact ⟨rfl, rfl, Below.refl _ _⟩
    case round =>
      obtain ⟨rfl, rfl, hB⟩ := hrel
      go_wp2_with fail
      refine (HL.out _ hB).mono ?_
      rintro e w1 ⟨rfl, h1⟩
      have B1 : Below w.heap.size w w1 := hB.trans (h1.mono hB.size)
      clear h1
      go_wp2
      go_ret
      exact ⟨ret_int HO.out.symm, B1⟩
  have HO : Hid (sooV n V m U = sooF V U n) := soov_yes hc
  obtain ⟨n6, rfl, hA⟩ := cls_yes hc
  rw [hc] at HL
  have HA : Hid (∀ j, j < m → limB (V j) = true ∧ clkB (V j) (U j) = true) := hA
  have HI : Hid (∀ k, k ≤ m → -1 ≤ sooF V U k ∧ sooF V U k ≤ 10001 ∧ sooF V U k ≠ 0) := soo_in V U m hA
  clear hc hA
  go_enter Tryd.func11, Tryd.ntmps11
  go_wp2_with fail
  go_loopw [5, 6] (fun v i wr => ∃ k : Nat, k ≤ m ∧ i = .int .i64 k ∧ v = .int .i64 (sooF V U k) ∧ Below w.heap.size w wr) (fun _ i _ => m - (intOf i).toNat)
  case atStart => exact ⟨0, Nat.zero_le _, rfl, rfl, Below.refl _ _⟩
  case round =>
    obtain ⟨k, hk, rfl, rfl, hB⟩ := hrel
    have sb := HI.out k hk
    have HS : Hid (∀ x, sooF V U k = x → sooF V U (k + 1) = sooN x ((V k).2 - (U k).1) (U k).1) := fun x hx => by rw [← hx]; rfl
    obtain ⟨S, hS⟩ : ∃ S, sooF V U k = S := ⟨_, rfl⟩
    rw [hS] at sb ⊢
    obtain ⟨s0, s1, s2⟩ := sb
    by_cases h1 : k < m
    · have HS2 : Hid (sooF V U (k + 1) = sooN S ((V k).2 - (U k).1) (U k).1) := HS.out S hS
      clear hS HS
      obtain ⟨g, o, rfl, hg, c0, c1⟩ := HR.out k h1
      obtain ⟨h, i, rfl, hh, d0, d1⟩ := HU.out k h1
      go_wp2_with fail
      refine (HL.out _ hB).mono ?_
      rintro e wl ⟨rfl, hl⟩
      replace hB : Below w.heap.size w wl := hB.trans (hl.mono hB.size)
      clear hl
      replace c1 := (hB.cell (p := ⟨g, o + k * 2 + 1, none⟩) hg).trans c1
      replace d0 := (hB.cell (p := ⟨h, i + k * 2, none⟩) hh).trans d0
      replace d1 := (hB.cell (p := ⟨h, i + k * 2 + 1, none⟩) hh).trans d1
      obtain ⟨q1, q2⟩ := HA.out k h1
      replace q1 := (lim_yes q1).2
      replace q2 := clk_yes q2
      obtain ⟨⟨a, b⟩, hV⟩ : ∃ z, V k = z := ⟨_, rfl⟩
      obtain ⟨⟨r, l⟩, hU⟩ : ∃ z, U k = z := ⟨_, rfl⟩
      rw [hV] at c1 q1 q2 HS2
      rw [hU] at d0 d1 q2 HS2
      simp only at c1 d0 d1 q1 q2
      obtain ⟨q3, q4⟩ := q1
      obtain ⟨⟨q5, q6⟩, q7⟩ := q2
      have HS3 : Hid (sooF V U (k + 1) = sooN S (b - r) r) := HS2.out
      have k1 : (k : Int) < (m : Int) := by omega
      have zg := Nat.lt_of_lt_of_le hg hB.size
      have zh := Nat.lt_of_lt_of_le hh hB.size
      clear hV hU hg hh c0 HS2
      go_upto_region 5 with fail
      go_quiet (fail)
      clear q7
      by_cases t0 : 0 ≤ r
      · by_cases t1 : 0 < b - r
        · by_cases t2 : S < 0
          · have HN : Hid (sooF V U (k + 1) = b - r) := HS3.out.trans (soo_take (by omega) (by omega) (by omega))
            go_wp2
            go_roundw
            case rel => exact ⟨k + 1, by omega, by go_num, by rw [HN.out], (by repeat (first | with_reducible exact Below.refl _ _ | with_reducible exact hB | with_reducible refine Below.setCell ?_ (by first | omega | (simp; done) | (simp; omega)) _ | with_reducible refine bDrewN ?_ _ | with_reducible refine Below.drew ?_ | with_reducible refine Below.alloc ?_ (by first | omega | (simp; done) | (simp; omega)) _))⟩
            case measure => first | (simp [intOf]; done) | (simp [intOf]; omega)
          · by_cases t3 : b - r < S
            · have HN : Hid (sooF V U (k + 1) = b - r) := HS3.out.trans (soo_take (by omega) (by omega) (by omega))
              go_wp2
              go_roundw
              case rel => exact ⟨k + 1, by omega, by go_num, by rw [HN.out], (by repeat (first | with_reducible exact Below.refl _ _ | with_reducible exact hB | with_reducible refine Below.setCell ?_ (by first | omega | (simp; done) | (simp; omega)) _ | with_reducible refine bDrewN ?_ _ | with_reducible refine Below.drew ?_ | with_reducible refine Below.alloc ?_ (by first | omega | (simp; done) | (simp; omega)) _))⟩
              case measure => first | (simp [intOf]; done) | (simp [intOf]; omega)
            · have HN : Hid (sooF V U (k + 1) = S) := HS3.out.trans (soo_keep (by omega))
              go_wp2
              go_roundw
              case rel => exact ⟨k + 1, by omega, by go_num, by rw [HN.out], (by repeat (first | with_reducible exact Below.refl _ _ | with_reducible exact hB | with_reducible refine Below.setCell ?_ (by first | omega | (simp; done) | (simp; omega)) _ | with_reducible refine bDrewN ?_ _ | with_reducible refine Below.drew ?_ | with_reducible refine Below.alloc ?_ (by first | omega | (simp; done) | (simp; omega)) _))⟩
              case measure => first | (simp [intOf]; done) | (simp [intOf]; omega)
        · have HN : Hid (sooF V U (k + 1) = S) := HS3.out.trans (soo_keep (by omega))
          go_wp2
          go_roundw
          case rel => exact ⟨k + 1, by omega, by go_num, by rw [HN.out], (by repeat (first | with_reducible exact Below.refl _ _ | with_reducible exact hB | with_reducible refine Below.setCell ?_ (by first | omega | (simp; done) | (simp; omega)) _ | with_reducible refine bDrewN ?_ _ | with_reducible refine Below.drew ?_ | with_reducible refine Below.alloc ?_ (by first | omega | (simp; done) | (simp; omega)) _))⟩
          case measure => first | (simp [intOf]; done) | (simp [intOf]; omega)
      · have HN : Hid (sooF V U (k + 1) = S) := HS3.out.trans (soo_keep (by omega))
        go_wp2
        go_roundw
        case rel => exact ⟨k + 1, by omega, by go_num, by rw [HN.out], (by repeat (first | with_reducible exact Below.refl _ _ | with_reducible exact hB | with_reducible refine Below.setCell ?_ (by first | omega | (simp; done) | (simp; omega)) _ | with_reducible refine bDrewN ?_ _ | with_reducible refine Below.drew ?_ | with_reducible refine Below.alloc ?_ (by first | omega | (simp; done) | (simp; omega)) _))⟩
        case measure => first | (simp [intOf]; done) | (simp [intOf]; omega)
    · obtain rfl : k = m := by omega
      have HZ : Hid (sooV k V k U = S) := HO.out.trans hS
      go_wp2_with fail
      refine (HL.out _ hB).mono ?_
      rintro e wl ⟨rfl, hl⟩
      replace hB : Below w.heap.size w wl := hB.trans (hl.mono hB.size)
      clear hl
      clear hS
      go_wp2
      go_ret
      exact ⟨ret_int HZ.out.symm, hB⟩
set_option maxRecDepth 20000 in
set_option maxHeartbeats 8000000 in
theorem implSoonest_any (s t : Option Addr) (n c m d : Nat) (V : Nat → Int × Int) (U : Nat → Int × Bool) (w : World) (hn : (n : Int) ≤ 1048576) (hm : (m : Int) ≤ 1048576) (HR : Hid (RowLimit w s n V)) (HU : Hid (RowClock w t m U)) (HE : Hid (ErrC w)) :
    Calls Tryd.prog 14 #[.slice s n c, .slice t m d] w fun e w' => e = .returned (.int .i64 (sooV n V m U)) ∧ Below w.heap.size w w' := by
  have HX : Hid (∀ w1, Below w.heap.size w w1 → ErrC w1) := fun w1 hb => HE.out.below hb
  go_enter Tryd.func14, Tryd.ntmps14
  go_wp2_with fail
  refine (clocksMisfit_any s t n c m d V U _ hn hm HR HU HE).mono ?_
  rintro e w1 ⟨v, rfl, hv, h1⟩
  have HV : Hid (MisV v (clsB n V m U)) := hv
  have B1 : Below w.heap.size w w1 := h1
  clear hv h1
  go_wp2_with fail
  refine (refused_any v (clsB n V m U) _ HV (HX.out _ B1).1).mono ?_
  rintro e w2 ⟨rfl, h2⟩
  replace B1 : Below w.heap.size w w2 := B1.trans (h2.mono B1.size)
  clear h2 HV HX HE
  cases hc : clsB n V m U
  · have HO : Hid (sooV n V m U = -1) := soov_no hc
    clear hc
    go_wp2
    go_ret
    exact ⟨ret_int HO.out.symm, B1⟩
  have HO : Hid (sooV n V m U = sooF V U n) := soov_yes hc
  obtain ⟨n6, rfl, hA⟩ := cls_yes hc
  have HA : Hid (∀ j, j < m → limB (V j) = true ∧ clkB (V j) (U j) = true) := hA
  have HI : Hid (∀ k, k ≤ m → -1 ≤ sooF V U k ∧ sooF V U k ≤ 10001 ∧ sooF V U k ≠ 0) := soo_in V U m hA
  have HB1 : Hid (Below w.heap.size w w2) := B1
  clear hc hA B1
  go_wp2_with fail
  go_loopw [5, 15] (fun v i wr => ∃ k : Nat, k ≤ m ∧ i = .int .i64 k ∧ v = .int .i64 (sooF V U k) ∧ Below w.heap.size w wr) (fun _ i _ => m - (intOf i).toNat)
  case atStart => exact ⟨0, Nat.zero_le _, rfl, rfl, HB1.out⟩
  case round =>
    obtain ⟨k, hk, rfl, rfl, hB⟩ := hrel
    have sb := HI.out k hk
    have HS : Hid (∀ x, sooF V U k = x → sooF V U (k + 1) = sooN x ((V k).2 - (U k).1) (U k).1) := fun x hx => by rw [← hx]; rfl
    obtain ⟨S, hS⟩ : ∃ S, sooF V U k = S := ⟨_, rfl⟩
    rw [hS] at sb ⊢
    obtain ⟨s0, s1, s2⟩ := sb
    by_cases h1 : k < m
    · have HS2 : Hid (sooF V U (k + 1) = sooN S ((V k).2 - (U k).1) (U k).1) := HS.out S hS
      clear hS HS
      obtain ⟨g, o, rfl, hg, c0, c1⟩ := HR.out k h1
      obtain ⟨h, i, rfl, hh, d0, d1⟩ := HU.out k h1
      replace c1 := (hB.cell (p := ⟨g, o + k * 2 + 1, none⟩) hg).trans c1
      replace d0 := (hB.cell (p := ⟨h, i + k * 2, none⟩) hh).trans d0
      replace d1 := (hB.cell (p := ⟨h, i + k * 2 + 1, none⟩) hh).trans d1
      obtain ⟨q1, q2⟩ := HA.out k h1
      replace q1 := (lim_yes q1).2
      replace q2 := clk_yes q2
      obtain ⟨⟨a, b⟩, hV⟩ : ∃ z, V k = z := ⟨_, rfl⟩
      obtain ⟨⟨r, l⟩, hU⟩ : ∃ z, U k = z := ⟨_, rfl⟩
      rw [hV] at c1 q1 q2 HS2
      rw [hU] at d0 d1 q2 HS2
      simp only at c1 d0 d1 q1 q2
      obtain ⟨q3, q4⟩ := q1
      obtain ⟨⟨q5, q6⟩, q7⟩ := q2
      have HS3 : Hid (sooF V U (k + 1) = sooN S (b - r) r) := HS2.out
      have k1 : (k : Int) < (m : Int) := by omega
      have zg := Nat.lt_of_lt_of_le hg hB.size
      have zh := Nat.lt_of_lt_of_le hh hB.size
      clear hV hU hg hh c0 HS2
      have HQ7 : Hid (l = decide (r = b)) := q7
      clear q7
      go_upto_region 7 with fail
      obtain ⟨wa, hwa⟩ : ∃ wa, wa = wr.alloc (.cells #[.int .i64 r, .bool l] 75) := ⟨_, rfl⟩
      rw [← hwa]
      have hb : Below wr.heap.size wr wa := by rw [hwa]; exact below0 _ _
      have a0 : wa.cell? ⟨wr.heap.size, 0, none⟩ = some (.int .i64 r) := by rw [hwa]; simp [go_sem]
      have a1 : wa.cell? ⟨wr.heap.size, 1, none⟩ = some (.bool l) := by rw [hwa]; simp [go_sem]
      have za : wr.heap.size < wa.heap.size := by rw [hwa]; simp
      replace c1 := (hb.cell (p := ⟨g, o + k * 2 + 1, none⟩) zg).trans c1
      replace zg := Nat.lt_of_lt_of_le zg hb.size
      have B2 : Below w.heap.size w wa := hB.trans (hb.mono hB.size)
      clear hwa hb d0 d1 zh
      go_quiet (fail)
      go_upto_region 8 with fail
      obtain ⟨wb, hwb⟩ : ∃ wb, wb = wa.drewN nq := ⟨_, rfl⟩
      rw [← hwb]
      have hb : Below wa.heap.size wa wb := by rw [hwb]; exact (by repeat (first | with_reducible exact Below.refl _ _ | with_reducible refine Below.setCell ?_ (by first | omega | (simp; done) | (simp; omega)) _ | with_reducible refine bDrewN ?_ _ | with_reducible refine Below.drew ?_ | with_reducible refine Below.alloc ?_ (by first | omega | (simp; done) | (simp; omega)) _))
      replace a0 := (hb.cell (p := ⟨wr.heap.size, 0, none⟩) za).trans a0
      replace a1 := (hb.cell (p := ⟨wr.heap.size, 1, none⟩) za).trans a1
      replace za := Nat.lt_of_lt_of_le za hb.size
      replace B2 : Below w.heap.size w wb := B2.trans (hb.mono B2.size)
      clear hwb hb
      go_wp2_with fail
      refine (runs_any r l _).mono ?_
      rintro e w3 ⟨rfl, h3⟩
      replace a1 := (h3.cell (p := ⟨wr.heap.size, 1, none⟩) za).trans a1
      replace B2 : Below w.heap.size w w3 := B2.trans (h3.mono B2.size)
      replace za := Nat.lt_of_lt_of_le za h3.size
      clear h3 a0
      by_cases t0 : r = -1
      · have HN : Hid (sooF V U (k + 1) = S) := HS3.out.trans (soo_keep (by omega))
        have t0b : (!decide (r = -1)) = false := by rw [decide_eq_true t0]; rfl
        rw [t0b]
        clear t0 t0b
        go_wp2
        go_roundw
        case rel => exact ⟨k + 1, by omega, by go_num, by rw [HN.out], (by repeat (first | with_reducible exact Below.refl _ _ | with_reducible exact B2 | with_reducible refine Below.setCell ?_ (by first | omega | (simp; done) | (simp; omega)) _ | with_reducible refine bDrewN ?_ _ | with_reducible refine Below.drew ?_ | with_reducible refine Below.alloc ?_ (by first | omega | (simp; done) | (simp; omega)) _))⟩
        case measure => first | (simp [intOf]; done) | (simp [intOf]; omega)
      have t0b : (!decide (r = -1)) = true := by rw [decide_eq_false t0]; rfl
      rw [t0b]
      clear t0b
      cases l
      · have t1 : ¬ r = b := of_decide_eq_false HQ7.out.symm
        by_cases t2 : S = -1
        · have HN : Hid (sooF V U (k + 1) = b - r) := HS3.out.trans (soo_take (by omega) (by omega) (by omega))
          subst t2
          go_wp2
          go_roundw
          case rel => exact ⟨k + 1, by omega, by go_num, by rw [HN.out], (by repeat (first | with_reducible exact Below.refl _ _ | with_reducible exact B2 | with_reducible refine Below.setCell ?_ (by first | omega | (simp; done) | (simp; omega)) _ | with_reducible refine bDrewN ?_ _ | with_reducible refine Below.drew ?_ | with_reducible refine Below.alloc ?_ (by first | omega | (simp; done) | (simp; omega)) _))⟩
          case measure => first | (simp [intOf]; done) | (simp [intOf]; omega)
        · have t2q : (S == -1) = false := beq_eq_false_iff_ne.2 t2
          by_cases t3 : b - r < S
          · have HN : Hid (sooF V U (k + 1) = b - r) := HS3.out.trans (soo_take (by omega) (by omega) (by omega))
            go_wp2
            go_roundw
            case rel => exact ⟨k + 1, by omega, by go_num, by rw [HN.out], (by repeat (first | with_reducible exact Below.refl _ _ | with_reducible exact B2 | with_reducible refine Below.setCell ?_ (by first | omega | (simp; done) | (simp; omega)) _ | with_reducible refine bDrewN ?_ _ | with_reducible refine Below.drew ?_ | with_reducible refine Below.alloc ?_ (by first | omega | (simp; done) | (simp; omega)) _))⟩
            case measure => first | (simp [intOf]; done) | (simp [intOf]; omega)
          · have HN : Hid (sooF V U (k + 1) = S) := HS3.out.trans (soo_keep (by omega))
            go_wp2
            go_roundw
            case rel => exact ⟨k + 1, by omega, by go_num, by rw [HN.out], (by repeat (first | with_reducible exact Below.refl _ _ | with_reducible exact B2 | with_reducible refine Below.setCell ?_ (by first | omega | (simp; done) | (simp; omega)) _ | with_reducible refine bDrewN ?_ _ | with_reducible refine Below.drew ?_ | with_reducible refine Below.alloc ?_ (by first | omega | (simp; done) | (simp; omega)) _))⟩
            case measure => first | (simp [intOf]; done) | (simp [intOf]; omega)
      · have t1 : r = b := of_decide_eq_true HQ7.out.symm
        have HN : Hid (sooF V U (k + 1) = S) := HS3.out.trans (soo_keep (by omega))
        clear t1
        go_wp2
        go_roundw
        case rel => exact ⟨k + 1, by omega, by go_num, by rw [HN.out], (by repeat (first | with_reducible exact Below.refl _ _ | with_reducible exact B2 | with_reducible refine Below.setCell ?_ (by first | omega | (simp; done) | (simp; omega)) _ | with_reducible refine bDrewN ?_ _ | with_reducible refine Below.drew ?_ | with_reducible refine Below.alloc ?_ (by first | omega | (simp; done) | (simp; omega)) _))⟩
        case measure => first | (simp [intOf]; done) | (simp [intOf]; omega)
    · obtain rfl : k = m := by omega
      have HZ : Hid (sooV k V k U = S) := HO.out.trans hS
      clear hS
      go_wp2
      go_ret
      exact ⟨ret_int HZ.out.symm, hB⟩
end Go.Proofs.YtfhbkfdfggaomaaDoor
