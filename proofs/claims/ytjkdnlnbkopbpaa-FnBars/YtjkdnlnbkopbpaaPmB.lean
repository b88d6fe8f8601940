/-
What is proved: what locks bar, as both packages tell it.
-/
import Derived.Test.YtjkdnlnbkopbpaaPm
import Derived.Deep.RegionHeld3
import Derived.Deep.DeepCutAuto
namespace Go.Proofs.Ytjkdnlnbkopbpaa
set_option maxRecDepth 40000
open Go.ChangeShapes Go.WideShapes Go.ChangeAt Go.RowKit
set_option linter.unusedVariables false
set_option linter.unusedSimpArgs false

set_option maxHeartbeats 800000 in
theorem partner_is (x y p : Int) (w : World) : Calls Try.prog 26 #[.agg #[.int .i64 x, .int .i64 y], .int .i64 p] w fun e w' => e = .returned (.tuple #[.int .i64 (if p = x then y else if p = y then x else 0), .bool (decide (p = x) || decide (p = y))]) ∧ w' = w.alloc (.cells #[.int .i64 x, .int .i64 y] 39) := by
  by_cases a : p = x
  · have a1 : (p == x) = true := by simpa using a
    rw [if_pos a, decide_eq_true a, Bool.true_or]
    clear a
    go_enter Try.func26, Try.ntmps26
    go_wp2
    exact bodyPost_ret (v := .tuple #[.int .i64 y, .bool true]) (by simp [results, Try.results26, go_sem]) rfl ⟨rfl, rfl⟩
  · have a1 : (p == x) = false := by simpa using a
    rw [if_neg a, decide_eq_false a, Bool.false_or]
    clear a
    by_cases b : p = y
    · have b1 : (p == y) = true := by simpa using b
      rw [if_pos b, decide_eq_true b]
      clear b
      go_enter Try.func26, Try.ntmps26
      go_wp2
      exact bodyPost_ret (v := .tuple #[.int .i64 x, .bool true]) (by simp [results, Try.results26, go_sem]) rfl ⟨rfl, rfl⟩
    · have b1 : (p == y) = false := by simpa using b
      rw [if_neg b, decide_eq_false b]
      clear b
      go_enter Try.func26, Try.ntmps26
      go_wp2
      exact bodyPost_ret (v := .tuple #[.int .i64 0, .bool false]) (by simp [results, Try.results26, go_sem]) rfl ⟨rfl, rfl⟩
theorem partner_at (V : Nat → Int) (p : Int) (j : Nat) (w : World) : Calls Try.prog 26 #[.agg #[.int .i64 (V (j * 2)), .int .i64 (V (j * 2 + 1))], .int .i64 p] w fun e w' => e = .returned (.tuple #[.int .i64 (otV V p j), .bool (nmB V p j)]) ∧ w' = w.alloc (.cells #[.int .i64 (V (j * 2)), .int .i64 (V (j * 2 + 1))] 39) := partner_is _ _ p w
set_option maxRecDepth 20000 in
set_option maxHeartbeats 4000000 in
theorem barred_any (p : Int) (s t : Option Addr) (m c n d : Nat) (V : Nat → Int) (T : Nat → Bool) (w : World) (hm : (m : Int) ≤ 200) (hn : (n : Int) ≤ 50) (HR : Hid (RowI w s (m * 2) V)) (HT : Hid (RowB w t n T)) :
    Calls Try.prog 19 #[.int .i64 p, .slice s m c, .slice t n d] w fun e w' => e = .returned (.bool (orTo (hitP V n T p) m)) ∧ Below w.heap.size w w' := by
  go_enter Try.func19, Try.ntmps19
  go_wp2_with fail
  go_loopw [13] (fun i wr => ∃ j : Nat, j ≤ m ∧ i = .int .i64 j ∧ Hid (orTo (hitP V n T p) j = false) ∧ Hid (Below w.heap.size w wr)) (fun i _ => m - (intOf i).toNat)
  case atStart => exact ⟨0, Nat.zero_le _, rfl, rfl, (by show Below _ _ _; exact Below.refl _ _)⟩
  case round =>
    obtain ⟨j, hj, rfl, HO, HB⟩ := hrel
    by_cases h1 : j < m
    case neg =>
      obtain rfl : j = m := by omega
      have BF := HB.out
      go_wp2
      go_ret
      exact ⟨ret_bool HO.out.symm, BF⟩
    case pos =>
      obtain ⟨g, o, rfl, hg, c0⟩ := HR.out (j * 2) (by omega)
      obtain ⟨g', o', e', hg', c1⟩ := HR.out (j * 2 + 1) (by omega)
      cases e'
      have d0 : wr.cell? ⟨g, o + j * 2, none⟩ = some (.int .i64 (V (j * 2))) := (HB.out.cell (p := ⟨g, o + j * 2, none⟩) hg).trans c0
      have d1 : wr.cell? ⟨g, o + j * 2 + 1, none⟩ = some (.int .i64 (V (j * 2 + 1))) := (HB.out.cell (p := ⟨g, o + (j * 2 + 1), none⟩) hg).trans c1
      have k1 : (j : Int) < (m : Int) := by omega
      have zg : g < wr.heap.size := Nat.lt_of_lt_of_le hg HB.out.size
      have HP : Hid (hitP V n T p j = (nmB V p j && (inB 0 ((n : Int) - 1) (otV V p j) && T (otV V p j).toNat))) := rfl
      clear c0 c1 hg hg'
      go_wp2_with fail
      refine (partner_at V p j _).mono ?_
      rintro e w3 ⟨rfl, hw3⟩
      have B3 : Hid (Below w.heap.size w w3) := by
        show Below _ _ _
        have B := HB.out
        have sB := B.size
        rw [hw3]
        exact (by repeat (first | with_reducible exact Below.refl _ _ | with_reducible exact B | with_reducible refine Below.setCell ?_ (by first | omega | (simp; done) | (simp; omega)) _ | with_reducible refine bDrewN ?_ _ | with_reducible refine Below.drew ?_ | with_reducible refine Below.alloc ?_ (by first | omega | (simp; done) | (simp; omega)) _))
      clear hw3 d0 d1 zg
      obtain ⟨ot, hot⟩ : ∃ ot, otV V p j = ot := ⟨_, rfl⟩
      rw [hot] at HP ⊢
      cases hnm : nmB V p j
      · rw [hnm, Bool.false_and] at HP
        go_wp2
        go_roundw
        case rel => exact ⟨j + 1, by omega, by go_num, orTo_step HO.out HP.out, B3⟩
        case measure => simp [intOf]; omega
      rw [hnm, Bool.true_and] at HP
      clear hnm
      have wn : IntKind.i64.wrap ((n : Int) - 1) = (n : Int) - 1 := by rw [IntKind.wrap_i64]; omega
      go_wp2_with fail
      refine (within_is ot 0 ((n : Int) - 1) _).mono ?_
      rintro e w4 ⟨rfl, rfl⟩
      cases hin : inB 0 ((n : Int) - 1) ot
      · rw [hin, Bool.false_and] at HP
        go_wp2
        go_roundw
        case rel => exact ⟨j + 1, by omega, by go_num, orTo_step HO.out HP.out, B3⟩
        case measure => simp [intOf]; omega
      rw [hin, Bool.true_and] at HP
      obtain ⟨i0, i1⟩ := inB_yes hin
      obtain ⟨q, rfl⟩ : ∃ q : Nat, ot = (q : Int) := ⟨ot.toNat, by omega⟩
      rw [show ((q : Int)).toNat = q from by omega] at HP
      obtain ⟨g2, o2, rfl, hg2, e2⟩ := HT.out q (by omega)
      have u2 : w4.cell? ⟨g2, o2 + q, none⟩ = some (.bool (T q)) := (B3.out.cell (p := ⟨g2, o2 + q, none⟩) hg2).trans e2
      have k2 : (q : Int) < (n : Int) := by omega
      clear hin e2 hg2 hot
      cases ht : T q
      · rw [ht] at HP u2
        clear ht
        go_wp2
        go_roundw
        case rel => exact ⟨j + 1, by omega, by go_num, orTo_step HO.out HP.out, B3⟩
        case measure => simp [intOf]; omega
      · rw [ht] at HP u2
        clear ht
        have B3 := B3.out
        go_wp2
        go_ret
        exact ⟨ret_bool (orTo_hit h1 HP.out).symm, B3⟩
set_option maxRecDepth 20000 in
set_option maxHeartbeats 4000000 in
theorem l17Bars_any (a b : Nat) (s : Option Addr) (m c : Nat) (V : Nat → Int) (w : World) (hm : (m : Int) ≤ 200) (HR : Hid (RowI w s (m * 2) V)) :
    Calls Try.prog 17 #[.slice s m c, .int .i64 a, .int .i64 b] w fun e w' => e = .returned (.bool (orTo (brP V a b) m)) ∧ w' = w := by
  go_enter Try.func17, Try.ntmps17
  go_wp2_with fail
  go_loop [7] (fun i => ∃ j : Nat, j ≤ m ∧ i = .int .i64 j ∧ Hid (orTo (brP V a b) j = false)) (fun i => m - (intOf i).toNat)
  case atStart => exact ⟨0, Nat.zero_le _, rfl, rfl⟩
  case round =>
    obtain ⟨j, hj, rfl, HO⟩ := hrel
    by_cases h1 : j < m
    case neg =>
      obtain rfl : j = m := by omega
      go_wp2
      go_ret
      exact ⟨ret_bool HO.out.symm, rfl⟩
    case pos =>
      obtain ⟨g, o, rfl, hg, c0⟩ := HR.out (j * 2) (by omega)
      obtain ⟨g', o', e', hg', c1⟩ := HR.out (j * 2 + 1) (by omega)
      cases e'
      have d1 : w.cell? ⟨g, o + j * 2 + 1, none⟩ = some (.int .i64 (V (j * 2 + 1))) := c1
      have k1 : (j : Int) < (m : Int) := by omega
      have HP : Hid (brP V a b j = ((decide (V (j * 2) = a) && decide (V (j * 2 + 1) = b)) || (decide (V (j * 2) = b) && decide (V (j * 2 + 1) = a)))) := rfl
      obtain ⟨x, hx⟩ : ∃ x, V (j * 2) = x := ⟨_, rfl⟩
      obtain ⟨y, hy⟩ : ∃ y, V (j * 2 + 1) = y := ⟨_, rfl⟩
      rw [hx, hy] at HP
      rw [hx] at c0
      rw [hy] at d1
      obtain ⟨p1, q1⟩ : ∃ p1, (x == (a : Int)) = p1 := ⟨_, rfl⟩
      obtain ⟨p2, q2⟩ : ∃ p2, (y == (b : Int)) = p2 := ⟨_, rfl⟩
      obtain ⟨p3, q3⟩ : ∃ p3, (x == (b : Int)) = p3 := ⟨_, rfl⟩
      obtain ⟨p4, q4⟩ : ∃ p4, (y == (a : Int)) = p4 := ⟨_, rfl⟩
      have HP2 : Hid (brP V a b j = ((p1 && p2) || (p3 && p4))) := by
        show brP V a b j = _
        rw [HP.out, ← q1, ← q2, ← q3, ← q4]
        simp [Bool.beq_eq_decide_eq]
      clear c1 hg hg' hx hy HP
      cases p1
      · cases p3
        · go_wp2
          go_round
          case rel => exact ⟨j + 1, by omega, by go_num, orTo_step HO.out HP2.out⟩
          case measure => simp [intOf]; omega
        · cases p4
          · go_wp2
            go_round
            case rel => exact ⟨j + 1, by omega, by go_num, orTo_step HO.out HP2.out⟩
            case measure => simp [intOf]; omega
          · go_wp2
            go_ret
            exact ⟨ret_bool (orTo_hit h1 HP2.out).symm, rfl⟩
      · cases p2
        · cases p3
          · go_wp2
            go_round
            case rel => exact ⟨j + 1, by omega, by go_num, orTo_step HO.out HP2.out⟩
            case measure => simp [intOf]; omega
          · cases p4
            · go_wp2
              go_round
              case rel => exact ⟨j + 1, by omega, by go_num, orTo_step HO.out HP2.out⟩
              case measure => simp [intOf]; omega
            · go_wp2
              go_ret
              exact ⟨ret_bool (orTo_hit h1 HP2.out).symm, rfl⟩
        · go_wp2
          go_ret
          exact ⟨ret_bool (orTo_hit h1 HP2.out).symm, rfl⟩
end Go.Proofs.Ytjkdnlnbkopbpaa
