/-
What is proved: of wants and locks that are drawn from every code none goes through that was not wanted, no two that a lock bars, and none that is wanted is held back but by a lock with one that goes through; no condition.
-/
import Derived.Test.YtjkdnlnbkopbpaaPmS
import Derived.Test.YtjkdnlnbkopbpaaBrD
import Derived.Test.YtjkdnlnbkopbpaaBrF
import Derived.Test.YtjkdnlnbkopbpaaOpen8
import Derived.Deep.QuietTactic
namespace Go.Proofs.Ytjkdnlnbkopbpaa
set_option maxRecDepth 40000
open Go.ChangeShapes Go.WideShapes Go.ChangeAt Go.RowKit
set_option linter.unusedVariables false
set_option linter.unusedSimpArgs false

set_option maxHeartbeats 400000 in
theorem bars_far (w : World) (s : Option Addr) (n c : Nat) (h : (1048576 : Int) < n) :
    Calls Try.prog 4 #[.slice s n c] w fun e w' => e = .returned (.bool true) ∧ Below w.heap.size w w' := by
  go_enter Try.func4, Try.ntmps4
  go_wp2_with fail
  refine (big_yes _ _ _ _ h).mono ?_
  rintro e w1 ⟨rfl, rfl⟩
  go_wp2
  go_ret
  exact ⟨rfl, Below.refl _ _⟩
set_option maxRecDepth 20000 in
set_option maxHeartbeats 16000000 in
theorem bars_near (w : World) (s : Option Addr) (n c : Nat) (hn : (n : Int) ≤ 1048576) (HC : Hid (Code8 w s n)) :
    Calls Try.prog 4 #[.slice s n c] w fun e w' => e = .returned (.bool true) ∧ Below w.heap.size w w' := by
  go_enter Try.func4, Try.ntmps4
  go_wp2_with fail
  refine (big_no _ _ _ _ hn).mono ?_
  rintro e w1 ⟨rfl, rfl⟩
  go_wp2_with fail
  refine (drawPermits_any HC).mono ?_
  rintro e w2 ⟨t, N, cap, Wn, t2, M, cap2, V, rfl, hN, hM, RW, RL, B2⟩
  have HW : Hid (RowB w2 t N Wn) := RW
  have HL : Hid (RowI w2 t2 (M * 2) V) := RL
  have HB : Hid (Below w1.heap.size w1 w2) := B2
  clear RW RL B2 HC
  go_wp2_with fail
  refine (specPermits_any t t2 N cap M cap2 Wn V w2 (by omega) (by omega) HW HL).mono ?_
  rintro e w3 ⟨sa, ca, rfl, OA, h3⟩
  replace HW : Hid (RowB w3 t N Wn) := HW.out.below h3
  replace HL : Hid (RowI w3 t2 (M * 2) V) := HL.out.below h3
  replace HB : Hid (Below w1.heap.size w1 w3) := HB.out.trans (h3.mono HB.out.size)
  have HA : Hid (RowB w3 sa (lenV N M) (perV Wn V M)) := OA.row
  clear h3 OA
  go_wp2_with fail
  refine (implPermits_any t t2 N cap M cap2 Wn V w3 (by omega) (by omega) HW HL).mono ?_
  rintro e w4 ⟨so, co, rfl, OO, h4⟩
  replace HW : Hid (RowB w4 t N Wn) := HW.out.below h4
  replace HL : Hid (RowI w4 t2 (M * 2) V) := HL.out.below h4
  replace HB : Hid (Below w1.heap.size w1 w4) := HB.out.trans (h4.mono HB.out.size)
  replace HA : Hid (RowB w4 sa (lenV N M) (perV Wn V M)) := HA.out.below h4
  have HO : Hid (RowB w4 so (lenV N M) (perV Wn V M)) := OO.row
  clear h4 OO
  have hL : lenV N M = 0 ∨ (lenV N M = N ∧ N ≤ 50 ∧ M ≤ 200) := by
    unfold lenV
    split
    · exact Or.inr ⟨rfl, by omega, by omega⟩
    · exact Or.inl rfl
  obtain ⟨L, hLL⟩ : ∃ L, lenV N M = L := ⟨_, rfl⟩
  rw [hLL] at HA HO hL ⊢
  have LB : L ≤ 50 := by omega
  have LN : Hid (0 < L → L = N) := fun q => by omega
  clear hLL hL
  go_wp2_with fail
  go_loopw [7] (fun i wr => ∃ k : Nat, k ≤ L ∧ i = .int .i64 k ∧ Hid (∃ q, wr = w4.drewN q)) (fun i _ => L - (intOf i).toNat)
  case atStart => exact ⟨0, Nat.zero_le _, rfl, ⟨0, rfl⟩⟩
  case round =>
    obtain ⟨i, hi, rfl, HQ⟩ := hrel
    have HWr : Hid (Below w1.heap.size w1 wr) := by
      show Below _ _ _
      obtain ⟨q, hq⟩ := HQ.out
      rw [hq]
      have B := HB.out
      exact (by repeat (first | with_reducible exact Below.refl _ _ | with_reducible exact B | with_reducible refine Below.setCell ?_ (by first | omega | (simp; done) | (simp; omega)) _ | with_reducible refine bDrewN ?_ _ | with_reducible refine Below.drew ?_ | with_reducible refine Below.alloc ?_ (by first | omega | (simp; done) | (simp; omega)) _))
    by_cases h1 : i < L
    case neg =>
      obtain rfl : i = L := by omega
      have BF := HWr.out
      go_wp2
      go_ret
      exact ⟨rfl, BF⟩
    case pos =>
      have k1 : (i : Int) < (L : Int) := by omega
      have eLN : L = N := LN.out (by omega)
      have iN : i < N := by omega
      have keep : ∀ (p : Addr) (v : Value), w4.cell? p = some v → wr.cell? p = some v := fun p v hv => by
        obtain ⟨q, hq⟩ := HQ.out
        rw [hq]
        simpa using hv
      obtain ⟨ga, oa, rfl, za, ra⟩ := HA.out i h1
      obtain ⟨go, oo, rfl, zo, ro⟩ := HO.out i h1
      obtain ⟨gw, ow, rfl, zw, rw'⟩ := HW.out i iN
      have u1 := keep _ _ ra
      have u2 := keep _ _ ro
      have u3 := keep _ _ rw'
      have HOr : Hid (∀ j, j < L → wr.cell? ⟨go, oo + j, none⟩ = some (.bool (perV Wn V M j))) := fun j hj => by
        obtain ⟨b, o, e, _, hc⟩ := HO.out j hj
        cases e
        exact keep _ _ hc
      have HLr : Hid (∀ j, j < M * 2 → ∃ b o, t2 = some ⟨b, o, none⟩ ∧ wr.cell? ⟨b, o + j, none⟩ = some (.int .i64 (V j))) := fun j hj => by
        obtain ⟨b, o, e, _, hc⟩ := HL.out j hj
        exact ⟨b, o, e, keep _ _ hc⟩
      clear ra ro rw' za zo zw keep
      have iM : (M : Int) ≤ 300 := by omega
      obtain ⟨pi, hpi⟩ : ∃ pi, perV Wn V M i = pi := ⟨_, rfl⟩
      obtain ⟨wi, hwi⟩ : ∃ wi, Wn i = wi := ⟨_, rfl⟩
      rw [hpi] at u1 u2
      rw [hwi] at u3
      have HP : Hid ((pi = true → wi = true ∧ orTo (lbP V L (perV Wn V M) i) M = false) ∧ (wi = true → pi = false → orTo (lbP V L (perV Wn V M) i) M = true)) := ⟨fun q => by rw [← hwi]; exact lb_free (by rw [hpi]; exact q), fun q1 q2 => lb_held h1 (by rw [hwi]; exact q1) (by rw [hpi]; exact q2)⟩
      clear hpi hwi eLN
      go_wp2_with fail
      go_loop [8, 9] (fun b j => ∃ k : Nat, k ≤ M ∧ j = .int .i64 k ∧ b = .bool (orTo (lbP V L (perV Wn V M) i) k)) (fun _ j => M - (intOf j).toNat)
      case atStart => exact ⟨0, Nat.zero_le _, rfl, rfl⟩
      case round =>
        obtain ⟨k, hk, rfl, rfl⟩ := hrel
        by_cases h2 : k < M
        case pos =>
          obtain ⟨b, o, rfl, c0⟩ := HLr.out (k * 2) (by omega)
          obtain ⟨b', o', e', c1⟩ := HLr.out (k * 2 + 1) (by omega)
          cases e'
          have c1' : wr.cell? ⟨b, o + k * 2 + 1, none⟩ = some (.int .i64 (V (k * 2 + 1))) := c1
          clear c1
          have k2 : (k : Int) < (M : Int) := by omega
          have HS : Hid (orTo (lbP V L (perV Wn V M) i) (k + 1) = (orTo (lbP V L (perV Wn V M) i) k || ((decide (V (k * 2 + 1) = i) || decide (V (k * 2) = i)) && (decide ((if V (k * 2 + 1) = i then V (k * 2) else V (k * 2 + 1)) ≠ i) && (inB 0 ((L : Int) - 1) (if V (k * 2 + 1) = i then V (k * 2) else V (k * 2 + 1)) && perV Wn V M (if V (k * 2 + 1) = i then V (k * 2) else V (k * 2 + 1)).toNat))))) := rfl
          obtain ⟨x, hx⟩ : ∃ x, V (k * 2) = x := ⟨_, rfl⟩
          obtain ⟨y, hy⟩ : ∃ y, V (k * 2 + 1) = y := ⟨_, rfl⟩
          rw [hx, hy] at HS
          rw [hx] at c0
          rw [hy] at c1'
          clear hx hy
          obtain ⟨ok, hok⟩ : ∃ ok, orTo (lbP V L (perV Wn V M) i) k = ok := ⟨_, rfl⟩
          rw [hok] at HS ⊢
          clear hok
          replace HS := HS.out
          by_cases ey : y = i
          · have y1 : (y == (i : Int)) = true := by simpa using ey
            rw [if_pos ey, decide_eq_true ey, Bool.true_or, Bool.true_and] at HS
            by_cases eq : x = i
            · have q1 : (x == (i : Int)) = true := by simpa using eq
              have q2 : (x != (i : Int)) = false := by simpa using eq
              rw [decide_eq_false (by simpa using eq), Bool.false_and, Bool.or_false] at HS
              have HSH : Hid (orTo (lbP V L (perV Wn V M) i) (k + 1) = ok) := HS
              clear HS
              go_wp2
              go_round
              case rel => exact ⟨k + 1, by omega, by go_num, by rw [HSH.out]⟩
              case measure => simp [intOf]; omega
            have q1 : (x == (i : Int)) = false := by simpa using eq
            have q2 : (x != (i : Int)) = true := by simpa using eq
            rw [decide_eq_true (by simpa using eq), Bool.true_and] at HS
            by_cases g0 : 0 ≤ x
            case neg =>
              have g1 : decide (0 ≤ x) = false := by simpa using g0
              rw [show inB 0 ((L : Int) - 1) x = false from decide_eq_false (by omega), Bool.false_and, Bool.or_false] at HS
              have HSH : Hid (orTo (lbP V L (perV Wn V M) i) (k + 1) = ok) := HS
              clear HS
              go_wp2
              go_round
              case rel => exact ⟨k + 1, by omega, by go_num, by rw [HSH.out]⟩
              case measure => simp [intOf]; omega
            by_cases g2 : x < L
            case neg =>
              have g1 : decide (x < (L : Int)) = false := by simpa using g2
              rw [show inB 0 ((L : Int) - 1) x = false from decide_eq_false (by omega), Bool.false_and, Bool.or_false] at HS
              have HSH : Hid (orTo (lbP V L (perV Wn V M) i) (k + 1) = ok) := HS
              clear HS
              go_wp2
              go_round
              case rel => exact ⟨k + 1, by omega, by go_num, by rw [HSH.out]⟩
              case measure => simp [intOf]; omega
            rw [show inB 0 ((L : Int) - 1) x = true from decide_eq_true (by omega), Bool.true_and] at HS
            obtain ⟨qn, rfl⟩ : ∃ qn : Nat, x = (qn : Int) := ⟨x.toNat, by omega⟩
            rw [show ((qn : Int)).toNat = qn from by omega] at HS
            have cq := HOr.out qn (by omega)
            have gq : (qn : Int) < (L : Int) := by omega
            obtain ⟨pq, hpq⟩ : ∃ pq, perV Wn V M qn = pq := ⟨_, rfl⟩
            rw [hpq] at cq HS
            clear hpq
            cases pq
            · rw [Bool.or_false] at HS
              have HSH : Hid (orTo (lbP V L (perV Wn V M) i) (k + 1) = ok) := HS
              clear HS
              go_wp2
              go_round
              case rel => exact ⟨k + 1, by omega, by go_num, by rw [HSH.out]⟩
              case measure => simp [intOf]; omega
            · rw [Bool.or_true] at HS
              have HSH : Hid (orTo (lbP V L (perV Wn V M) i) (k + 1) = true) := HS
              clear HS
              go_wp2
              go_round
              case rel => exact ⟨k + 1, by omega, by go_num, by rw [HSH.out]⟩
              case measure => simp [intOf]; omega
          · have y1 : (y == (i : Int)) = false := by simpa using ey
            rw [if_neg ey, decide_eq_false ey, Bool.false_or] at HS
            by_cases ex : x = i
            · have x1 : (x == (i : Int)) = true := by simpa using ex
              rw [decide_eq_true ex, Bool.true_and] at HS
              have eq : ¬ y = i := ey
              clear ey
              have q1 : (y == (i : Int)) = false := by simpa using eq
              have q2 : (y != (i : Int)) = true := by simpa using eq
              rw [decide_eq_true (by simpa using eq), Bool.true_and] at HS
              by_cases g0 : 0 ≤ y
              case neg =>
                have g1 : decide (0 ≤ y) = false := by simpa using g0
                rw [show inB 0 ((L : Int) - 1) y = false from decide_eq_false (by omega), Bool.false_and, Bool.or_false] at HS
                have HSH : Hid (orTo (lbP V L (perV Wn V M) i) (k + 1) = ok) := HS
                clear HS
                go_wp2
                go_round
                case rel => exact ⟨k + 1, by omega, by go_num, by rw [HSH.out]⟩
                case measure => simp [intOf]; omega
              by_cases g2 : y < L
              case neg =>
                have g1 : decide (y < (L : Int)) = false := by simpa using g2
                rw [show inB 0 ((L : Int) - 1) y = false from decide_eq_false (by omega), Bool.false_and, Bool.or_false] at HS
                have HSH : Hid (orTo (lbP V L (perV Wn V M) i) (k + 1) = ok) := HS
                clear HS
                go_wp2
                go_round
                case rel => exact ⟨k + 1, by omega, by go_num, by rw [HSH.out]⟩
                case measure => simp [intOf]; omega
              rw [show inB 0 ((L : Int) - 1) y = true from decide_eq_true (by omega), Bool.true_and] at HS
              obtain ⟨qn, rfl⟩ : ∃ qn : Nat, y = (qn : Int) := ⟨y.toNat, by omega⟩
              rw [show ((qn : Int)).toNat = qn from by omega] at HS
              have cq := HOr.out qn (by omega)
              have gq : (qn : Int) < (L : Int) := by omega
              obtain ⟨pq, hpq⟩ : ∃ pq, perV Wn V M qn = pq := ⟨_, rfl⟩
              rw [hpq] at cq HS
              clear hpq
              cases pq
              · rw [Bool.or_false] at HS
                have HSH : Hid (orTo (lbP V L (perV Wn V M) i) (k + 1) = ok) := HS
                clear HS
                go_wp2
                go_round
                case rel => exact ⟨k + 1, by omega, by go_num, by rw [HSH.out]⟩
                case measure => simp [intOf]; omega
              · rw [Bool.or_true] at HS
                have HSH : Hid (orTo (lbP V L (perV Wn V M) i) (k + 1) = true) := HS
                clear HS
                go_wp2
                go_round
                case rel => exact ⟨k + 1, by omega, by go_num, by rw [HSH.out]⟩
                case measure => simp [intOf]; omega
            · have x1 : (x == (i : Int)) = false := by simpa using ex
              rw [decide_eq_false ex, Bool.false_and, Bool.or_false] at HS
              have HSH : Hid (orTo (lbP V L (perV Wn V M) i) (k + 1) = ok) := HS
              clear HS
              go_wp2
              go_round
              case rel => exact ⟨k + 1, by omega, by go_num, by rw [HSH.out]⟩
              case measure => simp [intOf]; omega
        case neg =>
          obtain rfl : k = M := by omega
          have HPP := HP.out
          obtain ⟨bb, hbb⟩ : ∃ bb, orTo (lbP V L (perV Wn V k) i) k = bb := ⟨_, rfl⟩
          rw [hbb] at HPP ⊢
          clear hbb HP
          cases pi
          · cases wi
            · clear HPP
              cases bb
              all_goals
                go_wp2_with fail
                go_quiet (fail)
                all_goals
                  go_wp2
                  go_roundw
                  case rel => exact ⟨i + 1, by omega, by go_num, (by show ∃ _, _; obtain ⟨q, hq⟩ := HQ.out; exact ⟨q + nq, by rw [hq, World.drewN_drewN]⟩)⟩
                  case measure => simp [intOf]; omega
            · have e : bb = true := HPP.2 rfl rfl
              subst e
              clear HPP
              go_wp2_with fail
              go_quiet (fail)
              all_goals
                go_wp2
                go_roundw
                case rel => exact ⟨i + 1, by omega, by go_num, (by show ∃ _, _; obtain ⟨q, hq⟩ := HQ.out; exact ⟨q + nq, by rw [hq, World.drewN_drewN]⟩)⟩
                case measure => simp [intOf]; omega
          · obtain ⟨e1, e2⟩ := HPP.1 rfl
            subst e1 e2
            clear HPP
            go_wp2_with fail
            go_quiet (fail)
            all_goals
              go_wp2
              go_roundw
              case rel => exact ⟨i + 1, by omega, by go_num, (by show ∃ _, _; obtain ⟨q, hq⟩ := HQ.out; exact ⟨q + nq, by rw [hq, World.drewN_drewN]⟩)⟩
              case measure => simp [intOf]; omega
theorem fnBars_walk (w : World) (s : Option Addr) (n c : Nat) (hn : n ≤ 9223372036854775807) (R : Bytes w s n) :
    Calls Try.prog 4 #[.slice s n c] w fun e w' => e = .returned (.bool true) ∧ Below w.heap.size w w' := by
  by_cases h : n ≤ 1048576
  · exact bars_near w s n c (by omega) (R.code h)
  · exact bars_far w s n c (by omega)

set_option maxRecDepth 100000 in
theorem fnBars_lifted (os : Os) (started : os.Started) (H : Type) (enc : TypeId × Value → H) :
    ReturnsInHanded {} Try.checked os 4 .any (Rows.fnBarsSpec.pre6 enc Try.prog Try.f4 Rows.fnBarsRow.domain false) (Rows.fnBarsSpec.post enc Try.prog Try.f4 false true false false) := by
  refine returnsInHanded_of_change (C := Try.checked) own started (by kernel_rfl) Try.func4
    (ChangeSpec.witness6 (enc := enc) (C := Try.checked) false ⟨#[], #[.slice none 0 0], []⟩ 8 (by kernel_rfl) (by kernel_rfl) (by kernel_rfl) (by kernel_rfl)) ?_
  intro W base args ds gs before hval0 hW hcnd _
  have hval : ∀ (j : Nat) t v, Try.f4.params[j]? = some t → args[j]? = some v → Value.okWide Try.prog W .any base t v := hval0
  have hW' := hW
  obtain ⟨p, q, hA0, hV, rfl, hfz, hnd⟩ := hW
  have hA : DataW.TrodAll enc Try.prog W 0 (fun _ => true) true Try.f4.params.toList args.toList ds p := hA0
  rw [Try.params4] at hA hval
  obtain ⟨v0, vs0, d0, ds0, p0, q0, hargs, rfl, rfl, h0, r0⟩ := trodAll_cons hA
  obtain ⟨rfl, rfl, rfl⟩ := trodAll_nil r0
  obtain rfl : args = #[v0] := by cases args; simp_all
  obtain ⟨rfl, rfl⟩ := trodVars_none hV
  have k0 := h0
  have lt0 : ∀ x ∈ p0, x.block < W.heap.size := by obtain ⟨m, hm⟩ := k0; exact DataW.trod_lt m _ _ _ hm
  obtain ⟨s0, n0, c0, rfl, m0, R0⟩ := open_code Try.underlying34 Try.underlying5 (by kernel_rfl) (hval 0 34 v0 rfl rfl) h0
  clear hA0 hval0
  refine (fnBars_walk W s0 n0 c0 m0 R0).mono fun e W' ⟨he, bel⟩ => ?_
  subst he
  exact ⟨_, rfl, _, _, _, [], _, [], hW', trodAll_mk1 (shut_bool Try.underlying4 _), (trodAll_cons_mk (Below.trod laidOut (by kernel_rfl) (of_decide_eq_true (by kernel_rfl)) k0 bel lt0) trodAll_mk0), rfl, bel.frame _, fun h => by cases h⟩

theorem fnBars_holds : Rows.FnBarsSaid :=
  OpenClaim.holds_of_wide 4 Try.f4 rfl rfl rfl rfl rfl rfl rfl ⟨rfl, rfl, rfl, rfl, rfl⟩ rfl rfl rfl rfl rfl (by kernel_rfl) Try.func4 (by kernel_rfl)
    (of_decide_eq_true (by kernel_rfl)) (by unfold Func.isWrapper; first | (rw [if_pos (by decide +kernel)]; kernel_rfl) | (rw [if_neg (by decide +kernel)]; exact ⟨rfl, rfl⟩))
    (fun os started H enc _ => fnBars_lifted os started H enc)
#print axioms fnBars_holds
end Go.Proofs.Ytjkdnlnbkopbpaa
