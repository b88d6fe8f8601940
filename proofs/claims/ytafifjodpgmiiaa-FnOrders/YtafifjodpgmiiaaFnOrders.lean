/-
What is proved: what orders that are drawn from every code decide does not hang on their order, nor on more orders of a lower rank behind one of the Level 1 that wants something; no condition.
-/
import Derived.Test.YtafifjodpgmiiaaDcI
import Derived.Test.YtafifjodpgmiiaaOrD
import Derived.Test.YtafifjodpgmiiaaOrP
import Derived.Test.YtafifjodpgmiiaaOpen8
namespace Go.Proofs.Ytafifjodpgmiiaa
set_option maxRecDepth 40000
open Go.ChangeShapes Go.WideShapes Go.ChangeAt Go.RowKit
set_option linter.unusedVariables false
set_option linter.unusedSimpArgs false

set_option maxHeartbeats 400000 in
theorem orders_far1 (w : World) (s : Option Addr) (n c : Nat) (s2 : Option Addr) (n2 c2 : Nat) (h : (1048576 : Int) < n) :
    Calls Try.prog 4 #[.slice s n c, .slice s2 n2 c2] w fun e w' => e = .returned (.bool true) ∧ Below w.heap.size w w' := by
  go_enter Try.func4, Try.ntmps4
  go_wp2_with fail
  refine (big_yes _ _ _ _ h).mono ?_
  rintro e w1 ⟨rfl, rfl⟩
  go_wp2
  go_ret
  exact ⟨rfl, Below.refl _ _⟩
set_option maxHeartbeats 400000 in
theorem orders_far2 (w : World) (s : Option Addr) (n c : Nat) (s2 : Option Addr) (n2 c2 : Nat) (h0 : (n : Int) ≤ 1048576) (h : (1048576 : Int) < n2) :
    Calls Try.prog 4 #[.slice s n c, .slice s2 n2 c2] w fun e w' => e = .returned (.bool true) ∧ Below w.heap.size w w' := by
  go_enter Try.func4, Try.ntmps4
  go_wp2_with fail
  refine (big_no _ _ _ _ h0).mono ?_
  rintro e w1 ⟨rfl, rfl⟩
  go_wp2_with fail
  refine (big_yes _ _ _ _ h).mono ?_
  rintro e w1 ⟨rfl, rfl⟩
  go_wp2
  go_ret
  exact ⟨rfl, Below.refl _ _⟩
set_option maxRecDepth 20000 in
set_option maxHeartbeats 8000000 in
theorem orders_near (w : World) (s : Option Addr) (n c : Nat) (s2 : Option Addr) (n2 c2 : Nat) (h0 : (n : Int) ≤ 1048576) (h : (n2 : Int) ≤ 1048576) (HC : Hid (Code8 w s n)) (HC2 : Hid (Code8 w s2 n2)) :
    Calls Try.prog 4 #[.slice s n c, .slice s2 n2 c2] w fun e w' => e = .returned (.bool true) ∧ Below w.heap.size w w' := by
  go_enter Try.func4, Try.ntmps4
  go_wp2_with fail
  refine (big_no _ _ _ _ h0).mono ?_
  rintro e w1 ⟨rfl, rfl⟩
  go_wp2_with fail
  refine (big_no _ _ _ _ h).mono ?_
  rintro e w1 ⟨rfl, rfl⟩
  go_wp2_with fail
  refine (drawDecide_any HC).mono ?_
  rintro e w2 ⟨t, N, cap, V, rfl, hN, RV, B2⟩
  have HV : Hid (RowI w2 t (N * 2) V) := RV
  have HB : Hid (Below w1.heap.size w1 w2) := B2
  replace HC2 : Hid (Code8 w2 s2 n2) := HC2.out.below B2
  clear RV B2 HC
  go_wp2_with fail
  refine (drawDecide_any HC2).mono ?_
  rintro e w3 ⟨t2, M, cap2, U, rfl, hM, RU, B3⟩
  have HU : Hid (RowI w3 t2 (M * 2) U) := RU
  replace HV : Hid (RowI w3 t (N * 2) V) := HV.out.below B3
  replace HB : Hid (Below w1.heap.size w1 w3) := HB.out.trans (B3.mono HB.out.size)
  clear RU B3 HC2
  obtain ⟨d, hd⟩ : ∃ d, decV V N = d := ⟨_, rfl⟩
  have HS : Hid (∀ w c, RowI w t (N * 2) V → Calls Try.prog 8 #[.slice t N c] w fun e w' => e = .returned (.int .i64 d) ∧ w' = w) := fun w c q => hd ▸ specDecide_any t N c V w q
  have HI : Hid (∀ w c, RowI w t (N * 2) V → Calls Try.prog 10 #[.slice t N c] w fun e w' => e = .returned (.int .i64 d) ∧ Below w.heap.size w w') := fun w c q => hd ▸ implDecide_any t N c V w q
  have HJ : Hid (∀ w t' c, RowI w t' (N * 2) (rvV V N) → Calls Try.prog 10 #[.slice t' N c] w fun e w' => e = .returned (.int .i64 d) ∧ Below w.heap.size w w') := fun w t' c q => by
    have := implDecide_any t' N c (rvV V N) w q
    rw [dec_rev, hd] at this
    exact this
  clear hd
  go_wp2_with fail
  refine (HS.out _ _ HV.out).mono ?_
  rintro e w4 ⟨rfl, rfl⟩
  go_wp2_with fail
  refine (HI.out _ _ HV.out).mono ?_
  rintro e w5 ⟨rfl, h5⟩
  replace HU : Hid (RowI w5 t2 (M * 2) U) := HU.out.below h5
  replace HV : Hid (RowI w5 t (N * 2) V) := HV.out.below h5
  replace HB : Hid (Below w1.heap.size w1 w5) := HB.out.trans (h5.mono HB.out.size)
  clear h5 HS HI
  have hN2 : (N : Int) ≤ 60 := by omega
  have wN : IntKind.i64.wrap ((N : Int) - 1) = (N : Int) - 1 := by rw [IntKind.wrap_i64]; omega
  go_wp2_with fail
  go_loopw [8, 9] (fun v i wr => ∃ k : Nat, k ≤ N ∧ i = .int .i64 ((N : Int) - 1 - k) ∧ Hid (MadeO w5.heap.size w5 wr v k (rvV V N))) (fun _ i _ => (intOf i + 1).toNat)
  case atStart => exact ⟨0, Nat.zero_le _, by simp, ⟨by simpa [vals] using World.ownsRow_lit (base := w5.heap.size) (size := 2) (e := 33) w5 #[] 0 (Nat.le_refl _) (by simp [maxLen]) (by simp), (Below.refl _ _).alloc (Nat.le_refl _) _⟩⟩
  case round =>
    obtain ⟨k, hk, rfl, HM⟩ := hrel
    have zM : w5.heap.size ≤ wr.heap.size := HM.out.2.size
    by_cases h1 : k < N
    case pos =>
      have ge : 0 ≤ (N : Int) - 1 - k := by omega
      obtain ⟨i, hi⟩ : ∃ i : Nat, (N : Int) - 1 - k = (i : Int) := ⟨N - 1 - k, by omega⟩
      have hi2 : N - 1 - k = i := by omega
      obtain ⟨g, o, rfl, hg, c0⟩ := HV.out (i * 2) (by omega)
      obtain ⟨g', o', e', hg', c1⟩ := HV.out (i * 2 + 1) (by omega)
      cases e'
      have d0 : wr.cell? ⟨g, o + i * 2, none⟩ = some (.int .i64 (V (i * 2))) := (HM.out.2.cell (p := ⟨g, o + i * 2, none⟩) hg).trans c0
      have d1 : wr.cell? ⟨g, o + i * 2 + 1, none⟩ = some (.int .i64 (V (i * 2 + 1))) := (HM.out.2.cell (p := ⟨g, o + (i * 2 + 1), none⟩) hg).trans c1
      have k1 : (i : Int) < (N : Int) := by omega
      have HX : Hid (rvV V N (k * 2) = V (i * 2)) := by show _ = _; rw [rv_0, hi2]
      have HY : Hid (rvV V N (k * 2 + 1) = V (i * 2 + 1)) := by show _ = _; rw [rv_1, hi2]
      have HE : Hid ((N : Int) - 1 - (k : Int) - 1 = (N : Int) - 1 - ((k + 1 : Nat) : Int) ∧ (i : Int) - 1 = (N : Int) - 1 - ((k + 1 : Nat) : Int)) := by show _ ∧ _; omega
      have zg : g < wr.heap.size := Nat.lt_of_lt_of_le hg zM
      have O8 : Hid (wr.ownsRow w5.heap.size 33 2 u8 k (vals (rvV V N) (k * 2))) := HM.out.1
      rw [hi]
      have wi : IntKind.i64.wrap ((i : Int) - 1) = (i : Int) - 1 := by rw [IntKind.wrap_i64]; omega
      have hme : Hid (((i : Int) - 1 + 1).toNat < ((i : Int) + 1).toNat) := by show _ < _; omega
      clear c0 c1 hg hg' hi2 hi
      go_wp2_with (at_builtin; refine list_order w5.heap.size u8 k (vals (rvV V N) (k * 2)) (.tmp 36) (.tmp 41) (by rfl) (by rfl) (by rfl) (by rfl) O8.out (by omega) (by omega) ?_; intro g' cap' w9 hown9 hgrow9 hlt9)
      go_roundw
      case rel => exact ⟨k + 1, by omega, by rw [HE.out.2], madeO_on HM.out zM HX.out HY.out hown9 hgrow9⟩
      case measure => exact hme.out
    case neg =>
      obtain rfl : k = N := by omega
      obtain ⟨t', cap', rfl, ho⟩ := madeO_own HM.out
      have HO : Hid (RowI wr t' (k * 2) (rvV V k)) := ho.row
      replace HU : Hid (RowI wr t2 (M * 2) U) := HU.out.below HM.out.2
      replace HB : Hid (Below w1.heap.size w1 wr) := HB.out.trans (HM.out.2.mono HB.out.size)
      clear ho HM HV h1
      rename World => wa
      go_wp2_with fail
      refine (HJ.out _ _ _ HO.out).mono ?_
      rintro e w6 ⟨rfl, h6⟩
      replace HU : Hid (RowI w6 t2 (M * 2) U) := HU.out.below h6
      replace HB : Hid (Below w1.heap.size w1 w6) := HB.out.trans (h6.mono HB.out.size)
      clear h6 HJ HO zM
      go_wp2_with fail
      go_loopw [10, 11] (fun v i wr => ∃ k : Nat, k ≤ M ∧ k ≤ 40 ∧ i = .int .i64 k ∧ Hid (MadeO w6.heap.size w6 wr v (k + 1) (shV U))) (fun _ i _ => 40 - (intOf i).toNat)
      case atStart => exact ⟨0, Nat.zero_le _, by omega, rfl, ⟨by simpa [vals, List.range_succ, shV] using World.ownsRow_lit (base := w6.heap.size) (size := 2) (e := 33) w6 #[.int .i64 1, .int .i64 (-1)] 1 (Nat.le_refl _) (by simp [maxLen]) (by simp), (Below.refl _ _).alloc (Nat.le_refl _) _⟩⟩
      case round =>
        obtain ⟨q, hq, hq4, rfl, HM⟩ := hrel
        have zM : w6.heap.size ≤ wr.heap.size := HM.out.2.size
        have END : Hid (∀ (t' : Option Addr) (cap' : Nat) (w : World), RowI w t' ((q + 1) * 2) (shV U) → Calls Try.prog 10 #[.slice t' (q + 1) cap'] w fun e w' => e = .returned (.int .i64 (-1)) ∧ Below w.heap.size w w') := fun t' c w x => by
          have := implDecide_any t' (q + 1) c (shV U) w x
          rw [dec_shut U q hq4] at this
          exact this
        by_cases h1 : q < M ∧ q < 40
        case pos =>
          obtain ⟨h1, h2⟩ := h1
          obtain ⟨g, o, rfl, hg, c0⟩ := HU.out (q * 2) (by omega)
          obtain ⟨g', o', e', hg', c1⟩ := HU.out (q * 2 + 1) (by omega)
          cases e'
          have d0 : wr.cell? ⟨g, o + q * 2, none⟩ = some (.int .i64 (U (q * 2))) := (HM.out.2.cell (p := ⟨g, o + q * 2, none⟩) hg).trans c0
          have d1 : wr.cell? ⟨g, o + q * 2 + 1, none⟩ = some (.int .i64 (U (q * 2 + 1))) := (HM.out.2.cell (p := ⟨g, o + (q * 2 + 1), none⟩) hg).trans c1
          have k1 : (q : Int) < (M : Int) := by omega
          have k2 : (q : Int) < 40 := by omega
          have HX : Hid (shV U ((q + 1) * 2) = U (q * 2)) := sh_0 U q
          have HY : Hid (shV U ((q + 1) * 2 + 1) = U (q * 2 + 1)) := sh_1 U q
          have zg : g < wr.heap.size := Nat.lt_of_lt_of_le hg zM
          have O8 : Hid (wr.ownsRow w6.heap.size 33 2 u10 (q + 1) (vals (shV U) ((q + 1) * 2))) := HM.out.1
          clear c0 c1 hg hg' END
          go_wp2_with (at_builtin; refine list_order w6.heap.size u10 (q + 1) (vals (shV U) ((q + 1) * 2)) (.tmp 59) (.tmp 64) (by rfl) (by rfl) (by rfl) (by rfl) O8.out (by omega) (by omega) ?_; intro g' cap' w9 hown9 hgrow9 hlt9)
          go_roundw
          case rel => exact ⟨q + 1, by omega, by omega, by go_num, madeO_on HM.out zM HX.out HY.out hown9 hgrow9⟩
          case measure => simp [intOf]; omega
        case neg =>
          obtain ⟨t', cap', rfl, ho⟩ := madeO_own HM.out
          have HO : Hid (RowI wr t' ((q + 1) * 2) (shV U)) := ho.row
          have HBr : Hid (Below w1.heap.size w1 wr) := HB.out.trans (HM.out.2.mono HB.out.size)
          clear ho HM
          have hor : (q : Int) = M ∨ ((q : Int) < M ∧ (q : Int) = 40) := by omega
          rcases hor with hor | ⟨hor1, hor⟩
          all_goals
            go_wp2_with fail
            refine (END.out _ _ _ HO.out).mono ?_
            rintro e w7 ⟨rfl, h7⟩
            have HBF : Hid (Below w1.heap.size w1 w7) := HBr.out.trans (h7.mono HBr.out.size)
            clear h7
            go_wp2
            go_ret
            exact ⟨rfl, HBF.out⟩
theorem fnOrders_walk (w : World) (s : Option Addr) (n c : Nat) (hn : n ≤ 9223372036854775807) (R : Bytes w s n) (s2 : Option Addr) (n2 c2 : Nat) (hn2 : n2 ≤ 9223372036854775807) (R2 : Bytes w s2 n2) :
    Calls Try.prog 4 #[.slice s n c, .slice s2 n2 c2] w fun e w' => e = .returned (.bool true) ∧ Below w.heap.size w w' := by
  by_cases h : n ≤ 1048576
  · by_cases h2 : n2 ≤ 1048576
    · exact orders_near w s n c s2 n2 c2 (by omega) (by omega) (R.code h) (R2.code h2)
    · exact orders_far2 w s n c s2 n2 c2 (by omega) (by omega)
  · exact orders_far1 w s n c s2 n2 c2 (by omega)

set_option maxRecDepth 100000 in
theorem fnOrders_lifted (os : Os) (started : os.Started) (H : Type) (enc : TypeId × Value → H) :
    ReturnsInHanded {} Try.checked os 4 .any (Rows.fnOrdersSpec.pre6 enc Try.prog Try.f4 Rows.fnOrdersRow.domain false) (Rows.fnOrdersSpec.post enc Try.prog Try.f4 false true false false) := by
  refine returnsInHanded_of_change (C := Try.checked) own started (by kernel_rfl) Try.func4
    (ChangeSpec.witness6 (enc := enc) (C := Try.checked) false ⟨#[], #[.slice none 0 0, .slice none 0 0], []⟩ 8 (by kernel_rfl) (by kernel_rfl) (by kernel_rfl) (by kernel_rfl)) ?_
  intro W base args ds gs before hval0 hW hcnd _
  have hval : ∀ (j : Nat) t v, Try.f4.params[j]? = some t → args[j]? = some v → Value.okWide Try.prog W .any base t v := hval0
  have hW' := hW
  obtain ⟨p, q, hA0, hV, rfl, hfz, hnd⟩ := hW
  have hA : DataW.TrodAll enc Try.prog W 0 (fun _ => true) true Try.f4.params.toList args.toList ds p := hA0
  rw [Try.params4] at hA hval
  obtain ⟨v0, vs0, d0, ds0, p0, q0, hargs, rfl, rfl, h0, r0⟩ := trodAll_cons hA
  obtain ⟨v1, vs1, d1, ds1, p1, q1, rfl, rfl, rfl, h1, r1⟩ := trodAll_cons r0
  obtain ⟨rfl, rfl, rfl⟩ := trodAll_nil r1
  obtain rfl : args = #[v0, v1] := by cases args; simp_all
  obtain ⟨rfl, rfl⟩ := trodVars_none hV
  have k0 := h0
  have lt0 : ∀ x ∈ p0, x.block < W.heap.size := by obtain ⟨m, hm⟩ := k0; exact DataW.trod_lt m _ _ _ hm
  have k1 := h1
  have lt1 : ∀ x ∈ p1, x.block < W.heap.size := by obtain ⟨m, hm⟩ := k1; exact DataW.trod_lt m _ _ _ hm
  obtain ⟨s0, n0, c0, rfl, m0, R0⟩ := open_code Try.underlying29 Try.underlying5 (by kernel_rfl) (hval 0 29 v0 rfl rfl) h0
  obtain ⟨s1, n1, c1, rfl, m1, R1⟩ := open_code Try.underlying29 Try.underlying5 (by kernel_rfl) (hval 1 29 v1 rfl rfl) h1
  clear hA0 hval0
  refine (fnOrders_walk W s0 n0 c0 m0 R0 s1 n1 c1 m1 R1).mono fun e W' ⟨he, bel⟩ => ?_
  subst he
  exact ⟨_, rfl, _, _, _, [], _, [], hW', trodAll_mk1 (shut_bool Try.underlying4 _), (trodAll_cons_mk (Below.trod laidOut (by kernel_rfl) (of_decide_eq_true (by kernel_rfl)) k0 bel lt0) (trodAll_cons_mk (Below.trod laidOut (by kernel_rfl) (of_decide_eq_true (by kernel_rfl)) k1 bel lt1) trodAll_mk0)), rfl, bel.frame _, fun h => by cases h⟩

theorem fnOrders_holds : Rows.FnOrdersSaid :=
  OpenClaim.holds_of_wide 4 Try.f4 rfl rfl rfl rfl rfl rfl rfl ⟨rfl, rfl, rfl, rfl, rfl⟩ rfl rfl rfl rfl rfl (by kernel_rfl) Try.func4 (by kernel_rfl)
    (of_decide_eq_true (by kernel_rfl)) (by unfold Func.isWrapper; first | (rw [if_pos (by decide +kernel)]; kernel_rfl) | (rw [if_neg (by decide +kernel)]; exact ⟨rfl, rfl⟩))
    (fun os started H enc _ => fnOrders_lifted os started H enc)
#print axioms fnOrders_holds
end Go.Proofs.Ytafifjodpgmiiaa
