/-
What is proved: FnCurveBack: on a curve that is drawn from any code, where Back tells a place, that place has at least the height asked for, the place ahead of it, if it is on the curve, less, and Back of its own height is the place; no condition.
-/
import Derived.Test.YthbnfckpaehniaaCbD
import Derived.Test.YthbnfckpaehniaaBackF
import Derived.Test.YthbnfckpaehniaaBackS
import Derived.Test.YthbnfckpaehniaaAlongF
import Derived.Test.YthbnfckpaehniaaLeast
import Derived.Test.YthbnfckpaehniaaOpen8
namespace Go.Proofs.Ythbnfckpaehniaa
set_option maxRecDepth 40000
open Go.ChangeShapes Go.WideShapes Go.ChangeAt Go.RowKit
set_option linter.unusedVariables false
set_option linter.unusedSimpArgs false

set_option maxHeartbeats 400000 in
theorem curveBack_far (w : World) (s : Option Addr) (n c : Nat) (h : (1048576 : Int) < n) :
    Calls Try.prog 3 #[.slice s n c] w fun e w' => e = .returned (.bool true) ∧ Below w.heap.size w w' := by
  go_enter Try.func3, Try.ntmps3
  go_wp2_with fail
  refine (big_yes _ _ _ _ h).mono ?_
  rintro e w1 ⟨rfl, rfl⟩
  go_wp2
  go_ret
  exact ⟨rfl, Below.refl _ _⟩
theorem av_end {n : Nat} {V : Nat → Int} (hC : curveB n V = true) : AV n V (V ((n - 1) * 2)) (V ((n - 1) * 2 + 1)) true := by
  have hk := curve_ok hC
  obtain ⟨m, rfl⟩ : ∃ m, n = m + 2 := ⟨n - 2, by omega⟩
  have r := ok_rise hk.2.2 (i := m) (by omega)
  rw [show m + 2 - 1 = m + 1 by omega]
  exact .inr ⟨hC, .inr ⟨m, by omega, by omega, Int.le_refl _, (seg_right r).symm, rfl⟩⟩
/-- What the law asks of the numbers. -/
theorem back_law {n : Nat} {V : Nat → Int} {y x : Int} (h : BV n V y x true) : (curveB n V = true ∧ 2 ≤ n ∧ -1000000 ≤ x ∧ x ≤ 1000000) ∧ (∀ v on, AV n V x v on → on = true ∧ y ≤ v ∧ ∀ x' b, BV n V v x' b → x' = x ∧ b = true) ∧ (V 0 < x → ∀ v on, AV n V (x - 1) v on → on = true ∧ v < y) := by
  rcases h with ⟨_, _, e⟩ | ⟨⟨hC, hs, h1, h2⟩, hL, _⟩
  · cases e
  · obtain ⟨l0, l1, ⟨v0, a0, yv⟩, lm⟩ := hL
    have hk := curve_ok hC
    have b0 := (ok_in hk.2.2 (i := 0) (by omega)).1
    have b1 := (ok_in hk.2.2 (i := n - 1) (by omega)).1
    unfold inC at b0 b1
    refine ⟨⟨hC, hk.1, by (try simp at b0); omega, by (try simp at b1); omega⟩, fun v on ha => ?_, fun hx v on ha => ?_⟩
    · obtain ⟨rfl, rfl⟩ := ha.one a0
      refine ⟨rfl, yv, fun x' b hb => ?_⟩
      have hv : HV n V v x := ⟨v, a0, Int.le_refl _⟩
      have hve := hv_mono hC hs l0 l1 (Int.le_refl _) hv
      obtain ⟨ve, ae, le⟩ := hve
      have := (ae.one (av_end hC)).1
      have hLS : LS n V v x := ⟨l0, l1, hv, fun z z0 z1 hz => lm z z0 z1 (by obtain ⟨q, qa, qb⟩ := hz; exact ⟨q, qa, by omega⟩)⟩
      rcases hb with ⟨hn, _, _⟩ | ⟨_, hL2, rfl⟩
      · exact (hn ⟨hC, hs, by omega, by omega⟩).elim
      · exact ⟨hL2.one hLS hC hs, rfl⟩
    · obtain ⟨v2, a2⟩ := av_in hC (show V 0 ≤ x - 1 by omega) (show x - 1 ≤ V ((n - 1) * 2) by omega)
      obtain ⟨rfl, rfl⟩ := ha.one a2
      refine ⟨rfl, ?_⟩
      by_cases q : v < y
      · exact q
      · exact (lm (x - 1) (by omega) (by omega) ⟨v, a2, by omega⟩).elim
theorem row_eq {w : World} {t : Option Addr} {m : Nat} {U V : Nat → Int} (h : RowI w t m U) (e : ∀ j, j < m → U j = V j) : RowI w t m V := fun j hj => by rw [← e j hj]; exact h j hj
set_option maxRecDepth 20000 in
set_option maxHeartbeats 8000000 in
theorem curveBack_near (w : World) (s : Option Addr) (n c : Nat) (hn : (n : Int) ≤ 1048576) (HC8 : Hid (Code8 w s n)) :
    Calls Try.prog 3 #[.slice s n c] w fun e w' => e = .returned (.bool true) ∧ Below w.heap.size w w' := by
  obtain ⟨D, hD⟩ := HC8.out.told
  have HC : Hid (CodeD w s n D) := hD
  clear hD HC8
  go_enter Try.func3, Try.ntmps3
  go_wp2_with fail
  refine (big_no _ _ _ _ hn).mono ?_
  rintro e w1 ⟨rfl, rfl⟩
  rename World => w
  go_wp2_with fail
  refine (drawBack_d HC).mono ?_
  rintro e w2 h2
  unfold BakPost at h2
  obtain ⟨t, m, cap, V, y, rfl, m1, m14, R2, hCR, B2⟩ := h2
  have HR : Hid (RowI w2 t (m * 2) V) := R2
  have HCR : Hid (CuR D n (!onB D n 10 0) (beP n 10 0) m V) := hCR
  have HB : Hid (Below w.heap.size w w2) := B2
  clear R2 hCR B2
  go_wp2_with fail
  refine (specBack_any t m cap V y w2 (by omega) HR.out).mono ?_
  rintro e w3 ⟨⟨x1, ok1, hBV, rfl⟩, b3⟩
  have HB1 : Hid (BV m V y x1 ok1) := hBV
  replace HB : Hid (Below w.heap.size w w3) := HB.out.trans (b3.mono HB.out.size)
  clear hBV b3 HR
  go_wp2_with fail
  refine (drawBack_d (HC.out.below HB.out)).mono ?_
  rintro e w4 h4
  unfold BakPost at h4
  obtain ⟨t2, m2, cap2, V2, y2, rfl, -, -, R4, hCR, B4⟩ := h4
  obtain ⟨em, eV⟩ := CuR.one HCR.out hCR
  subst em
  have HR : Hid (RowI w4 t2 (m * 2) V) := row_eq R4 (fun j hj => (eV j hj).symm)
  replace HB : Hid (Below w.heap.size w w4) := HB.out.trans (B4.mono HB.out.size)
  clear R4 hCR B4 eV HCR HC
  go_wp2_with fail
  refine (implBack_any t2 m cap2 V y w4 HR.out).mono ?_
  rintro e w5 ⟨⟨x, ok, hBV, rfl⟩, b5⟩
  obtain ⟨rfl, rfl⟩ := BV.one HB1.out hBV
  replace HR : Hid (RowI w5 t2 (m * 2) V) := HR.out.below b5
  replace HB : Hid (Below w.heap.size w w5) := HB.out.trans (b5.mono HB.out.size)
  clear hBV b5
  cases ok1
  case false =>
    have BF := HB.out
    go_wp2
    go_ret
    exact ⟨rfl, BF⟩
  case true =>
    have hLaw := back_law HB1.out
    have HA1 : Hid (∀ v on, AV m V x1 v on → on = true ∧ y ≤ v ∧ ∀ x' b, BV m V v x' b → x' = x1 ∧ b = true) := hLaw.2.1
    have HA2 : Hid (V 0 < x1 → ∀ v on, AV m V (x1 - 1) v on → on = true ∧ v < y) := hLaw.2.2
    have xb := hLaw.1.2.2
    clear hLaw HB1
    go_wp2_with fail
    refine (implAlong_any t2 m cap2 V x1 w5 HR.out).mono ?_
    rintro e w6 ⟨⟨v, on, hav, rfl⟩, b6⟩
    obtain ⟨rfl, yv, hbk⟩ := HA1.out v on hav
    have HBK : Hid (∀ x' b, BV m V v x' b → x' = x1 ∧ b = true) := hbk
    replace HR : Hid (RowI w6 t2 (m * 2) V) := HR.out.below b6
    replace HB : Hid (Below w.heap.size w w6) := HB.out.trans (b6.mono HB.out.size)
    have nyv : ¬ v < y := by omega
    clear hbk hav b6 HA1
    obtain ⟨b, o, e2, hbz, c0⟩ := HR.out 0 (by omega)
    subst e2
    rw [Nat.add_zero] at c0
    have mp : (0 : Int) < (m : Int) := by omega
    by_cases hx : V 0 < x1
    case pos =>
      have HL := HA2.out hx
      obtain ⟨x2, hx2⟩ : ∃ z, x1 - 1 = z := ⟨_, rfl⟩
      rw [hx2] at HL
      have HL2 : Hid (∀ v on, AV m V x2 v on → on = true ∧ v < y) := HL
      clear HL HA2
      go_wp2_with fail
      try rw [hx2]
      refine (implAlong_any (some ⟨b, o, none⟩) m cap2 V x2 w6 HR.out).mono ?_
      rintro e w7 ⟨⟨v2, on2, hav, rfl⟩, b7⟩
      obtain ⟨rfl, lv⟩ := HL2.out v2 on2 hav
      replace HR : Hid (RowI w7 (some ⟨b, o, none⟩) (m * 2) V) := HR.out.below b7
      replace HB : Hid (Below w.heap.size w w7) := HB.out.trans (b7.mono HB.out.size)
      have nlv : ¬ y ≤ v2 := by omega
      clear hav b7 HL2 c0 hbz
      go_wp2_with fail
      refine (implBack_any (some ⟨b, o, none⟩) m cap2 V v w7 HR.out).mono ?_
      rintro e w8 ⟨⟨x3, b3, hB3, rfl⟩, b8⟩
      obtain ⟨rfl, rfl⟩ := HBK.out x3 b3 hB3
      have BF : Below w.heap.size w w8 := HB.out.trans (b8.mono HB.out.size)
      clear hB3 b8
      go_wp2
      go_ret
      first | exact ⟨rfl, BF⟩ | exact ⟨by simp, BF⟩
    case neg =>
      clear HA2
      go_wp2_with fail
      refine (implBack_any (some ⟨b, o, none⟩) m cap2 V v w6 HR.out).mono ?_
      rintro e w8 ⟨⟨x3, b3, hB3, rfl⟩, b8⟩
      obtain ⟨rfl, rfl⟩ := HBK.out x3 b3 hB3
      have BF : Below w.heap.size w w8 := HB.out.trans (b8.mono HB.out.size)
      clear hB3 b8
      go_wp2
      go_ret
      first | exact ⟨rfl, BF⟩ | exact ⟨by simp, BF⟩
theorem fnCurveBack_walk (w : World) (s : Option Addr) (n c : Nat) (hn : n ≤ 9223372036854775807) (R : Bytes w s n) :
    Calls Try.prog 3 #[.slice s n c] w fun e w' => e = .returned (.bool true) ∧ Below w.heap.size w w' := by
  by_cases h : n ≤ 1048576
  · exact curveBack_near w s n c (by omega) (R.code h)
  · exact curveBack_far w s n c (by omega)

set_option maxRecDepth 100000 in
theorem fnCurveBack_lifted (os : Os) (started : os.Started) (H : Type) (enc : TypeId × Value → H) :
    ReturnsInHanded {} Try.checked os 3 .any (Rows.fnCurveBackSpec.pre6 enc Try.prog Try.f3 Rows.fnCurveBackRow.domain false) (Rows.fnCurveBackSpec.post enc Try.prog Try.f3 false true false false) := by
  refine returnsInHanded_of_change (C := Try.checked) own started (by kernel_rfl) Try.func3
    (ChangeSpec.witness6 (enc := enc) (C := Try.checked) false ⟨#[], #[.slice none 0 0], []⟩ 8 (by kernel_rfl) (by kernel_rfl) (by kernel_rfl) (by kernel_rfl)) ?_
  intro W base args ds gs before hval0 hW hcnd _
  have hval : ∀ (j : Nat) t v, Try.f3.params[j]? = some t → args[j]? = some v → Value.okWide Try.prog W .any base t v := hval0
  have hW' := hW
  obtain ⟨p, q, hA0, hV, rfl, hfz, hnd⟩ := hW
  have hA : DataW.TrodAll enc Try.prog W 0 (fun _ => true) true Try.f3.params.toList args.toList ds p := hA0
  rw [Try.params3] at hA hval
  obtain ⟨v0, vs0, d0, ds0, p0, q0, hargs, rfl, rfl, h0, r0⟩ := trodAll_cons hA
  obtain ⟨rfl, rfl, rfl⟩ := trodAll_nil r0
  obtain rfl : args = #[v0] := by cases args; simp_all
  obtain ⟨rfl, rfl⟩ := trodVars_none hV
  have k0 := h0
  have lt0 : ∀ x ∈ p0, x.block < W.heap.size := by obtain ⟨m, hm⟩ := k0; exact DataW.trod_lt m _ _ _ hm
  obtain ⟨s0, n0, c0, rfl, m0, R0⟩ := open_code Try.underlying22 Try.underlying5 (by kernel_rfl) (hval 0 22 v0 rfl rfl) h0
  clear hA0 hval0
  refine (fnCurveBack_walk W s0 n0 c0 m0 R0).mono fun e W' ⟨he, bel⟩ => ?_
  subst he
  exact ⟨_, rfl, _, _, _, [], _, [], hW', trodAll_mk1 (shut_bool Try.underlying4 _), (trodAll_cons_mk (Below.trod laidOut (by kernel_rfl) (of_decide_eq_true (by kernel_rfl)) k0 bel lt0) trodAll_mk0), rfl, bel.frame _, fun h => by cases h⟩

theorem fnCurveBack_holds : Rows.FnCurveBackSaid :=
  OpenClaim.holds_of_wide 3 Try.f3 rfl rfl rfl rfl rfl rfl rfl ⟨rfl, rfl, rfl, rfl, rfl⟩ rfl rfl rfl rfl rfl (by kernel_rfl) Try.func3 (by kernel_rfl)
    (of_decide_eq_true (by kernel_rfl)) (by unfold Func.isWrapper; first | (rw [if_pos (by decide +kernel)]; kernel_rfl) | (rw [if_neg (by decide +kernel)]; exact ⟨rfl, rfl⟩))
    (fun os started H enc _ => fnCurveBack_lifted os started H enc)
#print axioms fnCurveBack_holds
end Go.Proofs.Ythbnfckpaehniaa
