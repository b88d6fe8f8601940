/-
What is proved: FnShortestWay: along the shortest way of a plan that is drawn to a mode each step leads to the next one, the last one to the mode, and where none is told the mode is no end of the first step; no condition.
-/
import Derived.Test.YtlkegoofpmgcjaaSoD
import Derived.Test.YtlkegoofpmgcjaaSoN
import Derived.Test.YtlkegoofpmgcjaaSoS
import Derived.Test.YtlkegoofpmgcjaaSoI
import Derived.Test.YtlkegoofpmgcjaaEnI
import Derived.Test.YtlkegoofpmgcjaaSaI
import Derived.Test.YtlkegoofpmgcjaaHasA
import Derived.Test.YtlkegoofpmgcjaaOpen8
import Derived.Deep.RegionHeldLaw
namespace Go.Proofs.Ytlkegoofpmgcjaa
set_option maxRecDepth 40000
open Go.ChangeShapes Go.WideShapes Go.ChangeAt Go.RowKit
set_option linter.unusedVariables false
set_option linter.unusedSimpArgs false

set_option maxHeartbeats 400000 in
theorem shway_far (w : World) (s : Option Addr) (n c : Nat) (h : (1048576 : Int) < n) :
    Calls Try.prog 3 #[.slice s n c] w fun e w' => e = .returned (.bool true) ∧ Below w.heap.size w w' := by
  go_enter Try.func3, Try.ntmps3
  go_wp2_with fail
  refine (big_yes _ _ _ _ h).mono ?_
  rintro e w1 ⟨rfl, rfl⟩
  go_wp2
  go_ret
  exact ⟨rfl, Below.refl _ _⟩
set_option maxRecDepth 20000 in
set_option maxHeartbeats 16000000 in
theorem shway_near (w : World) (s : Option Addr) (n c : Nat) (hn : (n : Int) ≤ 1048576) (HC8 : Hid (Code8 w s n)) :
    Calls Try.prog 3 #[.slice s n c] w fun e w' => e = .returned (.bool true) ∧ Below w.heap.size w w' := by
  go_enter Try.func3, Try.ntmps3
  go_wp2_with fail
  refine (big_no _ _ _ _ hn).mono ?_
  rintro e w1 ⟨rfl, rfl⟩
  rename World => w
  go_wp2_with fail
  refine (drawShortest_any HC8).mono ?_
  rintro e w2 h2
  unfold DsPost at h2
  obtain ⟨t, m, cap, V, md, rfl, m1, m41, R2, B2⟩ := h2
  have HR : Hid (RowI w2 t (m * 5) V) := R2
  have HB : Hid (Below w.heap.size w w2) := B2
  have m5 : (m : Int) ≤ 1048576 := by omega
  clear R2 B2 HC8 hn
  go_wp2_with fail
  refine (specShortest_any t m cap V md w2 m5 HR).mono ?_
  rintro e w3 h3
  unfold ShPost at h3
  obtain ⟨s3, c3, rfl, o3, b3⟩ := h3
  replace HR : Hid (RowI w3 t (m * 5) V) := HR.out.below b3
  replace HB : Hid (Below w.heap.size w w3) := HB.out.trans (b3.mono HB.out.size)
  have HW3 : Hid (RowI w3 s3 (shV m V md).length (fun j => (shV m V md).getD j 0)) := o3.row
  clear b3 o3
  go_wp2_with fail
  refine (implShortest_any t m cap V md w3 m5 HR).mono ?_
  rintro e w4 ⟨s4, c4, rfl, o4, b4⟩
  replace HR : Hid (RowI w4 t (m * 5) V) := HR.out.below b4
  replace HB : Hid (Below w.heap.size w w4) := HB.out.trans (b4.mono HB.out.size)
  have HW : Hid (RowI w4 s4 (shV m V md).length (fun j => (shV m V md).getD j 0)) := o4.row
  replace HW3 : Hid (RowI w4 s3 (shV m V md).length (fun j => (shV m V md).getD j 0)) := HW3.out.below b4
  have HLL : Hid ((shV m V md).length ≤ 40) := shV_len m V md
  obtain ⟨L, hL⟩ : ∃ L, shV m V md = L := ⟨_, rfl⟩
  have HL : Hid (shV m V md = L) := hL
  rw [hL] at HW HW3 HLL ⊢
  clear b4 o4 hL
  have l40 : (L.length : Int) ≤ 40 := by have := HLL.out; omega
  go_wp2_with fail
  refine (sameInts_any s4 s3 L.length c4 c3 _ w4 (by omega) HW HW3).mono ?_
  rintro e w5 ⟨rfl, b5⟩
  replace HR : Hid (RowI w5 t (m * 5) V) := HR.out.below b5
  replace HB : Hid (Below w.heap.size w w5) := HB.out.trans (b5.mono HB.out.size)
  replace HW : Hid (RowI w5 s4 L.length (fun j => L.getD j 0)) := HW.out.below b5
  clear b5 HW3
  go_wp2_with fail
  refine (specPlanOk_any t m cap V w5 m5 HR).mono ?_
  rintro e w6 ⟨rfl, b6⟩
  replace HR : Hid (RowI w6 t (m * 5) V) := HR.out.below b6
  replace HB : Hid (Below w.heap.size w w6) := HB.out.trans (b6.mono HB.out.size)
  replace HW : Hid (RowI w6 s4 L.length (fun j => L.getD j 0)) := HW.out.below b6
  clear b6
  cases hp : planB m V
  case false =>
    have hL0 : L = [] := by rw [← HL.out]; exact shV_no (by rw [hp]; simp)
    subst hL0
    have BF := HB.out
    clear hp HW
    go_wp2
    go_ret
    first | exact ⟨rfl, BF⟩ | exact ⟨by simp, BF⟩
  case true =>
  by_cases hL0 : L = []
  case pos =>
    subst hL0
    have HNE : Hid (md ∉ endV m V 0) := no_end hp HL.out
    have HEL : Hid ((endV m V 0).length ≤ 3) := by
      show _ ≤ _
      have hn : 0 < m := by omega
      rw [endV_yes hp (by omega) (by omega) hn]
      exact (et_good V _ _).len
    clear hp HW l40
    go_wp2_with fail
    refine (implEnds_any t m cap V 0 w6 m5 HR).mono ?_
    rintro e w7 ⟨s7, c7, rfl, o7, b7⟩
    replace HB : Hid (Below w.heap.size w w7) := HB.out.trans (b7.mono HB.out.size)
    have H7 : Hid (RowI w7 s7 (endV m V 0).length (fun j => (endV m V 0).getD j 0)) := o7.row
    clear o7 b7
    go_wp2_with fail
    refine (has_any s7 (endV m V 0) c7 md w7 (by have := HEL.out; omega) H7).mono ?_
    rintro e w8 ⟨rfl, rfl⟩
    have BF := HB.out
    rw [show decide (md ∈ endV m V 0) = false from decide_eq_false HNE.out]
    clear HNE HEL H7
    go_wp2
    go_ret
    first | exact ⟨rfl, BF⟩ | exact ⟨by simp, BF⟩
  case neg =>
  have hwa := way_all (md := md) hp (by rw [HL.out]; exact hL0)
  rw [HL.out] at hwa
  obtain ⟨hwa, hw0⟩ := hwa
  have HWA : Hid (∀ i, i < L.length → ∃ k : Nat, k < m ∧ L.getD i 0 = (k : Int) ∧ (V (k * 5 + 3) = nxW L md i ∨ V (k * 5 + 4) = nxW L md i)) := hwa
  have hlp : 0 < L.length := List.length_pos_iff.2 hL0
  have lpi : (0 : Int) < (L.length : Int) := by omega
  have lne : ((L.length : Int) == 0) = false := by simp; omega
  have HW0 : Hid (L.getD 0 0 = 0) := hw0
  clear hp hL0 HL hwa hw0
  go_wp2_with fail
  go_loopw [7] (fun i wx => ∃ j : Nat, j ≤ L.length ∧ i = .int .i64 (j : Int) ∧ Hid (RowI wx t (m * 5) V) ∧ Hid (RowI wx s4 L.length (fun j => L.getD j 0)) ∧ Hid (Below w.heap.size w wx)) (fun i _ => L.length - (intOf i).toNat)
  case atStart => exact ⟨0, by omega, rfl, HR, HW, HB⟩
  case round =>
  clear HR HW HB
  obtain ⟨j, hj, rfl, HR, HW, HB⟩ := hrel
  by_cases hlt : j < L.length
  case neg =>
    obtain rfl : j = L.length := by omega
    obtain ⟨b, o, rfl, hb, hc⟩ := HW.out 0 hlp
    have BF := HB.out
    simp only [Nat.add_zero, HW0.out] at hc
    clear hlt hj HR HW
    go_wp2
    go_ret
    first | exact ⟨rfl, BF⟩ | exact ⟨by simp, BF⟩
  case pos =>
    obtain ⟨k, hk, ek, hto⟩ := HWA.out j hlt
    have jl : (j : Int) < (L.length : Int) := by omega
    have kmi : (k : Int) < (m : Int) := by omega
    have k0 : (0 : Int) ≤ (k : Int) := by omega
    obtain ⟨b, o, rfl, hb, hc⟩ := HW.out j hlt
    simp only [ek] at hc
    have cs : ∀ f, f < 5 → ∃ pb po, t = some ⟨pb, po, none⟩ ∧ wr.cell? ⟨pb, po + k * 5 + f, none⟩ = some (.int .i64 (V (k * 5 + f))) := fun f hf => by
      obtain ⟨pb, po, e, _, hcf⟩ := HR.out (k * 5 + f) (by omega)
      exact ⟨pb, po, e, by rw [Nat.add_assoc]; exact hcf⟩
    obtain ⟨pb, po, rfl, c0⟩ := cs 0 (by omega)
    obtain ⟨pb', po', e', c1⟩ := cs 1 (by omega)
    cases e'
    obtain ⟨pb', po', e', c2⟩ := cs 2 (by omega)
    cases e'
    obtain ⟨pb', po', e', c3'⟩ := cs 3 (by omega)
    cases e'
    obtain ⟨pb', po', e', c4'⟩ := cs 4 (by omega)
    cases e'
    rw [Nat.add_zero, Nat.add_zero] at c0
    obtain ⟨x0, hx0⟩ : ∃ z, V (k * 5) = z := ⟨_, rfl⟩
    obtain ⟨x1, hx1⟩ : ∃ z, V (k * 5 + 1) = z := ⟨_, rfl⟩
    obtain ⟨x2, hx2⟩ : ∃ z, V (k * 5 + 2) = z := ⟨_, rfl⟩
    obtain ⟨x3, hx3⟩ : ∃ z, V (k * 5 + 3) = z := ⟨_, rfl⟩
    obtain ⟨x4, hx4⟩ : ∃ z, V (k * 5 + 4) = z := ⟨_, rfl⟩
    rw [hx0] at c0
    rw [hx1] at c1
    rw [hx2] at c2
    rw [hx3] at c3' hto
    rw [hx4] at c4' hto
    clear cs hx0 hx1 hx2 hx3 hx4 ek
    rename World => wa
    have HX : Hid (∀ W, Below wa.heap.size wa W → Hid (RowI W (some ⟨pb, po, none⟩) (m * 5) V) ∧ Hid (RowI W (some ⟨b, o, none⟩) L.length (fun j => L.getD j 0)) ∧ Hid (Below w.heap.size w W)) := fun W hW => ⟨HR.out.below hW, HW.out.below hW, HB.out.trans (hW.mono HB.out.size)⟩
    by_cases hj1 : j + 1 < L.length
    case pos =>
      have hj1i : (j : Int) + 1 < (L.length : Int) := by omega
      obtain ⟨b2, o2, e2, hb2, hc2⟩ := HW.out (j + 1) hj1
      cases e2
      have hnx : nxW L md j = L.getD (j + 1) 0 := by unfold nxW; rw [if_pos hj1]
      rw [hnx] at hto
      obtain ⟨N, hN⟩ : ∃ z, L.getD (j + 1) 0 = z := ⟨_, rfl⟩
      rw [hN] at hto
      simp only [hN] at hc2
      have hc2' := hc2
      rw [← Nat.add_assoc] at hc2'
      clear hnx hN
      by_cases q3 : x3 = N
      case pos =>
        have d3 : (x3 != N) = false := by simpa using q3
        clear q3 hto
        go_wp2
        obtain ⟨F1, F2, F3⟩ := HX.out _ (show Below wa.heap.size wa (wa.alloc (.cells #[.int .i64 x0, .int .i64 x1, .int .i64 x2, .int .i64 x3, .int .i64 x4] 33)) from below0 _ _)
        go_roundw
        case rel => exact ⟨j + 1, by omega, by go_num, F1, F2, F3⟩
        case measure => simp [intOf]; omega
      case neg =>
        have q4 : x4 = N := hto.resolve_left q3
        have d3 : (x3 != N) = true := by simpa using q3
        have d4 : (x4 != N) = false := by simpa using q4
        clear q3 q4 hto
        go_wp2
        obtain ⟨F1, F2, F3⟩ := HX.out _ (show Below wa.heap.size wa (wa.alloc (.cells #[.int .i64 x0, .int .i64 x1, .int .i64 x2, .int .i64 x3, .int .i64 x4] 33)) from below0 _ _)
        go_roundw
        case rel => exact ⟨j + 1, by omega, by go_num, F1, F2, F3⟩
        case measure => simp [intOf]; omega
    case neg =>
      have hj1i : ¬ (j : Int) + 1 < (L.length : Int) := by omega
      have hnx : nxW L md j = md := by unfold nxW; rw [if_neg hj1]
      rw [hnx] at hto
      clear hnx
      by_cases q3 : x3 = md
      case pos =>
        have d3 : (x3 != md) = false := by simpa using q3
        clear q3 hto
        go_wp2
        obtain ⟨F1, F2, F3⟩ := HX.out _ (show Below wa.heap.size wa (wa.alloc (.cells #[.int .i64 x0, .int .i64 x1, .int .i64 x2, .int .i64 x3, .int .i64 x4] 33)) from below0 _ _)
        go_roundw
        case rel => exact ⟨j + 1, by omega, by go_num, F1, F2, F3⟩
        case measure => simp [intOf]; omega
      case neg =>
        have q4 : x4 = md := hto.resolve_left q3
        have d3 : (x3 != md) = true := by simpa using q3
        have d4 : (x4 != md) = false := by simpa using q4
        clear q3 q4 hto
        go_wp2
        obtain ⟨F1, F2, F3⟩ := HX.out _ (show Below wa.heap.size wa (wa.alloc (.cells #[.int .i64 x0, .int .i64 x1, .int .i64 x2, .int .i64 x3, .int .i64 x4] 33)) from below0 _ _)
        go_roundw
        case rel => exact ⟨j + 1, by omega, by go_num, F1, F2, F3⟩
        case measure => simp [intOf]; omega
theorem fnShortestWay_walk (w : World) (s : Option Addr) (n c : Nat) (hn : n ≤ 9223372036854775807) (R : Bytes w s n) :
    Calls Try.prog 3 #[.slice s n c] w fun e w' => e = .returned (.bool true) ∧ Below w.heap.size w w' := by
  by_cases h : n ≤ 1048576
  · exact shway_near w s n c (by omega) (R.code h)
  · exact shway_far w s n c (by omega)

set_option maxRecDepth 100000 in
theorem fnShortestWay_lifted (os : Os) (started : os.Started) (H : Type) (enc : TypeId × Value → H) :
    ReturnsInHanded {} Try.checked os 3 .any (Rows.fnShortestWaySpec.pre6 enc Try.prog Try.f3 Rows.fnShortestWayRow.domain false) (Rows.fnShortestWaySpec.post enc Try.prog Try.f3 false true false false) := by
  refine returnsInHanded_of_change (C := Try.checked) own started (by kernel_rfl) Try.func3
    (ChangeSpec.witness6 (enc := enc) (C := Try.checked) false ⟨#[], #[.slice none 0 0], []⟩ 8 (by kernel_rfl) (by kernel_rfl) (by kernel_rfl) (by kernel_rfl)) ?_
  intro W base args ds gs before hval0 hW hcnd _
  have hval : ∀ (j : Nat) t v, Try.f3.params[j]? = some t → args[j]? = some v → Value.okWide Try.prog W .any base t v := hval0
  have hW' := hW
  obtain ⟨p, q, hA0, hV, rfl, hfz, hnd⟩ := hW
  have hA : DataW.TrodAll enc Try.prog W 0 (fun _ => true) true Try.f3.params.toList args.toList ds p := hA0
  rw [Try.params3] at hA hval
  obtain ⟨v0, vs0, d0, ds0, p0, q0, hargs, rfl, rfl, h0, r0⟩ := trodAll_cons hA
  obtain ⟨rfl, rfl, rfl⟩ := trodAll_nil r0
  obtain rfl : args = #[v0] := by cases args; simp_all
  obtain ⟨rfl, rfl⟩ := trodVars_none hV
  have k0 := h0
  have lt0 : ∀ x ∈ p0, x.block < W.heap.size := by obtain ⟨m, hm⟩ := k0; exact DataW.trod_lt m _ _ _ hm
  obtain ⟨s0, n0, c0, rfl, m0, R0⟩ := open_code Try.underlying22 Try.underlying5 (by kernel_rfl) (hval 0 22 v0 rfl rfl) h0
  clear hA0 hval0
  refine (fnShortestWay_walk W s0 n0 c0 m0 R0).mono fun e W' ⟨he, bel⟩ => ?_
  subst he
  exact ⟨_, rfl, _, _, _, [], _, [], hW', trodAll_mk1 (shut_bool Try.underlying4 _), (trodAll_cons_mk (Below.trod laidOut (by kernel_rfl) (of_decide_eq_true (by kernel_rfl)) k0 bel lt0) trodAll_mk0), rfl, bel.frame _, fun h => by cases h⟩

theorem fnShortestWay_holds : Rows.FnShortestWaySaid :=
  OpenClaim.holds_of_wide 3 Try.f3 rfl rfl rfl rfl rfl rfl rfl ⟨rfl, rfl, rfl, rfl, rfl⟩ rfl rfl rfl rfl rfl (by kernel_rfl) Try.func3 (by kernel_rfl)
    (of_decide_eq_true (by kernel_rfl)) (by unfold Func.isWrapper; first | (rw [if_pos (by decide +kernel)]; kernel_rfl) | (rw [if_neg (by decide +kernel)]; exact ⟨rfl, rfl⟩))
    (fun os started H enc _ => fnShortestWay_lifted os started H enc)
#print axioms fnShortestWay_holds
end Go.Proofs.Ytlkegoofpmgcjaa
