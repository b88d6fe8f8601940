/-
What is proved: at every list of units and every load impl.FallFor answers as the specification's FallFor and leaves the list alone; no condition.
-/
import Derived.Test.YtgekkblfnfclmaaFfS
import Derived.Test.YtgekkblfnfclmaaFfI
import Derived.Test.YtgekkblfnfclmaaUnitK
import Derived.Test.YtgekkblfnfclmaaOpenUnits
namespace Go.Proofs.Ytgekkblfnfclmaa
set_option maxRecDepth 40000
open Go.ChangeShapes Go.WideShapes Go.ChangeAt Go.RowKit
set_option linter.unusedVariables false

set_option maxHeartbeats 400000 in
theorem fall_far (w : World) (s : Option Addr) (n c : Nat) (x : Int) (Z : Hid (∀ w, Calls Try.prog 6 #[.slice s n c, .int .i64 1048576] w fun e w' => e = .returned (.int .i64 (-1)) ∧ w' = w)) :
    Calls Try.prog 3 #[.slice s n c, .int .i64 x] w fun e w' => e = .returned (.bool true) ∧ Below w.heap.size w w' := by
  go_enter Try.func3, Try.ntmps3
  go_wp2_with fail
  refine (Z.out _).mono ?_
  rintro e w1 ⟨rfl, rfl⟩
  go_wp2
  go_ret
  exact ⟨rfl, (by repeat (first | with_reducible exact Below.refl _ _ | with_reducible refine Below.setCell ?_ (by first | omega | (simp; done) | (simp; omega)) _ | with_reducible refine bDrewN ?_ _ | with_reducible refine Below.drew ?_ | with_reducible refine Below.alloc ?_ (by first | omega | (simp; done) | (simp; omega)) _))⟩

set_option maxHeartbeats 1000000 in
theorem fall_near (w : World) (s : Option Addr) (n c : Nat) (V : Nat → Int) (x y : Int) (l : Int) (l0 : 0 ≤ l) (HR : Hid (RowI w s (n * 2) V))
    (Z : Hid (∀ w, Calls Try.prog 6 #[.slice s n c, .int .i64 1048576] w fun e w' => e = .returned (.int .i64 l) ∧ w' = w))
    (T : Hid (∀ s c w, RowI w s (n * 2) V → Calls Try.prog 8 #[.slice s n c] w fun e w' => ∃ b, e = .returned (.slice (some ⟨b, 0, none⟩) n n) ∧ w.heap.size ≤ b ∧ b < w'.heap.size ∧ RowI w' (some ⟨b, 0, none⟩) (n * 2) V ∧ Below w.heap.size w w'))
    (H1 : Hid (∀ s c w, RowI w s (n * 2) V → Calls Try.prog 7 #[.slice s n c, .int .i64 x] w fun e w' => e = .returned (.int .i64 y) ∧ Below w.heap.size w w'))
    (H2 : Hid (∀ s c w, RowI w s (n * 2) V → Calls Try.prog 9 #[.slice s n c, .int .i64 x] w fun e w' => e = .returned (.int .i64 y) ∧ Below w.heap.size w w'))
    (Q : Hid (∀ s t c d w, RowI w s (n * 2) V → RowI w t (n * 2) V → Calls Try.prog 10 #[.slice s n c, .slice t n d] w fun e w' => e = .returned (.bool true) ∧ Below w.heap.size w w')) :
    Calls Try.prog 3 #[.slice s n c, .int .i64 x] w fun e w' => e = .returned (.bool true) ∧ Below w.heap.size w w' := by
  go_enter Try.func3, Try.ntmps3
  go_wp2_with fail
  refine (Z.out _).mono ?_
  rintro e w1 ⟨rfl, rfl⟩
  go_wp2_with fail
  refine (T.out _ _ _ HR.out).mono ?_
  rintro e w2 ⟨b, rfl, hb1, hb2, R2, B2⟩
  have HR2 : Hid _ := R2
  clear R2
  go_wp2_with fail
  refine (H1.out _ _ _ HR2.out).mono ?_
  rintro e w3 ⟨rfl, h3⟩
  have B3 : Below _ _ w3 := B2.trans (h3.mono B2.size)
  have HR3 : Hid (RowI w3 s (n * 2) V) := HR.out.below B3
  go_wp2_with fail
  refine (T.out _ _ _ HR3.out).mono ?_
  rintro e w4 ⟨b', rfl, hb3, hb4, R4, h4⟩
  have B4 : Below _ _ w4 := B3.trans (h4.mono B3.size)
  have HR4 : Hid (RowI w4 (some ⟨b', 0, none⟩) (n * 2) V) := R4
  clear R4
  go_wp2_with fail
  refine (H2.out _ _ _ HR4.out).mono ?_
  rintro e w5 ⟨rfl, h5⟩
  have B5 : Below _ _ w5 := B4.trans (h5.mono B4.size)
  have HR5 : Hid (RowI w5 (some ⟨b', 0, none⟩) (n * 2) V) := HR4.out.below h5
  have HS5 : Hid (RowI w5 s (n * 2) V) := HR.out.below B5
  go_wp2_with fail
  refine (T.out _ _ _ HS5.out).mono ?_
  rintro e w6 ⟨b6, rfl, hb5, hb6, R6, h6⟩
  have B6 : Below _ _ w6 := B5.trans (h6.mono B5.size)
  have HR6 : Hid (RowI w6 (some ⟨b6, 0, none⟩) (n * 2) V) := R6
  have HS6 : Hid (RowI w6 (some ⟨b', 0, none⟩) (n * 2) V) := HR5.out.below h6
  clear R6
  go_wp2_with fail
  refine (Q.out _ _ _ _ _ HS6.out HR6.out).mono ?_
  rintro e w7 ⟨rfl, h7⟩
  have B7 : Below _ _ w7 := B6.trans (h7.mono B6.size)
  go_wp2
  go_ret
  exact ⟨rfl, B7⟩

theorem fnExactFallFor_walk (w : World) (s : Option Addr) (n c : Nat) (V : Nat → Int) (hn : n ≤ 9223372036854775807) (R : RowI w s (n * 2) V) (x : Int) (wx : (Lit.int .i64 x).wf = true) :
    Calls Try.prog 3 #[.slice s n c, .int .i64 x] w fun e w' => e = .returned (.bool true) ∧ Below w.heap.size w w' := by
  by_cases h : n ≤ 1048576
  · obtain ⟨y, hA⟩ := fv_some n V x
    exact fall_near w s n c V x y (1048576 - (n : Int)) (by omega) R (fun w => szUnitS_any s n c w (by omega)) (fun s c w r => toUnitS_any s n c V w (by omega) r)
      (fun s c w r => (specFall_any s n c V x w (by omega) r).mono fun e w' ⟨y', k1, k2, k3⟩ => ⟨by rw [k2, k1.one hA], k3⟩)
      (fun s c w r => (implFall_any s n c V x w (by omega) r).mono fun e w' ⟨y', k1, k2, k3⟩ => ⟨by rw [k2, k1.one hA], k3⟩)
      (fun s t c d w r r' => eqUnitS_any s t n c d V w (by omega) r r')
  · exact fall_far w s n c x (fun w => szUnitS_far s n c w (by omega) (by omega))

set_option maxRecDepth 100000 in
theorem fnExactFallFor_lifted (os : Os) (started : os.Started) (H : Type) (enc : TypeId × Value → H) :
    ReturnsInHanded {} Try.checked os 3 .any (Rows.fnExactFallForSpec.pre6 enc Try.prog Try.f3 Rows.fnExactFallForRow.domain false) (Rows.fnExactFallForSpec.post enc Try.prog Try.f3 false true false false) := by
  refine returnsInHanded_of_change (C := Try.checked) own started (by kernel_rfl) Try.func3
    (ChangeSpec.witness6 (enc := enc) (C := Try.checked) false ⟨#[], #[.slice none 0 0, .int .i64 0], []⟩ 8 (by kernel_rfl) (by kernel_rfl) (by kernel_rfl) (by kernel_rfl)) ?_
  intro W base args ds gs before hval0 hW hcnd _
  have hval : ∀ (j : Nat) t v, Try.f3.params[j]? = some t → args[j]? = some v → Value.okWide Try.prog W .any base t v := hval0
  have hW' := hW
  obtain ⟨p, q, hA0, hV, rfl, hfz, hnd⟩ := hW
  have hA : DataW.TrodAll enc Try.prog W 0 (fun _ => true) true Try.f3.params.toList args.toList ds p := hA0
  rw [Try.params3] at hA hval
  obtain ⟨v0, vs0, d0, ds0, p0, q0, hargs, rfl, rfl, h0, r0⟩ := trodAll_cons hA
  obtain ⟨v1, vs1, d1, ds1, p1, q1, rfl, rfl, rfl, h1, r1⟩ := trodAll_cons r0
  obtain ⟨rfl, rfl, rfl⟩ := trodAll_nil r1
  obtain rfl : args = #[v0, v1] := by cases args; simp_all
  obtain ⟨rfl, rfl⟩ := trodVars_none hV
  have k0 := h0
  have lt0 : ∀ x ∈ p0, x.block < W.heap.size := by obtain ⟨m, hm⟩ := k0; exact DataW.trod_lt m _ _ _ hm
  have k1 := h1
  have lt1 : ∀ x ∈ p1, x.block < W.heap.size := by obtain ⟨m, hm⟩ := k1; exact DataW.trod_lt m _ _ _ hm
  obtain ⟨s0, n0, c0, V0, rfl, m0, R0⟩ := open_pairs Try.underlying22 Try.underlying43 (by kernel_rfl) rfl rfl (by kernel_rfl) (by kernel_rfl) (by kernel_rfl) (by kernel_rfl) (hval 0 22 v0 rfl rfl) h0
  obtain ⟨a1, rfl, rfl, rfl, w1⟩ := open_int Try.underlying2 (hval 1 2 v1 rfl rfl) h1
  clear hA0 hval0
  refine (fnExactFallFor_walk W s0 n0 c0 V0 m0 R0 a1 w1).mono fun e W' ⟨he, bel⟩ => ?_
  subst he
  exact ⟨_, rfl, _, _, _, [], _, [], hW', trodAll_mk1 (shut_bool Try.underlying4 _), (trodAll_cons_mk (Below.trod laidOut (by kernel_rfl) (of_decide_eq_true (by kernel_rfl)) k0 bel lt0) (trodAll_cons_mk (Below.trod laidOut (by kernel_rfl) (of_decide_eq_true (by kernel_rfl)) k1 bel lt1) trodAll_mk0)), rfl, bel.frame _, fun h => by cases h⟩

theorem fnExactFallFor_holds : Rows.FnExactFallForSaid :=
  OpenClaim.holds_of_wide 3 Try.f3 rfl rfl rfl rfl rfl rfl rfl ⟨rfl, rfl, rfl, rfl, rfl⟩ rfl rfl rfl rfl rfl (by kernel_rfl) Try.func3 (by kernel_rfl)
    (of_decide_eq_true (by kernel_rfl)) (by unfold Func.isWrapper; first | (rw [if_pos (by decide +kernel)]; kernel_rfl) | (rw [if_neg (by decide +kernel)]; exact ⟨rfl, rfl⟩))
    (fun os started H enc _ => fnExactFallFor_lifted os started H enc)
#print axioms fnExactFallFor_holds
end Go.Proofs.Ytgekkblfnfclmaa
