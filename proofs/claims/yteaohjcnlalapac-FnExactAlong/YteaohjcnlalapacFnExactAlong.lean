/-
What is proved: at every list of knots and every int64 impl.Along answers as the specification's Along and leaves the list alone; no condition.
-/
import Derived.Test.YteaohjcnlalapacAlongF
import Derived.Test.YteaohjcnlalapacAlongS
import Derived.Test.YteaohjcnlalapacOpenKnots
namespace Go.Proofs.Yteaohjcnlalapac
open Go.ChangeShapes Go.WideShapes Go.ChangeAt Go.RowKit
set_option linter.unusedVariables false

set_option maxHeartbeats 400000 in
theorem along_far (w : World) (s : Option Addr) (n c : Nat) (x : Int) (Z : Hid (∀ w, Calls Try.prog 6 #[.slice s n c, .int .i64 1048576] w fun e w' => e = .returned (.int .i64 (-1)) ∧ w' = w)) :
    Calls Try.prog 4 #[.slice s n c, .int .i64 x] w fun e w' => e = .returned (.bool true) ∧ Below w.heap.size w w' := by
  go_enter Try.func4, Try.ntmps4
  go_wp2_with fail
  refine (Z.out _).mono ?_
  rintro e w1 ⟨rfl, rfl⟩
  go_wp2
  go_ret
  exact ⟨rfl, (by repeat (first | with_reducible exact Below.refl _ _ | with_reducible refine Below.setCell ?_ (by first | omega | (simp; done) | (simp; omega)) _ | with_reducible refine bDrewN ?_ _ | with_reducible refine Below.drew ?_ | with_reducible refine Below.alloc ?_ (by first | omega | (simp; done) | (simp; omega)) _))⟩

set_option maxHeartbeats 1000000 in
theorem along_near (w : World) (s : Option Addr) (n c : Nat) (V : Nat → Int) (x y : Int) (v : Bool) (l : Int) (l0 : 0 ≤ l) (HR : Hid (RowI w s (n * 2) V))
    (Z : Hid (∀ w, Calls Try.prog 6 #[.slice s n c, .int .i64 1048576] w fun e w' => e = .returned (.int .i64 l) ∧ w' = w))
    (T : Hid (∀ s c w, RowI w s (n * 2) V → Calls Try.prog 8 #[.slice s n c] w fun e w' => ∃ b, e = .returned (.slice (some ⟨b, 0, none⟩) n n) ∧ w.heap.size ≤ b ∧ b < w'.heap.size ∧ RowI w' (some ⟨b, 0, none⟩) (n * 2) V ∧ Below w.heap.size w w'))
    (H1 : Hid (∀ s c w, RowI w s (n * 2) V → Calls Try.prog 11 #[.slice s n c, .int .i64 x] w fun e w' => e = .returned (.tuple #[.int .i64 y, .bool v]) ∧ Below w.heap.size w w'))
    (H2 : Hid (∀ s c w, RowI w s (n * 2) V → Calls Try.prog 12 #[.slice s n c, .int .i64 x] w fun e w' => e = .returned (.tuple #[.int .i64 y, .bool v]) ∧ Below w.heap.size w w'))
    (Q : Hid (∀ s t c d w, RowI w s (n * 2) V → RowI w t (n * 2) V → Calls Try.prog 10 #[.slice s n c, .slice t n d] w fun e w' => e = .returned (.bool true) ∧ Below w.heap.size w w')) :
    Calls Try.prog 4 #[.slice s n c, .int .i64 x] w fun e w' => e = .returned (.bool true) ∧ Below w.heap.size w w' := by
  go_enter Try.func4, Try.ntmps4
  go_wp2_with fail
  refine (Z.out _).mono ?_
  rintro e w1 ⟨rfl, rfl⟩
  go_wp2_with fail
  refine (T.out _ _ _ HR.out).mono ?_
  rintro e w2 ⟨b, rfl, hb1, hb2, R2, B2⟩
  have HR2 : Hid _ := R2
  clear R2
  go_wp2_with fail
  refine (H1.out _ _ _ HR2.out).mono ?_
  rintro e w3 ⟨rfl, h3⟩
  have B3 : Below _ _ w3 := B2.trans (h3.mono B2.size)
  have HR3 : Hid (RowI w3 s (n * 2) V) := HR.out.below B3
  go_wp2_with fail
  refine (T.out _ _ _ HR3.out).mono ?_
  rintro e w4 ⟨b', rfl, hb3, hb4, R4, h4⟩
  have B4 : Below _ _ w4 := B3.trans (h4.mono B3.size)
  have HR4 : Hid (RowI w4 (some ⟨b', 0, none⟩) (n * 2) V) := R4
  clear R4
  go_wp2_with fail
  refine (H2.out _ _ _ HR4.out).mono ?_
  rintro e w5 ⟨rfl, h5⟩
  have B5 : Below _ _ w5 := B4.trans (h5.mono B4.size)
  have HR5 : Hid (RowI w5 (some ⟨b', 0, none⟩) (n * 2) V) := HR4.out.below h5
  have HS5 : Hid (RowI w5 s (n * 2) V) := HR.out.below B5
  go_wp2_with fail
  refine (T.out _ _ _ HS5.out).mono ?_
  rintro e w6 ⟨b6, rfl, hb5, hb6, R6, h6⟩
  have B6 : Below _ _ w6 := B5.trans (h6.mono B5.size)
  have HR6 : Hid (RowI w6 (some ⟨b6, 0, none⟩) (n * 2) V) := R6
  have HS6 : Hid (RowI w6 (some ⟨b', 0, none⟩) (n * 2) V) := HR5.out.below h6
  clear R6
  go_wp2_with fail
  refine (Q.out _ _ _ _ _ HS6.out HR6.out).mono ?_
  rintro e w7 ⟨rfl, h7⟩
  have B7 : Below _ _ w7 := B6.trans (h7.mono B6.size)
  go_wp2
  go_ret
  exact ⟨rfl, B7⟩

theorem specAlong_any (s : Option Addr) (n c : Nat) (V : Nat → Int) (x : Int) (w : World) (HR : RowI w s (n * 2) V) :
    Calls Try.prog 11 #[.slice s n c, .int .i64 x] w fun e w' => (∃ y ok, AV n V x y ok ∧ e = .returned (.tuple #[.int .i64 y, .bool ok])) ∧ Below w.heap.size w w' := by
  have K := specCurveOk_any s n c V w HR
  cases hC : curveB n V
  · rw [hC] at K
    refine (specAlong_no s n c x w K).mono ?_
    rintro e w' ⟨rfl, hb⟩
    exact ⟨⟨0, false, .inl ⟨hC, rfl, rfl⟩, rfl⟩, hb⟩
  · rw [hC] at K
    obtain ⟨c1, c2, c3⟩ := curve_ok hC
    exact specAlong_on s n c V x w (by omega) (by omega) HR hC c3 K
theorem seg_find {V : Nat → Int} {x : Int} (h0 : V (0 * 2) ≤ x) : ∀ m : Nat, x ≤ V ((m + 1) * 2) → ∃ j, j ≤ m ∧ V (j * 2) ≤ x ∧ x ≤ V ((j + 1) * 2)
  | 0, h => ⟨0, Nat.le_refl _, h0, h⟩
  | m + 1, h => by
    rcases Int.lt_or_le x (V ((m + 1) * 2)) with q | q
    · obtain ⟨j, a, b, c⟩ := seg_find h0 m (Int.le_of_lt q)
      exact ⟨j, by omega, b, c⟩
    · exact ⟨m + 1, Nat.le_refl _, q, h⟩
theorem av_exists (n : Nat) (V : Nat → Int) (x : Int) : ∃ y ok, AV n V x y ok := by
  cases hC : curveB n V
  · exact ⟨0, false, .inl ⟨hC, rfl, rfl⟩⟩
  · obtain ⟨c1, c2, c3⟩ := curve_ok hC
    by_cases q : V 0 ≤ x ∧ x ≤ V ((n - 1) * 2)
    · obtain ⟨m, rfl⟩ : ∃ m, n = m + 2 := ⟨n - 2, by omega⟩
      have e : m + 2 - 1 = m + 1 := by omega
      rw [e] at q
      obtain ⟨j, a, b, c⟩ := seg_find (V := V) (x := x) (by simpa using q.1) m q.2
      exact ⟨_, true, .inr ⟨hC, .inr ⟨j, by omega, b, c, rfl, rfl⟩⟩⟩
    · exact ⟨0, false, .inr ⟨hC, .inl ⟨by omega, rfl, rfl⟩⟩⟩
theorem fnExactAlong_walk (w : World) (s : Option Addr) (n c : Nat) (V : Nat → Int) (hn : n ≤ 9223372036854775807) (R : RowI w s (n * 2) V) (x : Int) (wx : (Lit.int .i64 x).wf = true) :
    Calls Try.prog 4 #[.slice s n c, .int .i64 x] w fun e w' => e = .returned (.bool true) ∧ Below w.heap.size w w' := by
  by_cases h : n ≤ 1048576
  · obtain ⟨y, ok, hA⟩ := av_exists n V x
    exact along_near w s n c V x y ok (1048576 - (n : Int)) (by omega) R (fun w => szKnotS_any s n c w (by omega)) (fun s c w r => toKnotS_any s n c V w (by omega) r)
      (fun s c w r => (specAlong_any s n c V x w r).mono fun e w' ⟨⟨y', ok', k1, k2⟩, k3⟩ => ⟨by rw [k2, (k1.one hA).1, (k1.one hA).2], k3⟩)
      (fun s c w r => (implAlong_any s n c V x w r).mono fun e w' ⟨⟨y', ok', k1, k2⟩, k3⟩ => ⟨by rw [k2, (k1.one hA).1, (k1.one hA).2], k3⟩)
      (fun s t c d w r r' => eqKnotS_any s t n c d V w (by omega) r r')
  · exact along_far w s n c x (fun w => szKnotS_far s n c w (by omega) (by omega))

set_option maxRecDepth 100000 in
theorem fnExactAlong_lifted (os : Os) (started : os.Started) (H : Type) (enc : TypeId × Value → H) :
    ReturnsInHanded {} Try.checked os 4 .any (Rows.fnExactAlongSpec.pre6 enc Try.prog Try.f4 Rows.fnExactAlongRow.domain false) (Rows.fnExactAlongSpec.post enc Try.prog Try.f4 false true false false) := by
  refine returnsInHanded_of_change (C := Try.checked) own started (by kernel_rfl) Try.func4
    (ChangeSpec.witness6 (enc := enc) (C := Try.checked) false ⟨#[], #[.slice none 0 0, .int .i64 0], []⟩ 8 (by kernel_rfl) (by kernel_rfl) (by kernel_rfl) (by kernel_rfl)) ?_
  intro W base args ds gs before hval0 hW hcnd _
  have hval : ∀ (j : Nat) t v, Try.f4.params[j]? = some t → args[j]? = some v → Value.okWide Try.prog W .any base t v := hval0
  have hW' := hW
  obtain ⟨p, q, hA0, hV, rfl, hfz, hnd⟩ := hW
  have hA : DataW.TrodAll enc Try.prog W 0 (fun _ => true) true Try.f4.params.toList args.toList ds p := hA0
  rw [Try.params4] at hA hval
  obtain ⟨v0, vs0, d0, ds0, p0, q0, hargs, rfl, rfl, h0, r0⟩ := trodAll_cons hA
  obtain ⟨v1, vs1, d1, ds1, p1, q1, rfl, rfl, rfl, h1, r1⟩ := trodAll_cons r0
  obtain ⟨rfl, rfl, rfl⟩ := trodAll_nil r1
  obtain rfl : args = #[v0, v1] := by cases args; simp_all
  obtain ⟨rfl, rfl⟩ := trodVars_none hV
  have k0 := h0
  have lt0 : ∀ x ∈ p0, x.block < W.heap.size := by obtain ⟨m, hm⟩ := k0; exact DataW.trod_lt m _ _ _ hm
  have k1 := h1
  have lt1 : ∀ x ∈ p1, x.block < W.heap.size := by obtain ⟨m, hm⟩ := k1; exact DataW.trod_lt m _ _ _ hm
  obtain ⟨s0, n0, c0, V0, rfl, m0, R0⟩ := open_pairs Try.underlying22 Try.underlying36 (by kernel_rfl) rfl rfl (by kernel_rfl) (by kernel_rfl) (by kernel_rfl) (by kernel_rfl) (hval 0 22 v0 rfl rfl) h0
  obtain ⟨a1, rfl, rfl, rfl, w1⟩ := open_int Try.underlying2 (hval 1 2 v1 rfl rfl) h1
  clear hA0 hval0
  refine (fnExactAlong_walk W s0 n0 c0 V0 m0 R0 a1 w1).mono fun e W' ⟨he, bel⟩ => ?_
  subst he
  exact ⟨_, rfl, _, _, _, [], _, [], hW', trodAll_mk1 (shut_bool Try.underlying4 _), (trodAll_cons_mk (Below.trod laidOut (by kernel_rfl) (of_decide_eq_true (by kernel_rfl)) k0 bel lt0) (trodAll_cons_mk (Below.trod laidOut (by kernel_rfl) (of_decide_eq_true (by kernel_rfl)) k1 bel lt1) trodAll_mk0)), rfl, bel.frame _, fun h => by cases h⟩

theorem fnExactAlong_holds : Rows.FnExactAlongSaid :=
  OpenClaim.holds_of_wide 4 Try.f4 rfl rfl rfl rfl rfl rfl rfl ⟨rfl, rfl, rfl, rfl, rfl⟩ rfl rfl rfl rfl rfl (by kernel_rfl) Try.func4 (by kernel_rfl)
    (of_decide_eq_true (by kernel_rfl)) (by unfold Func.isWrapper; first | (rw [if_pos (by decide +kernel)]; kernel_rfl) | (rw [if_neg (by decide +kernel)]; exact ⟨rfl, rfl⟩))
    (fun os started H enc _ => fnExactAlong_lifted os started H enc)
#print axioms fnExactAlong_holds
end Go.Proofs.Yteaohjcnlalapac
