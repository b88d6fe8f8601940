/-
What is proved: at every map, speed and flow impl.RatioAt answers as the specification's RatioAt, all NaNs being one, and leaves the map alone; no condition.
-/
import Derived.Test.YtnijliidehgglaaRatK
import Derived.Test.YtnijliidehgglaaMapE
import Derived.Test.YtnijliidehgglaaMapO
namespace Go.Proofs.Ytnijliidehgglaa
set_option maxRecDepth 40000
open Go.ChangeShapes Go.WideShapes Go.ChangeAt Go.RowKit
set_option linter.unusedVariables false
set_option linter.unusedSimpArgs false

set_option maxRecDepth 20000 in
set_option maxHeartbeats 2000000 in
theorem ratioAt_near (w : World) (s : Option Addr) (n c : Nat) (S : Nat → Int) (K : Nat → Nat) (V : Nat → Nat → Int) (x y : Int) (q : Option Nat) (hn : (n : Int) ≤ 1048576) (hK : Hid (∀ j, j < n → (K j : Int) ≤ 9223372036854775807)) (HR : Hid (MapR w s n S K V))
    (H1 : Hid (∀ s c w, MapR w s n S K V → Calls Try.prog 13 #[.slice s n c, .int .i64 x, .int .i64 y] w fun e w' => ∃ r, e = .returned (.float .f64 r) ∧ Fl r q ∧ Below w.heap.size w w'))
    (H2 : Hid (∀ s c w, MapR w s n S K V → Calls Try.prog 14 #[.slice s n c, .int .i64 x, .int .i64 y] w fun e w' => ∃ r, e = .returned (.float .f64 r) ∧ Fl r q ∧ Below w.heap.size w w')) :
    Calls Try.prog 4 #[.slice s n c, .int .i64 x, .int .i64 y] w fun e w' => e = .returned (.bool true) ∧ Below w.heap.size w w' := by
  go_enter Try.func4, Try.ntmps4
  go_wp2_with fail
  refine (szLines_near s n c S K V _ hn hK HR.out).mono ?_
  rintro e w1 ⟨hsz, B0⟩
  rcases hsz with rfl | ⟨z, z0, rfl, hk⟩
  · go_wp2
    go_ret
    exact ⟨rfl, B0⟩
  have HK : Hid (∀ j, j < n → (K j : Int) ≤ 1048576) := hk
  clear hk
  have HW : Hid (∀ W, Below w.heap.size w W → MapR W s n S K V) := fun W h => HR.out.below h
  go_wp2_with fail
  refine (toSpeedLineS_any s n c S K V _ hn HK.out (HW.out _ B0)).mono ?_
  rintro e w2 ⟨ba, rfl, Ra, h⟩
  replace B0 : Below w.heap.size w w2 := B0.trans (h.mono B0.size)
  clear h
  have Pa : Hid (MapR w2 (some ⟨ba, 0, none⟩) n S K V) := Ra
  clear Ra
  go_wp2_with fail
  refine (H1.out _ _ _ Pa.out).mono ?_
  rintro e w3 ⟨r1, rfl, f1, h⟩
  clear Pa
  replace B0 : Below w.heap.size w w3 := B0.trans (h.mono B0.size)
  clear h
  go_wp2_with fail
  refine (toSpeedLineS_any s n c S K V _ hn HK.out (HW.out _ B0)).mono ?_
  rintro e w4 ⟨bx, rfl, Rx, h⟩
  replace B0 : Below w.heap.size w w4 := B0.trans (h.mono B0.size)
  clear h
  have Px : Hid (MapR w4 (some ⟨bx, 0, none⟩) n S K V) := Rx
  clear Rx
  go_wp2_with fail
  refine (H2.out _ _ _ Px.out).mono ?_
  rintro e w5 ⟨r2, rfl, f2, h⟩
  replace B0 : Below w.heap.size w w5 := B0.trans (h.mono B0.size)
  replace Px : Hid (MapR w5 (some ⟨bx, 0, none⟩) n S K V) := Px.out.below h
  clear h
  go_wp2_with fail
  refine (sameFloat_any f2 f1 _).mono ?_
  rintro e w_ ⟨rfl, rfl⟩
  go_wp2_with fail
  refine (toSpeedLineS_any s n c S K V _ hn HK.out (HW.out _ B0)).mono ?_
  rintro e w6 ⟨bv, rfl, Rv, h⟩
  replace B0 : Below w.heap.size w w6 := B0.trans (h.mono B0.size)
  replace Px : Hid (MapR w6 (some ⟨bx, 0, none⟩) n S K V) := Px.out.below h
  clear h
  have Pv : Hid (MapR w6 (some ⟨bv, 0, none⟩) n S K V) := Rv
  clear Rv
  go_wp2_with fail
  refine (eqLines_any _ _ n _ _ S K V _ hn HK.out Px.out Pv.out).mono ?_
  rintro e w7 ⟨rfl, h⟩
  replace B0 : Below w.heap.size w w7 := B0.trans (h.mono B0.size)
  clear h
  go_wp2
  go_ret
  exact ⟨rfl, B0⟩
set_option maxHeartbeats 800000 in
theorem ratioAt_far (w : World) (s : Option Addr) (n c : Nat) (x y : Int) (hn : (1048576 : Int) < n) (hn' : (n : Int) ≤ 9223372036854775807) :
    Calls Try.prog 4 #[.slice s n c, .int .i64 x, .int .i64 y] w fun e w' => e = .returned (.bool true) ∧ Below w.heap.size w w' := by
  go_enter Try.func4, Try.ntmps4
  go_wp2_with fail
  refine (szLines_far s n c _ hn hn').mono ?_
  rintro e w1 ⟨rfl, B0⟩
  go_wp2
  go_ret
  exact ⟨rfl, B0⟩

theorem fnExactRatioAt_walk (w : World) (s : Option Addr) (n c : Nat) (S : Nat → Int) (K : Nat → Nat) (V : Nat → Nat → Int) (hn : n ≤ 9223372036854775807) (hK : ∀ j, j < n → K j ≤ 9223372036854775807) (R : MapR w s n S K V) (x : Int) (wx : (Lit.int .i64 x).wf = true) (y : Int) (wy : (Lit.int .i64 y).wf = true) :
    Calls Try.prog 4 #[.slice s n c, .int .i64 x, .int .i64 y] w fun e w' => e = .returned (.bool true) ∧ Below w.heap.size w w' := by
  by_cases h : n ≤ 1048576
  · obtain ⟨f, hf⟩ : ∃ f : Nat → Option Nat, ∀ a, onV (K a) (V a) y (f a) := ⟨fun a => Classical.choose (onV.some (K a) (V a) y), fun a => Classical.choose_spec (onV.some (K a) (V a) y)⟩
    obtain ⟨o, hv⟩ := MapV.some n S K V x f
    exact ratioAt_near w s n c S K V x y o (by omega) (fun j hj => by have := hK j hj; omega) R (fun s c w h => (specRatioAt_any s n c S K V x y f hf w h).mono fun e w' ⟨⟨r, o, h0, h1, h2⟩, m, h3⟩ => ⟨r, h1, by rw [hv.one h0]; exact h2, by rw [h3]; exact bDrewN (Below.refl _ _) _⟩) (fun s c w h => (implRatioAt_any s n c S K V x y f hf w h).mono fun e w' ⟨r, o, h0, h1, h2, h3⟩ => ⟨r, h1, by rw [hv.one h0]; exact h2, h3⟩)
  · exact ratioAt_far w s n c x y (by omega) (by omega)

set_option maxRecDepth 100000 in
theorem fnExactRatioAt_lifted (os : Os) (started : os.Started) (H : Type) (enc : TypeId × Value → H) :
    ReturnsInHanded {} Try.checked os 4 .any (Rows.fnExactRatioAtSpec.pre6 enc Try.prog Try.f4 Rows.fnExactRatioAtRow.domain false) (Rows.fnExactRatioAtSpec.post enc Try.prog Try.f4 false true false false) := by
  refine returnsInHanded_of_change (C := Try.checked) own started (by kernel_rfl) Try.func4
    (ChangeSpec.witness6 (enc := enc) (C := Try.checked) false ⟨#[], #[.slice none 0 0, .int .i64 0, .int .i64 0], []⟩ 8 (by kernel_rfl) (by kernel_rfl) (by kernel_rfl) (by kernel_rfl)) ?_
  intro W base args ds gs before hval0 hW hcnd _
  have hval : ∀ (j : Nat) t v, Try.f4.params[j]? = some t → args[j]? = some v → Value.okWide Try.prog W .any base t v := hval0
  have hW' := hW
  obtain ⟨p, q, hA0, hV, rfl, hfz, hnd⟩ := hW
  have hA : DataW.TrodAll enc Try.prog W 0 (fun _ => true) true Try.f4.params.toList args.toList ds p := hA0
  rw [Try.params4] at hA hval
  obtain ⟨v0, vs0, d0, ds0, p0, q0, hargs, rfl, rfl, h0, r0⟩ := trodAll_cons hA
  obtain ⟨v1, vs1, d1, ds1, p1, q1, rfl, rfl, rfl, h1, r1⟩ := trodAll_cons r0
  obtain ⟨v2, vs2, d2, ds2, p2, q2, rfl, rfl, rfl, h2, r2⟩ := trodAll_cons r1
  obtain ⟨rfl, rfl, rfl⟩ := trodAll_nil r2
  obtain rfl : args = #[v0, v1, v2] := by cases args; simp_all
  obtain ⟨rfl, rfl⟩ := trodVars_none hV
  have k0 := h0
  have lt0 : ∀ x ∈ p0, x.block < W.heap.size := by obtain ⟨m, hm⟩ := k0; exact DataW.trod_lt m _ _ _ hm
  have k1 := h1
  have lt1 : ∀ x ∈ p1, x.block < W.heap.size := by obtain ⟨m, hm⟩ := k1; exact DataW.trod_lt m _ _ _ hm
  have k2 := h2
  have lt2 : ∀ x ∈ p2, x.block < W.heap.size := by obtain ⟨m, hm⟩ := k2; exact DataW.trod_lt m _ _ _ hm
  obtain ⟨s0, n0, c0, S0, K0, V0, rfl, m0, mk0, R0⟩ := open_lines Try.underlying22 Try.underlying43 (by kernel_rfl) rfl rfl (by kernel_rfl) (by kernel_rfl) (by kernel_rfl) rfl Try.underlying41 Try.underlying72 (by kernel_rfl) rfl rfl (by kernel_rfl) (by kernel_rfl) (by kernel_rfl) (by kernel_rfl) (hval 0 22 v0 rfl rfl) h0
  obtain ⟨a1, rfl, rfl, rfl, w1⟩ := open_int Try.underlying2 (hval 1 2 v1 rfl rfl) h1
  obtain ⟨a2, rfl, rfl, rfl, w2⟩ := open_int Try.underlying2 (hval 2 2 v2 rfl rfl) h2
  clear hA0 hval0
  refine (fnExactRatioAt_walk W s0 n0 c0 S0 K0 V0 m0 mk0 R0 a1 w1 a2 w2).mono fun e W' ⟨he, bel⟩ => ?_
  subst he
  exact ⟨_, rfl, _, _, _, [], _, [], hW', trodAll_mk1 (shut_bool Try.underlying4 _), (trodAll_cons_mk (Below.trod laidOut (by kernel_rfl) (of_decide_eq_true (by kernel_rfl)) k0 bel lt0) (trodAll_cons_mk (Below.trod laidOut (by kernel_rfl) (of_decide_eq_true (by kernel_rfl)) k1 bel lt1) (trodAll_cons_mk (Below.trod laidOut (by kernel_rfl) (of_decide_eq_true (by kernel_rfl)) k2 bel lt2) trodAll_mk0))), rfl, bel.frame _, fun h => by cases h⟩

theorem fnExactRatioAt_holds : Rows.FnExactRatioAtSaid :=
  OpenClaim.holds_of_wide 4 Try.f4 rfl rfl rfl rfl rfl rfl rfl ⟨rfl, rfl, rfl, rfl, rfl⟩ rfl rfl rfl rfl rfl (by kernel_rfl) Try.func4 (by kernel_rfl)
    (of_decide_eq_true (by kernel_rfl)) (by unfold Func.isWrapper; first | (rw [if_pos (by decide +kernel)]; kernel_rfl) | (rw [if_neg (by decide +kernel)]; exact ⟨rfl, rfl⟩))
    (fun os started H enc _ => fnExactRatioAt_lifted os started H enc)
#print axioms fnExactRatioAt_holds
end Go.Proofs.Ytnijliidehgglaa
