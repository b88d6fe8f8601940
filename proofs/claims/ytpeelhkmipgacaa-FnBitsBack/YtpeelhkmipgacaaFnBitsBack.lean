/-
What is proved: a float that is drawn from every code comes back from its bits; the bits of the float of drawn bits are these bits, unless that is a NaN; a drawn float32's value is told as its bits by Short again, unless it is a NaN; no condition.
-/
import Derived.Test.YtpeelhkmipgacaaBkD
import Derived.Test.YtpeelhkmipgacaaLgZ
import Derived.Test.YtpeelhkmipgacaaSame
import Derived.Test.YtpeelhkmipgacaaOpen8Z
import Derived.Deep.DeepCutAuto
namespace Go.Proofs.Ytpeelhkmipgacaa
set_option maxRecDepth 40000
open Go.ChangeShapes Go.WideShapes Go.ChangeAt Go.RowKit
set_option linter.unusedVariables false
set_option linter.unusedSimpArgs false

set_option maxHeartbeats 400000 in
theorem bback_far (w : World) (s : Option Addr) (n c : Nat) (h : (1048576 : Int) < n) :
    Calls Try.prog 3 #[.slice s n c] w fun e w' => e = .returned (.bool true) ∧ Below w.heap.size w w' := by
  go_enter Try.func3, Try.ntmps3
  go_wp2_with fail
  refine (big_yes _ _ _ _ h).mono ?_
  rintro e w1 ⟨rfl, rfl⟩
  go_wp2
  go_ret
  exact ⟨rfl, Below.refl _ _⟩
set_option maxRecDepth 20000 in
set_option maxHeartbeats 4000000 in
theorem bback_near (w : World) (s : Option Addr) (n c : Nat) (h : (n : Int) ≤ 1048576) (HC : Hid (Code8 w s n)) :
    Calls Try.prog 3 #[.slice s n c] w fun e w' => e = .returned (.bool true) ∧ Below w.heap.size w w' := by
  go_enter Try.func3, Try.ntmps3
  go_wp2_with fail
  refine (big_no _ _ _ _ h).mono ?_
  rintro e w1 ⟨rfl, rfl⟩
  have HB : Hid (Below w1.heap.size w1 w1) := Below.refl _ _
  go_wp2_with fail
  refine (drawBitsOf_any HC).mono ?_
  rintro e wv1 ⟨x, rfl, hx, h_⟩
  replace HC : Hid (Code8 wv1 s n) := HC.out.below h_
  replace HB : Hid (Below w1.heap.size w1 wv1) := HB.out.trans (h_.mono HB.out.size)
  clear h_
  go_wp2_with fail
  refine (drawFloatOf_any HC).mono ?_
  rintro e wv2 ⟨b, rfl, hb, h_⟩
  replace HC : Hid (Code8 wv2 s n) := HC.out.below h_
  replace HB : Hid (Below w1.heap.size w1 wv2) := HB.out.trans (h_.mono HB.out.size)
  clear h_
  go_wp2_with fail
  refine (drawLong_any HC).mono ?_
  rintro e wv3 ⟨z, rfl, hz, h_⟩
  replace HC : Hid (Code8 wv3 s n) := HC.out.below h_
  replace HB : Hid (Below w1.heap.size w1 wv3) := HB.out.trans (h_.mono HB.out.size)
  clear h_
  clear HC
  have HX : Hid (x < 18446744073709551616) := hx
  have HBX : Hid (bitsB x < 18446744073709551616) := bits_lt hx
  have HSM : Hid (sameB (bitsB x) x = true) := by show _ = _; unfold sameB bitsB; by_cases q : INF < rg x <;> simp [q, nan_word]
  clear hx
  go_wp2_with fail
  refine (implBitsOf_any x _).mono ?_
  rintro e wv4 ⟨rfl, rfl⟩
  go_wp2_with fail
  refine (implFloatOf_any (bitsB x) _).mono ?_
  rintro e wv5 ⟨rfl, rfl⟩
  go_wp2_with fail
  refine (specSame_any (bitsB x) x HBX.out HX.out _).mono ?_
  rintro e wv6 ⟨rfl, rfl⟩
  rw [HSM.out]
  go_wp2_with fail
  refine (implBitsOf_any x _).mono ?_
  rintro e wv7 ⟨rfl, rfl⟩
  go_wp2_with fail
  refine (specBitsOf_any x HX.out _).mono ?_
  rintro e wv8 ⟨rfl, q, hw⟩
  have h_ : Below wv7.heap.size wv7 wv8 := by rw [hw]; exact (by repeat (first | with_reducible exact Below.refl _ _ | with_reducible refine Below.setCell ?_ (by first | omega | (simp; done) | (simp; omega)) _ | with_reducible refine bDrewN ?_ _ | with_reducible refine Below.drew ?_ | with_reducible refine Below.alloc ?_ (by first | omega | (simp; done) | (simp; omega)) _))
  clear hw
  replace HB : Hid (Below w1.heap.size w1 wv8) := HB.out.trans (h_.mono HB.out.size)
  clear h_
  have e1 : ((bitsB x : Int) != (bitsB x : Int)) = false := by simp
  clear HSM HBX HX
  go_wp2_with fail
  refine (implFloatOf_any b _).mono ?_
  rintro e wv9 ⟨rfl, rfl⟩
  have e2 := nan_iff b
  by_cases hn : INF < rg b
  case pos =>
    have e3 : (FloatKind.f64.format.order b b == some .eq) = false := by rw [decide_eq_true hn] at e2; simpa using e2
    clear e2
    go_upto_region 11 with fail
    rcases long_both z hz with ⟨r, hr1, hr2, hr3, SL, IL⟩ | ⟨SL, IL⟩
    · skip
      have HS1 : Hid (∀ w, Calls Try.prog 18 #[.int .u32 (z : Int)] w fun x w' => x = .returned (.float .f64 r) ∧ w' = w) := SL
      have HI1 : Hid (∀ w, Calls Try.prog 17 #[.int .u32 (z : Int)] w fun x w' => x = .returned (.float .f64 r) ∧ w' = w) := IL
      have HR1 : Hid (r < 18446744073709551616) := hr1
      have HSH : Hid (shortB r = z) := hr3
      have HSS : Hid (sameB r r = true) := by show _ = _; unfold sameB; simp
      have n0 : (FloatKind.f64.format.order r r != some .eq) = false := by rw [nan_iff]; exact decide_eq_false (by omega)
      clear SL IL hr1 hr2 hr3
      go_wp2_with fail
      refine (HI1.out _).mono ?_
      rintro e wv10 ⟨rfl, rfl⟩
      go_wp2_with fail
      refine (HS1.out _).mono ?_
      rintro e wv11 ⟨rfl, rfl⟩
      go_wp2_with fail
      refine (specSame_any r r HR1.out HR1.out _).mono ?_
      rintro e wv12 ⟨rfl, rfl⟩
      rw [HSS.out]
      go_wp2_with fail
      refine (implShort_any r _).mono ?_
      rintro e wv13 ⟨rfl, rfl⟩
      rw [HSH.out]
      have BF := HB.out
      have sBF := BF.size
      go_wp2
      go_ret
      exact ⟨rfl, (by repeat (first | with_reducible exact Below.refl _ _ | with_reducible exact BF | with_reducible refine Below.setCell ?_ (by first | omega | (simp; done) | (simp; omega)) _ | with_reducible refine bDrewN ?_ _ | with_reducible refine Below.drew ?_ | with_reducible refine Below.alloc ?_ (by first | omega | (simp; done) | (simp; omega)) _))⟩
    · skip
      have HS1 : Hid (∀ w, Calls Try.prog 18 #[.int .u32 (z : Int)] w fun x w' => ∃ f, x = .returned (.float .f64 f) ∧ (INF < rg f ∧ f < 18446744073709551616) ∧ ∃ n, w' = w.drewN n) := SL
      have HI1 : Hid (∀ w, Calls Try.prog 17 #[.int .u32 (z : Int)] w fun x w' => ∃ f, x = .returned (.float .f64 f) ∧ (INF < rg f ∧ f < 18446744073709551616) ∧ ∃ n, w' = w.drewN n) := IL
      clear SL IL
      go_wp2_with fail
      refine (HI1.out _).mono ?_
      rintro e wv10 ⟨f, rfl, hf, q, hw⟩
      have h_ : Below wv9.heap.size wv9 wv10 := by rw [hw]; exact (by repeat (first | with_reducible exact Below.refl _ _ | with_reducible refine Below.setCell ?_ (by first | omega | (simp; done) | (simp; omega)) _ | with_reducible refine bDrewN ?_ _ | with_reducible refine Below.drew ?_ | with_reducible refine Below.alloc ?_ (by first | omega | (simp; done) | (simp; omega)) _))
      clear hw
      replace HB : Hid (Below w1.heap.size w1 wv10) := HB.out.trans (h_.mono HB.out.size)
      clear h_
      go_wp2_with fail
      refine (HS1.out _).mono ?_
      rintro e wv11 ⟨g, rfl, hg, q2, hw⟩
      have h_ : Below wv10.heap.size wv10 wv11 := by rw [hw]; exact (by repeat (first | with_reducible exact Below.refl _ _ | with_reducible refine Below.setCell ?_ (by first | omega | (simp; done) | (simp; omega)) _ | with_reducible refine bDrewN ?_ _ | with_reducible refine Below.drew ?_ | with_reducible refine Below.alloc ?_ (by first | omega | (simp; done) | (simp; omega)) _))
      clear hw
      replace HB : Hid (Below w1.heap.size w1 wv11) := HB.out.trans (h_.mono HB.out.size)
      clear h_
      have HSS : Hid (sameB f g = true) := by show _ = _; rw [same_nan hf.1]; exact decide_eq_true hg.1
      have HF : Hid (f < 18446744073709551616) := hf.2
      have HG : Hid (g < 18446744073709551616) := hg.2
      have n0 : (FloatKind.f64.format.order f f != some .eq) = true := by rw [nan_iff]; exact decide_eq_true hf.1
      clear hf hg
      go_wp2_with fail
      refine (specSame_any f g HF.out HG.out _).mono ?_
      rintro e wv12 ⟨rfl, rfl⟩
      rw [HSS.out]
      have BF := HB.out
      have sBF := BF.size
      go_wp2
      go_ret
      exact ⟨rfl, (by repeat (first | with_reducible exact Below.refl _ _ | with_reducible exact BF | with_reducible refine Below.setCell ?_ (by first | omega | (simp; done) | (simp; omega)) _ | with_reducible refine bDrewN ?_ _ | with_reducible refine Below.drew ?_ | with_reducible refine Below.alloc ?_ (by first | omega | (simp; done) | (simp; omega)) _))⟩
  case neg =>
    have e3 : (FloatKind.f64.format.order b b == some .eq) = true := by rw [decide_eq_false hn] at e2; simpa using e2
    clear e2
    have HBB : Hid (bitsB b = b) := by show _ = _; unfold bitsB; rw [if_neg hn]
    go_wp2_with fail
    refine (implBitsOf_any b _).mono ?_
    rintro e wv10 ⟨rfl, rfl⟩
    rw [HBB.out]
    have e4 : ((b : Int) != (b : Int)) = false := by simp
    go_upto_region 11 with fail
    rcases long_both z hz with ⟨r, hr1, hr2, hr3, SL, IL⟩ | ⟨SL, IL⟩
    · skip
      have HS1 : Hid (∀ w, Calls Try.prog 18 #[.int .u32 (z : Int)] w fun x w' => x = .returned (.float .f64 r) ∧ w' = w) := SL
      have HI1 : Hid (∀ w, Calls Try.prog 17 #[.int .u32 (z : Int)] w fun x w' => x = .returned (.float .f64 r) ∧ w' = w) := IL
      have HR1 : Hid (r < 18446744073709551616) := hr1
      have HSH : Hid (shortB r = z) := hr3
      have HSS : Hid (sameB r r = true) := by show _ = _; unfold sameB; simp
      have n0 : (FloatKind.f64.format.order r r != some .eq) = false := by rw [nan_iff]; exact decide_eq_false (by omega)
      clear SL IL hr1 hr2 hr3
      go_wp2_with fail
      refine (HI1.out _).mono ?_
      rintro e wv11 ⟨rfl, rfl⟩
      go_wp2_with fail
      refine (HS1.out _).mono ?_
      rintro e wv12 ⟨rfl, rfl⟩
      go_wp2_with fail
      refine (specSame_any r r HR1.out HR1.out _).mono ?_
      rintro e wv13 ⟨rfl, rfl⟩
      rw [HSS.out]
      go_wp2_with fail
      refine (implShort_any r _).mono ?_
      rintro e wv14 ⟨rfl, rfl⟩
      rw [HSH.out]
      have BF := HB.out
      have sBF := BF.size
      go_wp2
      go_ret
      exact ⟨rfl, (by repeat (first | with_reducible exact Below.refl _ _ | with_reducible exact BF | with_reducible refine Below.setCell ?_ (by first | omega | (simp; done) | (simp; omega)) _ | with_reducible refine bDrewN ?_ _ | with_reducible refine Below.drew ?_ | with_reducible refine Below.alloc ?_ (by first | omega | (simp; done) | (simp; omega)) _))⟩
    · skip
      have HS1 : Hid (∀ w, Calls Try.prog 18 #[.int .u32 (z : Int)] w fun x w' => ∃ f, x = .returned (.float .f64 f) ∧ (INF < rg f ∧ f < 18446744073709551616) ∧ ∃ n, w' = w.drewN n) := SL
      have HI1 : Hid (∀ w, Calls Try.prog 17 #[.int .u32 (z : Int)] w fun x w' => ∃ f, x = .returned (.float .f64 f) ∧ (INF < rg f ∧ f < 18446744073709551616) ∧ ∃ n, w' = w.drewN n) := IL
      clear SL IL
      go_wp2_with fail
      refine (HI1.out _).mono ?_
      rintro e wv11 ⟨f, rfl, hf, q, hw⟩
      have h_ : Below wv10.heap.size wv10 wv11 := by rw [hw]; exact (by repeat (first | with_reducible exact Below.refl _ _ | with_reducible refine Below.setCell ?_ (by first | omega | (simp; done) | (simp; omega)) _ | with_reducible refine bDrewN ?_ _ | with_reducible refine Below.drew ?_ | with_reducible refine Below.alloc ?_ (by first | omega | (simp; done) | (simp; omega)) _))
      clear hw
      replace HB : Hid (Below w1.heap.size w1 wv11) := HB.out.trans (h_.mono HB.out.size)
      clear h_
      go_wp2_with fail
      refine (HS1.out _).mono ?_
      rintro e wv12 ⟨g, rfl, hg, q2, hw⟩
      have h_ : Below wv11.heap.size wv11 wv12 := by rw [hw]; exact (by repeat (first | with_reducible exact Below.refl _ _ | with_reducible refine Below.setCell ?_ (by first | omega | (simp; done) | (simp; omega)) _ | with_reducible refine bDrewN ?_ _ | with_reducible refine Below.drew ?_ | with_reducible refine Below.alloc ?_ (by first | omega | (simp; done) | (simp; omega)) _))
      clear hw
      replace HB : Hid (Below w1.heap.size w1 wv12) := HB.out.trans (h_.mono HB.out.size)
      clear h_
      have HSS : Hid (sameB f g = true) := by show _ = _; rw [same_nan hf.1]; exact decide_eq_true hg.1
      have HF : Hid (f < 18446744073709551616) := hf.2
      have HG : Hid (g < 18446744073709551616) := hg.2
      have n0 : (FloatKind.f64.format.order f f != some .eq) = true := by rw [nan_iff]; exact decide_eq_true hf.1
      clear hf hg
      go_wp2_with fail
      refine (specSame_any f g HF.out HG.out _).mono ?_
      rintro e wv13 ⟨rfl, rfl⟩
      rw [HSS.out]
      have BF := HB.out
      have sBF := BF.size
      go_wp2
      go_ret
      exact ⟨rfl, (by repeat (first | with_reducible exact Below.refl _ _ | with_reducible exact BF | with_reducible refine Below.setCell ?_ (by first | omega | (simp; done) | (simp; omega)) _ | with_reducible refine bDrewN ?_ _ | with_reducible refine Below.drew ?_ | with_reducible refine Below.alloc ?_ (by first | omega | (simp; done) | (simp; omega)) _))⟩
theorem fnBitsBack_walk (w : World) (s : Option Addr) (n c : Nat) (hn : n ≤ 9223372036854775807) (R : Bytes w s n) :
    Calls Try.prog 3 #[.slice s n c] w fun e w' => e = .returned (.bool true) ∧ Below w.heap.size w w' := by
  by_cases h : n ≤ 1048576
  · exact bback_near w s n c (by omega) (R.code h)
  · exact bback_far w s n c (by omega)

set_option maxRecDepth 100000 in
theorem fnBitsBack_lifted (os : Os) (started : os.Started) (H : Type) (enc : TypeId × Value → H) :
    ReturnsInHanded {} Try.checked os 3 .any (Rows.fnBitsBackSpec.pre6 enc Try.prog Try.f3 Rows.fnBitsBackRow.domain false) (Rows.fnBitsBackSpec.post enc Try.prog Try.f3 false true false false) := by
  refine returnsInHanded_of_change (C := Try.checked) own started (by kernel_rfl) Try.func3
    (ChangeSpec.witness6 (enc := enc) (C := Try.checked) false ⟨#[], #[.slice none 0 0], []⟩ 8 (by kernel_rfl) (by kernel_rfl) (by kernel_rfl) (by kernel_rfl)) ?_
  intro W base args ds gs before hval0 hW hcnd _
  have hval : ∀ (j : Nat) t v, Try.f3.params[j]? = some t → args[j]? = some v → Value.okWide Try.prog W .any base t v := hval0
  have hW' := hW
  obtain ⟨p, q, hA0, hV, rfl, hfz, hnd⟩ := hW
  have hA : DataW.TrodAll enc Try.prog W 0 (fun _ => true) true Try.f3.params.toList args.toList ds p := hA0
  rw [Try.params3] at hA hval
  obtain ⟨v0, vs0, d0, ds0, p0, q0, hargs, rfl, rfl, h0, r0⟩ := trodAll_cons hA
  obtain ⟨rfl, rfl, rfl⟩ := trodAll_nil r0
  obtain rfl : args = #[v0] := by cases args; simp_all
  obtain ⟨rfl, rfl⟩ := trodVars_none hV
  have k0 := h0
  have lt0 : ∀ x ∈ p0, x.block < W.heap.size := by obtain ⟨m, hm⟩ := k0; exact DataW.trod_lt m _ _ _ hm
  obtain ⟨s0, n0, c0, rfl, m0, R0⟩ := open_code Try.underlying22 Try.underlying5 (by kernel_rfl) (hval 0 22 v0 rfl rfl) h0
  clear hA0 hval0
  refine (fnBitsBack_walk W s0 n0 c0 m0 R0).mono fun e W' ⟨he, bel⟩ => ?_
  subst he
  exact ⟨_, rfl, _, _, _, [], _, [], hW', trodAll_mk1 (shut_bool Try.underlying4 _), (trodAll_cons_mk (Below.trod laidOut (by kernel_rfl) (of_decide_eq_true (by kernel_rfl)) k0 bel lt0) trodAll_mk0), rfl, bel.frame _, fun h => by cases h⟩

theorem fnBitsBack_holds : Rows.FnBitsBackSaid :=
  OpenClaim.holds_of_wide 3 Try.f3 rfl rfl rfl rfl rfl rfl rfl ⟨rfl, rfl, rfl, rfl, rfl⟩ rfl rfl rfl rfl rfl (by kernel_rfl) Try.func3 (by kernel_rfl)
    (of_decide_eq_true (by kernel_rfl)) (by unfold Func.isWrapper; first | (rw [if_pos (by decide +kernel)]; kernel_rfl) | (rw [if_neg (by decide +kernel)]; exact ⟨rfl, rfl⟩))
    (fun os started H enc _ => fnBitsBack_lifted os started H enc)
#print axioms fnBitsBack_holds
end Go.Proofs.Ytpeelhkmipgacaa
