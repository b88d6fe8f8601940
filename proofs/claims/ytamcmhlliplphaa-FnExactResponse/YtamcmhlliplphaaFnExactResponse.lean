/-
What is proved: at every two lists of int64s and every float impl.Response answers as the specification's Response, bit for bit but for a NaN's, and leaves the lists alone; no condition.
-/
import Derived.Test.YtamcmhlliplphaaReS
import Derived.Test.YtamcmhlliplphaaReI
import Derived.Test.YtamcmhlliplphaaI64C
import Derived.Test.YtamcmhlliplphaaOpenI
import Derived.Deep.RegionHeld3
import Derived.Deep.DeepCutAuto
namespace Go.Proofs.Ytamcmhlliplphaa
set_option maxRecDepth 40000
open Go.ChangeShapes Go.WideShapes Go.ChangeAt Go.RowKit
set_option linter.unusedVariables false
set_option linter.unusedSimpArgs false

theorem f64_lt {x : Nat} (h : (Lit.float .f64 x).wf = true) : x < 18446744073709551616 := by
  simpa [Lit.wf] using h
theorem toI_b (s : Option Addr) (n c : Nat) (V : Nat → Int) (w : World) (hn : (n : Int) ≤ 1048576) (HR : RowI w s n V) :
    Calls Try.prog 6 #[.slice s n c] w fun e w' => ∃ b, e = .returned (.slice (some ⟨b, 0, none⟩) n n) ∧ w.heap.size ≤ b ∧ b < w'.heap.size ∧ OwnI b w' (some ⟨b, 0, none⟩) n V ∧ Below w.heap.size w w' :=
  (toInt64S_any s n c V w hn HR).mono fun e w' ⟨h1, h2, h3, h4⟩ => ⟨_, h1, Nat.le_refl _, h2, h3, h4⟩
set_option maxRecDepth 20000 in
set_option maxHeartbeats 8000000 in
theorem response_near (w : World) (s : Option Addr) (n c : Nat) (V : Nat → Int) (t : Option Addr) (m d : Nat) (U : Nat → Int) (x : Nat) (p q : Option Nat) (hn : (n : Int) ≤ 1048576) (hm : (m : Int) ≤ 1048576) (HR : Hid (RowI w s n V)) (HT : Hid (RowI w t m U))
    (H1 : Hid (∀ s c t d w, RowI w s n V → RowI w t m U → Calls Try.prog 11 #[.slice s n c, .slice t m d, .float .f64 x] w fun e w' => ∃ r i, e = .returned (.agg #[.float .f64 r, .float .f64 i]) ∧ Fl r p ∧ Fl i q ∧ Below w.heap.size w w'))
    (H2 : Hid (∀ s c t d w, RowI w s n V → RowI w t m U → Calls Try.prog 12 #[.slice s n c, .slice t m d, .float .f64 x] w fun e w' => ∃ r i, e = .returned (.agg #[.float .f64 r, .float .f64 i]) ∧ Fl r p ∧ Fl i q ∧ Below w.heap.size w w')) :
    Calls Try.prog 4 #[.slice s n c, .slice t m d, .float .f64 x] w fun e w' => e = .returned (.bool true) ∧ Below w.heap.size w w' := by
  have st := store_fp
  go_enter Try.func4, Try.ntmps4
  go_wp2_with fail
  refine (toI_b _ n _ V _ hn HR.out).mono ?_
  rintro e w1 ⟨ba, rfl, la, ua, Oa, h⟩
  have B0 : Below w.heap.size w w1 := h
  have Pa : Hid (RowI w1 (some ⟨ba, 0, none⟩) n V) := Oa.row
  clear h Oa la ua
  go_wp2_with fail
  refine (toI_b _ m _ U _ hm (HT.out.below B0)).mono ?_
  rintro e w2 ⟨bb, rfl, lb, ub, Ob, h⟩
  replace B0 : Below w.heap.size w w2 := B0.trans (h.mono B0.size)
  replace Pa : Hid (RowI w2 (some ⟨ba, 0, none⟩) n V) := Pa.out.below h
  have Pb : Hid (RowI w2 (some ⟨bb, 0, none⟩) m U) := Ob.row
  clear h Ob lb ub
  go_wp2_with fail
  refine (H1.out _ _ _ _ _ Pa.out Pb.out).mono ?_
  rintro e w3 ⟨rW, iW, rfl, hrW, hiW, h⟩
  replace B0 : Below w.heap.size w w3 := B0.trans (h.mono B0.size)
  replace Pa : Hid (RowI w3 (some ⟨ba, 0, none⟩) n V) := Pa.out.below h
  replace Pb : Hid (RowI w3 (some ⟨bb, 0, none⟩) m U) := Pb.out.below h
  clear h
  clear Pa Pb
  have HQ : Hid (∀ ob, RowI (w3.alloc ob) s n V) := fun ob => (HR.out.below B0).below (below0 w3 ob)
  go_wp2_with fail
  refine (toI_b _ n _ V _ hn (HQ.out _)).mono ?_
  rintro e w4 ⟨bx, rfl, lx, ux, Ox, h⟩
  have AW : Hid (PrAt w4 w3.heap.size rW iW) := (prAt_new w3 _ _ _).below h
  have hh : Below w3.heap.size w3 w4 := Below.trans (by repeat (first | with_reducible exact Below.refl _ _ | with_reducible refine Below.setCell ?_ (by first | omega | (simp; done) | (simp; omega)) _ | with_reducible refine bDrewN ?_ _ | with_reducible refine Below.drew ?_ | with_reducible refine Below.alloc ?_ (by first | omega | (simp; done) | (simp; omega)) _)) (h.mono (by first | omega | (simp; done) | (simp; omega)))
  replace B0 : Below w.heap.size w w4 := B0.trans (hh.mono B0.size)
  have Px : Hid (RowI w4 (some ⟨bx, 0, none⟩) n V) := Ox.row
  clear h hh HQ Ox lx ux
  go_wp2_with fail
  refine (toI_b _ m _ U _ hm (HT.out.below B0)).mono ?_
  rintro e w5 ⟨by2, rfl, ly2, uy2, Oy2, h⟩
  replace B0 : Below w.heap.size w w5 := B0.trans (h.mono B0.size)
  replace Px : Hid (RowI w5 (some ⟨bx, 0, none⟩) n V) := Px.out.below h
  replace AW : Hid (PrAt w5 w3.heap.size rW iW) := AW.out.below h
  have Py2 : Hid (RowI w5 (some ⟨by2, 0, none⟩) m U) := Oy2.row
  clear h Oy2 ly2 uy2
  go_wp2_with fail
  refine (H2.out _ _ _ _ _ Px.out Py2.out).mono ?_
  rintro e w6 ⟨rG, iG, rfl, hrG, hiG, h⟩
  replace B0 : Below w.heap.size w w6 := B0.trans (h.mono B0.size)
  replace Px : Hid (RowI w6 (some ⟨bx, 0, none⟩) n V) := Px.out.below h
  replace AW : Hid (PrAt w6 w3.heap.size rW iW) := AW.out.below h
  replace Py2 : Hid (RowI w6 (some ⟨by2, 0, none⟩) m U) := Py2.out.below h
  clear h
  obtain ⟨z1, -, k0, k1⟩ := AW.out
  go_wp2_with fail
  refine (eqPair_any hrG hiG hrW hiW _).mono ?_
  rintro e w7 ⟨rfl, h⟩
  have hh : Below w6.heap.size w6 w7 := Below.trans (by repeat (first | with_reducible exact Below.refl _ _ | with_reducible refine Below.setCell ?_ (by first | omega | (simp; done) | (simp; omega)) _ | with_reducible refine bDrewN ?_ _ | with_reducible refine Below.drew ?_ | with_reducible refine Below.alloc ?_ (by first | omega | (simp; done) | (simp; omega)) _)) (h.mono (by first | omega | (simp; done) | (simp; omega)))
  clear h z1 k0 k1 AW
  replace B0 : Below w.heap.size w w7 := B0.trans (hh.mono B0.size)
  replace Px : Hid (RowI w7 (some ⟨bx, 0, none⟩) n V) := Px.out.below hh
  replace Py2 : Hid (RowI w7 (some ⟨by2, 0, none⟩) m U) := Py2.out.below hh
  clear hh
  go_wp2_with fail
  refine (toI_b _ n _ V _ hn (HR.out.below B0)).mono ?_
  rintro e w8 ⟨bc2, rfl, lc2, uc2, Oc2, h⟩
  replace B0 : Below w.heap.size w w8 := B0.trans (h.mono B0.size)
  replace Px : Hid (RowI w8 (some ⟨bx, 0, none⟩) n V) := Px.out.below h
  replace Py2 : Hid (RowI w8 (some ⟨by2, 0, none⟩) m U) := Py2.out.below h
  have Pc2 : Hid (RowI w8 (some ⟨bc2, 0, none⟩) n V) := Oc2.row
  clear h Oc2 lc2 uc2
  go_wp2_with fail
  refine (eqInt64S_any _ _ n _ _ V _ hn Px.out Pc2.out).mono ?_
  rintro e w9 ⟨rfl, h⟩
  clear Px Pc2
  replace B0 : Below w.heap.size w w9 := B0.trans (h.mono B0.size)
  replace Py2 : Hid (RowI w9 (some ⟨by2, 0, none⟩) m U) := Py2.out.below h
  clear h
  go_wp2_with fail
  refine (toI_b _ m _ U _ hm (HT.out.below B0)).mono ?_
  rintro e w10 ⟨bd2, rfl, ld2, ud2, Od2, h⟩
  replace B0 : Below w.heap.size w w10 := B0.trans (h.mono B0.size)
  replace Py2 : Hid (RowI w10 (some ⟨by2, 0, none⟩) m U) := Py2.out.below h
  have Pd2 : Hid (RowI w10 (some ⟨bd2, 0, none⟩) m U) := Od2.row
  clear h Od2 ld2 ud2
  go_wp2_with fail
  refine (eqInt64S_any _ _ m _ _ U _ hm Py2.out Pd2.out).mono ?_
  rintro e w11 ⟨rfl, h⟩
  clear Py2 Pd2
  replace B0 : Below w.heap.size w w11 := B0.trans (h.mono B0.size)
  go_wp2
  go_ret
  exact ⟨rfl, B0⟩
set_option maxHeartbeats 400000 in
theorem response_far1 (w : World) (s : Option Addr) (n c : Nat) (t : Option Addr) (m d : Nat) (x : Nat) (h : (1048576 : Int) < n) :
    Calls Try.prog 4 #[.slice s n c, .slice t m d, .float .f64 x] w fun e w' => e = .returned (.bool true) ∧ Below w.heap.size w w' := by
  go_enter Try.func4, Try.ntmps4
  go_wp2
  go_ret
  exact ⟨rfl, (by repeat (first | with_reducible exact Below.refl _ _ | with_reducible refine Below.setCell ?_ (by first | omega | (simp; done) | (simp; omega)) _ | with_reducible refine bDrewN ?_ _ | with_reducible refine Below.drew ?_ | with_reducible refine Below.alloc ?_ (by first | omega | (simp; done) | (simp; omega)) _))⟩
set_option maxHeartbeats 400000 in
theorem response_far2 (w : World) (s : Option Addr) (n c : Nat) (t : Option Addr) (m d : Nat) (x : Nat) (h : (n : Int) ≤ 1048576) (h2 : (1048576 : Int) < m) :
    Calls Try.prog 4 #[.slice s n c, .slice t m d, .float .f64 x] w fun e w' => e = .returned (.bool true) ∧ Below w.heap.size w w' := by
  go_enter Try.func4, Try.ntmps4
  go_wp2
  go_ret
  exact ⟨rfl, (by repeat (first | with_reducible exact Below.refl _ _ | with_reducible refine Below.setCell ?_ (by first | omega | (simp; done) | (simp; omega)) _ | with_reducible refine bDrewN ?_ _ | with_reducible refine Below.drew ?_ | with_reducible refine Below.alloc ?_ (by first | omega | (simp; done) | (simp; omega)) _))⟩
theorem fnExactResponse_walk (w : World) (s : Option Addr) (n c : Nat) (V : Nat → Int) (hn : n ≤ 9223372036854775807) (R : RowI w s n V) (hV : ∀ j, j < n → -9223372036854775808 ≤ V j ∧ V j ≤ 9223372036854775807) (t : Option Addr) (m d : Nat) (U : Nat → Int) (hm : m ≤ 9223372036854775807) (T : RowI w t m U) (hU : ∀ j, j < m → -9223372036854775808 ≤ U j ∧ U j ≤ 9223372036854775807) (x : Nat) (wx : (Lit.float .f64 x).wf = true) :
    Calls Try.prog 4 #[.slice s n c, .slice t m d, .float .f64 x] w fun e w' => e = .returned (.bool true) ∧ Below w.heap.size w w' := by
  have fx := fl_of x (f64_lt wx)
  by_cases h : n ≤ 1048576
  · by_cases h2 : m ≤ 1048576
    · exact response_near w s n c V t m d U x _ _ (by omega) (by omega) R T
        (fun s c t d w r r' => specResp_any s n c V t m d U x _ _ _ _ _ w fx r r' (fun w r => specPoly_any s n c V 0 x _ _ w fl_zero fx (by omega) r) (fun w r => specPoly_any t m d U 0 x _ _ w fl_zero fx (by omega) r))
        (fun s c t d w r r' => implResp_any s n c V t m d U x _ _ _ _ _ w fx r r' (fun w r => implPoly_any s n c V 0 x _ _ w fl_zero fx (by omega) r) (fun w r => implPoly_any t m d U 0 x _ _ w fl_zero fx (by omega) r))
    · exact response_far2 w s n c t m d x (by omega) (by omega)
  · exact response_far1 w s n c t m d x (by omega)

set_option maxRecDepth 100000 in
theorem fnExactResponse_lifted (os : Os) (started : os.Started) (H : Type) (enc : TypeId × Value → H) :
    ReturnsInHanded {} Try.checked os 4 .any (Rows.fnExactResponseSpec.pre6 enc Try.prog Try.f4 Rows.fnExactResponseRow.domain false) (Rows.fnExactResponseSpec.post enc Try.prog Try.f4 false true false false) := by
  refine returnsInHanded_of_change (C := Try.checked) own started (by kernel_rfl) Try.func4
    (ChangeSpec.witness6 (enc := enc) (C := Try.checked) false ⟨#[], #[.slice none 0 0, .slice none 0 0, .float .f64 0], []⟩ 8 (by kernel_rfl) (by kernel_rfl) (by kernel_rfl) (by kernel_rfl)) ?_
  intro W base args ds gs before hval0 hW hcnd _
  have hval : ∀ (j : Nat) t v, Try.f4.params[j]? = some t → args[j]? = some v → Value.okWide Try.prog W .any base t v := hval0
  have hW' := hW
  obtain ⟨p, q, hA0, hV, rfl, hfz, hnd⟩ := hW
  have hA : DataW.TrodAll enc Try.prog W 0 (fun _ => true) true Try.f4.params.toList args.toList ds p := hA0
  rw [Try.params4] at hA hval
  obtain ⟨v0, vs0, d0, ds0, p0, q0, hargs, rfl, rfl, h0, r0⟩ := trodAll_cons hA
  obtain ⟨v1, vs1, d1, ds1, p1, q1, rfl, rfl, rfl, h1, r1⟩ := trodAll_cons r0
  obtain ⟨v2, vs2, d2, ds2, p2, q2, rfl, rfl, rfl, h2, r2⟩ := trodAll_cons r1
  obtain ⟨rfl, rfl, rfl⟩ := trodAll_nil r2
  obtain rfl : args = #[v0, v1, v2] := by cases args; simp_all
  obtain ⟨rfl, rfl⟩ := trodVars_none hV
  have k0 := h0
  have lt0 : ∀ x ∈ p0, x.block < W.heap.size := by obtain ⟨m, hm⟩ := k0; exact DataW.trod_lt m _ _ _ hm
  have k1 := h1
  have lt1 : ∀ x ∈ p1, x.block < W.heap.size := by obtain ⟨m, hm⟩ := k1; exact DataW.trod_lt m _ _ _ hm
  have k2 := h2
  have lt2 : ∀ x ∈ p2, x.block < W.heap.size := by obtain ⟨m, hm⟩ := k2; exact DataW.trod_lt m _ _ _ hm
  obtain ⟨s0, n0, c0, V0, rfl, m0, R0, w0⟩ := open_i64s Try.underlying22 Try.underlying2 (by kernel_rfl) (hval 0 22 v0 rfl rfl) h0
  obtain ⟨s1, n1, c1, V1, rfl, m1, R1, w1⟩ := open_i64s Try.underlying22 Try.underlying2 (by kernel_rfl) (hval 1 22 v1 rfl rfl) h1
  obtain ⟨a2, rfl, rfl, rfl, w2⟩ := open_float Try.underlying23 (hval 2 23 v2 rfl rfl) h2
  clear hA0 hval0
  refine (fnExactResponse_walk W s0 n0 c0 V0 m0 R0 w0 s1 n1 c1 V1 m1 R1 w1 a2 w2).mono fun e W' ⟨he, bel⟩ => ?_
  subst he
  exact ⟨_, rfl, _, _, _, [], _, [], hW', trodAll_mk1 (shut_bool Try.underlying4 _), (trodAll_cons_mk (Below.trod laidOut (by kernel_rfl) (of_decide_eq_true (by kernel_rfl)) k0 bel lt0) (trodAll_cons_mk (Below.trod laidOut (by kernel_rfl) (of_decide_eq_true (by kernel_rfl)) k1 bel lt1) (trodAll_cons_mk (Below.trod laidOut (by kernel_rfl) (of_decide_eq_true (by kernel_rfl)) k2 bel lt2) trodAll_mk0))), rfl, bel.frame _, fun h => by cases h⟩

theorem fnExactResponse_holds : Rows.FnExactResponseSaid :=
  OpenClaim.holds_of_wide 4 Try.f4 rfl rfl rfl rfl rfl rfl rfl ⟨rfl, rfl, rfl, rfl, rfl⟩ rfl rfl rfl rfl rfl (by kernel_rfl) Try.func4 (by kernel_rfl)
    (of_decide_eq_true (by kernel_rfl)) (by unfold Func.isWrapper; first | (rw [if_pos (by decide +kernel)]; kernel_rfl) | (rw [if_neg (by decide +kernel)]; exact ⟨rfl, rfl⟩))
    (fun os started H enc _ => fnExactResponse_lifted os started H enc)
#print axioms fnExactResponse_holds
end Go.Proofs.Ytamcmhlliplphaa
