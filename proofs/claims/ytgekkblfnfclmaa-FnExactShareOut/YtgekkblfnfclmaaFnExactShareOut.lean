/-
What is proved: at every list of units and every load impl.ShareOut answers as the specification's ShareOut, leaves the list alone, and its answer owns its memory; no condition.
-/
import Derived.Test.YtgekkblfnfclmaaShS
import Derived.Test.YtgekkblfnfclmaaShI
import Derived.Test.YtgekkblfnfclmaaUnitM
import Derived.Test.YtgekkblfnfclmaaOpenUnits
namespace Go.Proofs.Ytgekkblfnfclmaa
set_option maxRecDepth 40000
open Go.ChangeShapes Go.WideShapes Go.ChangeAt Go.RowKit
set_option linter.unusedVariables false

set_option maxRecDepth 20000 in
set_option maxHeartbeats 4000000 in
theorem shareOut_near (w : World) (s : Option Addr) (n c : Nat) (V : Nat → Int) (load l : Int) (l0 : 0 ≤ l) (hn : (n : Int) ≤ 1048576) (HR : Hid (RowI w s (n * 2) V)) (m : Nat) (U : Nat → Int) (hm : (m : Int) ≤ 1048576)
    (Z : Hid (∀ w, Calls Try.prog 6 #[.slice s n c, .int .i64 1048576] w fun e w' => e = .returned (.int .i64 l) ∧ w' = w))
    (H1 : Hid (∀ s c w, RowI w s (n * 2) V → Calls Try.prog 11 #[.slice s n c, .int .i64 load] w fun e w' => ∃ s' c', e = .returned (.slice s' m c') ∧ OwnI w.heap.size w' s' m U ∧ Below w.heap.size w w'))
    (H2 : Hid (∀ s c w, RowI w s (n * 2) V → Calls Try.prog 12 #[.slice s n c, .int .i64 load] w fun e w' => ∃ s' c', e = .returned (.slice s' m c') ∧ OwnI w.heap.size w' s' m U ∧ Below w.heap.size w w')) :
    Calls Try.prog 4 #[.slice s n c, .int .i64 load] w fun e w' => e = .returned (.bool true) ∧ Below w.heap.size w w' := by
  go_enter Try.func4, Try.ntmps4
  go_wp2_with fail
  refine (Z.out _).mono ?_
  rintro e w0 ⟨rfl, e0⟩
  subst w0
  go_wp2_with fail
  refine (toUnitS_own _ n _ V _ hn HR.out).mono ?_
  rintro e w1 ⟨ba, rfl, la, ua, Oa, h⟩
  have B0 : Below w.heap.size w w1 := h
  clear h
  have Pa : Hid (OwnI ba w1 (some ⟨ba, 0, none⟩) (n * 2) V) := Oa
  clear Oa
  have ka : ba + 1 ≤ w1.heap.size := ua
  clear ua
  go_wp2_with fail
  refine (H1.out _ _ _ Pa.out.row).mono ?_
  rintro e w2 ⟨sW, cW, rfl, OW, h⟩
  replace B0 : Below w.heap.size w w2 := B0.trans (h.mono B0.size)
  replace ka : ba + 1 ≤ w2.heap.size := Nat.le_trans ka h.size
  replace Pa : Hid (OwnI ba w2 (some ⟨ba, 0, none⟩) (n * 2) V) := Pa.out.below h
  clear h
  clear Pa
  clear ka
  clear la
  have RW : Hid (RowI w2 sW m U) := OW.row
  clear OW
  have Bs : Below w2.heap.size w2 w2 := Below.refl _ _
  have q1 : w.heap.size ≤ w2.heap.size := B0.size
  go_wp2_with fail
  refine (toUnitS_own _ n _ V _ hn (HR.out.below B0)).mono ?_
  rintro e w3 ⟨bx, rfl, lx, ux, Ox, h⟩
  replace B0 : Below w.heap.size w w3 := B0.trans (h.mono B0.size)
  replace Bs : Below w2.heap.size w2 w3 := Bs.trans (h.mono Bs.size)
  clear h
  have Px : Hid (OwnI bx w3 (some ⟨bx, 0, none⟩) (n * 2) V) := Ox
  clear Ox
  have kx : bx + 1 ≤ w3.heap.size := ux
  clear ux
  have q4 : bx < w3.heap.size := kx
  go_wp2_with fail
  refine (H2.out _ _ _ Px.out.row).mono ?_
  rintro e w4 ⟨sG, cG, rfl, OG, h⟩
  replace B0 : Below w.heap.size w w4 := B0.trans (h.mono B0.size)
  replace Bs : Below w2.heap.size w2 w4 := Bs.trans (h.mono Bs.size)
  replace kx : bx + 1 ≤ w4.heap.size := Nat.le_trans kx h.size
  replace Px : Hid (OwnI bx w4 (some ⟨bx, 0, none⟩) (n * 2) V) := Px.out.below h
  have PG : Hid (OwnI w3.heap.size w4 sG m U) := OG
  have kU : w3.heap.size ≤ w4.heap.size := h.size
  clear OG h
  have kS : w2.heap.size ≤ w4.heap.size := Bs.size
  go_wp2_with fail
  refine (eqInt64S_any _ _ m _ _ U _ hm PG.out.row (RW.out.below Bs)).mono ?_
  rintro e w5 ⟨rfl, h⟩
  replace B0 : Below w.heap.size w w5 := B0.trans (h.mono B0.size)
  replace Bs : Below w2.heap.size w2 w5 := Bs.trans (h.mono Bs.size)
  replace kx : bx + 1 ≤ w5.heap.size := Nat.le_trans kx h.size
  replace kU : w3.heap.size ≤ w5.heap.size := Nat.le_trans kU h.size
  replace kS : w2.heap.size ≤ w5.heap.size := Nat.le_trans kS h.size
  replace Px : Hid (OwnI bx w5 (some ⟨bx, 0, none⟩) (n * 2) V) := Px.out.below h
  replace PG : Hid (OwnI w3.heap.size w5 sG m U) := PG.out.below h
  clear h
  go_wp2_with fail
  refine (toUnitS_own _ n _ V _ hn (HR.out.below B0)).mono ?_
  rintro e w6 ⟨bt, rfl, lt, ut, Ot, h⟩
  replace B0 : Below w.heap.size w w6 := B0.trans (h.mono B0.size)
  replace Bs : Below w2.heap.size w2 w6 := Bs.trans (h.mono Bs.size)
  replace kx : bx + 1 ≤ w6.heap.size := Nat.le_trans kx h.size
  replace kU : w3.heap.size ≤ w6.heap.size := Nat.le_trans kU h.size
  replace kS : w2.heap.size ≤ w6.heap.size := Nat.le_trans kS h.size
  replace Px : Hid (OwnI bx w6 (some ⟨bx, 0, none⟩) (n * 2) V) := Px.out.below h
  replace PG : Hid (OwnI w3.heap.size w6 sG m U) := PG.out.below h
  clear h
  have Pt : Hid (OwnI bt w6 (some ⟨bt, 0, none⟩) (n * 2) V) := Ot
  clear Ot
  have kt : bt + 1 ≤ w6.heap.size := ut
  clear ut
  go_wp2_with fail
  refine (eqUnitS_any _ _ n _ _ V _ hn Px.out.row Pt.out.row).mono ?_
  rintro e w7 ⟨rfl, h⟩
  clear Pt
  clear kt
  clear lt
  replace B0 : Below w.heap.size w w7 := B0.trans (h.mono B0.size)
  replace Bs : Below w2.heap.size w2 w7 := Bs.trans (h.mono Bs.size)
  replace kx : bx + 1 ≤ w7.heap.size := Nat.le_trans kx h.size
  replace kU : w3.heap.size ≤ w7.heap.size := Nat.le_trans kU h.size
  replace kS : w2.heap.size ≤ w7.heap.size := Nat.le_trans kS h.size
  replace Px : Hid (OwnI bx w7 (some ⟨bx, 0, none⟩) (n * 2) V) := Px.out.below h
  replace PG : Hid (OwnI w3.heap.size w7 sG m U) := PG.out.below h
  clear h
  go_wp2_with fail
  refine (markUnitS_own bx _ n _ _ V _ hn (by omega) (by omega) (by omega) Px.out).mono ?_
  rintro e w8 ⟨rfl, h, hs⟩
  have hs := hs _ rfl
  clear Px
  replace B0 : Below w.heap.size w w8 := B0.trans (h.mono (by omega))
  replace Bs : Below w2.heap.size w2 w8 := Bs.trans (h.mono (by omega))
  replace kx : bx + 1 ≤ w8.heap.size := Nat.le_trans kx h.size
  replace kU : w3.heap.size ≤ w8.heap.size := Nat.le_trans kU h.size
  replace kS : w2.heap.size ≤ w8.heap.size := Nat.le_trans kS h.size
  replace PG : Hid (OwnI w3.heap.size w8 sG m U) := PG.out.beside hs (by omega)
  clear h hs
  go_wp2_with fail
  refine (eqInt64S_any _ _ m _ _ U _ hm PG.out.row (RW.out.below Bs)).mono ?_
  rintro e w9 ⟨rfl, h⟩
  replace B0 : Below w.heap.size w w9 := B0.trans (h.mono B0.size)
  replace Bs : Below w2.heap.size w2 w9 := Bs.trans (h.mono Bs.size)
  replace kx : bx + 1 ≤ w9.heap.size := Nat.le_trans kx h.size
  replace kU : w3.heap.size ≤ w9.heap.size := Nat.le_trans kU h.size
  replace kS : w2.heap.size ≤ w9.heap.size := Nat.le_trans kS h.size
  replace PG : Hid (OwnI w3.heap.size w9 sG m U) := PG.out.below h
  clear h
  go_wp2_with fail
  refine (markInt64S_own w3.heap.size _ m _ _ U _ hm (by omega) (by omega) kU PG.out).mono ?_
  rintro e w10 ⟨rfl, OG, h, -⟩
  clear PG
  replace B0 : Below w.heap.size w w10 := B0.trans (h.mono (by omega))
  replace Bs : Below w2.heap.size w2 w10 := Bs.trans (h.mono (by omega))
  clear kx
  clear kU
  clear kS
  clear h
  have PM : Hid (OwnI w3.heap.size w10 sG m (fun j => 1 + (j : Int))) := OG
  clear OG
  go_wp2_with fail
  refine (heldInt64S_any _ m _ 1 _ hm (by omega) (by omega) PM.out.row).mono ?_
  rintro e w10 ⟨rfl, rfl⟩
  go_wp2_with fail
  refine (toUnitS_own _ n _ V _ hn (HR.out.below B0)).mono ?_
  rintro e w11 ⟨bv, rfl, lv, uv, Ov, h⟩
  replace B0 : Below w.heap.size w w11 := B0.trans (h.mono B0.size)
  replace Bs : Below w2.heap.size w2 w11 := Bs.trans (h.mono Bs.size)
  replace PM : Hid (OwnI w3.heap.size w11 sG m (fun j => 1 + (j : Int))) := PM.out.below h
  clear h
  have Pv : Hid (OwnI bv w11 (some ⟨bv, 0, none⟩) (n * 2) V) := Ov
  clear Ov
  have kv : bv + 1 ≤ w11.heap.size := uv
  clear uv
  go_wp2_with fail
  refine (H2.out _ _ _ Pv.out.row).mono ?_
  rintro e w12 ⟨sE, cE, rfl, OE, h⟩
  replace B0 : Below w.heap.size w w12 := B0.trans (h.mono B0.size)
  replace Bs : Below w2.heap.size w2 w12 := Bs.trans (h.mono Bs.size)
  replace kv : bv + 1 ≤ w12.heap.size := Nat.le_trans kv h.size
  replace PM : Hid (OwnI w3.heap.size w12 sG m (fun j => 1 + (j : Int))) := PM.out.below h
  replace Pv : Hid (OwnI bv w12 (some ⟨bv, 0, none⟩) (n * 2) V) := Pv.out.below h
  clear Pv
  clear kv
  have PE : Hid (OwnI w11.heap.size w12 sE m U) := OE
  clear OE h
  go_wp2_with fail
  refine (eqInt64S_any _ _ m _ _ U _ hm PE.out.row (RW.out.below Bs)).mono ?_
  rintro e w13 ⟨rfl, h⟩
  replace B0 : Below w.heap.size w w13 := B0.trans (h.mono B0.size)
  replace Bs : Below w2.heap.size w2 w13 := Bs.trans (h.mono Bs.size)
  replace PM : Hid (OwnI w3.heap.size w13 sG m (fun j => 1 + (j : Int))) := PM.out.below h
  replace PE : Hid (OwnI w11.heap.size w13 sE m U) := PE.out.below h
  clear h
  go_wp2_with fail
  refine (heldInt64S_any _ m _ 1 _ hm (by omega) (by omega) PM.out.row).mono ?_
  rintro e w13 ⟨rfl, rfl⟩
  go_wp2
  go_ret
  exact ⟨rfl, B0⟩
set_option maxHeartbeats 400000 in
theorem shareOut_far (w : World) (s : Option Addr) (n c : Nat) (x : Int) (Z : Hid (∀ w, Calls Try.prog 6 #[.slice s n c, .int .i64 1048576] w fun e w' => e = .returned (.int .i64 (-1)) ∧ w' = w)) :
    Calls Try.prog 4 #[.slice s n c, .int .i64 x] w fun e w' => e = .returned (.bool true) ∧ Below w.heap.size w w' := by
  go_enter Try.func4, Try.ntmps4
  go_wp2_with fail
  refine (Z.out _).mono ?_
  rintro e w1 ⟨rfl, rfl⟩
  go_wp2
  go_ret
  exact ⟨rfl, (by repeat (first | with_reducible exact Below.refl _ _ | with_reducible refine Below.setCell ?_ (by first | omega | (simp; done) | (simp; omega)) _ | with_reducible refine bDrewN ?_ _ | with_reducible refine Below.drew ?_ | with_reducible refine Below.alloc ?_ (by first | omega | (simp; done) | (simp; omega)) _))⟩

theorem fnExactShareOut_walk (w : World) (s : Option Addr) (n c : Nat) (V : Nat → Int) (hn : n ≤ 9223372036854775807) (R : RowI w s (n * 2) V) (x : Int) (wx : (Lit.int .i64 x).wf = true) :
    Calls Try.prog 4 #[.slice s n c, .int .i64 x] w fun e w' => e = .returned (.bool true) ∧ Below w.heap.size w w' := by
  by_cases h : n ≤ 1048576
  · obtain ⟨m, U, hA, hm⟩ := sv_some n V x
    exact shareOut_near w s n c V x (1048576 - (n : Int)) (by omega) (by omega) R m U (by omega) (fun w => szUnitS_any s n c w (by omega))
      (fun s c w r => (specShare_any s n c V x w (by omega) r).mono fun e w' ⟨m', U', s', c', k1, k2, k3, k4⟩ => by obtain ⟨rfl, rfl⟩ := k1.one hA; exact ⟨s', c', k2, k3, k4⟩)
      (fun s c w r => (implShare_any s n c V x w (by omega) r).mono fun e w' ⟨m', U', s', c', k1, k2, k3, k4⟩ => by obtain ⟨rfl, rfl⟩ := k1.one hA; exact ⟨s', c', k2, k3, k4⟩)
  · exact shareOut_far w s n c x (fun w => szUnitS_far s n c w (by omega) (by omega))

set_option maxRecDepth 100000 in
theorem fnExactShareOut_lifted (os : Os) (started : os.Started) (H : Type) (enc : TypeId × Value → H) :
    ReturnsInHanded {} Try.checked os 4 .any (Rows.fnExactShareOutSpec.pre6 enc Try.prog Try.f4 Rows.fnExactShareOutRow.domain false) (Rows.fnExactShareOutSpec.post enc Try.prog Try.f4 false true false false) := by
  refine returnsInHanded_of_change (C := Try.checked) own started (by kernel_rfl) Try.func4
    (ChangeSpec.witness6 (enc := enc) (C := Try.checked) false ⟨#[], #[.slice none 0 0, .int .i64 0], []⟩ 8 (by kernel_rfl) (by kernel_rfl) (by kernel_rfl) (by kernel_rfl)) ?_
  intro W base args ds gs before hval0 hW hcnd _
  have hval : ∀ (j : Nat) t v, Try.f4.params[j]? = some t → args[j]? = some v → Value.okWide Try.prog W .any base t v := hval0
  have hW' := hW
  obtain ⟨p, q, hA0, hV, rfl, hfz, hnd⟩ := hW
  have hA : DataW.TrodAll enc Try.prog W 0 (fun _ => true) true Try.f4.params.toList args.toList ds p := hA0
  rw [Try.params4] at hA hval
  obtain ⟨v0, vs0, d0, ds0, p0, q0, hargs, rfl, rfl, h0, r0⟩ := trodAll_cons hA
  obtain ⟨v1, vs1, d1, ds1, p1, q1, rfl, rfl, rfl, h1, r1⟩ := trodAll_cons r0
  obtain ⟨rfl, rfl, rfl⟩ := trodAll_nil r1
  obtain rfl : args = #[v0, v1] := by cases args; simp_all
  obtain ⟨rfl, rfl⟩ := trodVars_none hV
  have k0 := h0
  have lt0 : ∀ x ∈ p0, x.block < W.heap.size := by obtain ⟨m, hm⟩ := k0; exact DataW.trod_lt m _ _ _ hm
  have k1 := h1
  have lt1 : ∀ x ∈ p1, x.block < W.heap.size := by obtain ⟨m, hm⟩ := k1; exact DataW.trod_lt m _ _ _ hm
  obtain ⟨s0, n0, c0, V0, rfl, m0, R0⟩ := open_pairs Try.underlying22 Try.underlying43 (by kernel_rfl) rfl rfl (by kernel_rfl) (by kernel_rfl) (by kernel_rfl) (by kernel_rfl) (hval 0 22 v0 rfl rfl) h0
  obtain ⟨a1, rfl, rfl, rfl, w1⟩ := open_int Try.underlying2 (hval 1 2 v1 rfl rfl) h1
  clear hA0 hval0
  refine (fnExactShareOut_walk W s0 n0 c0 V0 m0 R0 a1 w1).mono fun e W' ⟨he, bel⟩ => ?_
  subst he
  exact ⟨_, rfl, _, _, _, [], _, [], hW', trodAll_mk1 (shut_bool Try.underlying4 _), (trodAll_cons_mk (Below.trod laidOut (by kernel_rfl) (of_decide_eq_true (by kernel_rfl)) k0 bel lt0) (trodAll_cons_mk (Below.trod laidOut (by kernel_rfl) (of_decide_eq_true (by kernel_rfl)) k1 bel lt1) trodAll_mk0)), rfl, bel.frame _, fun h => by cases h⟩

theorem fnExactShareOut_holds : Rows.FnExactShareOutSaid :=
  OpenClaim.holds_of_wide 4 Try.f4 rfl rfl rfl rfl rfl rfl rfl ⟨rfl, rfl, rfl, rfl, rfl⟩ rfl rfl rfl rfl rfl (by kernel_rfl) Try.func4 (by kernel_rfl)
    (of_decide_eq_true (by kernel_rfl)) (by unfold Func.isWrapper; first | (rw [if_pos (by decide +kernel)]; kernel_rfl) | (rw [if_neg (by decide +kernel)]; exact ⟨rfl, rfl⟩))
    (fun os started H enc _ => fnExactShareOut_lifted os started H enc)
#print axioms fnExactShareOut_holds
end Go.Proofs.Ytgekkblfnfclmaa
