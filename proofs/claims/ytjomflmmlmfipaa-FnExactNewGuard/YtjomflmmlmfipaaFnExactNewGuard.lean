/-
What is proved: at every number impl.NewGuard answers as the specification's NewGuard, and its answer owns its memory; no condition.
-/
import Derived.Test.YtjomflmmlmfipaaGdN
import Derived.Test.YtjomflmmlmfipaaGdE
namespace Go.Proofs.Ytjomflmmlmfipaa
set_option maxRecDepth 40000
open Go.ChangeShapes Go.WideShapes Go.ChangeAt Go.RowKit
set_option linter.unusedVariables false
set_option linter.unusedSimpArgs false

set_option maxHeartbeats 4000000 in
theorem newGuard_law (x : Int) (l : Bool) (m : Nat) (U : Nat → Bool) (w : World) (hm : (m : Int) ≤ 1048576) (H1 : Hid (∀ w, Calls Try.prog 13 #[.int .i64 x] w fun e w' => ∃ s c, e = .returned (.agg #[.slice s m c, .bool l]) ∧ OwnB w.heap.size w' s m U ∧ Below w.heap.size w w')) (H2 : Hid (∀ w, Calls Try.prog 14 #[.int .i64 x] w fun e w' => ∃ s c, e = .returned (.agg #[.slice s m c, .bool l]) ∧ OwnB w.heap.size w' s m U ∧ Below w.heap.size w w')) :
    Calls Try.prog 5 #[.int .i64 x] w fun e w' => e = .returned (.bool true) ∧ Below w.heap.size w w' := by
  go_enter Try.func5, Try.ntmps5
  go_wp2_with fail
  refine (H1.out _).mono ?_
  rintro e w1 ⟨sW, cW, rfl, OW, B1⟩
  have RW : Hid (RowB w1 sW m U) := OW.row
  clear OW
  go_wp2_with fail
  refine (H2.out _).mono ?_
  rintro e w2 ⟨sG, cG, rfl, OG, h2⟩
  obtain ⟨hc, hf⟩ := bcell h2
  have c0 := hc w1.heap.size 0 (by first | omega | (simp; done) | (simp; omega))
  have c1 := hc w1.heap.size 1 (by first | omega | (simp; done) | (simp; omega))
  simp [go_sem] at c0 c1
  have zc : w1.heap.size < w2.heap.size := by have := h2.size; simp at this; omega
  have Bs : Below w1.heap.size w1 w2 := Below.trans (by repeat (first | with_reducible exact Below.refl _ _ | with_reducible refine Below.setCell ?_ (by first | omega | (simp; done) | (simp; omega)) _ | with_reducible refine bDrewN ?_ _ | with_reducible refine Below.drew ?_ | with_reducible refine Below.alloc ?_ (by first | omega | (simp; done) | (simp; omega)) _)) (h2.mono (by first | omega | (simp; done) | (simp; omega)))
  have ss := Bs.size
  have PG : Hid (OwnB (w1.heap.size + 1) w2 sG m U) := OG.mono (by first | omega | (simp; done) | (simp; omega))
  have bG : Hid (0 < m → ∀ b, sG = some ⟨b, 0, none⟩ → w1.heap.size + 1 ≤ b ∧ b < w2.heap.size) := ownB_at PG.out
  clear hc hf h2 OG
  go_wp2_with fail
  refine (eqGuard_any l sG sW m cG cW U _ hm (rowB_one PG.out.row) (rowB_one (RW.out.below Bs))).mono ?_
  rintro e w3 ⟨rfl, h3⟩
  obtain ⟨hc, hf⟩ := bcell h3
  have g0 := hc w2.heap.size 0 (by first | omega | (simp; done) | (simp; omega))
  have g1 := hc w2.heap.size 1 (by first | omega | (simp; done) | (simp; omega))
  simp [go_sem] at g0 g1
  have zg : w2.heap.size < w3.heap.size := by have := h3.size; simp at this; omega
  have B3 : Below w2.heap.size w2 w3 := Below.trans (by repeat (first | with_reducible exact Below.refl _ _ | with_reducible refine Below.setCell ?_ (by first | omega | (simp; done) | (simp; omega)) _ | with_reducible refine bDrewN ?_ _ | with_reducible refine Below.drew ?_ | with_reducible refine Below.alloc ?_ (by first | omega | (simp; done) | (simp; omega)) _)) (h3.mono (by first | omega | (simp; done) | (simp; omega)))
  replace c0 := (B3.cell (p := ⟨w1.heap.size, 0, none⟩) zc).trans c0
  replace c1 := (B3.cell (p := ⟨w1.heap.size, 1, none⟩) zc).trans c1
  replace zc := Nat.lt_of_lt_of_le zc B3.size
  replace PG : Hid (OwnB (w1.heap.size + 1) w3 sG m U) := PG.out.below B3
  replace Bs : Below w1.heap.size w1 w3 := Bs.trans (B3.mono ss)
  replace ss := Bs.size
  clear hc hf h3 B3
  go_wp2_with fail
  refine (markGuard_sp l (w1.heap.size + 1) sG m cG 1 U _ hm (by decide) (by decide) zc PG.out).mono ?_
  rintro e w4 ⟨rfl, OG, h4, hs⟩
  replace c0 := (h4.cell (p := ⟨w1.heap.size, 0, none⟩) (Nat.lt_succ_self _)).trans c0
  replace c1 := (h4.cell (p := ⟨w1.heap.size, 1, none⟩) (Nat.lt_succ_self _)).trans c1
  replace zc := Nat.lt_of_lt_of_le zc h4.size
  have ng : 0 < m → ∀ b, sG = some ⟨b, 0, none⟩ → b ≠ w2.heap.size := fun hp b e => Nat.ne_of_lt (bG.out hp b e).2
  replace g0 := (hs.cell (p := ⟨w2.heap.size, 0, none⟩) zg ng).trans g0
  replace g1 := (hs.cell (p := ⟨w2.heap.size, 1, none⟩) zg ng).trans g1
  replace zg := Nat.lt_of_lt_of_le zg h4.size
  replace Bs : Below w1.heap.size w1 w4 := Bs.trans (h4.mono (Nat.le_succ _))
  replace ss := Bs.size
  replace PG : Hid (OwnB (w1.heap.size + 1) w4 sG m (markB 1)) := OG
  clear OG h4 hs ng bG
  go_wp2_with fail
  refine (heldGuard_any l sG m cG 1 _ hm (by decide) (by decide) PG.out.row).mono ?_
  rintro e w5 ⟨rfl, h5⟩
  replace c0 := (h5.cell (p := ⟨w1.heap.size, 0, none⟩) zc).trans c0
  replace c1 := (h5.cell (p := ⟨w1.heap.size, 1, none⟩) zc).trans c1
  replace zc := Nat.lt_of_lt_of_le zc h5.size
  replace g0 := (h5.cell (p := ⟨w2.heap.size, 0, none⟩) zg).trans g0
  replace g1 := (h5.cell (p := ⟨w2.heap.size, 1, none⟩) zg).trans g1
  replace zg := Nat.lt_of_lt_of_le zg h5.size
  replace PG : Hid (OwnB (w1.heap.size + 1) w5 sG m (markB 1)) := PG.out.below h5
  replace Bs : Below w1.heap.size w1 w5 := Bs.trans (h5.mono ss)
  replace ss := Bs.size
  clear h5
  go_wp2_with fail
  refine (H2.out _).mono ?_
  rintro e w6 ⟨sH, cH, rfl, OH, h6⟩
  replace c0 := (h6.cell (p := ⟨w1.heap.size, 0, none⟩) zc).trans c0
  replace c1 := (h6.cell (p := ⟨w1.heap.size, 1, none⟩) zc).trans c1
  replace zc := Nat.lt_of_lt_of_le zc h6.size
  replace g0 := (h6.cell (p := ⟨w2.heap.size, 0, none⟩) zg).trans g0
  replace g1 := (h6.cell (p := ⟨w2.heap.size, 1, none⟩) zg).trans g1
  replace zg := Nat.lt_of_lt_of_le zg h6.size
  replace PG : Hid (OwnB (w1.heap.size + 1) w6 sG m (markB 1)) := PG.out.below h6
  have RH : Hid (RowB w6 sH m U) := OH.row
  replace Bs : Below w1.heap.size w1 w6 := Bs.trans (h6.mono ss)
  replace ss := Bs.size
  clear h6 OH
  go_wp2_with fail
  refine (eqGuard_any l sH sW m cH cW U _ hm (rowB_one RH.out) (rowB_one (RW.out.below Bs))).mono ?_
  rintro e w7 ⟨rfl, h7⟩
  have B7 : Below w6.heap.size w6 w7 := Below.trans (by repeat (first | with_reducible exact Below.refl _ _ | with_reducible refine Below.setCell ?_ (by first | omega | (simp; done) | (simp; omega)) _ | with_reducible refine bDrewN ?_ _ | with_reducible refine Below.drew ?_ | with_reducible refine Below.alloc ?_ (by first | omega | (simp; done) | (simp; omega)) _)) (h7.mono (by first | omega | (simp; done) | (simp; omega)))
  replace g0 := (B7.cell (p := ⟨w2.heap.size, 0, none⟩) zg).trans g0
  replace g1 := (B7.cell (p := ⟨w2.heap.size, 1, none⟩) zg).trans g1
  replace zg := Nat.lt_of_lt_of_le zg B7.size
  replace PG : Hid (OwnB (w1.heap.size + 1) w7 sG m (markB 1)) := PG.out.below B7
  replace Bs : Below w1.heap.size w1 w7 := Bs.trans (B7.mono ss)
  replace ss := Bs.size
  clear h7 B7 RH
  go_wp2_with fail
  refine (heldGuard_any l sG m cG 1 _ hm (by decide) (by decide) PG.out.row).mono ?_
  rintro e w8 ⟨rfl, h8⟩
  have BE : Below w.heap.size w w8 := B1.trans ((Bs.trans (h8.mono ss)).mono B1.size)
  clear h8
  go_wp2
  go_ret
  exact ⟨rfl, BE⟩
theorem fnExactNewGuard_walk (x : Int) (wx : (Lit.int .i64 x).wf = true) (w : World) :
    Calls Try.prog 5 #[.int .i64 x] w fun e w' => e = .returned (.bool true) ∧ Below w.heap.size w w' :=
  newGuard_law x _ _ _ w (newG_le x) (fun w => specNewGuard_any x w) (fun w => implNewGuard_any x w)

set_option maxRecDepth 100000 in
theorem fnExactNewGuard_lifted (os : Os) (started : os.Started) (H : Type) (enc : TypeId × Value → H) :
    ReturnsInHanded {} Try.checked os 5 .any (Rows.fnExactNewGuardSpec.pre6 enc Try.prog Try.f5 Rows.fnExactNewGuardRow.domain false) (Rows.fnExactNewGuardSpec.post enc Try.prog Try.f5 false true false false) := by
  refine returnsInHanded_of_change (C := Try.checked) own started (by kernel_rfl) Try.func5
    (ChangeSpec.witness6 (enc := enc) (C := Try.checked) false ⟨#[], #[.int .i64 0], []⟩ 8 (by kernel_rfl) (by kernel_rfl) (by kernel_rfl) (by kernel_rfl)) ?_
  intro W base args ds gs before hval0 hW hcnd _
  have hval : ∀ (j : Nat) t v, Try.f5.params[j]? = some t → args[j]? = some v → Value.okWide Try.prog W .any base t v := hval0
  have hW' := hW
  obtain ⟨p, q, hA0, hV, rfl, hfz, hnd⟩ := hW
  have hA : DataW.TrodAll enc Try.prog W 0 (fun _ => true) true Try.f5.params.toList args.toList ds p := hA0
  rw [Try.params5] at hA hval
  obtain ⟨v0, vs0, d0, ds0, p0, q0, hargs, rfl, rfl, h0, r0⟩ := trodAll_cons hA
  obtain ⟨rfl, rfl, rfl⟩ := trodAll_nil r0
  obtain rfl : args = #[v0] := by cases args; simp_all
  obtain ⟨rfl, rfl⟩ := trodVars_none hV
  have k0 := h0
  have lt0 : ∀ x ∈ p0, x.block < W.heap.size := by obtain ⟨m, hm⟩ := k0; exact DataW.trod_lt m _ _ _ hm
  obtain ⟨a0, rfl, rfl, rfl, w0⟩ := open_int Try.underlying2 (hval 0 2 v0 rfl rfl) h0
  clear hA0 hval0
  refine (fnExactNewGuard_walk a0 w0 W).mono fun e W' ⟨he, bel⟩ => ?_
  subst he
  exact ⟨_, rfl, _, _, _, [], _, [], hW', trodAll_mk1 (shut_bool Try.underlying4 _), (trodAll_cons_mk (Below.trod laidOut (by kernel_rfl) (of_decide_eq_true (by kernel_rfl)) k0 bel lt0) trodAll_mk0), rfl, bel.frame _, fun h => by cases h⟩

theorem fnExactNewGuard_holds : Rows.FnExactNewGuardSaid :=
  OpenClaim.holds_of_wide 5 Try.f5 rfl rfl rfl rfl rfl rfl rfl ⟨rfl, rfl, rfl, rfl, rfl⟩ rfl rfl rfl rfl rfl (by kernel_rfl) Try.func5 (by kernel_rfl)
    (of_decide_eq_true (by kernel_rfl)) (by unfold Func.isWrapper; first | (rw [if_pos (by decide +kernel)]; kernel_rfl) | (rw [if_neg (by decide +kernel)]; exact ⟨rfl, rfl⟩))
    (fun os started H enc _ => fnExactNewGuard_lifted os started H enc)
#print axioms fnExactNewGuard_holds
end Go.Proofs.Ytjomflmmlmfipaa
