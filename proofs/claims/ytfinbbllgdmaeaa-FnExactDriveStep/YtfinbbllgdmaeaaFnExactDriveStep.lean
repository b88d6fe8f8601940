/-
What is proved: at every drive, every want and speed, jammed or not, impl.DriveStep answers as the specification's DriveStep; no condition.
-/
import Derived.Test.YtfinbbllgdmaeaaDvS
import Derived.Test.YtfinbbllgdmaeaaDvI
import Derived.Deep.RegionHeld3
import Derived.Deep.DeepCutAuto
namespace Go.Proofs.Ytfinbbllgdmaeaa
set_option maxRecDepth 40000
open Go.ChangeShapes Go.WideShapes Go.ChangeAt Go.RowKit
set_option linter.unusedVariables false
set_option linter.unusedSimpArgs false

set_option maxRecDepth 20000 in
set_option maxHeartbeats 8000000 in
theorem fnExactDriveStep_law (P : Int) (W : Int) (T : Int) (F : Bool) (want : Int) (sp : Int) (jam : Bool) (r0 : Int) (r1 : Int) (r2 : Int) (r3 : Bool) (ok : Bool) (w : World)
    (H1 : Hid (∀ w, Calls Try.prog 10 #[.agg #[.int .i64 P, .int .i64 W, .int .i64 T, .bool F], .int .i64 want, .int .i64 sp, .bool jam] w fun e w' => e = .returned (.tuple #[.agg #[.int .i64 r0, .int .i64 r1, .int .i64 r2, .bool r3], .bool ok]) ∧ Below w.heap.size w w'))
    (H2 : Hid (∀ w, Calls Try.prog 12 #[.agg #[.int .i64 P, .int .i64 W, .int .i64 T, .bool F], .int .i64 want, .int .i64 sp, .bool jam] w fun e w' => e = .returned (.tuple #[.agg #[.int .i64 r0, .int .i64 r1, .int .i64 r2, .bool r3], .bool ok]) ∧ Below w.heap.size w w')) :
    Calls Try.prog 4 #[.agg #[.int .i64 P, .int .i64 W, .int .i64 T, .bool F], .int .i64 want, .int .i64 sp, .bool jam] w fun e w' => e = .returned (.bool true) ∧ Below w.heap.size w w' := by
  go_enter Try.func4, Try.ntmps4
  go_upto_region 1 with fail
  obtain ⟨wd, hwd⟩ : ∃ wd, wd = (w.alloc (.cells #[.int .i64 P, .int .i64 W, .int .i64 T, .bool F] 31)) := ⟨_, rfl⟩
  rw [← hwd]
  have c0 : wd.cell? ⟨w.heap.size, 0, none⟩ = some (.int .i64 P) := by rw [hwd]; simp [go_sem]
  have c1 : wd.cell? ⟨w.heap.size, 1, none⟩ = some (.int .i64 W) := by rw [hwd]; simp [go_sem]
  have c2 : wd.cell? ⟨w.heap.size, 2, none⟩ = some (.int .i64 T) := by rw [hwd]; simp [go_sem]
  have c3 : wd.cell? ⟨w.heap.size, 3, none⟩ = some (.bool F) := by rw [hwd]; simp [go_sem]
  have z0 : w.heap.size < wd.heap.size := by rw [hwd]; simp
  have B0 : Below w.heap.size w wd := by rw [hwd]; exact (by repeat (first | with_reducible exact Below.refl _ _ | with_reducible refine Below.setCell ?_ (by first | omega | (simp; done) | (simp; omega)) _ | with_reducible refine bDrewN ?_ _ | with_reducible refine Below.drew ?_ | with_reducible refine Below.alloc ?_ (by first | omega | (simp; done) | (simp; omega)) _))
  have s0 := B0.size
  clear hwd
  go_wp2_with fail
  refine (toDrive_below P W T F _).mono ?_
  rintro e w1 ⟨rfl, h1⟩
  replace c0 := (h1.cell (p := ⟨w.heap.size, 0, none⟩) z0).trans c0
  replace c1 := (h1.cell (p := ⟨w.heap.size, 1, none⟩) z0).trans c1
  replace c2 := (h1.cell (p := ⟨w.heap.size, 2, none⟩) z0).trans c2
  replace c3 := (h1.cell (p := ⟨w.heap.size, 3, none⟩) z0).trans c3
  replace z0 := Nat.lt_of_lt_of_le z0 h1.size
  replace B0 : Below w.heap.size w w1 := B0.trans (h1.mono s0)
  replace s0 := B0.size
  go_wp2_with fail
  refine (H1.out _).mono ?_
  rintro e w2 ⟨rfl, h2⟩
  replace c0 := (h2.cell (p := ⟨w.heap.size, 0, none⟩) z0).trans c0
  replace c1 := (h2.cell (p := ⟨w.heap.size, 1, none⟩) z0).trans c1
  replace c2 := (h2.cell (p := ⟨w.heap.size, 2, none⟩) z0).trans c2
  replace c3 := (h2.cell (p := ⟨w.heap.size, 3, none⟩) z0).trans c3
  replace z0 := Nat.lt_of_lt_of_le z0 h2.size
  replace B0 : Below w.heap.size w w2 := B0.trans (h2.mono s0)
  replace s0 := B0.size
  go_wp2_with fail
  refine (toDrive_below P W T F _).mono ?_
  rintro e w3 ⟨rfl, h3⟩
  have B3 : Below w2.heap.size w2 w3 := Below.trans (by repeat (first | with_reducible exact Below.refl _ _ | with_reducible refine Below.setCell ?_ (by first | omega | (simp; done) | (simp; omega)) _ | with_reducible refine bDrewN ?_ _ | with_reducible refine Below.drew ?_ | with_reducible refine Below.alloc ?_ (by first | omega | (simp; done) | (simp; omega)) _)) (h3.mono (by first | omega | (simp; done) | (simp; omega)))
  obtain ⟨hc, hf⟩ := bcell h3
  have g0 := hc w2.heap.size 0 (by first | omega | (simp; done) | (simp; omega))
  have g1 := hc w2.heap.size 1 (by first | omega | (simp; done) | (simp; omega))
  have g2 := hc w2.heap.size 2 (by first | omega | (simp; done) | (simp; omega))
  have g3 := hc w2.heap.size 3 (by first | omega | (simp; done) | (simp; omega))
  simp [go_sem] at g0 g1 g2 g3
  have zg : w2.heap.size < w3.heap.size := by have := h3.size; simp at this; omega
  clear hc hf h3
  replace c0 := (B3.cell (p := ⟨w.heap.size, 0, none⟩) z0).trans c0
  replace c1 := (B3.cell (p := ⟨w.heap.size, 1, none⟩) z0).trans c1
  replace c2 := (B3.cell (p := ⟨w.heap.size, 2, none⟩) z0).trans c2
  replace c3 := (B3.cell (p := ⟨w.heap.size, 3, none⟩) z0).trans c3
  replace z0 := Nat.lt_of_lt_of_le z0 B3.size
  replace B0 : Below w.heap.size w w3 := B0.trans (B3.mono s0)
  replace s0 := B0.size
  go_wp2_with fail
  refine (H2.out _).mono ?_
  rintro e w4 ⟨rfl, h4⟩
  replace g0 := (h4.cell (p := ⟨w2.heap.size, 0, none⟩) zg).trans g0
  replace g1 := (h4.cell (p := ⟨w2.heap.size, 1, none⟩) zg).trans g1
  replace g2 := (h4.cell (p := ⟨w2.heap.size, 2, none⟩) zg).trans g2
  replace g3 := (h4.cell (p := ⟨w2.heap.size, 3, none⟩) zg).trans g3
  replace zg : w2.heap.size < w4.heap.size := Nat.lt_of_lt_of_le zg h4.size
  replace c0 := (h4.cell (p := ⟨w.heap.size, 0, none⟩) z0).trans c0
  replace c1 := (h4.cell (p := ⟨w.heap.size, 1, none⟩) z0).trans c1
  replace c2 := (h4.cell (p := ⟨w.heap.size, 2, none⟩) z0).trans c2
  replace c3 := (h4.cell (p := ⟨w.heap.size, 3, none⟩) z0).trans c3
  replace z0 := Nat.lt_of_lt_of_le z0 h4.size
  replace B0 : Below w.heap.size w w4 := B0.trans (h4.mono s0)
  replace s0 := B0.size
  go_wp2_with fail
  refine (eqDrive_any r0 r1 r2 r3 _).mono ?_
  rintro e w5 ⟨rfl, h5⟩
  have B5 : Below w.heap.size w w5 := Below.trans (by repeat (first | with_reducible exact Below.refl _ _ | with_reducible exact B0 | with_reducible refine Below.setCell ?_ (by first | omega | (simp; done) | (simp; omega)) _ | with_reducible refine bDrewN ?_ _ | with_reducible refine Below.drew ?_ | with_reducible refine Below.alloc ?_ (by first | omega | (simp; done) | (simp; omega)) _)) (h5.mono (by first | omega | (simp; done) | (simp; omega)))
  go_wp2
  go_ret
  exact ⟨rfl, B5⟩

theorem fnExactDriveStep_walk (a0_0 : Int) (w0_0 : (Lit.int .i64 a0_0).wf = true) (a0_1 : Int) (w0_1 : (Lit.int .i64 a0_1).wf = true) (a0_2 : Int) (w0_2 : (Lit.int .i64 a0_2).wf = true) (a0_3 : Bool) (b0 : Int) (wb0 : (Lit.int .i64 b0).wf = true) (b1 : Int) (wb1 : (Lit.int .i64 b1).wf = true) (b2 : Bool) (w : World) :
    Calls Try.prog 4 #[.agg #[.int .i64 a0_0, .int .i64 a0_1, .int .i64 a0_2, .bool a0_3], .int .i64 b0, .int .i64 b1, .bool b2] w fun e w' => e = .returned (.bool true) ∧ Below w.heap.size w w' :=
  fnExactDriveStep_law a0_0 a0_1 a0_2 a0_3 b0 b1 b2 _ _ _ _ _ w (fun w => specDrive_any a0_0 a0_1 a0_2 a0_3 b0 b1 b2 w) (fun w => implDrive_any a0_0 a0_1 a0_2 a0_3 b0 b1 b2 w)

set_option maxRecDepth 100000 in
theorem fnExactDriveStep_lifted (os : Os) (started : os.Started) (H : Type) (enc : TypeId × Value → H) :
    ReturnsInHanded {} Try.checked os 4 .any (Rows.fnExactDriveStepSpec.pre6 enc Try.prog Try.f4 Rows.fnExactDriveStepRow.domain false) (Rows.fnExactDriveStepSpec.post enc Try.prog Try.f4 false true false false) := by
  refine returnsInHanded_of_change (C := Try.checked) own started (by kernel_rfl) Try.func4
    (ChangeSpec.witness6 (enc := enc) (C := Try.checked) false ⟨#[], #[.agg #[.int .i64 0, .int .i64 0, .int .i64 0, .bool false], .int .i64 0, .int .i64 0, .bool false], []⟩ 8 (by kernel_rfl) (by kernel_rfl) (by kernel_rfl) (by kernel_rfl)) ?_
  intro W base args ds gs before hval0 hW hcnd _
  have hval : ∀ (j : Nat) t v, Try.f4.params[j]? = some t → args[j]? = some v → Value.okWide Try.prog W .any base t v := hval0
  have hW' := hW
  obtain ⟨p, q, hA0, hV, rfl, hfz, hnd⟩ := hW
  have hA : DataW.TrodAll enc Try.prog W 0 (fun _ => true) true Try.f4.params.toList args.toList ds p := hA0
  rw [Try.params4] at hA hval
  obtain ⟨v0, vs0, d0, ds0, p0, q0, hargs, rfl, rfl, h0, r0⟩ := trodAll_cons hA
  obtain ⟨v1, vs1, d1, ds1, p1, q1, rfl, rfl, rfl, h1, r1⟩ := trodAll_cons r0
  obtain ⟨v2, vs2, d2, ds2, p2, q2, rfl, rfl, rfl, h2, r2⟩ := trodAll_cons r1
  obtain ⟨v3, vs3, d3, ds3, p3, q3, rfl, rfl, rfl, h3, r3⟩ := trodAll_cons r2
  obtain ⟨rfl, rfl, rfl⟩ := trodAll_nil r3
  obtain rfl : args = #[v0, v1, v2, v3] := by cases args; simp_all
  obtain ⟨rfl, rfl⟩ := trodVars_none hV
  have k0 := h0
  have lt0 : ∀ x ∈ p0, x.block < W.heap.size := by obtain ⟨m, hm⟩ := k0; exact DataW.trod_lt m _ _ _ hm
  have k1 := h1
  have lt1 : ∀ x ∈ p1, x.block < W.heap.size := by obtain ⟨m, hm⟩ := k1; exact DataW.trod_lt m _ _ _ hm
  have k2 := h2
  have lt2 : ∀ x ∈ p2, x.block < W.heap.size := by obtain ⟨m, hm⟩ := k2; exact DataW.trod_lt m _ _ _ hm
  have k3 := h3
  have lt3 : ∀ x ∈ p3, x.block < W.heap.size := by obtain ⟨m, hm⟩ := k3; exact DataW.trod_lt m _ _ _ hm
  obtain ⟨vs0, rfl, c0⟩ := open_cells Try.underlying31 (ts := [2, 2, 2, 4]) (by kernel_rfl) (by kernel_rfl) (hval 0 31 v0 rfl rfl)
  obtain ⟨x0_0, r0_0, rfl, o0_0, c0_0⟩ := cellsOk_cons c0
  obtain ⟨a0_0, rfl, w0_0⟩ := cell_int Try.underlying2 o0_0
  obtain ⟨x0_1, r0_1, rfl, o0_1, c0_1⟩ := cellsOk_cons c0_0
  obtain ⟨a0_1, rfl, w0_1⟩ := cell_int Try.underlying2 o0_1
  obtain ⟨x0_2, r0_2, rfl, o0_2, c0_2⟩ := cellsOk_cons c0_1
  obtain ⟨a0_2, rfl, w0_2⟩ := cell_int Try.underlying2 o0_2
  obtain ⟨x0_3, r0_3, rfl, o0_3, c0_3⟩ := cellsOk_cons c0_2
  obtain ⟨a0_3, rfl⟩ := cell_bool Try.underlying4 o0_3
  obtain rfl := cellsOk_nil c0_3
  obtain ⟨a1, rfl, rfl, rfl, w1⟩ := open_int Try.underlying2 (hval 1 2 v1 rfl rfl) h1
  obtain ⟨a2, rfl, rfl, rfl, w2⟩ := open_int Try.underlying2 (hval 2 2 v2 rfl rfl) h2
  obtain ⟨a3, rfl, rfl, rfl⟩ := open_bool Try.underlying4 (hval 3 4 v3 rfl rfl) h3
  clear hA0 hval0
  refine (fnExactDriveStep_walk a0_0 w0_0 a0_1 w0_1 a0_2 w0_2 a0_3 a1 w1 a2 w2 a3 W).mono fun e W' ⟨he, bel⟩ => ?_
  subst he
  exact ⟨_, rfl, _, _, _, [], _, [], hW', trodAll_mk1 (shut_bool Try.underlying4 _), (trodAll_cons_mk (Below.trod laidOut (by kernel_rfl) (of_decide_eq_true (by kernel_rfl)) k0 bel lt0) (trodAll_cons_mk (Below.trod laidOut (by kernel_rfl) (of_decide_eq_true (by kernel_rfl)) k1 bel lt1) (trodAll_cons_mk (Below.trod laidOut (by kernel_rfl) (of_decide_eq_true (by kernel_rfl)) k2 bel lt2) (trodAll_cons_mk (Below.trod laidOut (by kernel_rfl) (of_decide_eq_true (by kernel_rfl)) k3 bel lt3) trodAll_mk0)))), rfl, bel.frame _, fun h => by cases h⟩

theorem fnExactDriveStep_holds : Rows.FnExactDriveStepSaid :=
  OpenClaim.holds_of_wide 4 Try.f4 rfl rfl rfl rfl rfl rfl rfl ⟨rfl, rfl, rfl, rfl, rfl⟩ rfl rfl rfl rfl rfl (by kernel_rfl) Try.func4 (by kernel_rfl)
    (of_decide_eq_true (by kernel_rfl)) (by unfold Func.isWrapper; first | (rw [if_pos (by decide +kernel)]; kernel_rfl) | (rw [if_neg (by decide +kernel)]; exact ⟨rfl, rfl⟩))
    (fun os started H enc _ => fnExactDriveStep_lifted os started H enc)
#print axioms fnExactDriveStep_holds
end Go.Proofs.Ytfinbbllgdmaeaa
