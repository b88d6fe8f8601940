/-
What is proved: at every two fractions, right or not, impl.AddFrac answers as the specification's AddFrac; no condition.
-/
import Derived.Test.YtbiggeejmndloacSum
import Derived.Test.YtbiggeejmndloacEq
import Derived.Deep.RegionHeld3
import Derived.Deep.DeepCutAuto
namespace Go.Proofs.Ytbiggeejmndloac
open Go.ChangeShapes Go.WideShapes Go.ChangeAt Go.RowKit
set_option linter.unusedVariables false

set_option maxHeartbeats 400000 in
theorem fnExactAddFrac_core (a b c d x y : Int) (ok : Bool) (w : World)
    (H1 : Hid (∀ w, Calls Try.prog 7 #[.agg #[.int .i64 a, .int .i64 b], .agg #[.int .i64 c, .int .i64 d]] w fun e w' => e = .returned (.tuple #[.agg #[.int .i64 x, .int .i64 y], .bool ok]) ∧ Below w.heap.size w w'))
    (H2 : Hid (∀ w, Calls Try.prog 9 #[.agg #[.int .i64 a, .int .i64 b], .agg #[.int .i64 c, .int .i64 d]] w fun e w' => e = .returned (.tuple #[.agg #[.int .i64 x, .int .i64 y], .bool ok]) ∧ Below w.heap.size w w')) :
    Calls Try.prog 3 #[.agg #[.int .i64 a, .int .i64 b], .agg #[.int .i64 c, .int .i64 d]] w fun e w' => e = .returned (.bool true) ∧ Below w.heap.size w w' := by
  go_enter Try.func3, Try.ntmps3
  go_upto_region 1 with fail
  go_cut [5, 6] (fun s t wx => ∃ g : Nat, s = .pointer (some ⟨g, 0, none⟩) ∧ t = .bool ok ∧ ((w.alloc (.cells #[.int .i64 a, .int .i64 b] 23)).alloc (.cells #[.int .i64 c, .int .i64 d] 23)).heap.size ≤ g ∧ g < wx.heap.size ∧ wx.cell? ⟨g, 0, none⟩ = some (.int .i64 x) ∧ wx.cell? ⟨g, 1, none⟩ = some (.int .i64 y) ∧ Below ((w.alloc (.cells #[.int .i64 a, .int .i64 b] 23)).alloc (.cells #[.int .i64 c, .int .i64 d] 23)).heap.size ((w.alloc (.cells #[.int .i64 a, .int .i64 b] 23)).alloc (.cells #[.int .i64 c, .int .i64 d] 23)) wx)
  case first =>
    go_region_held3 (fun w' => w'.cell? ⟨w.heap.size, 0, none⟩ = some (.int .i64 a) ∧ w'.cell? ⟨w.heap.size, 1, none⟩ = some (.int .i64 b) ∧ w'.cell? ⟨w.heap.size + 1, 0, none⟩ = some (.int .i64 c) ∧ w'.cell? ⟨w.heap.size + 1, 1, none⟩ = some (.int .i64 d)) (first | (simp [go_sem]; done) | (simp [go_sem, *]; done)) (first
      | (go_at_call_of 8 (Value.int IntKind.i64 a); refine (toFrac_any a b _).mono ?_; rintro e w1 ⟨rfl, rfl⟩)
      | (go_at_call_of 8 (Value.int IntKind.i64 c); refine (toFrac_any c d _).mono ?_; rintro e w2 ⟨rfl, rfl⟩)
      | (go_at_call 7; refine (H1.out _).mono ?_; rintro e w3 ⟨rfl, hx3⟩; obtain ⟨hc3, hf3⟩ := bcell hx3; have B3 : Below ((w.alloc (.cells #[.int .i64 a, .int .i64 b] 23)).alloc (.cells #[.int .i64 c, .int .i64 d] 23)).heap.size ((w.alloc (.cells #[.int .i64 a, .int .i64 b] 23)).alloc (.cells #[.int .i64 c, .int .i64 d] 23)) w3 := Below.trans (by repeat (first | exact Below.refl _ _ | refine Below.setCell ?_ (by first | omega | (simp; done) | (simp; omega)) _ | refine bDrewN ?_ _ | refine Below.drew ?_ | refine Below.alloc ?_ (by first | omega | (simp; done) | (simp; omega)) _)) (hx3.mono (by first | omega | (simp; done) | (simp; omega))); have s3 := hx3.size; simp at s3; have z3a : w.heap.size < w3.heap.size := (by omega); have z3b : w.heap.size + 1 < w3.heap.size := (by omega)))
    all_goals
      go_wp2_with fail
      go_meet
      case rel =>
        refine ⟨_, rfl, rfl, ?_, ?_, ?_, ?_, (by repeat (first | exact Below.refl _ _ | exact B3 | refine Below.setCell ?_ (by first | omega | (simp; done) | (simp; omega)) _ | refine bDrewN ?_ _ | refine Below.drew ?_ | refine Below.alloc ?_ (by first | omega | (simp; done) | (simp; omega)) _))⟩
        all_goals first | omega | (simp [go_sem, *]; done) | (simp [go_sem, *, Nat.add_assoc]; done) | (simp; omega) | (simp [*]; omega)
  case rest =>
    obtain ⟨g, rfl, rfl, hg1, hg2, hg3, hg4, hB⟩ := hcut
    have q0 : wc.cell? ⟨w.heap.size, 0, none⟩ = some (.int .i64 a) := by rw [hB.cell (by first | omega | (simp; done) | (simp; omega))]; simp
    have q1 : wc.cell? ⟨w.heap.size, 1, none⟩ = some (.int .i64 b) := by rw [hB.cell (by first | omega | (simp; done) | (simp; omega))]; simp
    have q2 : wc.cell? ⟨w.heap.size + 1, 0, none⟩ = some (.int .i64 c) := by rw [hB.cell (by first | omega | (simp; done) | (simp; omega))]; simp
    have q3 : wc.cell? ⟨w.heap.size + 1, 1, none⟩ = some (.int .i64 d) := by rw [hB.cell (by first | omega | (simp; done) | (simp; omega))]; simp
    simp at hg1
    have z1 : w.heap.size < wc.heap.size := by omega
    have z2 : w.heap.size + 1 < wc.heap.size := by omega
    have Bw : Below w.heap.size w wc := Below.trans (by repeat (first | exact Below.refl _ _ | refine Below.setCell ?_ (by first | omega | (simp; done) | (simp; omega)) _ | refine bDrewN ?_ _ | refine Below.drew ?_ | refine Below.alloc ?_ (by first | omega | (simp; done) | (simp; omega)) _)) (hB.mono (by first | omega | (simp; done) | (simp; omega)))
    clear hB
    go_upto_region 2 with fail
    go_cut [7, 8] (fun s t wx => ∃ g : Nat, s = .pointer (some ⟨g, 0, none⟩) ∧ t = .bool ok ∧ wc.heap.size ≤ g ∧ g < wx.heap.size ∧ wx.cell? ⟨g, 0, none⟩ = some (.int .i64 x) ∧ wx.cell? ⟨g, 1, none⟩ = some (.int .i64 y) ∧ Below wc.heap.size wc wx)
    case first =>
      go_region_held3 (fun w' => w'.cell? ⟨w.heap.size, 0, none⟩ = some (.int .i64 a) ∧ w'.cell? ⟨w.heap.size, 1, none⟩ = some (.int .i64 b) ∧ w'.cell? ⟨w.heap.size + 1, 0, none⟩ = some (.int .i64 c) ∧ w'.cell? ⟨w.heap.size + 1, 1, none⟩ = some (.int .i64 d)) (first | (refine keep4 q0 q1 q2 q3 z1 z2 ?_; exact (by repeat (first | exact Below.refl _ _ | exact B3 | refine Below.setCell ?_ (by first | omega | (simp; done) | (simp; omega)) _ | refine bDrewN ?_ _ | refine Below.drew ?_ | refine Below.alloc ?_ (by first | omega | (simp; done) | (simp; omega)) _)))) (first
        | (go_at_call_of 8 (Value.int IntKind.i64 a); refine (toFrac_any a b _).mono ?_; rintro e w1 ⟨rfl, rfl⟩)
        | (go_at_call_of 8 (Value.int IntKind.i64 c); refine (toFrac_any c d _).mono ?_; rintro e w2 ⟨rfl, rfl⟩)
        | (go_at_call 9; refine (H2.out _).mono ?_; rintro e w3 ⟨rfl, hx3⟩; obtain ⟨hc3, hf3⟩ := bcell hx3; have B3 : Below wc.heap.size wc w3 := Below.trans (by repeat (first | exact Below.refl _ _ | refine Below.setCell ?_ (by first | omega | (simp; done) | (simp; omega)) _ | refine bDrewN ?_ _ | refine Below.drew ?_ | refine Below.alloc ?_ (by first | omega | (simp; done) | (simp; omega)) _)) (hx3.mono (by first | omega | (simp; done) | (simp; omega))); have s3 := hx3.size; simp at s3; have z3a : w.heap.size < w3.heap.size := (by omega); have z3b : w.heap.size + 1 < w3.heap.size := (by omega)))
      all_goals
        go_wp2_with fail
        go_meet
        case rel =>
          refine ⟨_, rfl, rfl, ?_, ?_, ?_, ?_, (by repeat (first | exact Below.refl _ _ | exact B3 | refine Below.setCell ?_ (by first | omega | (simp; done) | (simp; omega)) _ | refine bDrewN ?_ _ | refine Below.drew ?_ | refine Below.alloc ?_ (by first | omega | (simp; done) | (simp; omega)) _))⟩
          all_goals first | omega | (simp [go_sem, *]; done) | (simp [go_sem, *, Nat.add_assoc]; done) | (simp; omega) | (simp [*]; omega)
    case rest =>
      obtain ⟨g', rfl, rfl, hk1, hk2, hk3, hk4, hB⟩ := hcut
      have r0 : wc.cell? ⟨g, 0, none⟩ = some (.int .i64 x) := by rw [hB.cell hg2]; exact hg3
      have r1 : wc.cell? ⟨g, 1, none⟩ = some (.int .i64 y) := by rw [hB.cell hg2]; exact hg4
      have Bx : Below w.heap.size w wc := Bw.trans (hB.mono (by first | omega | (simp; done) | (simp; omega)))
      go_wp2_with fail
      refine (eqFrac_any x y _).mono ?_
      rintro e w5 ⟨rfl, hb5⟩
      have B5 : Below w.heap.size w w5 := Bx.trans (hb5.mono Bx.size)
      go_wp2
      go_ret
      exact ⟨rfl, B5⟩

theorem fnExactAddFrac_walk (a : Int) (wa : (Lit.int .i64 a).wf = true) (b : Int) (wb : (Lit.int .i64 b).wf = true) (c : Int) (wc : (Lit.int .i64 c).wf = true) (d : Int) (wd : (Lit.int .i64 d).wf = true) (w : World) :
    Calls Try.prog 3 #[.agg #[.int .i64 a, .int .i64 b], .agg #[.int .i64 c, .int .i64 d]] w fun e w' => e = .returned (.bool true) ∧ Below w.heap.size w w' := by
  obtain ⟨h1, h2⟩ := bounds_i64 wa
  obtain ⟨h3, h4⟩ := bounds_i64 wb
  obtain ⟨h5, h6⟩ := bounds_i64 wc
  obtain ⟨h7, h8⟩ := bounds_i64 wd
  exact fnExactAddFrac_core a b c d _ _ _ w (fun w => specAddFrac_any a b c d w h1 h2 h3 h4 h5 h6 h7 h8) (fun w => implAddFrac_any a b c d w h1 h2 h3 h4 h5 h6 h7 h8)

set_option maxRecDepth 100000 in
theorem fnExactAddFrac_lifted (os : Os) (started : os.Started) (H : Type) (enc : TypeId × Value → H) :
    ReturnsInHanded {} Try.checked os 3 .any (Rows.fnExactAddFracSpec.pre6 enc Try.prog Try.f3 Rows.fnExactAddFracRow.domain false) (Rows.fnExactAddFracSpec.post enc Try.prog Try.f3 false true false false) := by
  refine returnsInHanded_of_change (C := Try.checked) own started (by kernel_rfl) Try.func3
    (ChangeSpec.witness6 (enc := enc) (C := Try.checked) false ⟨#[], #[.agg #[.int .i64 0, .int .i64 0], .agg #[.int .i64 0, .int .i64 0]], []⟩ 8 (by kernel_rfl) (by kernel_rfl) (by kernel_rfl) (by kernel_rfl)) ?_
  intro W base args ds gs before hval0 hW hcnd _
  have hval : ∀ (j : Nat) t v, Try.f3.params[j]? = some t → args[j]? = some v → Value.okWide Try.prog W .any base t v := hval0
  have hW' := hW
  obtain ⟨p, q, hA0, hV, rfl, hfz, hnd⟩ := hW
  have hA : DataW.TrodAll enc Try.prog W 0 (fun _ => true) true Try.f3.params.toList args.toList ds p := hA0
  rw [Try.params3] at hA hval
  obtain ⟨v0, vs0, d0, ds0, p0, q0, hargs, rfl, rfl, h0, r0⟩ := trodAll_cons hA
  obtain ⟨v1, vs1, d1, ds1, p1, q1, rfl, rfl, rfl, h1, r1⟩ := trodAll_cons r0
  obtain ⟨rfl, rfl, rfl⟩ := trodAll_nil r1
  obtain rfl : args = #[v0, v1] := by cases args; simp_all
  obtain ⟨rfl, rfl⟩ := trodVars_none hV
  have k0 := h0
  have lt0 : ∀ x ∈ p0, x.block < W.heap.size := by obtain ⟨m, hm⟩ := k0; exact DataW.trod_lt m _ _ _ hm
  have k1 := h1
  have lt1 : ∀ x ∈ p1, x.block < W.heap.size := by obtain ⟨m, hm⟩ := k1; exact DataW.trod_lt m _ _ _ hm
  obtain ⟨vs0, rfl, c0⟩ := open_cells Try.underlying23 (ts := [2, 2]) (by kernel_rfl) (by kernel_rfl) (hval 0 23 v0 rfl rfl)
  obtain ⟨x0_0, r0_0, rfl, o0_0, c0_0⟩ := cellsOk_cons c0
  obtain ⟨a0_0, rfl, w0_0⟩ := cell_int Try.underlying2 o0_0
  obtain ⟨x0_1, r0_1, rfl, o0_1, c0_1⟩ := cellsOk_cons c0_0
  obtain ⟨a0_1, rfl, w0_1⟩ := cell_int Try.underlying2 o0_1
  obtain rfl := cellsOk_nil c0_1
  obtain ⟨vs1, rfl, c1⟩ := open_cells Try.underlying23 (ts := [2, 2]) (by kernel_rfl) (by kernel_rfl) (hval 1 23 v1 rfl rfl)
  obtain ⟨x1_0, r1_0, rfl, o1_0, c1_0⟩ := cellsOk_cons c1
  obtain ⟨a1_0, rfl, w1_0⟩ := cell_int Try.underlying2 o1_0
  obtain ⟨x1_1, r1_1, rfl, o1_1, c1_1⟩ := cellsOk_cons c1_0
  obtain ⟨a1_1, rfl, w1_1⟩ := cell_int Try.underlying2 o1_1
  obtain rfl := cellsOk_nil c1_1
  clear hA0 hval0
  refine (fnExactAddFrac_walk a0_0 w0_0 a0_1 w0_1 a1_0 w1_0 a1_1 w1_1 W).mono fun e W' ⟨he, bel⟩ => ?_
  subst he
  exact ⟨_, rfl, _, _, _, [], _, [], hW', trodAll_mk1 (shut_bool Try.underlying4 _), (trodAll_cons_mk (Below.trod laidOut (by kernel_rfl) (of_decide_eq_true (by kernel_rfl)) k0 bel lt0) (trodAll_cons_mk (Below.trod laidOut (by kernel_rfl) (of_decide_eq_true (by kernel_rfl)) k1 bel lt1) trodAll_mk0)), rfl, bel.frame _, fun h => by cases h⟩

theorem fnExactAddFrac_holds : Rows.FnExactAddFracSaid :=
  OpenClaim.holds_of_wide 3 Try.f3 rfl rfl rfl rfl rfl rfl rfl ⟨rfl, rfl, rfl, rfl, rfl⟩ rfl rfl rfl rfl rfl (by kernel_rfl) Try.func3 (by kernel_rfl)
    (of_decide_eq_true (by kernel_rfl)) (by unfold Func.isWrapper; first | (rw [if_pos (by decide +kernel)]; kernel_rfl) | (rw [if_neg (by decide +kernel)]; exact ⟨rfl, rfl⟩))
    (fun os started H enc _ => fnExactAddFrac_lifted os started H enc)
#print axioms fnExactAddFrac_holds
end Go.Proofs.Ytbiggeejmndloac
