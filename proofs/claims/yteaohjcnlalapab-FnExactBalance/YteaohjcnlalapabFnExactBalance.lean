/-
What is proved: at every gas and every fraction, right or not, impl.Balance answers as the specification's Balance; no condition.
-/
import Derived.Test.YteaohjcnlalapabBalI
import Derived.Deep.RegionHeld3
import Derived.Deep.DeepCutAuto
namespace Go.Proofs.Yteaohjcnlalapab
open Go.ChangeShapes Go.WideShapes Go.ChangeAt Go.RowKit
set_option linter.unusedVariables false

set_option maxHeartbeats 400000 in
theorem toGas_any (a b c d : Int) (w : World) : Calls Try.prog 17 #[.agg #[.int .i64 a, .int .i64 b, .int .i64 c, .int .i64 d]] w fun r w' => r = .returned (.agg #[.int .i64 a, .int .i64 b, .int .i64 c, .int .i64 d]) ∧ w' = ((w.alloc (.cells #[.int .i64 a, .int .i64 b, .int .i64 c, .int .i64 d] 43)).alloc (.cells #[.int .i64 a, .int .i64 b, .int .i64 c, .int .i64 d] 46)).alloc (.cells #[.int .i64 a, .int .i64 b, .int .i64 c, .int .i64 d] 46) := by
  go_enter Try.func17, Try.ntmps17
  go_wp2
  exact bodyPost_ret (v := .agg #[.int .i64 a, .int .i64 b, .int .i64 c, .int .i64 d]) (by simp [results, Try.results17, go_sem]) rfl ⟨rfl, rfl⟩
set_option maxHeartbeats 400000 in
theorem toFracB_any (n e : Int) (w : World) : Calls Try.prog 18 #[.agg #[.int .i64 n, .int .i64 e]] w fun r w' => r = .returned (.agg #[.int .i64 n, .int .i64 e]) ∧ w' = ((w.alloc (.cells #[.int .i64 n, .int .i64 e] 45)).alloc (.cells #[.int .i64 n, .int .i64 e] 50)).alloc (.cells #[.int .i64 n, .int .i64 e] 50) := by
  go_enter Try.func18, Try.ntmps18
  go_wp2
  exact bodyPost_ret (v := .agg #[.int .i64 n, .int .i64 e]) (by simp [results, Try.results18, go_sem]) rfl ⟨rfl, rfl⟩
set_option maxHeartbeats 400000 in
theorem eqGas_any (a b c d : Int) (w : World) : Calls Try.prog 20 #[.agg #[.int .i64 a, .int .i64 b, .int .i64 c, .int .i64 d], .agg #[.int .i64 a, .int .i64 b, .int .i64 c, .int .i64 d]] w fun r w' => r = .returned (.bool true) ∧ Below w.heap.size w w' := by
  go_enter Try.func20, Try.ntmps20
  go_wp2
  go_ret
  exact ⟨rfl, (by repeat (first | with_reducible exact Below.refl _ _ | with_reducible refine Below.setCell ?_ (by first | omega | (simp; done) | (simp; omega)) _ | with_reducible refine bDrewN ?_ _ | with_reducible refine Below.drew ?_ | with_reducible refine Below.alloc ?_ (by first | omega | (simp; done) | (simp; omega)) _))⟩

set_option maxHeartbeats 1000000 in
theorem fnExactBalance_core (a b c d n e y0 y1 y2 y3 z : Int) (ok : Bool) (w : World)
    (H1 : Hid (∀ w, Calls Try.prog 16 #[.agg #[.int .i64 a, .int .i64 b, .int .i64 c, .int .i64 d], .agg #[.int .i64 n, .int .i64 e]] w fun r w' => r = .returned (.tuple #[.agg #[.int .i64 y0, .int .i64 y1, .int .i64 y2, .int .i64 y3], .int .i64 z, .bool ok]) ∧ Below w.heap.size w w'))
    (H2 : Hid (∀ w, Calls Try.prog 19 #[.agg #[.int .i64 a, .int .i64 b, .int .i64 c, .int .i64 d], .agg #[.int .i64 n, .int .i64 e]] w fun r w' => r = .returned (.tuple #[.agg #[.int .i64 y0, .int .i64 y1, .int .i64 y2, .int .i64 y3], .int .i64 z, .bool ok]) ∧ Below w.heap.size w w')) :
    Calls Try.prog 6 #[.agg #[.int .i64 a, .int .i64 b, .int .i64 c, .int .i64 d], .agg #[.int .i64 n, .int .i64 e]] w fun r w' => r = .returned (.bool true) ∧ Below w.heap.size w w' := by
  go_enter Try.func6, Try.ntmps6
  go_upto_region 1 with fail
  obtain ⟨W, hW⟩ : ∃ W, W = ((w.alloc (.cells #[.int .i64 a, .int .i64 b, .int .i64 c, .int .i64 d] 43)).alloc (.cells #[.int .i64 n, .int .i64 e] 45)) := ⟨_, rfl⟩
  rw [← hW]
  have q0 : W.cell? ⟨w.heap.size, 0, none⟩ = some (.int .i64 a) := by rw [hW]; simp [go_sem]
  have q1 : W.cell? ⟨w.heap.size, 1, none⟩ = some (.int .i64 b) := by rw [hW]; simp [go_sem]
  have q2 : W.cell? ⟨w.heap.size, 2, none⟩ = some (.int .i64 c) := by rw [hW]; simp [go_sem]
  have q3 : W.cell? ⟨w.heap.size, 3, none⟩ = some (.int .i64 d) := by rw [hW]; simp [go_sem]
  have r0 : W.cell? ⟨w.heap.size + 1, 0, none⟩ = some (.int .i64 n) := by rw [hW]; simp [go_sem]
  have r1 : W.cell? ⟨w.heap.size + 1, 1, none⟩ = some (.int .i64 e) := by rw [hW]; simp [go_sem]
  have v1 : w.heap.size + 1 < W.heap.size := by rw [hW]; simp
  have v0 : w.heap.size < W.heap.size := by omega
  have BW : Below w.heap.size w W := by rw [hW]; exact (by repeat (first | with_reducible exact Below.refl _ _ | with_reducible refine Below.setCell ?_ (by first | omega | (simp; done) | (simp; omega)) _ | with_reducible refine bDrewN ?_ _ | with_reducible refine Below.drew ?_ | with_reducible refine Below.alloc ?_ (by first | omega | (simp; done) | (simp; omega)) _))
  clear hW
  go_cut [5, 6, 7] (fun s t u wx => ∃ g : Nat, s = .pointer (some ⟨g, 0, none⟩) ∧ t = .int .i64 z ∧ u = .bool ok ∧ W.heap.size ≤ g ∧ g < wx.heap.size ∧ wx.cell? ⟨g, 0, none⟩ = some (.int .i64 y0) ∧ wx.cell? ⟨g, 1, none⟩ = some (.int .i64 y1) ∧ wx.cell? ⟨g, 2, none⟩ = some (.int .i64 y2) ∧ wx.cell? ⟨g, 3, none⟩ = some (.int .i64 y3) ∧ Below W.heap.size W wx)
  case first =>
    go_region_held3 (fun w' => w'.cell? ⟨w.heap.size, 0, none⟩ = some (.int .i64 a) ∧ w'.cell? ⟨w.heap.size, 1, none⟩ = some (.int .i64 b) ∧ w'.cell? ⟨w.heap.size, 2, none⟩ = some (.int .i64 c) ∧ w'.cell? ⟨w.heap.size, 3, none⟩ = some (.int .i64 d) ∧ w'.cell? ⟨w.heap.size + 1, 0, none⟩ = some (.int .i64 n) ∧ w'.cell? ⟨w.heap.size + 1, 1, none⟩ = some (.int .i64 e)) (first | (refine keep6 q0 q1 q2 q3 r0 r1 v0 v1 ?_; exact (by repeat (first | with_reducible exact Below.refl _ _ | with_reducible exact B3 | with_reducible exact B2 | with_reducible exact B1 | with_reducible refine Below.setCell ?_ (by first | omega | (simp; done) | (simp; omega)) _ | with_reducible refine bDrewN ?_ _ | with_reducible refine Below.drew ?_ | with_reducible refine Below.alloc ?_ (by first | omega | (simp; done) | (simp; omega)) _)))) (first
      | (go_at_call 17; refine (toGas_any a b c d _).mono ?_; rintro r w1 ⟨rfl, rfl⟩)
      | (go_at_call 18; refine (toFracB_any n e _).mono ?_; rintro r w2 ⟨rfl, rfl⟩)
      | (go_at_call 16; refine (H1.out _).mono ?_; rintro r w3 ⟨rfl, h3⟩; obtain ⟨hc3, hf3⟩ := bcell h3; have B3 : Below W.heap.size W w3 := Below.trans (by repeat (first | with_reducible exact Below.refl _ _ | with_reducible refine Below.setCell ?_ (by first | omega | (simp; done) | (simp; omega)) _ | with_reducible refine bDrewN ?_ _ | with_reducible refine Below.drew ?_ | with_reducible refine Below.alloc ?_ (by first | omega | (simp; done) | (simp; omega)) _)) (h3.mono (by first | omega | (simp; done) | (simp; omega))); have z3 := h3.size; simp at z3; have z3a : W.heap.size < w3.heap.size := (by omega)))
    all_goals
      go_wp2_with fail
      go_meet
      case rel =>
        refine ⟨_, rfl, rfl, rfl, ?_, ?_, ?_, ?_, ?_, ?_, (by repeat (first | with_reducible exact Below.refl _ _ | with_reducible exact B3 | with_reducible refine Below.setCell ?_ (by first | omega | (simp; done) | (simp; omega)) _ | with_reducible refine bDrewN ?_ _ | with_reducible refine Below.drew ?_ | with_reducible refine Below.alloc ?_ (by first | omega | (simp; done) | (simp; omega)) _))⟩
        all_goals first | omega | (simp [go_sem, *]; done) | (simp [go_sem, *, Nat.add_assoc]; done) | (simp; omega) | (simp [*]; omega)
  case rest =>
    obtain ⟨g, rfl, rfl, rfl, hg1, hg2, hg3, hg4, hg5, hg6, hB⟩ := hcut
    have p0 : wc.cell? ⟨w.heap.size, 0, none⟩ = some (.int .i64 a) := (hB.cell (p := ⟨w.heap.size, 0, none⟩) v0).trans q0
    have p1 : wc.cell? ⟨w.heap.size, 1, none⟩ = some (.int .i64 b) := (hB.cell (p := ⟨w.heap.size, 1, none⟩) v0).trans q1
    have p2 : wc.cell? ⟨w.heap.size, 2, none⟩ = some (.int .i64 c) := (hB.cell (p := ⟨w.heap.size, 2, none⟩) v0).trans q2
    have p3 : wc.cell? ⟨w.heap.size, 3, none⟩ = some (.int .i64 d) := (hB.cell (p := ⟨w.heap.size, 3, none⟩) v0).trans q3
    have t0 : wc.cell? ⟨w.heap.size + 1, 0, none⟩ = some (.int .i64 n) := (hB.cell (p := ⟨w.heap.size + 1, 0, none⟩) v1).trans r0
    have t1 : wc.cell? ⟨w.heap.size + 1, 1, none⟩ = some (.int .i64 e) := (hB.cell (p := ⟨w.heap.size + 1, 1, none⟩) v1).trans r1
    have x1 : w.heap.size + 1 < wc.heap.size := Nat.lt_of_lt_of_le v1 hB.size
    have x0 : w.heap.size < wc.heap.size := by omega
    have Bw : Below w.heap.size w wc := BW.trans (hB.mono (by omega))
    clear hB q0 q1 q2 q3 r0 r1 BW
    go_upto_region 2 with fail
    go_cut [8, 9, 10] (fun s t u wx => ∃ g : Nat, s = .pointer (some ⟨g, 0, none⟩) ∧ t = .int .i64 z ∧ u = .bool ok ∧ wc.heap.size ≤ g ∧ g < wx.heap.size ∧ wx.cell? ⟨g, 0, none⟩ = some (.int .i64 y0) ∧ wx.cell? ⟨g, 1, none⟩ = some (.int .i64 y1) ∧ wx.cell? ⟨g, 2, none⟩ = some (.int .i64 y2) ∧ wx.cell? ⟨g, 3, none⟩ = some (.int .i64 y3) ∧ Below wc.heap.size wc wx)
    case first =>
      go_region_held3 (fun w' => w'.cell? ⟨w.heap.size, 0, none⟩ = some (.int .i64 a) ∧ w'.cell? ⟨w.heap.size, 1, none⟩ = some (.int .i64 b) ∧ w'.cell? ⟨w.heap.size, 2, none⟩ = some (.int .i64 c) ∧ w'.cell? ⟨w.heap.size, 3, none⟩ = some (.int .i64 d) ∧ w'.cell? ⟨w.heap.size + 1, 0, none⟩ = some (.int .i64 n) ∧ w'.cell? ⟨w.heap.size + 1, 1, none⟩ = some (.int .i64 e)) (first | (refine keep6 p0 p1 p2 p3 t0 t1 x0 x1 ?_; exact (by repeat (first | with_reducible exact Below.refl _ _ | with_reducible exact B3 | with_reducible exact B2 | with_reducible exact B1 | with_reducible refine Below.setCell ?_ (by first | omega | (simp; done) | (simp; omega)) _ | with_reducible refine bDrewN ?_ _ | with_reducible refine Below.drew ?_ | with_reducible refine Below.alloc ?_ (by first | omega | (simp; done) | (simp; omega)) _)))) (first
      | (go_at_call 17; refine (toGas_any a b c d _).mono ?_; rintro r w1 ⟨rfl, rfl⟩)
      | (go_at_call 18; refine (toFracB_any n e _).mono ?_; rintro r w2 ⟨rfl, rfl⟩)
      | (go_at_call 19; refine (H2.out _).mono ?_; rintro r w3 ⟨rfl, h3⟩; obtain ⟨hc3, hf3⟩ := bcell h3; have B3 : Below wc.heap.size wc w3 := Below.trans (by repeat (first | with_reducible exact Below.refl _ _ | with_reducible refine Below.setCell ?_ (by first | omega | (simp; done) | (simp; omega)) _ | with_reducible refine bDrewN ?_ _ | with_reducible refine Below.drew ?_ | with_reducible refine Below.alloc ?_ (by first | omega | (simp; done) | (simp; omega)) _)) (h3.mono (by first | omega | (simp; done) | (simp; omega))); have z3 := h3.size; simp at z3; have z3a : wc.heap.size < w3.heap.size := (by omega)))
      all_goals
        go_wp2_with fail
        go_meet
        case rel =>
          refine ⟨_, rfl, rfl, rfl, ?_, ?_, ?_, ?_, ?_, ?_, (by repeat (first | with_reducible exact Below.refl _ _ | with_reducible exact B3 | with_reducible refine Below.setCell ?_ (by first | omega | (simp; done) | (simp; omega)) _ | with_reducible refine bDrewN ?_ _ | with_reducible refine Below.drew ?_ | with_reducible refine Below.alloc ?_ (by first | omega | (simp; done) | (simp; omega)) _))⟩
          all_goals first | omega | (simp [go_sem, *]; done) | (simp [go_sem, *, Nat.add_assoc]; done) | (simp; omega) | (simp [*]; omega)
    case rest =>
      obtain ⟨g', rfl, rfl, rfl, hk1, hk2, hk3, hk4, hk5, hk6, hB⟩ := hcut
      have u0 : wc.cell? ⟨g, 0, none⟩ = some (.int .i64 y0) := by rw [hB.cell hg2]; exact hg3
      have u1 : wc.cell? ⟨g, 1, none⟩ = some (.int .i64 y1) := by rw [hB.cell hg2]; exact hg4
      have u2 : wc.cell? ⟨g, 2, none⟩ = some (.int .i64 y2) := by rw [hB.cell hg2]; exact hg5
      have u3 : wc.cell? ⟨g, 3, none⟩ = some (.int .i64 y3) := by rw [hB.cell hg2]; exact hg6
      have Bx : Below w.heap.size w wc := Bw.trans (hB.mono (by omega))
      go_wp2_with fail
      refine (eqGas_any y0 y1 y2 y3 _).mono ?_
      rintro r w5 ⟨rfl, hb5⟩
      have B5 : Below w.heap.size w w5 := Bx.trans (hb5.mono Bx.size)
      go_wp2
      go_ret
      exact ⟨rfl, B5⟩

theorem balV_form {a b c d n e : Int} {v : Value} (h : balV a b c d n e v) : ∃ y0 y1 y2 y3 z ok, v = .tuple #[.agg #[.int .i64 y0, .int .i64 y1, .int .i64 y2, .int .i64 y3], .int .i64 z, .bool ok] := by
  rcases h with ⟨_, rfl⟩ | ⟨_, X, _, rfl⟩
  · exact ⟨_, _, _, _, _, _, rfl⟩
  · exact ⟨_, _, _, _, _, _, rfl⟩
theorem fnExactBalance_walk (a : Int) (wa : (Lit.int .i64 a).wf = true) (b : Int) (wb : (Lit.int .i64 b).wf = true) (c : Int) (wc : (Lit.int .i64 c).wf = true) (d : Int) (wd : (Lit.int .i64 d).wf = true) (n : Int) (wn : (Lit.int .i64 n).wf = true) (e : Int) (we : (Lit.int .i64 e).wf = true) (w : World) :
    Calls Try.prog 6 #[.agg #[.int .i64 a, .int .i64 b, .int .i64 c, .int .i64 d], .agg #[.int .i64 n, .int .i64 e]] w fun r w' => r = .returned (.bool true) ∧ Below w.heap.size w w' := by
  obtain ⟨h1, h2⟩ := bounds_i64 wn
  obtain ⟨h3, h4⟩ := bounds_i64 we
  obtain ⟨u, hu, S⟩ := specBalance_any a b c d n e h1 h2 h3 h4
  obtain ⟨v, hv, M⟩ := implBalance_any a b c d n e h1 h2 h3 h4
  obtain rfl := balV_one hu hv
  obtain ⟨y0, y1, y2, y3, z, ok, rfl⟩ := balV_form hu
  exact fnExactBalance_core a b c d n e y0 y1 y2 y3 z ok w S M

set_option maxRecDepth 100000 in
theorem fnExactBalance_lifted (os : Os) (started : os.Started) (H : Type) (enc : TypeId × Value → H) :
    ReturnsInHanded {} Try.checked os 6 .any (Rows.fnExactBalanceSpec.pre6 enc Try.prog Try.f6 Rows.fnExactBalanceRow.domain false) (Rows.fnExactBalanceSpec.post enc Try.prog Try.f6 false true false false) := by
  refine returnsInHanded_of_change (C := Try.checked) own started (by kernel_rfl) Try.func6
    (ChangeSpec.witness6 (enc := enc) (C := Try.checked) false ⟨#[], #[.agg #[.int .i64 0, .int .i64 0, .int .i64 0, .int .i64 0], .agg #[.int .i64 0, .int .i64 0]], []⟩ 8 (by kernel_rfl) (by kernel_rfl) (by kernel_rfl) (by kernel_rfl)) ?_
  intro W base args ds gs before hval0 hW hcnd _
  have hval : ∀ (j : Nat) t v, Try.f6.params[j]? = some t → args[j]? = some v → Value.okWide Try.prog W .any base t v := hval0
  have hW' := hW
  obtain ⟨p, q, hA0, hV, rfl, hfz, hnd⟩ := hW
  have hA : DataW.TrodAll enc Try.prog W 0 (fun _ => true) true Try.f6.params.toList args.toList ds p := hA0
  rw [Try.params6] at hA hval
  obtain ⟨v0, vs0, d0, ds0, p0, q0, hargs, rfl, rfl, h0, r0⟩ := trodAll_cons hA
  obtain ⟨v1, vs1, d1, ds1, p1, q1, rfl, rfl, rfl, h1, r1⟩ := trodAll_cons r0
  obtain ⟨rfl, rfl, rfl⟩ := trodAll_nil r1
  obtain rfl : args = #[v0, v1] := by cases args; simp_all
  obtain ⟨rfl, rfl⟩ := trodVars_none hV
  have k0 := h0
  have lt0 : ∀ x ∈ p0, x.block < W.heap.size := by obtain ⟨m, hm⟩ := k0; exact DataW.trod_lt m _ _ _ hm
  have k1 := h1
  have lt1 : ∀ x ∈ p1, x.block < W.heap.size := by obtain ⟨m, hm⟩ := k1; exact DataW.trod_lt m _ _ _ hm
  obtain ⟨vs0, rfl, c0⟩ := open_cells Try.underlying43 (ts := [2, 2, 2, 2]) (by kernel_rfl) (by kernel_rfl) (hval 0 43 v0 rfl rfl)
  obtain ⟨x0_0, r0_0, rfl, o0_0, c0_0⟩ := cellsOk_cons c0
  obtain ⟨a0_0, rfl, w0_0⟩ := cell_int Try.underlying2 o0_0
  obtain ⟨x0_1, r0_1, rfl, o0_1, c0_1⟩ := cellsOk_cons c0_0
  obtain ⟨a0_1, rfl, w0_1⟩ := cell_int Try.underlying2 o0_1
  obtain ⟨x0_2, r0_2, rfl, o0_2, c0_2⟩ := cellsOk_cons c0_1
  obtain ⟨a0_2, rfl, w0_2⟩ := cell_int Try.underlying2 o0_2
  obtain ⟨x0_3, r0_3, rfl, o0_3, c0_3⟩ := cellsOk_cons c0_2
  obtain ⟨a0_3, rfl, w0_3⟩ := cell_int Try.underlying2 o0_3
  obtain rfl := cellsOk_nil c0_3
  obtain ⟨vs1, rfl, c1⟩ := open_cells Try.underlying45 (ts := [2, 2]) (by kernel_rfl) (by kernel_rfl) (hval 1 45 v1 rfl rfl)
  obtain ⟨x1_0, r1_0, rfl, o1_0, c1_0⟩ := cellsOk_cons c1
  obtain ⟨a1_0, rfl, w1_0⟩ := cell_int Try.underlying2 o1_0
  obtain ⟨x1_1, r1_1, rfl, o1_1, c1_1⟩ := cellsOk_cons c1_0
  obtain ⟨a1_1, rfl, w1_1⟩ := cell_int Try.underlying2 o1_1
  obtain rfl := cellsOk_nil c1_1
  clear hA0 hval0
  refine (fnExactBalance_walk a0_0 w0_0 a0_1 w0_1 a0_2 w0_2 a0_3 w0_3 a1_0 w1_0 a1_1 w1_1 W).mono fun e W' ⟨he, bel⟩ => ?_
  subst he
  exact ⟨_, rfl, _, _, _, [], _, [], hW', trodAll_mk1 (shut_bool Try.underlying4 _), (trodAll_cons_mk (Below.trod laidOut (by kernel_rfl) (of_decide_eq_true (by kernel_rfl)) k0 bel lt0) (trodAll_cons_mk (Below.trod laidOut (by kernel_rfl) (of_decide_eq_true (by kernel_rfl)) k1 bel lt1) trodAll_mk0)), rfl, bel.frame _, fun h => by cases h⟩

theorem fnExactBalance_holds : Rows.FnExactBalanceSaid :=
  OpenClaim.holds_of_wide 6 Try.f6 rfl rfl rfl rfl rfl rfl rfl ⟨rfl, rfl, rfl, rfl, rfl⟩ rfl rfl rfl rfl rfl (by kernel_rfl) Try.func6 (by kernel_rfl)
    (of_decide_eq_true (by kernel_rfl)) (by unfold Func.isWrapper; first | (rw [if_pos (by decide +kernel)]; kernel_rfl) | (rw [if_neg (by decide +kernel)]; exact ⟨rfl, rfl⟩))
    (fun os started H enc _ => fnExactBalance_lifted os started H enc)
#print axioms fnExactBalance_holds
end Go.Proofs.Yteaohjcnlalapab
