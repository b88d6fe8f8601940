/-
What is proved: at every three pairs and every distance impl.Closes answers as the specification's Closes; no condition.
-/
import Derived.Test.YtooanlcpbebhlaaClosesS
import Derived.Deep.RegionHeld3
import Derived.Deep.DeepCutAuto
namespace Go.Proofs.Ytooanlcpbebhlaa
set_option maxRecDepth 40000
open Go.ChangeShapes Go.WideShapes Go.ChangeAt Go.RowKit
set_option linter.unusedVariables false
set_option linter.unusedSimpArgs false

theorem f64_lt {x : Nat} (h : (Lit.float .f64 x).wf = true) : x < 18446744073709551616 := by
  simpa [Lit.wf] using h

theorem keepCloses {W W' : World} {p0 p1 p2 : Nat} {a0 a1 a2 a3 a4 a5 : Value} (h0 : W.cell? ⟨p0, 0, none⟩ = some a0) (h1 : W.cell? ⟨p0, 1, none⟩ = some a1) (h2 : W.cell? ⟨p1, 0, none⟩ = some a2) (h3 : W.cell? ⟨p1, 1, none⟩ = some a3) (h4 : W.cell? ⟨p2, 0, none⟩ = some a4) (h5 : W.cell? ⟨p2, 1, none⟩ = some a5) (z0 : p0 < W.heap.size) (z1 : p1 < W.heap.size) (z2 : p2 < W.heap.size) (hb : Below W.heap.size W W') : W'.cell? ⟨p0, 0, none⟩ = some a0 ∧ W'.cell? ⟨p0, 1, none⟩ = some a1 ∧ W'.cell? ⟨p1, 0, none⟩ = some a2 ∧ W'.cell? ⟨p1, 1, none⟩ = some a3 ∧ W'.cell? ⟨p2, 0, none⟩ = some a4 ∧ W'.cell? ⟨p2, 1, none⟩ = some a5 :=
  ⟨(hb.cell (p := ⟨p0, 0, none⟩) z0).trans h0, (hb.cell (p := ⟨p0, 1, none⟩) z0).trans h1, (hb.cell (p := ⟨p1, 0, none⟩) z1).trans h2, (hb.cell (p := ⟨p1, 1, none⟩) z1).trans h3, (hb.cell (p := ⟨p2, 0, none⟩) z2).trans h4, (hb.cell (p := ⟨p2, 1, none⟩) z2).trans h5⟩

set_option maxHeartbeats 2000000 in
theorem fnExactCloses_core (x y z u p m1 m2 : Nat) (r : Bool) (w : World)
    (H1 : Hid (∀ w, Calls Try.prog 19 #[.agg #[.float .f64 x, .float .f64 y], .agg #[.float .f64 z, .float .f64 u], .float .f64 p, .agg #[.float .f64 m1, .float .f64 m2]] w fun e w' => e = .returned (.bool r) ∧ Below w.heap.size w w'))
    (H2 : Hid (∀ w, Calls Try.prog 20 #[.agg #[.float .f64 x, .float .f64 y], .agg #[.float .f64 z, .float .f64 u], .float .f64 p, .agg #[.float .f64 m1, .float .f64 m2]] w fun e w' => e = .returned (.bool r) ∧ Below w.heap.size w w')) :
    Calls Try.prog 6 #[.agg #[.float .f64 x, .float .f64 y], .agg #[.float .f64 z, .float .f64 u], .float .f64 p, .agg #[.float .f64 m1, .float .f64 m2]] w fun e w' => e = .returned (.bool true) ∧ Below w.heap.size w w' := by
  have st := store_fp
  go_enter Try.func6, Try.ntmps6
  go_upto_region 1 with fail
  go_cut [9] (fun s wx => s = .bool r ∧ Below (((w.alloc (.cells #[.float .f64 x, .float .f64 y] 24)).alloc (.cells #[.float .f64 z, .float .f64 u] 24)).alloc (.cells #[.float .f64 m1, .float .f64 m2] 24)).heap.size (((w.alloc (.cells #[.float .f64 x, .float .f64 y] 24)).alloc (.cells #[.float .f64 z, .float .f64 u] 24)).alloc (.cells #[.float .f64 m1, .float .f64 m2] 24)) wx)
  case first =>
    go_region_held3 (fun w' => w'.cell? ⟨w.heap.size, 0, none⟩ = some (.float .f64 x) ∧ w'.cell? ⟨w.heap.size, 1, none⟩ = some (.float .f64 y) ∧ w'.cell? ⟨w.heap.size + 1, 0, none⟩ = some (.float .f64 z) ∧ w'.cell? ⟨w.heap.size + 1, 1, none⟩ = some (.float .f64 u) ∧ w'.cell? ⟨w.heap.size + 1 + 1, 0, none⟩ = some (.float .f64 m1) ∧ w'.cell? ⟨w.heap.size + 1 + 1, 1, none⟩ = some (.float .f64 m2)) (first | (simp [go_sem]; done) | (simp [go_sem, *]; done)) (first
        | (go_at_call_of 10 (Value.float FloatKind.f64 x); refine (toPair_any x y _).mono ?_; rintro e w1 ⟨rfl, rfl⟩)
        | (go_at_call_of 10 (Value.float FloatKind.f64 z); refine (toPair_any z u _).mono ?_; rintro e w1 ⟨rfl, rfl⟩)
        | (go_at_call_of 10 (Value.float FloatKind.f64 m1); refine (toPair_any m1 m2 _).mono ?_; rintro e w1 ⟨rfl, rfl⟩)
        | (go_at_call 19; refine (H1.out _).mono ?_; rintro e w3 ⟨rfl, hx3⟩; obtain ⟨hc3, hf3⟩ := bcell hx3; have B3 : Below (((w.alloc (.cells #[.float .f64 x, .float .f64 y] 24)).alloc (.cells #[.float .f64 z, .float .f64 u] 24)).alloc (.cells #[.float .f64 m1, .float .f64 m2] 24)).heap.size (((w.alloc (.cells #[.float .f64 x, .float .f64 y] 24)).alloc (.cells #[.float .f64 z, .float .f64 u] 24)).alloc (.cells #[.float .f64 m1, .float .f64 m2] 24)) w3 := Below.trans (by repeat (first | with_reducible exact Below.refl _ _ | with_reducible refine Below.setCell ?_ (by first | omega | (simp; done) | (simp; omega)) _ | with_reducible refine bDrewN ?_ _ | with_reducible refine Below.drew ?_ | with_reducible refine Below.alloc ?_ (by first | omega | (simp; done) | (simp; omega)) _)) (hx3.mono (by first | omega | (simp; done) | (simp; omega))); have s3 := hx3.size; simp at s3; have z30 : w.heap.size < w3.heap.size := (by omega); have z31 : w.heap.size + 1 < w3.heap.size := (by omega); have z32 : w.heap.size + 1 + 1 < w3.heap.size := (by omega)))
    all_goals
      go_wp2_with fail
      go_meet
      case rel =>
        exact ⟨rfl, (by repeat (first | with_reducible exact Below.refl _ _ | with_reducible exact B3 | with_reducible refine Below.setCell ?_ (by first | omega | (simp; done) | (simp; omega)) _ | with_reducible refine bDrewN ?_ _ | with_reducible refine Below.drew ?_ | with_reducible refine Below.alloc ?_ (by first | omega | (simp; done) | (simp; omega)) _))⟩
  case rest =>
    obtain ⟨rfl, hB⟩ := hcut
    have q0 : wc.cell? ⟨w.heap.size, 0, none⟩ = some (.float .f64 x) := by rw [hB.cell (by first | omega | (simp; done) | (simp; omega))]; simp [go_sem]
    have q1 : wc.cell? ⟨w.heap.size, 1, none⟩ = some (.float .f64 y) := by rw [hB.cell (by first | omega | (simp; done) | (simp; omega))]; simp [go_sem]
    have q2 : wc.cell? ⟨w.heap.size + 1, 0, none⟩ = some (.float .f64 z) := by rw [hB.cell (by first | omega | (simp; done) | (simp; omega))]; simp [go_sem]
    have q3 : wc.cell? ⟨w.heap.size + 1, 1, none⟩ = some (.float .f64 u) := by rw [hB.cell (by first | omega | (simp; done) | (simp; omega))]; simp [go_sem]
    have q4 : wc.cell? ⟨w.heap.size + 1 + 1, 0, none⟩ = some (.float .f64 m1) := by rw [hB.cell (by first | omega | (simp; done) | (simp; omega))]; simp [go_sem]
    have q5 : wc.cell? ⟨w.heap.size + 1 + 1, 1, none⟩ = some (.float .f64 m2) := by rw [hB.cell (by first | omega | (simp; done) | (simp; omega))]; simp [go_sem]
    have hg2 := hB.size
    simp at hg2
    have z0 : w.heap.size < wc.heap.size := by omega
    have z1 : w.heap.size + 1 < wc.heap.size := by omega
    have z2 : w.heap.size + 1 + 1 < wc.heap.size := by omega
    have Bw : Below w.heap.size w wc := Below.trans (by repeat (first | with_reducible exact Below.refl _ _ | with_reducible refine Below.setCell ?_ (by first | omega | (simp; done) | (simp; omega)) _ | with_reducible refine bDrewN ?_ _ | with_reducible refine Below.drew ?_ | with_reducible refine Below.alloc ?_ (by first | omega | (simp; done) | (simp; omega)) _)) (hB.mono (by first | omega | (simp; done) | (simp; omega)))
    clear hB
    go_upto_region 2 with fail
    go_cut [10] (fun s wx => s = .bool r ∧ Below wc.heap.size wc wx)
    case first =>
      go_region_held3 (fun w' => w'.cell? ⟨w.heap.size, 0, none⟩ = some (.float .f64 x) ∧ w'.cell? ⟨w.heap.size, 1, none⟩ = some (.float .f64 y) ∧ w'.cell? ⟨w.heap.size + 1, 0, none⟩ = some (.float .f64 z) ∧ w'.cell? ⟨w.heap.size + 1, 1, none⟩ = some (.float .f64 u) ∧ w'.cell? ⟨w.heap.size + 1 + 1, 0, none⟩ = some (.float .f64 m1) ∧ w'.cell? ⟨w.heap.size + 1 + 1, 1, none⟩ = some (.float .f64 m2)) (first | (refine keepCloses q0 q1 q2 q3 q4 q5 z0 z1 z2 ?_; exact (by repeat (first | with_reducible exact Below.refl _ _ | with_reducible exact B3 | with_reducible refine Below.setCell ?_ (by first | omega | (simp; done) | (simp; omega)) _ | with_reducible refine bDrewN ?_ _ | with_reducible refine Below.drew ?_ | with_reducible refine Below.alloc ?_ (by first | omega | (simp; done) | (simp; omega)) _)))) (first
          | (go_at_call_of 10 (Value.float FloatKind.f64 x); refine (toPair_any x y _).mono ?_; rintro e w1 ⟨rfl, rfl⟩)
          | (go_at_call_of 10 (Value.float FloatKind.f64 z); refine (toPair_any z u _).mono ?_; rintro e w1 ⟨rfl, rfl⟩)
          | (go_at_call_of 10 (Value.float FloatKind.f64 m1); refine (toPair_any m1 m2 _).mono ?_; rintro e w1 ⟨rfl, rfl⟩)
          | (go_at_call 20; refine (H2.out _).mono ?_; rintro e w3 ⟨rfl, hx3⟩; obtain ⟨hc3, hf3⟩ := bcell hx3; have B3 : Below wc.heap.size wc w3 := Below.trans (by repeat (first | with_reducible exact Below.refl _ _ | with_reducible refine Below.setCell ?_ (by first | omega | (simp; done) | (simp; omega)) _ | with_reducible refine bDrewN ?_ _ | with_reducible refine Below.drew ?_ | with_reducible refine Below.alloc ?_ (by first | omega | (simp; done) | (simp; omega)) _)) (hx3.mono (by first | omega | (simp; done) | (simp; omega))); have s3 := hx3.size; simp at s3; have z30 : w.heap.size < w3.heap.size := (by omega); have z31 : w.heap.size + 1 < w3.heap.size := (by omega); have z32 : w.heap.size + 1 + 1 < w3.heap.size := (by omega)))
      all_goals
        go_wp2_with fail
        go_meet
        case rel =>
          exact ⟨rfl, (by repeat (first | with_reducible exact Below.refl _ _ | with_reducible exact B3 | with_reducible refine Below.setCell ?_ (by first | omega | (simp; done) | (simp; omega)) _ | with_reducible refine bDrewN ?_ _ | with_reducible refine Below.drew ?_ | with_reducible refine Below.alloc ?_ (by first | omega | (simp; done) | (simp; omega)) _))⟩
    case rest =>
      obtain ⟨rfl, hB⟩ := hcut
      have Bx : Below w.heap.size w wc := Bw.trans (hB.mono (by first | omega | (simp; done) | (simp; omega)))
      go_wp2
      go_ret
      exact ⟨rfl, Bx⟩

theorem fnExactCloses_walk (x : Nat) (wx : (Lit.float .f64 x).wf = true) (y : Nat) (wy : (Lit.float .f64 y).wf = true) (z : Nat) (wz : (Lit.float .f64 z).wf = true) (u : Nat) (wu : (Lit.float .f64 u).wf = true) (p : Nat) (wp : (Lit.float .f64 p).wf = true) (m1 : Nat) (wm1 : (Lit.float .f64 m1).wf = true) (m2 : Nat) (wm2 : (Lit.float .f64 m2).wf = true) (w : World) :
    Calls Try.prog 6 #[.agg #[.float .f64 x, .float .f64 y], .agg #[.float .f64 z, .float .f64 u], .float .f64 p, .agg #[.float .f64 m1, .float .f64 m2]] w fun e w' => e = .returned (.bool true) ∧ Below w.heap.size w w' := by
  have hx := fl_of x (f64_lt wx)
  have hy := fl_of y (f64_lt wy)
  have hz := fl_of z (f64_lt wz)
  have hu := fl_of u (f64_lt wu)
  have hp := fl_of p (f64_lt wp)
  have hm1 := fl_of m1 (f64_lt wm1)
  have hm2 := fl_of m2 (f64_lt wm2)
  exact fnExactCloses_core x y z u p m1 m2 _ w (fun w => specCloses_any hx hy hz hu hp hm1 hm2 w) (fun w => implCloses_any hx hy hz hu hp hm1 hm2 w)

set_option maxRecDepth 100000 in
theorem fnExactCloses_lifted (os : Os) (started : os.Started) (H : Type) (enc : TypeId × Value → H) :
    ReturnsInHanded {} Try.checked os 6 .any (Rows.fnExactClosesSpec.pre6 enc Try.prog Try.f6 Rows.fnExactClosesRow.domain false) (Rows.fnExactClosesSpec.post enc Try.prog Try.f6 false true false false) := by
  refine returnsInHanded_of_change (C := Try.checked) own started (by kernel_rfl) Try.func6
    (ChangeSpec.witness6 (enc := enc) (C := Try.checked) false ⟨#[], #[.agg #[.float .f64 0, .float .f64 0], .agg #[.float .f64 0, .float .f64 0], .float .f64 0, .agg #[.float .f64 0, .float .f64 0]], []⟩ 8 (by kernel_rfl) (by kernel_rfl) (by kernel_rfl) (by kernel_rfl)) ?_
  intro W base args ds gs before hval0 hW hcnd _
  have hval : ∀ (j : Nat) t v, Try.f6.params[j]? = some t → args[j]? = some v → Value.okWide Try.prog W .any base t v := hval0
  have hW' := hW
  obtain ⟨p, q, hA0, hV, rfl, hfz, hnd⟩ := hW
  have hA : DataW.TrodAll enc Try.prog W 0 (fun _ => true) true Try.f6.params.toList args.toList ds p := hA0
  rw [Try.params6] at hA hval
  obtain ⟨v0, vs0, d0, ds0, p0, q0, hargs, rfl, rfl, h0, r0⟩ := trodAll_cons hA
  obtain ⟨v1, vs1, d1, ds1, p1, q1, rfl, rfl, rfl, h1, r1⟩ := trodAll_cons r0
  obtain ⟨v2, vs2, d2, ds2, p2, q2, rfl, rfl, rfl, h2, r2⟩ := trodAll_cons r1
  obtain ⟨v3, vs3, d3, ds3, p3, q3, rfl, rfl, rfl, h3, r3⟩ := trodAll_cons r2
  obtain ⟨rfl, rfl, rfl⟩ := trodAll_nil r3
  obtain rfl : args = #[v0, v1, v2, v3] := by cases args; simp_all
  obtain ⟨rfl, rfl⟩ := trodVars_none hV
  have k0 := h0
  have lt0 : ∀ x ∈ p0, x.block < W.heap.size := by obtain ⟨m, hm⟩ := k0; exact DataW.trod_lt m _ _ _ hm
  have k1 := h1
  have lt1 : ∀ x ∈ p1, x.block < W.heap.size := by obtain ⟨m, hm⟩ := k1; exact DataW.trod_lt m _ _ _ hm
  have k2 := h2
  have lt2 : ∀ x ∈ p2, x.block < W.heap.size := by obtain ⟨m, hm⟩ := k2; exact DataW.trod_lt m _ _ _ hm
  have k3 := h3
  have lt3 : ∀ x ∈ p3, x.block < W.heap.size := by obtain ⟨m, hm⟩ := k3; exact DataW.trod_lt m _ _ _ hm
  obtain ⟨vs0, rfl, c0⟩ := open_cells Try.underlying24 (ts := [22, 22]) (by kernel_rfl) (by kernel_rfl) (hval 0 24 v0 rfl rfl)
  obtain ⟨x0_0, r0_0, rfl, o0_0, c0_0⟩ := cellsOk_cons c0
  obtain ⟨a0_0, rfl, w0_0⟩ := cell_float Try.underlying22 o0_0
  obtain ⟨x0_1, r0_1, rfl, o0_1, c0_1⟩ := cellsOk_cons c0_0
  obtain ⟨a0_1, rfl, w0_1⟩ := cell_float Try.underlying22 o0_1
  obtain rfl := cellsOk_nil c0_1
  obtain ⟨vs1, rfl, c1⟩ := open_cells Try.underlying24 (ts := [22, 22]) (by kernel_rfl) (by kernel_rfl) (hval 1 24 v1 rfl rfl)
  obtain ⟨x1_0, r1_0, rfl, o1_0, c1_0⟩ := cellsOk_cons c1
  obtain ⟨a1_0, rfl, w1_0⟩ := cell_float Try.underlying22 o1_0
  obtain ⟨x1_1, r1_1, rfl, o1_1, c1_1⟩ := cellsOk_cons c1_0
  obtain ⟨a1_1, rfl, w1_1⟩ := cell_float Try.underlying22 o1_1
  obtain rfl := cellsOk_nil c1_1
  obtain ⟨a2, rfl, rfl, rfl, w2⟩ := open_float Try.underlying22 (hval 2 22 v2 rfl rfl) h2
  obtain ⟨vs3, rfl, c3⟩ := open_cells Try.underlying24 (ts := [22, 22]) (by kernel_rfl) (by kernel_rfl) (hval 3 24 v3 rfl rfl)
  obtain ⟨x3_0, r3_0, rfl, o3_0, c3_0⟩ := cellsOk_cons c3
  obtain ⟨a3_0, rfl, w3_0⟩ := cell_float Try.underlying22 o3_0
  obtain ⟨x3_1, r3_1, rfl, o3_1, c3_1⟩ := cellsOk_cons c3_0
  obtain ⟨a3_1, rfl, w3_1⟩ := cell_float Try.underlying22 o3_1
  obtain rfl := cellsOk_nil c3_1
  clear hA0 hval0
  refine (fnExactCloses_walk a0_0 w0_0 a0_1 w0_1 a1_0 w1_0 a1_1 w1_1 a2 w2 a3_0 w3_0 a3_1 w3_1 W).mono fun e W' ⟨he, bel⟩ => ?_
  subst he
  exact ⟨_, rfl, _, _, _, [], _, [], hW', trodAll_mk1 (shut_bool Try.underlying4 _), (trodAll_cons_mk (Below.trod laidOut (by kernel_rfl) (of_decide_eq_true (by kernel_rfl)) k0 bel lt0) (trodAll_cons_mk (Below.trod laidOut (by kernel_rfl) (of_decide_eq_true (by kernel_rfl)) k1 bel lt1) (trodAll_cons_mk (Below.trod laidOut (by kernel_rfl) (of_decide_eq_true (by kernel_rfl)) k2 bel lt2) (trodAll_cons_mk (Below.trod laidOut (by kernel_rfl) (of_decide_eq_true (by kernel_rfl)) k3 bel lt3) trodAll_mk0)))), rfl, bel.frame _, fun h => by cases h⟩

theorem fnExactCloses_holds : Rows.FnExactClosesSaid :=
  OpenClaim.holds_of_wide 6 Try.f6 rfl rfl rfl rfl rfl rfl rfl ⟨rfl, rfl, rfl, rfl, rfl⟩ rfl rfl rfl rfl rfl (by kernel_rfl) Try.func6 (by kernel_rfl)
    (of_decide_eq_true (by kernel_rfl)) (by unfold Func.isWrapper; first | (rw [if_pos (by decide +kernel)]; kernel_rfl) | (rw [if_neg (by decide +kernel)]; exact ⟨rfl, rfl⟩))
    (fun os started H enc _ => fnExactCloses_lifted os started H enc)
#print axioms fnExactCloses_holds
end Go.Proofs.Ytooanlcpbebhlaa
