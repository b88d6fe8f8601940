/-
What is proved: at every point, flag and float impl.Says answers as the specification's Says; no condition.
-/
import Derived.Test.YtjomflmmlmfipaaPtS
import Derived.Test.YtjomflmmlmfipaaPtI
namespace Go.Proofs.Ytjomflmmlmfipaa
set_option maxRecDepth 40000
open Go.ChangeShapes Go.WideShapes Go.ChangeAt Go.RowKit
set_option linter.unusedVariables false
set_option linter.unusedSimpArgs false

theorem store_fp : ∀ (W : World) (a : Addr) (x : Nat), (W.cell? a).isSome = true → W.frozen? a = false → (store a (.float .f64 x)).run Try.prog W = .ok () (W.setCell a (.float .f64 x)) := fun W a x h hf => by
  obtain ⟨u, hu⟩ := Option.isSome_iff_exists.1 h
  rw [run_store Try.prog W a _ _ rfl, hu]
  simp [hf]
set_option maxHeartbeats 800000 in
theorem toPoint_any (s r : Nat) (ab : Bool) (w : World) : Calls Try.prog 11 #[.agg #[.float .f64 s, .float .f64 r, .bool ab]] w fun e w' => e = .returned (.agg #[.float .f64 s, .float .f64 r, .bool ab]) ∧ Below w.heap.size w w' := by
  have st := store_fp
  go_enter Try.func11, Try.ntmps11
  go_wp2
  exact bodyPost_ret (v := .agg #[.float .f64 s, .float .f64 r, .bool ab]) (by simp [results, Try.results11, go_sem]) rfl ⟨rfl, (by repeat (first | with_reducible exact Below.refl _ _ | with_reducible refine Below.setCell ?_ (by first | omega | (simp; done) | (simp; omega)) _ | with_reducible refine bDrewN ?_ _ | with_reducible refine Below.drew ?_ | with_reducible refine Below.alloc ?_ (by first | omega | (simp; done) | (simp; omega)) _))⟩
set_option maxHeartbeats 2000000 in
theorem says_law (s r : Nat) (ab on : Bool) (x : Nat) (v : Int) (w : World) (H1 : Hid (∀ w, Calls Try.prog 10 #[.agg #[.float .f64 s, .float .f64 r, .bool ab], .bool on, .float .f64 x] w fun e w' => e = .returned (.int .i64 v) ∧ Below w.heap.size w w')) (H2 : Hid (∀ w, Calls Try.prog 12 #[.agg #[.float .f64 s, .float .f64 r, .bool ab], .bool on, .float .f64 x] w fun e w' => e = .returned (.int .i64 v) ∧ Below w.heap.size w w')) :
    Calls Try.prog 4 #[.agg #[.float .f64 s, .float .f64 r, .bool ab], .bool on, .float .f64 x] w fun e w' => e = .returned (.bool true) ∧ Below w.heap.size w w' := by
  go_enter Try.func4, Try.ntmps4
  go_wp2_with fail
  refine (toPoint_any s r ab _).mono ?_
  rintro e w1 ⟨rfl, h1⟩
  have c0 : w1.cell? ⟨w.heap.size, 0, none⟩ = some (.float .f64 s) := by rw [h1.cell (by first | omega | (simp; done) | (simp; omega))]; first | (simp; done) | (simp [go_sem]; done)
  have c1 : w1.cell? ⟨w.heap.size, 1, none⟩ = some (.float .f64 r) := by rw [h1.cell (by first | omega | (simp; done) | (simp; omega))]; first | (simp; done) | (simp [go_sem]; done)
  have c2 : w1.cell? ⟨w.heap.size, 2, none⟩ = some (.bool ab) := by rw [h1.cell (by first | omega | (simp; done) | (simp; omega))]; first | (simp; done) | (simp [go_sem]; done)
  have z0 : w.heap.size < w1.heap.size := by have := h1.size; simp at this; omega
  have B0 : Below w.heap.size w w1 := Below.trans (by repeat (first | with_reducible exact Below.refl _ _ | with_reducible refine Below.setCell ?_ (by first | omega | (simp; done) | (simp; omega)) _ | with_reducible refine bDrewN ?_ _ | with_reducible refine Below.drew ?_ | with_reducible refine Below.alloc ?_ (by first | omega | (simp; done) | (simp; omega)) _)) (h1.mono (by first | omega | (simp; done) | (simp; omega)))
  have s0 := B0.size
  clear h1
  go_wp2_with fail
  refine (H1.out _).mono ?_
  rintro e w2 ⟨rfl, h⟩
  replace c0 := (h.cell (p := ⟨w.heap.size, 0, none⟩) z0).trans c0
  replace c1 := (h.cell (p := ⟨w.heap.size, 1, none⟩) z0).trans c1
  replace c2 := (h.cell (p := ⟨w.heap.size, 2, none⟩) z0).trans c2
  replace z0 := Nat.lt_of_lt_of_le z0 h.size
  replace B0 : Below w.heap.size w w2 := B0.trans (h.mono s0)
  replace s0 := B0.size
  clear h
  go_wp2_with fail
  refine (toPoint_any s r ab _).mono ?_
  rintro e w3 ⟨rfl, h⟩
  replace c0 := (h.cell (p := ⟨w.heap.size, 0, none⟩) z0).trans c0
  replace c1 := (h.cell (p := ⟨w.heap.size, 1, none⟩) z0).trans c1
  replace c2 := (h.cell (p := ⟨w.heap.size, 2, none⟩) z0).trans c2
  replace z0 := Nat.lt_of_lt_of_le z0 h.size
  replace B0 : Below w.heap.size w w3 := B0.trans (h.mono s0)
  replace s0 := B0.size
  clear h
  go_wp2_with fail
  refine (H2.out _).mono ?_
  rintro e w4 ⟨rfl, h⟩
  replace c0 := (h.cell (p := ⟨w.heap.size, 0, none⟩) z0).trans c0
  replace c1 := (h.cell (p := ⟨w.heap.size, 1, none⟩) z0).trans c1
  replace c2 := (h.cell (p := ⟨w.heap.size, 2, none⟩) z0).trans c2
  replace z0 := Nat.lt_of_lt_of_le z0 h.size
  replace B0 : Below w.heap.size w w4 := B0.trans (h.mono s0)
  replace s0 := B0.size
  clear h
  go_wp2
  go_ret
  exact ⟨rfl, B0⟩
theorem fnExactSays_walk (s : Nat) (ws : (Lit.float .f64 s).wf = true) (r : Nat) (wr : (Lit.float .f64 r).wf = true) (ab on : Bool) (x : Nat) (wx : (Lit.float .f64 x).wf = true) (w : World) :
    Calls Try.prog 4 #[.agg #[.float .f64 s, .float .f64 r, .bool ab], .bool on, .float .f64 x] w fun e w' => e = .returned (.bool true) ∧ Below w.heap.size w w' :=
  says_law s r ab on x _ w (fun w => specSays_any s r ab (f64w_lt ws) (f64w_lt wr) on x w) (fun w => implSays_any s r ab (f64w_lt ws) (f64w_lt wr) on x (f64w_lt wx) w)

set_option maxRecDepth 100000 in
theorem fnExactSays_lifted (os : Os) (started : os.Started) (H : Type) (enc : TypeId × Value → H) :
    ReturnsInHanded {} Try.checked os 4 .any (Rows.fnExactSaysSpec.pre6 enc Try.prog Try.f4 Rows.fnExactSaysRow.domain false) (Rows.fnExactSaysSpec.post enc Try.prog Try.f4 false true false false) := by
  refine returnsInHanded_of_change (C := Try.checked) own started (by kernel_rfl) Try.func4
    (ChangeSpec.witness6 (enc := enc) (C := Try.checked) false ⟨#[], #[.agg #[.float .f64 0, .float .f64 0, .bool false], .bool false, .float .f64 0], []⟩ 8 (by kernel_rfl) (by kernel_rfl) (by kernel_rfl) (by kernel_rfl)) ?_
  intro W base args ds gs before hval0 hW hcnd _
  have hval : ∀ (j : Nat) t v, Try.f4.params[j]? = some t → args[j]? = some v → Value.okWide Try.prog W .any base t v := hval0
  have hW' := hW
  obtain ⟨p, q, hA0, hV, rfl, hfz, hnd⟩ := hW
  have hA : DataW.TrodAll enc Try.prog W 0 (fun _ => true) true Try.f4.params.toList args.toList ds p := hA0
  rw [Try.params4] at hA hval
  obtain ⟨v0, vs0, d0, ds0, p0, q0, hargs, rfl, rfl, h0, r0⟩ := trodAll_cons hA
  obtain ⟨v1, vs1, d1, ds1, p1, q1, rfl, rfl, rfl, h1, r1⟩ := trodAll_cons r0
  obtain ⟨v2, vs2, d2, ds2, p2, q2, rfl, rfl, rfl, h2, r2⟩ := trodAll_cons r1
  obtain ⟨rfl, rfl, rfl⟩ := trodAll_nil r2
  obtain rfl : args = #[v0, v1, v2] := by cases args; simp_all
  obtain ⟨rfl, rfl⟩ := trodVars_none hV
  have k0 := h0
  have lt0 : ∀ x ∈ p0, x.block < W.heap.size := by obtain ⟨m, hm⟩ := k0; exact DataW.trod_lt m _ _ _ hm
  have k1 := h1
  have lt1 : ∀ x ∈ p1, x.block < W.heap.size := by obtain ⟨m, hm⟩ := k1; exact DataW.trod_lt m _ _ _ hm
  have k2 := h2
  have lt2 : ∀ x ∈ p2, x.block < W.heap.size := by obtain ⟨m, hm⟩ := k2; exact DataW.trod_lt m _ _ _ hm
  obtain ⟨vs0, rfl, c0⟩ := open_cells Try.underlying29 (ts := [27, 27, 4]) (by kernel_rfl) (by kernel_rfl) (hval 0 29 v0 rfl rfl)
  obtain ⟨x0_0, r0_0, rfl, o0_0, c0_0⟩ := cellsOk_cons c0
  obtain ⟨a0_0, rfl, w0_0⟩ := cell_float Try.underlying27 o0_0
  obtain ⟨x0_1, r0_1, rfl, o0_1, c0_1⟩ := cellsOk_cons c0_0
  obtain ⟨a0_1, rfl, w0_1⟩ := cell_float Try.underlying27 o0_1
  obtain ⟨x0_2, r0_2, rfl, o0_2, c0_2⟩ := cellsOk_cons c0_1
  obtain ⟨a0_2, rfl⟩ := cell_bool Try.underlying4 o0_2
  obtain rfl := cellsOk_nil c0_2
  obtain ⟨a1, rfl, rfl, rfl⟩ := open_bool Try.underlying4 (hval 1 4 v1 rfl rfl) h1
  obtain ⟨a2, rfl, rfl, rfl, w2⟩ := open_float Try.underlying27 (hval 2 27 v2 rfl rfl) h2
  clear hA0 hval0
  refine (fnExactSays_walk a0_0 w0_0 a0_1 w0_1 a0_2 a1 a2 w2 W).mono fun e W' ⟨he, bel⟩ => ?_
  subst he
  exact ⟨_, rfl, _, _, _, [], _, [], hW', trodAll_mk1 (shut_bool Try.underlying4 _), (trodAll_cons_mk (Below.trod laidOut (by kernel_rfl) (of_decide_eq_true (by kernel_rfl)) k0 bel lt0) (trodAll_cons_mk (Below.trod laidOut (by kernel_rfl) (of_decide_eq_true (by kernel_rfl)) k1 bel lt1) (trodAll_cons_mk (Below.trod laidOut (by kernel_rfl) (of_decide_eq_true (by kernel_rfl)) k2 bel lt2) trodAll_mk0))), rfl, bel.frame _, fun h => by cases h⟩

theorem fnExactSays_holds : Rows.FnExactSaysSaid :=
  OpenClaim.holds_of_wide 4 Try.f4 rfl rfl rfl rfl rfl rfl rfl ⟨rfl, rfl, rfl, rfl, rfl⟩ rfl rfl rfl rfl rfl (by kernel_rfl) Try.func4 (by kernel_rfl)
    (of_decide_eq_true (by kernel_rfl)) (by unfold Func.isWrapper; first | (rw [if_pos (by decide +kernel)]; kernel_rfl) | (rw [if_neg (by decide +kernel)]; exact ⟨rfl, rfl⟩))
    (fun os started H enc _ => fnExactSays_lifted os started H enc)
#print axioms fnExactSays_holds
end Go.Proofs.Ytjomflmmlmfipaa
