/-
What is proved: at every battery and every list of loads impl.Lasts answers as the specification's Lasts and leaves the list as it was; no condition.
-/
import Derived.Test.YtdoekgnmbdekgaaLasS
import Derived.Test.YtdoekgnmbdekgaaLasI
import Derived.Test.YtdoekgnmbdekgaaI64C
import Derived.Test.YtdoekgnmbdekgaaOpenI
namespace Go.Proofs.Ytdoekgnmbdekgaa
set_option maxRecDepth 40000
open Go.ChangeShapes Go.WideShapes Go.ChangeAt Go.RowKit
set_option linter.unusedVariables false
set_option linter.unusedSimpArgs false

set_option maxRecDepth 20000 in
set_option maxHeartbeats 4000000 in
theorem lasts_near (w : World) (C M G F : Int) (s : Option Addr) (n c : Nat) (V : Nat → Int) (hn : (n : Int) ≤ 1048576) (HR : Hid (RowI w s n V)) (y : Int)
    (H1 : Hid (∀ s c w, RowI w s n V → Calls Try.prog 18 #[.agg #[.int .i64 C, .int .i64 M, .int .i64 G, .int .i64 F], .slice s n c] w fun e w' => e = .returned (.int .i64 y) ∧ Below w.heap.size w w'))
    (H2 : Hid (∀ s c w, RowI w s n V → Calls Try.prog 19 #[.agg #[.int .i64 C, .int .i64 M, .int .i64 G, .int .i64 F], .slice s n c] w fun e w' => e = .returned (.int .i64 y) ∧ Below w.heap.size w w')) :
    Calls Try.prog 5 #[.agg #[.int .i64 C, .int .i64 M, .int .i64 G, .int .i64 F], .slice s n c] w fun e w' => e = .returned (.bool true) ∧ Below w.heap.size w w' := by
  go_enter Try.func5, Try.ntmps5
  go_wp2_with fail
  refine (toBattery_below C M G F _).mono ?_
  rintro e w1 ⟨rfl, h1⟩
  have c0 : w1.cell? ⟨w.heap.size, 0, none⟩ = some (.int .i64 C) := by rw [h1.cell (by first | omega | (simp; done) | (simp; omega))]; first | (simp; done) | (simp [go_sem]; done)
  have c1 : w1.cell? ⟨w.heap.size, 1, none⟩ = some (.int .i64 M) := by rw [h1.cell (by first | omega | (simp; done) | (simp; omega))]; first | (simp; done) | (simp [go_sem]; done)
  have c2 : w1.cell? ⟨w.heap.size, 2, none⟩ = some (.int .i64 G) := by rw [h1.cell (by first | omega | (simp; done) | (simp; omega))]; first | (simp; done) | (simp [go_sem]; done)
  have c3 : w1.cell? ⟨w.heap.size, 3, none⟩ = some (.int .i64 F) := by rw [h1.cell (by first | omega | (simp; done) | (simp; omega))]; first | (simp; done) | (simp [go_sem]; done)
  have z0 : w.heap.size < w1.heap.size := by have := h1.size; simp at this; omega
  have B0 : Below w.heap.size w w1 := Below.trans (by repeat (first | with_reducible exact Below.refl _ _ | with_reducible refine Below.setCell ?_ (by first | omega | (simp; done) | (simp; omega)) _ | with_reducible refine bDrewN ?_ _ | with_reducible refine Below.drew ?_ | with_reducible refine Below.alloc ?_ (by first | omega | (simp; done) | (simp; omega)) _)) (h1.mono (by first | omega | (simp; done) | (simp; omega)))
  have s0 := B0.size
  clear h1
  go_wp2_with fail
  refine (toInt64S_any _ n _ V _ hn (HR.out.below B0)).mono ?_
  rintro e w2 ⟨rfl, zz, O, h⟩
  replace c0 := (h.cell (p := ⟨w.heap.size, 0, none⟩) z0).trans c0
  replace c1 := (h.cell (p := ⟨w.heap.size, 1, none⟩) z0).trans c1
  replace c2 := (h.cell (p := ⟨w.heap.size, 2, none⟩) z0).trans c2
  replace c3 := (h.cell (p := ⟨w.heap.size, 3, none⟩) z0).trans c3
  replace z0 := Nat.lt_of_lt_of_le z0 h.size
  replace B0 : Below w.heap.size w w2 := B0.trans (h.mono s0)
  replace s0 := B0.size
  have Pa : Hid (RowI w2 _ n V) := O.row
  clear h O zz
  go_wp2_with fail
  refine (H1.out _ _ _ Pa.out).mono ?_
  rintro e w3 ⟨rfl, h⟩
  replace c0 := (h.cell (p := ⟨w.heap.size, 0, none⟩) z0).trans c0
  replace c1 := (h.cell (p := ⟨w.heap.size, 1, none⟩) z0).trans c1
  replace c2 := (h.cell (p := ⟨w.heap.size, 2, none⟩) z0).trans c2
  replace c3 := (h.cell (p := ⟨w.heap.size, 3, none⟩) z0).trans c3
  replace z0 := Nat.lt_of_lt_of_le z0 h.size
  replace B0 : Below w.heap.size w w3 := B0.trans (h.mono s0)
  replace s0 := B0.size
  clear h Pa
  go_wp2_with fail
  refine (toInt64S_any _ n _ V _ hn (HR.out.below B0)).mono ?_
  rintro e w4 ⟨rfl, zz, O, h⟩
  replace c0 := (h.cell (p := ⟨w.heap.size, 0, none⟩) z0).trans c0
  replace c1 := (h.cell (p := ⟨w.heap.size, 1, none⟩) z0).trans c1
  replace c2 := (h.cell (p := ⟨w.heap.size, 2, none⟩) z0).trans c2
  replace c3 := (h.cell (p := ⟨w.heap.size, 3, none⟩) z0).trans c3
  replace z0 := Nat.lt_of_lt_of_le z0 h.size
  replace B0 : Below w.heap.size w w4 := B0.trans (h.mono s0)
  replace s0 := B0.size
  have Px : Hid (RowI w4 _ n V) := O.row
  clear h O zz
  go_wp2_with fail
  refine (toBattery_below C M G F _).mono ?_
  rintro e w5 ⟨rfl, h⟩
  replace c0 := (h.cell (p := ⟨w.heap.size, 0, none⟩) z0).trans c0
  replace c1 := (h.cell (p := ⟨w.heap.size, 1, none⟩) z0).trans c1
  replace c2 := (h.cell (p := ⟨w.heap.size, 2, none⟩) z0).trans c2
  replace c3 := (h.cell (p := ⟨w.heap.size, 3, none⟩) z0).trans c3
  replace z0 := Nat.lt_of_lt_of_le z0 h.size
  replace B0 : Below w.heap.size w w5 := B0.trans (h.mono s0)
  replace s0 := B0.size
  replace Px : Hid (RowI w5 _ n V) := Px.out.below h
  clear h
  go_wp2_with fail
  refine (H2.out _ _ _ Px.out).mono ?_
  rintro e w6 ⟨rfl, h⟩
  replace c0 := (h.cell (p := ⟨w.heap.size, 0, none⟩) z0).trans c0
  replace c1 := (h.cell (p := ⟨w.heap.size, 1, none⟩) z0).trans c1
  replace c2 := (h.cell (p := ⟨w.heap.size, 2, none⟩) z0).trans c2
  replace c3 := (h.cell (p := ⟨w.heap.size, 3, none⟩) z0).trans c3
  replace z0 := Nat.lt_of_lt_of_le z0 h.size
  replace B0 : Below w.heap.size w w6 := B0.trans (h.mono s0)
  replace s0 := B0.size
  replace Px : Hid (RowI w6 _ n V) := Px.out.below h
  clear h
  go_wp2_with fail
  refine (toInt64S_any _ n _ V _ hn (HR.out.below B0)).mono ?_
  rintro e w7 ⟨rfl, zz, O, h⟩
  replace c0 := (h.cell (p := ⟨w.heap.size, 0, none⟩) z0).trans c0
  replace c1 := (h.cell (p := ⟨w.heap.size, 1, none⟩) z0).trans c1
  replace c2 := (h.cell (p := ⟨w.heap.size, 2, none⟩) z0).trans c2
  replace c3 := (h.cell (p := ⟨w.heap.size, 3, none⟩) z0).trans c3
  replace z0 := Nat.lt_of_lt_of_le z0 h.size
  replace B0 : Below w.heap.size w w7 := B0.trans (h.mono s0)
  replace s0 := B0.size
  replace Px : Hid (RowI w7 _ n V) := Px.out.below h
  have Py : Hid (RowI w7 _ n V) := O.row
  clear h O zz
  go_wp2_with fail
  refine (eqInt64S_any _ _ n _ _ V _ hn Px.out Py.out).mono ?_
  rintro e w8 ⟨rfl, h⟩
  replace B0 : Below w.heap.size w w8 := B0.trans (h.mono s0)
  go_wp2
  go_ret
  exact ⟨rfl, B0⟩
set_option maxHeartbeats 400000 in
theorem lasts_far (w : World) (C M G F : Int) (s : Option Addr) (n c : Nat) (h2 : (1048576 : Int) < n) :
    Calls Try.prog 5 #[.agg #[.int .i64 C, .int .i64 M, .int .i64 G, .int .i64 F], .slice s n c] w fun e w' => e = .returned (.bool true) ∧ Below w.heap.size w w' := by
  go_enter Try.func5, Try.ntmps5
  go_wp2
  go_ret
  exact ⟨rfl, (by repeat (first | with_reducible exact Below.refl _ _ | with_reducible refine Below.setCell ?_ (by first | omega | (simp; done) | (simp; omega)) _ | with_reducible refine bDrewN ?_ _ | with_reducible refine Below.drew ?_ | with_reducible refine Below.alloc ?_ (by first | omega | (simp; done) | (simp; omega)) _))⟩
theorem fnExactLasts_walk (w : World) (C : Int) (wC : (Lit.int .i64 C).wf = true) (M : Int) (wM : (Lit.int .i64 M).wf = true) (G : Int) (wG : (Lit.int .i64 G).wf = true) (F : Int) (wF : (Lit.int .i64 F).wf = true) (s : Option Addr) (n c : Nat) (V : Nat → Int) (hn : n ≤ 9223372036854775807) (R : RowI w s n V) (hV : ∀ j, j < n → -9223372036854775808 ≤ V j ∧ V j ≤ 9223372036854775807) :
    Calls Try.prog 5 #[.agg #[.int .i64 C, .int .i64 M, .int .i64 G, .int .i64 F], .slice s n c] w fun e w' => e = .returned (.bool true) ∧ Below w.heap.size w w' := by
  by_cases h2 : n ≤ 1048576
  · obtain ⟨r, h3, h4⟩ : ∃ r : Nat, ((n : Int) ≤ 1000 → LastV (bearsB (C, M, G, F) V) n r) ∧ (1000 < (n : Int) → r = 0) := by
      by_cases q : (n : Int) ≤ 1000
      · obtain ⟨r, hr⟩ := last_some (bearsB (C, M, G, F) V) n
        exact ⟨r, fun _ => hr, fun h => by omega⟩
      · exact ⟨0, fun h => absurd h q, fun _ => rfl⟩
    exact lasts_near w C M G F s n c V (by omega) R _ (fun s c w q => specLasts_any C M G F s n c r V w q h3 h4) (fun s c w q => implLasts_any C M G F s n c r V w q h3 h4)
  · exact lasts_far w C M G F s n c (by omega)

set_option maxRecDepth 100000 in
theorem fnExactLasts_lifted (os : Os) (started : os.Started) (H : Type) (enc : TypeId × Value → H) :
    ReturnsInHanded {} Try.checked os 5 .any (Rows.fnExactLastsSpec.pre6 enc Try.prog Try.f5 Rows.fnExactLastsRow.domain false) (Rows.fnExactLastsSpec.post enc Try.prog Try.f5 false true false false) := by
  refine returnsInHanded_of_change (C := Try.checked) own started (by kernel_rfl) Try.func5
    (ChangeSpec.witness6 (enc := enc) (C := Try.checked) false ⟨#[], #[.agg #[.int .i64 0, .int .i64 0, .int .i64 0, .int .i64 0], .slice none 0 0], []⟩ 8 (by kernel_rfl) (by kernel_rfl) (by kernel_rfl) (by kernel_rfl)) ?_
  intro W base args ds gs before hval0 hW hcnd _
  have hval : ∀ (j : Nat) t v, Try.f5.params[j]? = some t → args[j]? = some v → Value.okWide Try.prog W .any base t v := hval0
  have hW' := hW
  obtain ⟨p, q, hA0, hV, rfl, hfz, hnd⟩ := hW
  have hA : DataW.TrodAll enc Try.prog W 0 (fun _ => true) true Try.f5.params.toList args.toList ds p := hA0
  rw [Try.params5] at hA hval
  obtain ⟨v0, vs0, d0, ds0, p0, q0, hargs, rfl, rfl, h0, r0⟩ := trodAll_cons hA
  obtain ⟨v1, vs1, d1, ds1, p1, q1, rfl, rfl, rfl, h1, r1⟩ := trodAll_cons r0
  obtain ⟨rfl, rfl, rfl⟩ := trodAll_nil r1
  obtain rfl : args = #[v0, v1] := by cases args; simp_all
  obtain ⟨rfl, rfl⟩ := trodVars_none hV
  have k0 := h0
  have lt0 : ∀ x ∈ p0, x.block < W.heap.size := by obtain ⟨m, hm⟩ := k0; exact DataW.trod_lt m _ _ _ hm
  have k1 := h1
  have lt1 : ∀ x ∈ p1, x.block < W.heap.size := by obtain ⟨m, hm⟩ := k1; exact DataW.trod_lt m _ _ _ hm
  obtain ⟨vs0, rfl, c0⟩ := open_cells Try.underlying33 (ts := [2, 2, 2, 2]) (by kernel_rfl) (by kernel_rfl) (hval 0 33 v0 rfl rfl)
  obtain ⟨x0_0, r0_0, rfl, o0_0, c0_0⟩ := cellsOk_cons c0
  obtain ⟨a0_0, rfl, w0_0⟩ := cell_int Try.underlying2 o0_0
  obtain ⟨x0_1, r0_1, rfl, o0_1, c0_1⟩ := cellsOk_cons c0_0
  obtain ⟨a0_1, rfl, w0_1⟩ := cell_int Try.underlying2 o0_1
  obtain ⟨x0_2, r0_2, rfl, o0_2, c0_2⟩ := cellsOk_cons c0_1
  obtain ⟨a0_2, rfl, w0_2⟩ := cell_int Try.underlying2 o0_2
  obtain ⟨x0_3, r0_3, rfl, o0_3, c0_3⟩ := cellsOk_cons c0_2
  obtain ⟨a0_3, rfl, w0_3⟩ := cell_int Try.underlying2 o0_3
  obtain rfl := cellsOk_nil c0_3
  obtain ⟨s1, n1, c1, V1, rfl, m1, R1, w1⟩ := open_i64s Try.underlying23 Try.underlying2 (by kernel_rfl) (hval 1 23 v1 rfl rfl) h1
  clear hA0 hval0
  refine (fnExactLasts_walk W a0_0 w0_0 a0_1 w0_1 a0_2 w0_2 a0_3 w0_3 s1 n1 c1 V1 m1 R1 w1).mono fun e W' ⟨he, bel⟩ => ?_
  subst he
  exact ⟨_, rfl, _, _, _, [], _, [], hW', trodAll_mk1 (shut_bool Try.underlying4 _), (trodAll_cons_mk (Below.trod laidOut (by kernel_rfl) (of_decide_eq_true (by kernel_rfl)) k0 bel lt0) (trodAll_cons_mk (Below.trod laidOut (by kernel_rfl) (of_decide_eq_true (by kernel_rfl)) k1 bel lt1) trodAll_mk0)), rfl, bel.frame _, fun h => by cases h⟩

theorem fnExactLasts_holds : Rows.FnExactLastsSaid :=
  OpenClaim.holds_of_wide 5 Try.f5 rfl rfl rfl rfl rfl rfl rfl ⟨rfl, rfl, rfl, rfl, rfl⟩ rfl rfl rfl rfl rfl (by kernel_rfl) Try.func5 (by kernel_rfl)
    (of_decide_eq_true (by kernel_rfl)) (by unfold Func.isWrapper; first | (rw [if_pos (by decide +kernel)]; kernel_rfl) | (rw [if_neg (by decide +kernel)]; exact ⟨rfl, rfl⟩))
    (fun os started H enc _ => fnExactLasts_lifted os started H enc)
#print axioms fnExactLasts_holds
end Go.Proofs.Ytdoekgnmbdekgaa
