/-
What is proved: at every flue impl.Elements answers as the specification's Elements, where the table of molecules holds what the program's text lays (the card ties that).
-/
import Derived.Test.YtbiggeejmndloacDoorFlueOk
namespace Go.Proofs.YtbiggeejmndloacDoor
open Go.ChangeShapes Go.WideShapes Go.ChangeAt Go.RowKit
set_option linter.unusedVariables false

theorem psum9_0 (g0 g1 g2 g3 g4 g5 g6 g7 g8 : Int) : psum (nth g0 g1 g2 g3 g4 g5 g6 g7 g8) 0 9 = g0 + g1 + g2 := by
  simp [psum, nth, tb, tbl]
theorem psum9_1 (g0 g1 g2 g3 g4 g5 g6 g7 g8 : Int) : psum (nth g0 g1 g2 g3 g4 g5 g6 g7 g8) 1 9 = 2 * g3 + 2 * g4 := by
  simp [psum, nth, tb, tbl]
theorem psum9_2 (g0 g1 g2 g3 g4 g5 g6 g7 g8 : Int) : psum (nth g0 g1 g2 g3 g4 g5 g6 g7 g8) 2 9 = g5 + g6 := by
  simp [psum, nth, tb, tbl]
theorem psum9_3 (g0 g1 g2 g3 g4 g5 g6 g7 g8 : Int) : psum (nth g0 g1 g2 g3 g4 g5 g6 g7 g8) 3 9 = 2 * g0 + g1 + g3 + 2 * g5 + g7 := by
  simp [psum, nth, tb, tbl]
theorem psum9_4 (g0 g1 g2 g3 g4 g5 g6 g7 g8 : Int) : psum (nth g0 g1 g2 g3 g4 g5 g6 g7 g8) 4 9 = g8 := by
  simp [psum, nth, tb, tbl]

set_option maxHeartbeats 2000000 in
theorem specElements_any (g0 g1 g2 g3 g4 g5 g6 g7 g8 : Int) (w : World) :
    Calls Tryd.prog 9 #[.agg #[.int .i64 g0, .int .i64 g1, .int .i64 g2, .int .i64 g3, .int .i64 g4, .int .i64 g5, .int .i64 g6, .int .i64 g7, .int .i64 g8]] w fun e w' => e = .returned (elemV (nth g0 g1 g2 g3 g4 g5 g6 g7 g8)) ∧ Below w.heap.size w w' := by
  have K : Hid (∀ w, Calls Tryd.prog 18 #[.agg #[.int .i64 g0, .int .i64 g1, .int .i64 g2, .int .i64 g3, .int .i64 g4, .int .i64 g5, .int .i64 g6, .int .i64 g7, .int .i64 g8]] w fun e w' => e = .returned (.bool (elemOk (nth g0 g1 g2 g3 g4 g5 g6 g7 g8))) ∧ Below w.heap.size w w') := fun w => l2FlueOk_any g0 g1 g2 g3 g4 g5 g6 g7 g8 w
  cases ho : elemOk (nth g0 g1 g2 g3 g4 g5 g6 g7 g8)
  · have e : elemV (nth g0 g1 g2 g3 g4 g5 g6 g7 g8) = .tuple #[.agg #[.int .i64 0, .int .i64 0, .int .i64 0, .int .i64 0, .int .i64 0], .bool false] := by simp [elemV, ho]
    rw [e]; rw [ho] at K; clear e ho
    go_enter Tryd.func9, Tryd.ntmps9
    go_wp2_with fail
    refine (K.out _).mono ?_
    rintro e w1 ⟨rfl, hx⟩
    obtain ⟨hc, hf⟩ := bcell hx
    have B1 : Below w.heap.size w w1 := Below.trans (by repeat (first | with_reducible exact Below.refl _ _ | with_reducible refine Below.setCell ?_ (by first | omega | (simp; done) | (simp; omega)) _ | with_reducible refine bDrewN ?_ _ | with_reducible refine Below.drew ?_ | with_reducible refine Below.alloc ?_ (by first | omega | (simp; done) | (simp; omega)) _)) (hx.mono (by first | omega | (simp; done) | (simp; omega)))
    go_wp2
    refine bodyPost_ret (v := .tuple #[.agg #[.int .i64 0, .int .i64 0, .int .i64 0, .int .i64 0, .int .i64 0], .bool false]) (by simp [results, Tryd.results9, go_sem, hc]) rfl ⟨rfl, ?_⟩
    exact (by repeat (first | with_reducible exact Below.refl _ _ | with_reducible exact B1 | with_reducible refine Below.setCell ?_ (by first | omega | (simp; done) | (simp; omega)) _ | with_reducible refine bDrewN ?_ _ | with_reducible refine Below.drew ?_ | with_reducible refine Below.alloc ?_ (by first | omega | (simp; done) | (simp; omega)) _))
  · have hin := (elemOk_iff _).1 ho
    have e : elemV (nth g0 g1 g2 g3 g4 g5 g6 g7 g8) = .tuple #[.agg #[.int .i64 (g0 + g1 + g2), .int .i64 (2 * g3 + 2 * g4), .int .i64 (g5 + g6), .int .i64 (2 * g0 + g1 + g3 + 2 * g5 + g7), .int .i64 (g8)], .bool true] := by
      rw [elem_yes hin, psum9_0, psum9_1, psum9_2, psum9_3, psum9_4]
    have h0 := hin 0 (by omega); have h1 := hin 1 (by omega); have h2 := hin 2 (by omega); have h3 := hin 3 (by omega); have h4 := hin 4 (by omega); have h5 := hin 5 (by omega); have h6 := hin 6 (by omega); have h7 := hin 7 (by omega); have h8 := hin 8 (by omega)
    simp only [nth, inF] at h0 h1 h2 h3 h4 h5 h6 h7 h8
    rw [e]; rw [ho] at K; clear e ho hin
    obtain ⟨i0, i0'⟩ := h0; obtain ⟨i1, i1'⟩ := h1; obtain ⟨i2, i2'⟩ := h2; obtain ⟨i3, i3'⟩ := h3; obtain ⟨i4, i4'⟩ := h4; obtain ⟨i5, i5'⟩ := h5; obtain ⟨i6, i6'⟩ := h6; obtain ⟨i7, i7'⟩ := h7; obtain ⟨i8, i8'⟩ := h8
    go_enter Tryd.func9, Tryd.ntmps9
    go_wp2_with fail
    refine (K.out _).mono ?_
    rintro e w1 ⟨rfl, hx⟩
    obtain ⟨hc, hf⟩ := bcell hx
    have B1 : Below w.heap.size w w1 := Below.trans (by repeat (first | with_reducible exact Below.refl _ _ | with_reducible refine Below.setCell ?_ (by first | omega | (simp; done) | (simp; omega)) _ | with_reducible refine bDrewN ?_ _ | with_reducible refine Below.drew ?_ | with_reducible refine Below.alloc ?_ (by first | omega | (simp; done) | (simp; omega)) _)) (hx.mono (by first | omega | (simp; done) | (simp; omega)))
    go_wp2
    refine bodyPost_ret (v := .tuple #[.agg #[.int .i64 (g0 + g1 + g2), .int .i64 (2 * g3 + 2 * g4), .int .i64 (g5 + g6), .int .i64 (2 * g0 + g1 + g3 + 2 * g5 + g7), .int .i64 (g8)], .bool true]) (by simp [results, Tryd.results9, go_sem, hc]) rfl ⟨rfl, ?_⟩
    exact (by repeat (first | with_reducible exact Below.refl _ _ | with_reducible exact B1 | with_reducible refine Below.setCell ?_ (by first | omega | (simp; done) | (simp; omega)) _ | with_reducible refine bDrewN ?_ _ | with_reducible refine Below.drew ?_ | with_reducible refine Below.alloc ?_ (by first | omega | (simp; done) | (simp; omega)) _))

set_option maxHeartbeats 400000 in
theorem eqFuel_any (x0 x1 x2 x3 x4 : Int) (w : World) :
    Calls Tryd.prog 12 #[.agg #[.int .i64 x0, .int .i64 x1, .int .i64 x2, .int .i64 x3, .int .i64 x4], .agg #[.int .i64 x0, .int .i64 x1, .int .i64 x2, .int .i64 x3, .int .i64 x4]] w fun e w' => e = .returned (.bool true) ∧ Below w.heap.size w w' := by
  go_enter Tryd.func12, Tryd.ntmps12
  go_wp2
  go_ret
  exact ⟨rfl, (by repeat (first | with_reducible exact Below.refl _ _ | with_reducible refine Below.setCell ?_ (by first | omega | (simp; done) | (simp; omega)) _ | with_reducible refine bDrewN ?_ _ | with_reducible refine Below.drew ?_ | with_reducible refine Below.alloc ?_ (by first | omega | (simp; done) | (simp; omega)) _))⟩

set_option maxHeartbeats 1000000 in
theorem toFlue_any (g0 g1 g2 g3 g4 g5 g6 g7 g8 : Int) (w : World) :
    Calls Tryd.prog 10 #[.agg #[.int .i64 g0, .int .i64 g1, .int .i64 g2, .int .i64 g3, .int .i64 g4, .int .i64 g5, .int .i64 g6, .int .i64 g7, .int .i64 g8]] w fun e w' => e = .returned (.agg #[.int .i64 g0, .int .i64 g1, .int .i64 g2, .int .i64 g3, .int .i64 g4, .int .i64 g5, .int .i64 g6, .int .i64 g7, .int .i64 g8]) ∧ w' = ((w.alloc (.cells #[.int .i64 g0, .int .i64 g1, .int .i64 g2, .int .i64 g3, .int .i64 g4, .int .i64 g5, .int .i64 g6, .int .i64 g7, .int .i64 g8] 32)).alloc (.cells #[.int .i64 g0, .int .i64 g1, .int .i64 g2, .int .i64 g3, .int .i64 g4, .int .i64 g5, .int .i64 g6, .int .i64 g7, .int .i64 g8] 25)).alloc (.cells #[.int .i64 g0, .int .i64 g1, .int .i64 g2, .int .i64 g3, .int .i64 g4, .int .i64 g5, .int .i64 g6, .int .i64 g7, .int .i64 g8] 25) := by
  go_enter Tryd.func10, Tryd.ntmps10
  go_wp2
  exact bodyPost_ret (v := .agg #[.int .i64 g0, .int .i64 g1, .int .i64 g2, .int .i64 g3, .int .i64 g4, .int .i64 g5, .int .i64 g6, .int .i64 g7, .int .i64 g8]) (by simp [results, Tryd.results10, go_sem]) rfl ⟨rfl, rfl⟩

set_option maxHeartbeats 1000000 in
theorem elem_law (g0 g1 g2 g3 g4 g5 g6 g7 g8 x0 x1 x2 x3 x4 : Int) (ok : Bool) (w : World) (HT : Hid (TabW w))
    (H1 : Hid (∀ w, Calls Tryd.prog 9 #[.agg #[.int .i64 g0, .int .i64 g1, .int .i64 g2, .int .i64 g3, .int .i64 g4, .int .i64 g5, .int .i64 g6, .int .i64 g7, .int .i64 g8]] w fun e w' => e = .returned (.tuple #[.agg #[.int .i64 x0, .int .i64 x1, .int .i64 x2, .int .i64 x3, .int .i64 x4], .bool ok]) ∧ Below w.heap.size w w'))
    (H2 : Hid (∀ w, TabW w → Calls Tryd.prog 11 #[.agg #[.int .i64 g0, .int .i64 g1, .int .i64 g2, .int .i64 g3, .int .i64 g4, .int .i64 g5, .int .i64 g6, .int .i64 g7, .int .i64 g8]] w fun e w' => e = .returned (.tuple #[.agg #[.int .i64 x0, .int .i64 x1, .int .i64 x2, .int .i64 x3, .int .i64 x4], .bool ok]) ∧ Below w.heap.size w w')) :
    Calls Tryd.prog 4 #[.agg #[.int .i64 g0, .int .i64 g1, .int .i64 g2, .int .i64 g3, .int .i64 g4, .int .i64 g5, .int .i64 g6, .int .i64 g7, .int .i64 g8]] w fun e w' => e = .returned (.bool true) ∧ Below w.heap.size w w' := by
  go_enter Tryd.func4, Tryd.ntmps4
  go_wp2_with fail
  refine (toFlue_any g0 g1 g2 g3 g4 g5 g6 g7 g8 _).mono ?_
  rintro e w1 ⟨rfl, rfl⟩
  go_wp2_with fail
  refine (H1.out _).mono ?_
  rintro e w2 ⟨rfl, hx⟩
  obtain ⟨hc, hf⟩ := bcell hx
  have B2 : Below w.heap.size w w2 := Below.trans (by repeat (first | with_reducible exact Below.refl _ _ | with_reducible refine Below.setCell ?_ (by first | omega | (simp; done) | (simp; omega)) _ | with_reducible refine bDrewN ?_ _ | with_reducible refine Below.drew ?_ | with_reducible refine Below.alloc ?_ (by first | omega | (simp; done) | (simp; omega)) _)) (hx.mono (by first | omega | (simp; done) | (simp; omega)))
  have z2 : w.heap.size < w2.heap.size := by have := hx.size; simp at this; omega
  go_wp2_with fail
  refine (toFlue_any g0 g1 g2 g3 g4 g5 g6 g7 g8 _).mono ?_
  rintro e w3 ⟨rfl, rfl⟩
  go_wp2_with fail
  refine (H2.out _ (HT.out.below (B := w.heap.size) (by repeat (first | with_reducible exact Below.refl _ _ | with_reducible exact B2 | with_reducible refine Below.setCell ?_ (by first | omega | (simp; done) | (simp; omega)) _ | with_reducible refine bDrewN ?_ _ | with_reducible refine Below.drew ?_ | with_reducible refine Below.alloc ?_ (by first | omega | (simp; done) | (simp; omega)) _)) HT.out.1)).mono ?_
  rintro e w4 ⟨rfl, hy⟩
  have B4 : Below w.heap.size w w4 := Below.trans (by repeat (first | with_reducible exact Below.refl _ _ | with_reducible exact B2 | with_reducible refine Below.setCell ?_ (by first | omega | (simp; done) | (simp; omega)) _ | with_reducible refine bDrewN ?_ _ | with_reducible refine Below.drew ?_ | with_reducible refine Below.alloc ?_ (by first | omega | (simp; done) | (simp; omega)) _)) (hy.mono (by first | omega | (simp; done) | (simp; omega)))
  have hz : Below (w2.alloc (.cells #[.int .i64 x0, .int .i64 x1, .int .i64 x2, .int .i64 x3, .int .i64 x4] 28)).heap.size (w2.alloc (.cells #[.int .i64 x0, .int .i64 x1, .int .i64 x2, .int .i64 x3, .int .i64 x4] 28)) w4 := Below.trans (by repeat (first | with_reducible exact Below.refl _ _ | with_reducible refine Below.setCell ?_ (by first | omega | (simp; done) | (simp; omega)) _ | with_reducible refine bDrewN ?_ _ | with_reducible refine Below.drew ?_ | with_reducible refine Below.alloc ?_ (by first | omega | (simp; done) | (simp; omega)) _)) (hy.mono (by first | omega | (simp; done) | (simp; omega)))
  have r0 : w4.cell? ⟨w2.heap.size, 0, none⟩ = some (.int .i64 x0) := by rw [hz.cell (by first | omega | (simp; done) | (simp; omega))]; simp
  have r1 : w4.cell? ⟨w2.heap.size, 1, none⟩ = some (.int .i64 x1) := by rw [hz.cell (by first | omega | (simp; done) | (simp; omega))]; simp
  have r2 : w4.cell? ⟨w2.heap.size, 2, none⟩ = some (.int .i64 x2) := by rw [hz.cell (by first | omega | (simp; done) | (simp; omega))]; simp
  have r3 : w4.cell? ⟨w2.heap.size, 3, none⟩ = some (.int .i64 x3) := by rw [hz.cell (by first | omega | (simp; done) | (simp; omega))]; simp
  have r4 : w4.cell? ⟨w2.heap.size, 4, none⟩ = some (.int .i64 x4) := by rw [hz.cell (by first | omega | (simp; done) | (simp; omega))]; simp
  have z4 : w2.heap.size < w4.heap.size := by have := hy.size; simp at this; omega
  clear hc hf hx hy
  go_wp2_with fail
  refine (eqFuel_any x0 x1 x2 x3 x4 _).mono ?_
  rintro e w5 ⟨rfl, hb5⟩
  have B5 : Below w.heap.size w w5 := Below.trans (by repeat (first | with_reducible exact Below.refl _ _ | with_reducible exact B4 | with_reducible refine Below.setCell ?_ (by first | omega | (simp; done) | (simp; omega)) _ | with_reducible refine bDrewN ?_ _ | with_reducible refine Below.drew ?_ | with_reducible refine Below.alloc ?_ (by first | omega | (simp; done) | (simp; omega)) _)) (hb5.mono (by first | omega | (simp; done) | (simp; omega)))
  go_wp2
  go_ret
  exact ⟨rfl, B5⟩

theorem fnExactElements_walk (g0 : Int) (k0 : (Lit.int .i64 g0).wf = true) (g1 : Int) (k1 : (Lit.int .i64 g1).wf = true) (g2 : Int) (k2 : (Lit.int .i64 g2).wf = true) (g3 : Int) (k3 : (Lit.int .i64 g3).wf = true) (g4 : Int) (k4 : (Lit.int .i64 g4).wf = true) (g5 : Int) (k5 : (Lit.int .i64 g5).wf = true) (g6 : Int) (k6 : (Lit.int .i64 g6).wf = true) (g7 : Int) (k7 : (Lit.int .i64 g7).wf = true) (g8 : Int) (k8 : (Lit.int .i64 g8).wf = true) (w : World) (hT : TabW w) :
    Calls Tryd.prog 4 #[.agg #[.int .i64 g0, .int .i64 g1, .int .i64 g2, .int .i64 g3, .int .i64 g4, .int .i64 g5, .int .i64 g6, .int .i64 g7, .int .i64 g8]] w fun e w' => e = .returned (.bool true) ∧ Below w.heap.size w w' := by
  have Y : Hid (∀ (x : Int) (w : World), 0 ≤ x → x ≤ 1000000000000 → Calls Tryd.prog 20 #[.int .i64 x, .int .i64 0, .int .i64 1000000000000] w fun e w' => e = .returned (.bool true) ∧ w' = w) := fun x w a b => within_yes x 0 1000000000000 w a b
  have N : Hid (∀ (x : Int) (w : World), x < 0 ∨ 1000000000000 < x → Calls Tryd.prog 20 #[.int .i64 x, .int .i64 0, .int .i64 1000000000000] w fun e w' => e = .returned (.bool false) ∧ w' = w) := fun x w a => within_no x 0 1000000000000 w a
  have S := specElements_any g0 g1 g2 g3 g4 g5 g6 g7 g8
  have M := fun w h => elements_core g0 g1 g2 g3 g4 g5 g6 g7 g8 w h N Y
  cases ho : elemOk (nth g0 g1 g2 g3 g4 g5 g6 g7 g8)
  · have e : elemV (nth g0 g1 g2 g3 g4 g5 g6 g7 g8) = .tuple #[.agg #[.int .i64 0, .int .i64 0, .int .i64 0, .int .i64 0, .int .i64 0], .bool false] := by simp [elemV, ho]
    rw [e] at S M
    exact elem_law g0 g1 g2 g3 g4 g5 g6 g7 g8 _ _ _ _ _ _ w hT S M
  · rw [elem_yes ((elemOk_iff _).1 ho)] at S M
    exact elem_law g0 g1 g2 g3 g4 g5 g6 g7 g8 _ _ _ _ _ _ w hT S M
/-- WHAT THE ROW's LIST GIVES: the table's cells. -/
theorem elements_table {W : World} (h : laidMetH Tryd.prog Rows.fnExactElementsRow.laid W) : TabW W := by
  have h' : laidMet Tryd.prog Rows.fnExactElementsRow.laid W := h
  have hv := cells_of_head (P := Tryd.prog) (g := 1) (t := 51) (c := tbl.map (Value.int .i64)) 8 (by kernel_rfl) (by kernel_rfl) (by kernel_rfl) h'
  have hg : Tryd.prog.globalNamed _ = some 1 := (show Tryd.prog.globalNamed (Rows.fnExactElementsSpec.vars.headD default) = some 1 by kernel_rfl)
  have key := World.var?_cell hg hv
  refine ⟨?_, fun i hi => ?_⟩
  · have k0 := key 0
    rcases Nat.lt_or_ge 1 W.heap.size with z | z
    · exact z
    · exfalso
      have : W.cell? ⟨1, 0, none⟩ = none := by simp [World.cell?, Array.getElem?_eq_none z]
      rw [this] at k0
      simp [tbl] at k0
  · have ki := key i
    rw [ki]
    have hl : tbl.length = 54 := by decide
    simp [tb, List.getD, hl, hi]

theorem elements_contract (H : Type) (enc : TypeId × Value → H) (W : World) (base : Nat) (args : Array Value) (ds gs : List (DataW H)) (before : List MemPlace)
    (hval : ∀ (j : Nat) t v, Tryd.f4.params[j]? = some t → args[j]? = some v → Value.okWide Tryd.prog W .any base t v)
    (hW : DataW.Whole enc Tryd.prog Tryd.f4.params.toList Rows.fnExactElementsSpec.vars false W args.toList ds gs before) (hL : laidMetH Tryd.prog Rows.fnExactElementsRow.laid W) :
    Calls Tryd.prog 4 args W fun e W' => ∃ v, e = .returned v ∧ Rows.fnExactElementsSpec.post enc Tryd.prog Tryd.f4 false true false false W args v W' := by
  have hW' := hW
  obtain ⟨p, q, hA0, hV, rfl, hfz, hnd⟩ := hW
  have hA : DataW.TrodAll enc Tryd.prog W 0 (fun _ => true) true Tryd.f4.params.toList args.toList ds p := hA0
  rw [Tryd.params4] at hA hval
  obtain ⟨v0, vs0, d0, ds0, p0, q0, hargs, rfl, rfl, h0, r0⟩ := trodAll_cons hA
  obtain ⟨rfl, rfl, rfl⟩ := trodAll_nil r0
  obtain rfl : args = #[v0] := by cases args; simp_all
  have hV2 := hV
  obtain ⟨_, _, _, _, y0, _, rfl, _⟩ := trodVars_one hV
  have k0 := h0
  have lt0 : ∀ x ∈ p0, x.block < W.heap.size := by obtain ⟨m, hm⟩ := k0; exact DataW.trod_lt m _ _ _ hm
  obtain ⟨vs0, rfl, c0⟩ := open_cells Tryd.underlying32 (ts := [2, 2, 2, 2, 2, 2, 2, 2, 2]) (by kernel_rfl) (by kernel_rfl) (hval 0 32 v0 rfl rfl)
  obtain ⟨x0_0, r0_0, rfl, o0_0, c0_0⟩ := cellsOk_cons c0
  obtain ⟨a0_0, rfl, w0_0⟩ := cell_int Tryd.underlying2 o0_0
  obtain ⟨x0_1, r0_1, rfl, o0_1, c0_1⟩ := cellsOk_cons c0_0
  obtain ⟨a0_1, rfl, w0_1⟩ := cell_int Tryd.underlying2 o0_1
  obtain ⟨x0_2, r0_2, rfl, o0_2, c0_2⟩ := cellsOk_cons c0_1
  obtain ⟨a0_2, rfl, w0_2⟩ := cell_int Tryd.underlying2 o0_2
  obtain ⟨x0_3, r0_3, rfl, o0_3, c0_3⟩ := cellsOk_cons c0_2
  obtain ⟨a0_3, rfl, w0_3⟩ := cell_int Tryd.underlying2 o0_3
  obtain ⟨x0_4, r0_4, rfl, o0_4, c0_4⟩ := cellsOk_cons c0_3
  obtain ⟨a0_4, rfl, w0_4⟩ := cell_int Tryd.underlying2 o0_4
  obtain ⟨x0_5, r0_5, rfl, o0_5, c0_5⟩ := cellsOk_cons c0_4
  obtain ⟨a0_5, rfl, w0_5⟩ := cell_int Tryd.underlying2 o0_5
  obtain ⟨x0_6, r0_6, rfl, o0_6, c0_6⟩ := cellsOk_cons c0_5
  obtain ⟨a0_6, rfl, w0_6⟩ := cell_int Tryd.underlying2 o0_6
  obtain ⟨x0_7, r0_7, rfl, o0_7, c0_7⟩ := cellsOk_cons c0_6
  obtain ⟨a0_7, rfl, w0_7⟩ := cell_int Tryd.underlying2 o0_7
  obtain ⟨x0_8, r0_8, rfl, o0_8, c0_8⟩ := cellsOk_cons c0_7
  obtain ⟨a0_8, rfl, w0_8⟩ := cell_int Tryd.underlying2 o0_8
  obtain rfl := cellsOk_nil c0_8
  clear hA0
  refine (fnExactElements_walk a0_0 w0_0 a0_1 w0_1 a0_2 w0_2 a0_3 w0_3 a0_4 w0_4 a0_5 w0_5 a0_6 w0_6 a0_7 w0_7 a0_8 w0_8 W (elements_table hL)).mono fun e W' ⟨he, bel⟩ => ?_
  subst he
  exact ⟨_, rfl, _, _, _, [], _, q, hW', trodAll_mk1 (shut_bool Tryd.underlying4 _), (trodAll_cons_mk (Below.trod laidOut (by kernel_rfl) (of_decide_eq_true (by kernel_rfl)) k0 bel lt0) trodAll_mk0), Below.trodVars laidOut bel (by kernel_rfl) hV2, bel.frame _, fun h => by cases h⟩

set_option maxRecDepth 100000 in
theorem elements_lifted (os : Os) (started : os.Started) (H : Type) (enc : TypeId × Value → H) (F : Stop.Interp) :
    ReturnsInHanded {} Tryd.checked os 4 .any ((OpenSpec.ofChange Rows.fnExactElementsSpec).preRow enc Tryd.prog Tryd.f4 Rows.fnExactElementsRow.domain false Rows.fnExactElementsRow.laid) (((OpenSpec.ofChange Rows.fnExactElementsSpec).at F).post enc Tryd.prog Tryd.f4 false true false false) := by
  refine returnsInHanded_of_row (C := Tryd.checked) (s := OpenSpec.ofChange Rows.fnExactElementsSpec) own started (by kernel_rfl) Tryd.func4
    (witness_row_at (enc := enc) (C := Tryd.checked) false ({ World.holding Tryd.prog os ⟨#[], #[], []⟩ with heap := (World.holding Tryd.prog os ⟨#[], #[], []⟩).heap.modify 1 fun
      | .cells _ t frozen => .cells #[.int .i64 1, .int .i64 0, .int .i64 0, .int .i64 2, .int .i64 0, .int .i64 394, .int .i64 1, .int .i64 0, .int .i64 0, .int .i64 1, .int .i64 0, .int .i64 111, .int .i64 1, .int .i64 0, .int .i64 0, .int .i64 0, .int .i64 0, .int .i64 0, .int .i64 0, .int .i64 2, .int .i64 0, .int .i64 1, .int .i64 0, .int .i64 242, .int .i64 0, .int .i64 2, .int .i64 0, .int .i64 0, .int .i64 0, .int .i64 0, .int .i64 0, .int .i64 0, .int .i64 1, .int .i64 2, .int .i64 0, .int .i64 297, .int .i64 0, .int .i64 0, .int .i64 1, .int .i64 0, .int .i64 0, .int .i64 0, .int .i64 0, .int .i64 0, .int .i64 0, .int .i64 1, .int .i64 0, .int .i64 0, .int .i64 0, .int .i64 0, .int .i64 0, .int .i64 0, .int .i64 1, .int .i64 0] t frozen
      | o => o }) #[.agg #[.int .i64 0, .int .i64 0, .int .i64 0, .int .i64 0, .int .i64 0, .int .i64 0, .int .i64 0, .int .i64 0, .int .i64 0]] rfl (by kernel_rfl) (by kernel_rfl) (by kernel_rfl)
      (OpenSpec.preRow_of_cond 8 (x := ([.agg [.lit (.int .i64 0), .lit (.int .i64 0), .lit (.int .i64 0), .lit (.int .i64 0), .lit (.int .i64 0), .lit (.int .i64 0), .lit (.int .i64 0), .lit (.int .i64 0), .lit (.int .i64 0)]], [Rows.laid_loop_example_g00062_impl_molecules], MemPlace.row ⟨1, 0, none⟩ 54)) (by kernel_rfl) (by kernel_rfl) (fun k hk => by cases hk) (by kernel_rfl) (laidMet_of_run' 8 (by kernel_rfl) (by kernel_rfl)))) ?_
  intro W base args ds gs before hval hW _ _ _ hL _ _
  exact elements_contract H enc W base args ds gs before hval hW hL

theorem elements_said : Rows.FnExactElementsSaid :=
  OpenClaim.holds_of_cond 4 Tryd.f4 rfl rfl rfl rfl rfl rfl rfl ⟨rfl, rfl, rfl, rfl, rfl⟩ rfl rfl rfl rfl rfl (by kernel_rfl) Tryd.func4 (by kernel_rfl)
    (of_decide_eq_true (by kernel_rfl)) (by unfold Func.isWrapper; first | (rw [if_pos (by decide +kernel)]; kernel_rfl) | (rw [if_neg (by decide +kernel)]; exact ⟨rfl, rfl⟩))
    (fun os started H enc _ F => by rw [OpenClaim.pre_eq_preRow]; exact elements_lifted os started H enc F)

theorem elements_plain (f : FuncId) (fn : Func) (hf : Tryd.pinned.checked.prog.funcNamed Rows.fnExactElementsRow.func = some f) (hfn : Tryd.pinned.checked.prog.funcs[f]? = some fn) :
    false = Tryd.pinned.checked.prog.looks [] ∧ ∀ (j : Nat) t, fn.params[j]? = some t → Tryd.pinned.checked.prog.wantsStandIn t = false := by
  obtain rfl : f = 4 := Option.some.inj ((show Tryd.prog.funcNamed Rows.fnExactElementsRow.func = some 4 by kernel_rfl).symm.trans hf) |>.symm
  obtain rfl : fn = Tryd.f4 := (Option.some.inj (Tryd.func4.symm.trans hfn)).symm
  refine ⟨by kernel_rfl, fun j t ht => ?_⟩
  rw [Tryd.params4] at ht
  obtain rfl : t = 32 := by simpa using Array.mem_of_getElem? ht
  exact (show Tryd.prog.wantsStandIn 32 = false by kernel_rfl)

theorem fnExactElements_holds : Rows.FnExactElementsCardSaid :=
  Claim7.holds_tied_plain_at .later [] _ _ _ _ elements_said (fun _ h => by cases h) (by kernel_rfl) (fun _ h => by cases h) fnExactElements_row_tie rfl ⟨rfl, rfl⟩ (by kernel_rfl) rfl elements_plain (by kernel_rfl)
#print axioms fnExactElements_holds
end Go.Proofs.YtbiggeejmndloacDoor
