/-
What is proved: two of a queue of machines swapped.
-/
import Derived.Test.YtcialcejmjggeaaHpQ
import Derived.Test.YtcialcejmjggeaaAnr
import Derived.Deep.RegionHeldLaw
import Derived.Deep.DeepCutAuto

namespace Go.Proofs.Ytcialcejmjggeaa
set_option maxRecDepth 40000
open Go.ChangeShapes Go.WideShapes Go.ChangeAt Go.RowKit
set_option linter.unusedVariables false
set_option linter.unusedSimpArgs false

theorem put_froz {W : World} {g i : Nat} {V : Nat → Int} {a : Nat} {p : Addr} (h : W.frozen? p = false) : (put5 W g i V a).frozen? p = false := by
  unfold put5; simp [go_sem, h]
theorem some_set {W : World} {p p' : Addr} {u : Value} (h : ∃ y, W.cell? p' = some y) : ∃ y, (W.setCell p u).cell? p' = some y := by
  obtain ⟨y, hy⟩ := h
  by_cases e : p' = p
  · subst e
    exact ⟨u, by simp [go_sem, hy]⟩
  · exact ⟨y, by first | (rw [World.cell?_setCell_other _ _ _ _ e]; exact hy) | (rw [World.cell?_setCell_other _ _ _ _ (Ne.symm e)]; exact hy)⟩
theorem put_some {W : World} {g i j : Nat} {V : Nat → Int} {a c : Nat} (h : PlAt W g j V c) : ∃ y0 y1 y2 y3 y4, (put5 W g i V a).cell? ⟨g, j * 5, none⟩ = some y0 ∧ (put5 W g i V a).cell? ⟨g, j * 5 + 1, none⟩ = some y1 ∧ (put5 W g i V a).cell? ⟨g, j * 5 + 2, none⟩ = some y2 ∧ (put5 W g i V a).cell? ⟨g, j * 5 + 3, none⟩ = some y3 ∧ (put5 W g i V a).cell? ⟨g, j * 5 + 4, none⟩ = some y4 := by
  obtain ⟨h0, h1, h2, h3, h4⟩ := h
  unfold put5
  obtain ⟨y0, e0⟩ := some_set (some_set (some_set (some_set (some_set ⟨_, h0⟩))))
  obtain ⟨y1, e1⟩ := some_set (some_set (some_set (some_set (some_set ⟨_, h1⟩))))
  obtain ⟨y2, e2⟩ := some_set (some_set (some_set (some_set (some_set ⟨_, h2⟩))))
  obtain ⟨y3, e3⟩ := some_set (some_set (some_set (some_set (some_set ⟨_, h3⟩))))
  obtain ⟨y4, e4⟩ := some_set (some_set (some_set (some_set (some_set ⟨_, h4⟩))))
  exact ⟨y0, y1, y2, y3, y4, e0, e1, e2, e3, e4⟩
set_option maxRecDepth 20000 in
set_option maxHeartbeats 4000000 in
theorem qswap_any (sh : Bool) (X : Nat → Prop) (q n i j : Nat) (V : Nat → Int) (P : Nat → Nat) (w : World) (hi : i < n) (hj : j < n) (HQ : Hid (QAt X q w sh n V P)) :
    Calls Try.prog 83 #[.pointer (some ⟨q, 0, none⟩), .int .i64 (i : Int), .int .i64 (j : Int)] w fun e w' => e = .returned (.tuple #[]) ∧ QAt X q w' sh n V (swp P i j) ∧ Turn X w w' := by
  have ki : (i : Int) < (n : Int) := by omega
  have kj : (j : Int) < (n : Int) := by omega
  go_enter Try.func83, Try.ntmps83
  go_wp2_with fail
  obtain ⟨g, cap, -, c1, -, -, zq, zg, ng, -, -, -, -⟩ := HQ.out.open_ (by omega)
  refine wp_region_held_drew (S := fun w' => w'.cell? ⟨q, 1, none⟩ = some (.slice (some ⟨g, 0, none⟩) n cap) ∧ (q ≠ g)) (by kernel_rfl) ?_ (fun hHeld => ?_)
  · exact ⟨c1, Ne.symm ng⟩
  obtain ⟨v0, hv0⟩ : ∃ z, z = w.drew := ⟨_, rfl⟩
  try rw [← hv0] at hHeld
  rw [← hv0]
  have bv0 : Below w.heap.size w v0 := by rw [hv0]; exact Below.drew (Below.refl _ _)
  clear hv0
  have HV : Hid (QAt X q v0 sh n V P) := HQ.out.below bv0
  have TV : Hid (Turn X w v0) := Turn.grown bv0
  have zqv : q < v0.heap.size := Nat.lt_of_lt_of_le zq bv0.size
  have c1v : v0.cell? ⟨q, 1, none⟩ = some (.slice (some ⟨g, 0, none⟩) n cap) := (bv0.cell (p := ⟨q, 1, none⟩) zq).trans c1
  clear bv0 HQ c1 zq zg
  obtain ⟨g2, cap2, -, c2, -, fg, -, -, -, -, -, -, hP⟩ := HV.out.open_ (by omega)
  have e2 := c1v.symm.trans c2
  simp at e2
  obtain ⟨rfl, rfl⟩ := e2
  clear c2
  obtain ⟨a, hA⟩ : ∃ z, P i = z := ⟨_, rfl⟩
  obtain ⟨b, hB⟩ : ∃ z, P j = z := ⟨_, rfl⟩
  have HA : Hid (P i = a) := hA
  have HB : Hid (P j = b) := hB
  have HP : Hid (∀ k, k < n → PlAt v0 g k V (P k)) := hP
  have FG : Hid (∀ o, v0.frozen? ⟨g, o, none⟩ = false) := fg
  clear hA hB hP fg
  obtain ⟨y0, y1, y2, y3, y4, hyy⟩ := put_some (W := v0) (i := i) (j := j) (a := b) (V := V) (HP.out j hj)
  have HY : Hid (_ ∧ _) := hyy
  clear hyy
  refine wpAnyH_take (i := 0) (v := .pointer (some ⟨q, 0, none⟩)) rfl (by kernel_rfl) (by kernel_rfl) (by kernel_rfl) (fun _ _ _ h => h) (Or.inl ⟨by kernel_rfl, ?_⟩) hHeld ?_
  · intro w' hSw
    obtain ⟨s0, s1⟩ := hSw
    first | (go_simp; done) | (go_simp; with_reducible rfl) | (go_simp; rw [IntKind.wrap_i64]; omega) | (go_simp; omega)
  simp only [Act.put, List.setIfInBounds_toArray, List.set_cons_zero, List.set_cons_succ]
  refine wpAnyH_take (i := 1) (v := .pointer (some ⟨q, 0, none⟩)) rfl (by kernel_rfl) (by kernel_rfl) (by kernel_rfl) (fun _ _ _ h => h) (Or.inl ⟨by kernel_rfl, ?_⟩) hHeld ?_
  · intro w' hSw
    obtain ⟨s0, s1⟩ := hSw
    first | (go_simp; done) | (go_simp; with_reducible rfl) | (go_simp; rw [IntKind.wrap_i64]; omega) | (go_simp; omega)
  simp only [Act.put, List.setIfInBounds_toArray, List.set_cons_zero, List.set_cons_succ]
  refine wpAnyH_take (i := 2) (v := .pointer (some ⟨q, 1, none⟩)) rfl (by kernel_rfl) (by kernel_rfl) (by kernel_rfl) (fun _ _ _ h => h) (Or.inl ⟨by kernel_rfl, ?_⟩) hHeld ?_
  · intro w' hSw
    obtain ⟨s0, s1⟩ := hSw
    first | (go_simp; done) | (go_simp; with_reducible rfl) | (go_simp; rw [IntKind.wrap_i64]; omega) | (go_simp; omega)
  simp only [Act.put, List.setIfInBounds_toArray, List.set_cons_zero, List.set_cons_succ]
  refine wpAnyH_take (i := 3) (v := .slice (some ⟨g, 0, none⟩) n cap) rfl (by kernel_rfl) (by kernel_rfl) (by kernel_rfl) (fun _ _ _ h => h) (Or.inl ⟨by kernel_rfl, ?_⟩) hHeld ?_
  · intro w' hSw
    obtain ⟨s0, s1⟩ := hSw
    first | (go_simp; done) | (go_simp; with_reducible rfl) | (go_simp; rw [IntKind.wrap_i64]; omega) | (go_simp; omega)
  simp only [Act.put, List.setIfInBounds_toArray, List.set_cons_zero, List.set_cons_succ]
  refine wpAnyH_take (i := 5) (v := .pointer (some ⟨q, 0, none⟩)) rfl (by kernel_rfl) (by kernel_rfl) (by kernel_rfl) (fun _ _ _ h => h) (Or.inl ⟨by kernel_rfl, ?_⟩) hHeld ?_
  · intro w' hSw
    obtain ⟨s0, s1⟩ := hSw
    first | (go_simp; done) | (go_simp; with_reducible rfl) | (go_simp; rw [IntKind.wrap_i64]; omega) | (go_simp; omega)
  simp only [Act.put, List.setIfInBounds_toArray, List.set_cons_zero, List.set_cons_succ]
  refine wpAnyH_take (i := 6) (v := .pointer (some ⟨q, 0, none⟩)) rfl (by kernel_rfl) (by kernel_rfl) (by kernel_rfl) (fun _ _ _ h => h) (Or.inl ⟨by kernel_rfl, ?_⟩) hHeld ?_
  · intro w' hSw
    obtain ⟨s0, s1⟩ := hSw
    first | (go_simp; done) | (go_simp; with_reducible rfl) | (go_simp; rw [IntKind.wrap_i64]; omega) | (go_simp; omega)
  simp only [Act.put, List.setIfInBounds_toArray, List.set_cons_zero, List.set_cons_succ]
  refine wpAnyH_take (i := 7) (v := .pointer (some ⟨q, 1, none⟩)) rfl (by kernel_rfl) (by kernel_rfl) (by kernel_rfl) (fun _ _ _ h => h) (Or.inl ⟨by kernel_rfl, ?_⟩) hHeld ?_
  · intro w' hSw
    obtain ⟨s0, s1⟩ := hSw
    first | (go_simp; done) | (go_simp; with_reducible rfl) | (go_simp; rw [IntKind.wrap_i64]; omega) | (go_simp; omega)
  simp only [Act.put, List.setIfInBounds_toArray, List.set_cons_zero, List.set_cons_succ]
  refine wpAnyH_take (i := 8) (v := .slice (some ⟨g, 0, none⟩) n cap) rfl (by kernel_rfl) (by kernel_rfl) (by kernel_rfl) (fun _ _ _ h => h) (Or.inl ⟨by kernel_rfl, ?_⟩) hHeld ?_
  · intro w' hSw
    obtain ⟨s0, s1⟩ := hSw
    first | (go_simp; done) | (go_simp; with_reducible rfl) | (go_simp; rw [IntKind.wrap_i64]; omega) | (go_simp; omega)
  simp only [Act.put, List.setIfInBounds_toArray, List.set_cons_zero, List.set_cons_succ]
  refine wpAnyH_take (i := 10) (v := .pointer (some ⟨q, 0, none⟩)) rfl (by kernel_rfl) (by kernel_rfl) (by kernel_rfl) (fun _ _ _ h => h) (Or.inl ⟨by kernel_rfl, ?_⟩) hHeld ?_
  · intro w' hSw
    obtain ⟨s0, s1⟩ := hSw
    first | (go_simp; done) | (go_simp; with_reducible rfl) | (go_simp; rw [IntKind.wrap_i64]; omega) | (go_simp; omega)
  simp only [Act.put, List.setIfInBounds_toArray, List.set_cons_zero, List.set_cons_succ]
  refine wpAnyH_take (i := 11) (v := .pointer (some ⟨q, 0, none⟩)) rfl (by kernel_rfl) (by kernel_rfl) (by kernel_rfl) (fun _ _ _ h => h) (Or.inl ⟨by kernel_rfl, ?_⟩) hHeld ?_
  · intro w' hSw
    obtain ⟨s0, s1⟩ := hSw
    first | (go_simp; done) | (go_simp; with_reducible rfl) | (go_simp; rw [IntKind.wrap_i64]; omega) | (go_simp; omega)
  simp only [Act.put, List.setIfInBounds_toArray, List.set_cons_zero, List.set_cons_succ]
  refine wpAnyH_take (i := 12) (v := .pointer (some ⟨q, 1, none⟩)) rfl (by kernel_rfl) (by kernel_rfl) (by kernel_rfl) (fun _ _ _ h => h) (Or.inl ⟨by kernel_rfl, ?_⟩) hHeld ?_
  · intro w' hSw
    obtain ⟨s0, s1⟩ := hSw
    first | (go_simp; done) | (go_simp; with_reducible rfl) | (go_simp; rw [IntKind.wrap_i64]; omega) | (go_simp; omega)
  simp only [Act.put, List.setIfInBounds_toArray, List.set_cons_zero, List.set_cons_succ]
  refine wpAnyH_take (i := 13) (v := .slice (some ⟨g, 0, none⟩) n cap) rfl (by kernel_rfl) (by kernel_rfl) (by kernel_rfl) (fun _ _ _ h => h) (Or.inl ⟨by kernel_rfl, ?_⟩) hHeld ?_
  · intro w' hSw
    obtain ⟨s0, s1⟩ := hSw
    first | (go_simp; done) | (go_simp; with_reducible rfl) | (go_simp; rw [IntKind.wrap_i64]; omega) | (go_simp; omega)
  simp only [Act.put, List.setIfInBounds_toArray, List.set_cons_zero, List.set_cons_succ]
  refine wpAnyH_take (i := 17) (v := .pointer (some ⟨q, 0, none⟩)) rfl (by kernel_rfl) (by kernel_rfl) (by kernel_rfl) (fun _ _ _ h => h) (Or.inl ⟨by kernel_rfl, ?_⟩) hHeld ?_
  · intro w' hSw
    obtain ⟨s0, s1⟩ := hSw
    first | (go_simp; done) | (go_simp; with_reducible rfl) | (go_simp; rw [IntKind.wrap_i64]; omega) | (go_simp; omega)
  simp only [Act.put, List.setIfInBounds_toArray, List.set_cons_zero, List.set_cons_succ]
  refine wpAnyH_take (i := 18) (v := .pointer (some ⟨q, 0, none⟩)) rfl (by kernel_rfl) (by kernel_rfl) (by kernel_rfl) (fun _ _ _ h => h) (Or.inl ⟨by kernel_rfl, ?_⟩) hHeld ?_
  · intro w' hSw
    obtain ⟨s0, s1⟩ := hSw
    first | (go_simp; done) | (go_simp; with_reducible rfl) | (go_simp; rw [IntKind.wrap_i64]; omega) | (go_simp; omega)
  simp only [Act.put, List.setIfInBounds_toArray, List.set_cons_zero, List.set_cons_succ]
  refine wpAnyH_take (i := 19) (v := .pointer (some ⟨q, 1, none⟩)) rfl (by kernel_rfl) (by kernel_rfl) (by kernel_rfl) (fun _ _ _ h => h) (Or.inl ⟨by kernel_rfl, ?_⟩) hHeld ?_
  · intro w' hSw
    obtain ⟨s0, s1⟩ := hSw
    first | (go_simp; done) | (go_simp; with_reducible rfl) | (go_simp; rw [IntKind.wrap_i64]; omega) | (go_simp; omega)
  simp only [Act.put, List.setIfInBounds_toArray, List.set_cons_zero, List.set_cons_succ]
  refine wpAnyH_take (i := 20) (v := .slice (some ⟨g, 0, none⟩) n cap) rfl (by kernel_rfl) (by kernel_rfl) (by kernel_rfl) (fun _ _ _ h => h) (Or.inl ⟨by kernel_rfl, ?_⟩) hHeld ?_
  · intro w' hSw
    obtain ⟨s0, s1⟩ := hSw
    first | (go_simp; done) | (go_simp; with_reducible rfl) | (go_simp; rw [IntKind.wrap_i64]; omega) | (go_simp; omega)
  simp only [Act.put, List.setIfInBounds_toArray, List.set_cons_zero, List.set_cons_succ]
  refine wpAnyH_take (i := 4) (v := .int .i64 (i : Int)) rfl (by kernel_rfl) (by kernel_rfl) (by kernel_rfl) (fun _ _ _ h => h) (Or.inl ⟨by kernel_rfl, ?_⟩) hHeld ?_
  · intro w' hSw
    obtain ⟨s0, s1⟩ := hSw
    first | (go_simp; done) | (go_simp; with_reducible rfl) | (go_simp; rw [IntKind.wrap_i64]; omega) | (go_simp; omega)
  simp only [Act.put, List.setIfInBounds_toArray, List.set_cons_zero, List.set_cons_succ]
  refine wpAnyH_take (i := 9) (v := .int .i64 (j : Int)) rfl (by kernel_rfl) (by kernel_rfl) (by kernel_rfl) (fun _ _ _ h => h) (Or.inl ⟨by kernel_rfl, ?_⟩) hHeld ?_
  · intro w' hSw
    obtain ⟨s0, s1⟩ := hSw
    first | (go_simp; done) | (go_simp; with_reducible rfl) | (go_simp; rw [IntKind.wrap_i64]; omega) | (go_simp; omega)
  simp only [Act.put, List.setIfInBounds_toArray, List.set_cons_zero, List.set_cons_succ]
  refine wpAnyH_take (i := 14) (v := .int .i64 (j : Int)) rfl (by kernel_rfl) (by kernel_rfl) (by kernel_rfl) (fun _ _ _ h => h) (Or.inl ⟨by kernel_rfl, ?_⟩) hHeld ?_
  · intro w' hSw
    obtain ⟨s0, s1⟩ := hSw
    first | (go_simp; done) | (go_simp; with_reducible rfl) | (go_simp; rw [IntKind.wrap_i64]; omega) | (go_simp; omega)
  simp only [Act.put, List.setIfInBounds_toArray, List.set_cons_zero, List.set_cons_succ]
  refine wpAnyH_take (i := 21) (v := .int .i64 (i : Int)) rfl (by kernel_rfl) (by kernel_rfl) (by kernel_rfl) (fun _ _ _ h => h) (Or.inl ⟨by kernel_rfl, ?_⟩) hHeld ?_
  · intro w' hSw
    obtain ⟨s0, s1⟩ := hSw
    first | (go_simp; done) | (go_simp; with_reducible rfl) | (go_simp; rw [IntKind.wrap_i64]; omega) | (go_simp; omega)
  simp only [Act.put, List.setIfInBounds_toArray, List.set_cons_zero, List.set_cons_succ]
  refine wpAnyH_take (i := 15) (v := .pointer (some ⟨g, j * 5, none⟩)) rfl (by kernel_rfl) (by kernel_rfl) (by kernel_rfl) (fun _ _ _ h => h) (Or.inl ⟨by kernel_rfl, ?_⟩) hHeld ?_
  · intro w' hSw
    obtain ⟨s0, s1⟩ := hSw
    first | (go_simp; done) | (go_simp; with_reducible rfl) | (go_simp; rw [IntKind.wrap_i64]; omega) | (go_simp; omega)
  simp only [Act.put, List.setIfInBounds_toArray, List.set_cons_zero, List.set_cons_succ]
  refine wpAnyH_take (i := 22) (v := .pointer (some ⟨g, i * 5, none⟩)) rfl (by kernel_rfl) (by kernel_rfl) (by kernel_rfl) (fun _ _ _ h => h) (Or.inl ⟨by kernel_rfl, ?_⟩) hHeld ?_
  · intro w' hSw
    obtain ⟨s0, s1⟩ := hSw
    first | (go_simp; done) | (go_simp; with_reducible rfl) | (go_simp; rw [IntKind.wrap_i64]; omega) | (go_simp; omega)
  simp only [Act.put, List.setIfInBounds_toArray, List.set_cons_zero, List.set_cons_succ]
  refine wpAnyH_ready (rs := [16, 23]) (by kernel_rfl) (by simp) ?_
  refine ready_two ?_ ?_
  · have hp_ := HP.out j hj
    unfold PlAt at hp_
    obtain ⟨j0, j1, j2, j3, j4⟩ := hp_
    rw [HB.out] at j0 j1 j2 j3 j4
    refine ready_val v0 (.agg #[.int .i64 (V (b * 4)), .int .i64 (V (b * 4 + 1)), .int .i64 (V (b * 4 + 2)), .int .i64 (V (b * 4 + 3)), .int .i64 (b : Int)]) rfl (by kernel_rfl) ?_ (⟨c1v, Ne.symm ng⟩) (fun hHeld => ?_) AllReadyH.nil
    · go_simp
    clear j0 j1 j2 j3 j4
    simp only [Act.put, List.setIfInBounds_toArray, List.set_cons_zero, List.set_cons_succ]
    refine wpAnyH_ready (rs := [23]) (by kernel_rfl) (by simp) ?_
    have hp_ := HP.out i hi
    unfold PlAt at hp_
    obtain ⟨i0, i1, i2, i3, i4⟩ := hp_
    rw [HA.out] at i0 i1 i2 i3 i4
    refine ready_val v0 (.agg #[.int .i64 (V (a * 4)), .int .i64 (V (a * 4 + 1)), .int .i64 (V (a * 4 + 2)), .int .i64 (V (a * 4 + 3)), .int .i64 (a : Int)]) rfl (by kernel_rfl) ?_ (⟨c1v, Ne.symm ng⟩) (fun hHeld => ?_) AllReadyH.nil
    · go_simp
    clear i0 i1 i2 i3 i4
    simp only [Act.put, List.setIfInBounds_toArray, List.set_cons_zero, List.set_cons_succ]
    refine wpAnyH_take (i := 24) (v := .pointer (some ⟨g, i * 5, none⟩)) rfl (by kernel_rfl) (by kernel_rfl) (by kernel_rfl) (fun _ _ _ h => h) (Or.inl ⟨by kernel_rfl, ?_⟩) hHeld ?_
    · intro w' hSw
      obtain ⟨s0, s1⟩ := hSw
      first | (go_simp; done) | (go_simp; with_reducible rfl) | (go_simp; rw [IntKind.wrap_i64]; omega) | (go_simp; omega)
    simp only [Act.put, List.setIfInBounds_toArray, List.set_cons_zero, List.set_cons_succ]
    refine wpAnyH_ready (rs := [25]) (by kernel_rfl) (by simp) ?_
    have hp_ := HP.out i hi
    unfold PlAt at hp_
    obtain ⟨i0, i1, i2, i3, i4⟩ := hp_
    have fz := FG.out
    refine Exists.elim (show ∃ z, z = put5 v0 g i V b from ⟨_, rfl⟩) (fun v0_4 hW_ => ?_)
    have hv_ : Hid (put5 v0 g i V b = v0_4) := hW_.symm
    have c1b : v0_4.cell? ⟨q, 1, none⟩ = some (.slice (some ⟨g, 0, none⟩) n cap) := by rw [← hv_.out]; exact (put_turn (X := fun k => k = g) (W := v0) (g := g) (i := i) (V := V) (a := b) rfl).cell (p := ⟨q, 1, none⟩) zqv (Ne.symm ng) |>.trans c1v
    refine ready_skp v0_4 rfl (by kernel_rfl) ?_ (⟨c1b, Ne.symm ng⟩) (fun hHeld => ?_) AllReadyH.nil
    · rw [hW_]; clear hW_; unfold put5; go_simp
    clear i0 i1 i2 i3 i4 fz
    clear hW_
    simp only [Act.put, List.setIfInBounds_toArray, List.set_cons_zero, List.set_cons_succ]
    refine wpAnyH_take (i := 26) (v := .pointer (some ⟨g, j * 5, none⟩)) rfl (by kernel_rfl) (by kernel_rfl) (by kernel_rfl) (fun _ _ _ h => h) (Or.inl ⟨by kernel_rfl, ?_⟩) hHeld ?_
    · intro w' hSw
      obtain ⟨s0, s1⟩ := hSw
      first | (go_simp; done) | (go_simp; with_reducible rfl) | (go_simp; rw [IntKind.wrap_i64]; omega) | (go_simp; omega)
    simp only [Act.put, List.setIfInBounds_toArray, List.set_cons_zero, List.set_cons_succ]
    refine wpAnyH_ready (rs := [27]) (by kernel_rfl) (by simp) ?_
    have SW := HV.out.swap c1v i j
    rw [HA.out, HB.out, hv_.out] at SW
    have fz : ∀ o, v0_4.frozen? ⟨g, o, none⟩ = false := by rw [← hv_.out]; exact fun o => put_froz (FG.out o)
    have hy0 := HY.out.1
    have hy1 := HY.out.2.1
    have hy2 := HY.out.2.2.1
    have hy3 := HY.out.2.2.2.1
    have hy4 := HY.out.2.2.2.2
    rw [hv_.out] at hy0 hy1 hy2 hy3 hy4
    refine Exists.elim (show ∃ z, z = put5 v0_4 g j V a from ⟨_, rfl⟩) (fun v0_5 hW_ => ?_)
    rw [← hW_] at SW
    have c1c : v0_5.cell? ⟨q, 1, none⟩ = some (.slice (some ⟨g, 0, none⟩) n cap) := by rw [hW_]; exact (put_turn (X := fun k => k = g) (W := v0_4) (g := g) (i := j) (V := V) (a := a) rfl).cell (p := ⟨q, 1, none⟩) (by rw [← hv_.out]; exact Nat.lt_of_lt_of_le zqv (put_turn (X := fun k => k = g) (g := g) rfl).size) (Ne.symm ng) |>.trans c1b
    refine ready_skp v0_5 rfl (by kernel_rfl) ?_ (⟨c1c, Ne.symm ng⟩) (fun hHeld => ?_) AllReadyH.nil
    · rw [hW_]; clear hW_; unfold put5; go_simp
    clear hW_
    simp only [Act.put, List.setIfInBounds_toArray, List.set_cons_zero, List.set_cons_succ]
    refine wpAnyH_done (by kernel_rfl) ?_ _
    clear hHeld
    go_end0
    exact ⟨rfl, SW.1, TV.out.trans SW.2⟩
  · have hp_ := HP.out i hi
    unfold PlAt at hp_
    obtain ⟨i0, i1, i2, i3, i4⟩ := hp_
    rw [HA.out] at i0 i1 i2 i3 i4
    refine ready_val v0 (.agg #[.int .i64 (V (a * 4)), .int .i64 (V (a * 4 + 1)), .int .i64 (V (a * 4 + 2)), .int .i64 (V (a * 4 + 3)), .int .i64 (a : Int)]) rfl (by kernel_rfl) ?_ (⟨c1v, Ne.symm ng⟩) (fun hHeld => ?_) AllReadyH.nil
    · go_simp
    clear i0 i1 i2 i3 i4
    simp only [Act.put, List.setIfInBounds_toArray, List.set_cons_zero, List.set_cons_succ]
    refine wpAnyH_ready (rs := [16]) (by kernel_rfl) (by simp) ?_
    have hp_ := HP.out j hj
    unfold PlAt at hp_
    obtain ⟨j0, j1, j2, j3, j4⟩ := hp_
    rw [HB.out] at j0 j1 j2 j3 j4
    refine ready_val v0 (.agg #[.int .i64 (V (b * 4)), .int .i64 (V (b * 4 + 1)), .int .i64 (V (b * 4 + 2)), .int .i64 (V (b * 4 + 3)), .int .i64 (b : Int)]) rfl (by kernel_rfl) ?_ (⟨c1v, Ne.symm ng⟩) (fun hHeld => ?_) AllReadyH.nil
    · go_simp
    clear j0 j1 j2 j3 j4
    simp only [Act.put, List.setIfInBounds_toArray, List.set_cons_zero, List.set_cons_succ]
    refine wpAnyH_take (i := 24) (v := .pointer (some ⟨g, i * 5, none⟩)) rfl (by kernel_rfl) (by kernel_rfl) (by kernel_rfl) (fun _ _ _ h => h) (Or.inl ⟨by kernel_rfl, ?_⟩) hHeld ?_
    · intro w' hSw
      obtain ⟨s0, s1⟩ := hSw
      first | (go_simp; done) | (go_simp; with_reducible rfl) | (go_simp; rw [IntKind.wrap_i64]; omega) | (go_simp; omega)
    simp only [Act.put, List.setIfInBounds_toArray, List.set_cons_zero, List.set_cons_succ]
    refine wpAnyH_ready (rs := [25]) (by kernel_rfl) (by simp) ?_
    have hp_ := HP.out i hi
    unfold PlAt at hp_
    obtain ⟨i0, i1, i2, i3, i4⟩ := hp_
    have fz := FG.out
    refine Exists.elim (show ∃ z, z = put5 v0 g i V b from ⟨_, rfl⟩) (fun v0_7 hW_ => ?_)
    have hv_ : Hid (put5 v0 g i V b = v0_7) := hW_.symm
    have c1b : v0_7.cell? ⟨q, 1, none⟩ = some (.slice (some ⟨g, 0, none⟩) n cap) := by rw [← hv_.out]; exact (put_turn (X := fun k => k = g) (W := v0) (g := g) (i := i) (V := V) (a := b) rfl).cell (p := ⟨q, 1, none⟩) zqv (Ne.symm ng) |>.trans c1v
    refine ready_skp v0_7 rfl (by kernel_rfl) ?_ (⟨c1b, Ne.symm ng⟩) (fun hHeld => ?_) AllReadyH.nil
    · rw [hW_]; clear hW_; unfold put5; go_simp
    clear i0 i1 i2 i3 i4 fz
    clear hW_
    simp only [Act.put, List.setIfInBounds_toArray, List.set_cons_zero, List.set_cons_succ]
    refine wpAnyH_take (i := 26) (v := .pointer (some ⟨g, j * 5, none⟩)) rfl (by kernel_rfl) (by kernel_rfl) (by kernel_rfl) (fun _ _ _ h => h) (Or.inl ⟨by kernel_rfl, ?_⟩) hHeld ?_
    · intro w' hSw
      obtain ⟨s0, s1⟩ := hSw
      first | (go_simp; done) | (go_simp; with_reducible rfl) | (go_simp; rw [IntKind.wrap_i64]; omega) | (go_simp; omega)
    simp only [Act.put, List.setIfInBounds_toArray, List.set_cons_zero, List.set_cons_succ]
    refine wpAnyH_ready (rs := [27]) (by kernel_rfl) (by simp) ?_
    have SW := HV.out.swap c1v i j
    rw [HA.out, HB.out, hv_.out] at SW
    have fz : ∀ o, v0_7.frozen? ⟨g, o, none⟩ = false := by rw [← hv_.out]; exact fun o => put_froz (FG.out o)
    have hy0 := HY.out.1
    have hy1 := HY.out.2.1
    have hy2 := HY.out.2.2.1
    have hy3 := HY.out.2.2.2.1
    have hy4 := HY.out.2.2.2.2
    rw [hv_.out] at hy0 hy1 hy2 hy3 hy4
    refine Exists.elim (show ∃ z, z = put5 v0_7 g j V a from ⟨_, rfl⟩) (fun v0_8 hW_ => ?_)
    rw [← hW_] at SW
    have c1c : v0_8.cell? ⟨q, 1, none⟩ = some (.slice (some ⟨g, 0, none⟩) n cap) := by rw [hW_]; exact (put_turn (X := fun k => k = g) (W := v0_7) (g := g) (i := j) (V := V) (a := a) rfl).cell (p := ⟨q, 1, none⟩) (by rw [← hv_.out]; exact Nat.lt_of_lt_of_le zqv (put_turn (X := fun k => k = g) (g := g) rfl).size) (Ne.symm ng) |>.trans c1b
    refine ready_skp v0_8 rfl (by kernel_rfl) ?_ (⟨c1c, Ne.symm ng⟩) (fun hHeld => ?_) AllReadyH.nil
    · rw [hW_]; clear hW_; unfold put5; go_simp
    clear hW_
    simp only [Act.put, List.setIfInBounds_toArray, List.set_cons_zero, List.set_cons_succ]
    refine wpAnyH_done (by kernel_rfl) ?_ _
    clear hHeld
    go_end0
    exact ⟨rfl, SW.1, TV.out.trans SW.2⟩
end Go.Proofs.Ytcialcejmjggeaa
