/-
What is proved: the methods of a queue of machines: who is ahead, how many, two swapped, one taken off, one put on.
-/
import Derived.Test.YtcialcejmjggeaaHpQ
import Derived.Deep.RegionHeldLaw
import Derived.Deep.DeepCutAuto

namespace Go.Proofs.Ytcialcejmjggeaa
set_option maxRecDepth 40000
open Go.ChangeShapes Go.WideShapes Go.ChangeAt Go.RowKit
set_option linter.unusedVariables false
set_option linter.unusedSimpArgs false

theorem upon_run {P : Program} {α : Type} {op : Oper} {act : Act} {K : Act → World → Prop} {Q : Exit → Act → World → Prop} {M : Sem α} {w w' : World} {a : α} {F : α → World → Result Next} (h : Sem.run P M w = .ok a w') (g : Oper.upon P op act K Q (F a w')) : Oper.upon P op act K Q ((Sem.run P M w).andThen F) := by
  rw [h]; exact g
set_option maxHeartbeats 2000000 in
theorem aheadShed_any (V : Nat → Int) (a b : Nat) (ha : a < 60) (hb : b < 60) (w : World) :
    Calls Try.prog 84 #[.agg #[], plV V a, plV V b] w fun e w' => e = .returned (.bool (decide (kShed V a < kShed V b))) ∧ Below w.heap.size w w' := by
  have hk := kShed_lt (V := V) (a := a) (b := b) (by omega) (by omega)
  have HK : Hid (decide (kShed V a < kShed V b) = if V (a * 4 + 3) = V (b * 4 + 3) then decide ((b : Int) < (a : Int)) else decide (V (b * 4 + 3) < V (a * 4 + 3))) := by
    show decide _ = _
    by_cases q : V (a * 4 + 3) = V (b * 4 + 3)
    · rw [if_pos q, decide_eq_decide, hk]; omega
    · rw [if_neg q, decide_eq_decide, hk]; omega
  clear hk
  unfold plV
  obtain ⟨x, hx⟩ : ∃ z, V (a * 4 + 3) = z := ⟨_, rfl⟩
  obtain ⟨y, hy⟩ : ∃ z, V (b * 4 + 3) = z := ⟨_, rfl⟩
  rw [hx, hy] at HK ⊢
  clear hx hy
  by_cases h : x = y
  · subst h
    go_enter Try.func84, Try.ntmps84
    go_wp2
    go_ret
    exact ⟨ret_bool (by rw [HK.out]; simp), (by repeat (first | with_reducible exact Below.refl _ _ | with_reducible refine Below.setCell ?_ (by first | omega | (simp; done) | (simp; omega)) _ | with_reducible refine bDrewN ?_ _ | with_reducible refine Below.drew ?_ | with_reducible refine Below.alloc ?_ (by first | omega | (simp; done) | (simp; omega)) _))⟩
  · have h1 : (x == y) = false := by simpa using h
    go_enter Try.func84, Try.ntmps84
    go_wp2
    go_ret
    exact ⟨ret_bool (by rw [HK.out]; simp [h]), (by repeat (first | with_reducible exact Below.refl _ _ | with_reducible refine Below.setCell ?_ (by first | omega | (simp; done) | (simp; omega)) _ | with_reducible refine bDrewN ?_ _ | with_reducible refine Below.drew ?_ | with_reducible refine Below.alloc ?_ (by first | omega | (simp; done) | (simp; omega)) _))⟩
set_option maxHeartbeats 2000000 in
theorem aheadStart_any (V : Nat → Int) (a b : Nat) (ha : a < 60) (hb : b < 60) (w : World) :
    Calls Try.prog 85 #[.agg #[], plV V a, plV V b] w fun e w' => e = .returned (.bool (decide (kStart V a < kStart V b))) ∧ Below w.heap.size w w' := by
  have hk := kStart_lt (V := V) (a := a) (b := b) (by omega) (by omega)
  have HK : Hid (decide (kStart V a < kStart V b) = if V (a * 4 + 3) = V (b * 4 + 3) then decide ((a : Int) < (b : Int)) else decide (V (a * 4 + 3) < V (b * 4 + 3))) := by
    show decide _ = _
    by_cases q : V (a * 4 + 3) = V (b * 4 + 3)
    · rw [if_pos q, decide_eq_decide, hk]; omega
    · rw [if_neg q, decide_eq_decide, hk]; omega
  clear hk
  unfold plV
  obtain ⟨x, hx⟩ : ∃ z, V (a * 4 + 3) = z := ⟨_, rfl⟩
  obtain ⟨y, hy⟩ : ∃ z, V (b * 4 + 3) = z := ⟨_, rfl⟩
  rw [hx, hy] at HK ⊢
  clear hx hy
  by_cases h : x = y
  · subst h
    go_enter Try.func85, Try.ntmps85
    go_wp2
    go_ret
    exact ⟨ret_bool (by rw [HK.out]; simp), (by repeat (first | with_reducible exact Below.refl _ _ | with_reducible refine Below.setCell ?_ (by first | omega | (simp; done) | (simp; omega)) _ | with_reducible refine bDrewN ?_ _ | with_reducible refine Below.drew ?_ | with_reducible refine Below.alloc ?_ (by first | omega | (simp; done) | (simp; omega)) _))⟩
  · have h1 : (x == y) = false := by simpa using h
    go_enter Try.func85, Try.ntmps85
    go_wp2
    go_ret
    exact ⟨ret_bool (by rw [HK.out]; simp [h]), (by repeat (first | with_reducible exact Below.refl _ _ | with_reducible refine Below.setCell ?_ (by first | omega | (simp; done) | (simp; omega)) _ | with_reducible refine bDrewN ?_ _ | with_reducible refine Below.drew ?_ | with_reducible refine Below.alloc ?_ (by first | omega | (simp; done) | (simp; omega)) _))⟩
set_option maxRecDepth 20000 in
set_option maxHeartbeats 4000000 in
theorem lessShed_any (X : Nat → Prop) (q n i j : Nat) (V : Nat → Int) (P : Nat → Nat) (w : World) (hi : i < n) (hj : j < n) (ha : P i < 60) (hb : P j < 60) (HQ : Hid (QAt X q w true n V P)) :
    Calls Try.prog 80 #[.pointer (some ⟨q, 0, none⟩), .int .i64 (i : Int), .int .i64 (j : Int)] w fun e w' => e = .returned (.bool (decide (kO true V (P i) < kO true V (P j)))) ∧ Below w.heap.size w w' := by
  obtain ⟨g, cap, c0, c1, -, -, zq, zg, -, -, -, -, hP⟩ := HQ.out.open_ (by omega)
  have hpi := hP i hi
  have hpj := hP j hj
  unfold PlAt at hpi hpj
  obtain ⟨i0, i1, i2, i3, i4⟩ := hpi
  obtain ⟨j0, j1, j2, j3, j4⟩ := hpj
  clear hP HQ
  obtain ⟨a, hA⟩ : ∃ z, P i = z := ⟨_, rfl⟩
  obtain ⟨b, hB⟩ : ∃ z, P j = z := ⟨_, rfl⟩
  rw [hA] at i0 i1 i2 i3 i4 ha ⊢
  rw [hB] at j0 j1 j2 j3 j4 hb ⊢
  clear hA hB
  have ki : (i : Int) < (n : Int) := by omega
  have kj : (j : Int) < (n : Int) := by omega
  have HA : Hid (∀ w, Calls Try.prog 84 #[.agg #[], plV V a, plV V b] w fun e w' => e = .returned (.bool (decide (kO true V a < kO true V b))) ∧ Below w.heap.size w w') := fun w => aheadShed_any V a b ha hb w
  have hby : byV true = .iface 53 (.agg #[]) := rfl
  rw [hby] at c0
  clear hby hi hj ha hb
  go_enter Try.func80, Try.ntmps80
  go_wp2_with fail
  refine wp_region_held_drew (S := fun w' => w'.cell? ⟨q, 0, none⟩ = some (.iface 53 (.agg #[])) ∧ w'.cell? ⟨q, 1, none⟩ = some (.slice (some ⟨g, 0, none⟩) n cap) ∧ w'.cell? ⟨g, i * 5, none⟩ = some (.int .i64 ((V (a * 4)))) ∧ w'.cell? ⟨g, i * 5 + 1, none⟩ = some (.int .i64 ((V (a * 4 + 1)))) ∧ w'.cell? ⟨g, i * 5 + 2, none⟩ = some (.int .i64 ((V (a * 4 + 2)))) ∧ w'.cell? ⟨g, i * 5 + 3, none⟩ = some (.int .i64 ((V (a * 4 + 3)))) ∧ w'.cell? ⟨g, i * 5 + 4, none⟩ = some (.int .i64 ((a : Int))) ∧ w'.cell? ⟨g, j * 5, none⟩ = some (.int .i64 ((V (b * 4)))) ∧ w'.cell? ⟨g, j * 5 + 1, none⟩ = some (.int .i64 ((V (b * 4 + 1)))) ∧ w'.cell? ⟨g, j * 5 + 2, none⟩ = some (.int .i64 ((V (b * 4 + 2)))) ∧ w'.cell? ⟨g, j * 5 + 3, none⟩ = some (.int .i64 ((V (b * 4 + 3)))) ∧ w'.cell? ⟨g, j * 5 + 4, none⟩ = some (.int .i64 ((b : Int)))) (by kernel_rfl) ?_ (fun hHeld => ?_)
  · exact ⟨c0, c1, i0, i1, i2, i3, i4, j0, j1, j2, j3, j4⟩
  obtain ⟨v0, hv0⟩ : ∃ z, z = w.drew := ⟨_, rfl⟩
  try rw [← hv0] at hHeld
  rw [← hv0]
  have bv0 : Below w.heap.size w v0 := by rw [hv0]; exact Below.drew (Below.refl _ _)
  clear hv0
  have B0 : Below w.heap.size w v0 := bv0
  clear bv0
  refine wpAnyH_take (i := 0) (v := .pointer (some ⟨q, 0, none⟩)) rfl (by kernel_rfl) (by kernel_rfl) (by kernel_rfl) (fun _ _ _ h => h) (Or.inl ⟨by kernel_rfl, ?_⟩) hHeld ?_
  · intro w' hSw
    obtain ⟨s0, s1, si0, si1, si2, si3, si4, sj0, sj1, sj2, sj3, sj4⟩ := hSw
    first | (go_simp; done) | (go_simp; with_reducible rfl) | (go_simp; rw [IntKind.wrap_i64]; omega) | (go_simp; omega)
  simp only [Act.put, List.setIfInBounds_toArray, List.set_cons_zero, List.set_cons_succ]
  refine wpAnyH_take (i := 1) (v := .pointer (some ⟨q, 0, none⟩)) rfl (by kernel_rfl) (by kernel_rfl) (by kernel_rfl) (fun _ _ _ h => h) (Or.inl ⟨by kernel_rfl, ?_⟩) hHeld ?_
  · intro w' hSw
    obtain ⟨s0, s1, si0, si1, si2, si3, si4, sj0, sj1, sj2, sj3, sj4⟩ := hSw
    first | (go_simp; done) | (go_simp; with_reducible rfl) | (go_simp; rw [IntKind.wrap_i64]; omega) | (go_simp; omega)
  simp only [Act.put, List.setIfInBounds_toArray, List.set_cons_zero, List.set_cons_succ]
  refine wpAnyH_take (i := 2) (v := .pointer (some ⟨q, 0, none⟩)) rfl (by kernel_rfl) (by kernel_rfl) (by kernel_rfl) (fun _ _ _ h => h) (Or.inl ⟨by kernel_rfl, ?_⟩) hHeld ?_
  · intro w' hSw
    obtain ⟨s0, s1, si0, si1, si2, si3, si4, sj0, sj1, sj2, sj3, sj4⟩ := hSw
    first | (go_simp; done) | (go_simp; with_reducible rfl) | (go_simp; rw [IntKind.wrap_i64]; omega) | (go_simp; omega)
  simp only [Act.put, List.setIfInBounds_toArray, List.set_cons_zero, List.set_cons_succ]
  refine wpAnyH_take (i := 3) (v := .iface 53 (.agg #[])) rfl (by kernel_rfl) (by kernel_rfl) (by kernel_rfl) (fun _ _ _ h => h) (Or.inl ⟨by kernel_rfl, ?_⟩) hHeld ?_
  · intro w' hSw
    obtain ⟨s0, s1, si0, si1, si2, si3, si4, sj0, sj1, sj2, sj3, sj4⟩ := hSw
    first | (go_simp; done) | (go_simp; with_reducible rfl) | (go_simp; rw [IntKind.wrap_i64]; omega) | (go_simp; omega)
  simp only [Act.put, List.setIfInBounds_toArray, List.set_cons_zero, List.set_cons_succ]
  refine wpAnyH_take (i := 4) (v := .pointer (some ⟨q, 0, none⟩)) rfl (by kernel_rfl) (by kernel_rfl) (by kernel_rfl) (fun _ _ _ h => h) (Or.inl ⟨by kernel_rfl, ?_⟩) hHeld ?_
  · intro w' hSw
    obtain ⟨s0, s1, si0, si1, si2, si3, si4, sj0, sj1, sj2, sj3, sj4⟩ := hSw
    first | (go_simp; done) | (go_simp; with_reducible rfl) | (go_simp; rw [IntKind.wrap_i64]; omega) | (go_simp; omega)
  simp only [Act.put, List.setIfInBounds_toArray, List.set_cons_zero, List.set_cons_succ]
  refine wpAnyH_take (i := 5) (v := .pointer (some ⟨q, 0, none⟩)) rfl (by kernel_rfl) (by kernel_rfl) (by kernel_rfl) (fun _ _ _ h => h) (Or.inl ⟨by kernel_rfl, ?_⟩) hHeld ?_
  · intro w' hSw
    obtain ⟨s0, s1, si0, si1, si2, si3, si4, sj0, sj1, sj2, sj3, sj4⟩ := hSw
    first | (go_simp; done) | (go_simp; with_reducible rfl) | (go_simp; rw [IntKind.wrap_i64]; omega) | (go_simp; omega)
  simp only [Act.put, List.setIfInBounds_toArray, List.set_cons_zero, List.set_cons_succ]
  refine wpAnyH_take (i := 6) (v := .pointer (some ⟨q, 1, none⟩)) rfl (by kernel_rfl) (by kernel_rfl) (by kernel_rfl) (fun _ _ _ h => h) (Or.inl ⟨by kernel_rfl, ?_⟩) hHeld ?_
  · intro w' hSw
    obtain ⟨s0, s1, si0, si1, si2, si3, si4, sj0, sj1, sj2, sj3, sj4⟩ := hSw
    first | (go_simp; done) | (go_simp; with_reducible rfl) | (go_simp; rw [IntKind.wrap_i64]; omega) | (go_simp; omega)
  simp only [Act.put, List.setIfInBounds_toArray, List.set_cons_zero, List.set_cons_succ]
  refine wpAnyH_take (i := 7) (v := .slice (some ⟨g, 0, none⟩) n cap) rfl (by kernel_rfl) (by kernel_rfl) (by kernel_rfl) (fun _ _ _ h => h) (Or.inl ⟨by kernel_rfl, ?_⟩) hHeld ?_
  · intro w' hSw
    obtain ⟨s0, s1, si0, si1, si2, si3, si4, sj0, sj1, sj2, sj3, sj4⟩ := hSw
    first | (go_simp; done) | (go_simp; with_reducible rfl) | (go_simp; rw [IntKind.wrap_i64]; omega) | (go_simp; omega)
  simp only [Act.put, List.setIfInBounds_toArray, List.set_cons_zero, List.set_cons_succ]
  refine wpAnyH_take (i := 8) (v := .int .i64 (i : Int)) rfl (by kernel_rfl) (by kernel_rfl) (by kernel_rfl) (fun _ _ _ h => h) (Or.inl ⟨by kernel_rfl, ?_⟩) hHeld ?_
  · intro w' hSw
    obtain ⟨s0, s1, si0, si1, si2, si3, si4, sj0, sj1, sj2, sj3, sj4⟩ := hSw
    first | (go_simp; done) | (go_simp; with_reducible rfl) | (go_simp; rw [IntKind.wrap_i64]; omega) | (go_simp; omega)
  simp only [Act.put, List.setIfInBounds_toArray, List.set_cons_zero, List.set_cons_succ]
  refine wpAnyH_take (i := 9) (v := .pointer (some ⟨g, i * 5, none⟩)) rfl (by kernel_rfl) (by kernel_rfl) (by kernel_rfl) (fun _ _ _ h => h) (Or.inl ⟨by kernel_rfl, ?_⟩) hHeld ?_
  · intro w' hSw
    obtain ⟨s0, s1, si0, si1, si2, si3, si4, sj0, sj1, sj2, sj3, sj4⟩ := hSw
    first | (go_simp; done) | (go_simp; with_reducible rfl) | (go_simp; rw [IntKind.wrap_i64]; omega) | (go_simp; omega)
  simp only [Act.put, List.setIfInBounds_toArray, List.set_cons_zero, List.set_cons_succ]
  refine wpAnyH_take (i := 10) (v := .agg #[.int .i64 (V (a * 4)), .int .i64 (V (a * 4 + 1)), .int .i64 (V (a * 4 + 2)), .int .i64 (V (a * 4 + 3)), .int .i64 (a : Int)]) rfl (by kernel_rfl) (by kernel_rfl) (by kernel_rfl) (fun _ _ _ h => h) (Or.inl ⟨by kernel_rfl, ?_⟩) hHeld ?_
  · intro w' hSw
    obtain ⟨s0, s1, si0, si1, si2, si3, si4, sj0, sj1, sj2, sj3, sj4⟩ := hSw
    first | (go_simp; done) | (go_simp; with_reducible rfl) | (go_simp; rw [IntKind.wrap_i64]; omega) | (go_simp; omega)
  simp only [Act.put, List.setIfInBounds_toArray, List.set_cons_zero, List.set_cons_succ]
  refine wpAnyH_take (i := 11) (v := .pointer (some ⟨q, 0, none⟩)) rfl (by kernel_rfl) (by kernel_rfl) (by kernel_rfl) (fun _ _ _ h => h) (Or.inl ⟨by kernel_rfl, ?_⟩) hHeld ?_
  · intro w' hSw
    obtain ⟨s0, s1, si0, si1, si2, si3, si4, sj0, sj1, sj2, sj3, sj4⟩ := hSw
    first | (go_simp; done) | (go_simp; with_reducible rfl) | (go_simp; rw [IntKind.wrap_i64]; omega) | (go_simp; omega)
  simp only [Act.put, List.setIfInBounds_toArray, List.set_cons_zero, List.set_cons_succ]
  refine wpAnyH_take (i := 12) (v := .pointer (some ⟨q, 0, none⟩)) rfl (by kernel_rfl) (by kernel_rfl) (by kernel_rfl) (fun _ _ _ h => h) (Or.inl ⟨by kernel_rfl, ?_⟩) hHeld ?_
  · intro w' hSw
    obtain ⟨s0, s1, si0, si1, si2, si3, si4, sj0, sj1, sj2, sj3, sj4⟩ := hSw
    first | (go_simp; done) | (go_simp; with_reducible rfl) | (go_simp; rw [IntKind.wrap_i64]; omega) | (go_simp; omega)
  simp only [Act.put, List.setIfInBounds_toArray, List.set_cons_zero, List.set_cons_succ]
  refine wpAnyH_take (i := 13) (v := .pointer (some ⟨q, 1, none⟩)) rfl (by kernel_rfl) (by kernel_rfl) (by kernel_rfl) (fun _ _ _ h => h) (Or.inl ⟨by kernel_rfl, ?_⟩) hHeld ?_
  · intro w' hSw
    obtain ⟨s0, s1, si0, si1, si2, si3, si4, sj0, sj1, sj2, sj3, sj4⟩ := hSw
    first | (go_simp; done) | (go_simp; with_reducible rfl) | (go_simp; rw [IntKind.wrap_i64]; omega) | (go_simp; omega)
  simp only [Act.put, List.setIfInBounds_toArray, List.set_cons_zero, List.set_cons_succ]
  refine wpAnyH_take (i := 14) (v := .slice (some ⟨g, 0, none⟩) n cap) rfl (by kernel_rfl) (by kernel_rfl) (by kernel_rfl) (fun _ _ _ h => h) (Or.inl ⟨by kernel_rfl, ?_⟩) hHeld ?_
  · intro w' hSw
    obtain ⟨s0, s1, si0, si1, si2, si3, si4, sj0, sj1, sj2, sj3, sj4⟩ := hSw
    first | (go_simp; done) | (go_simp; with_reducible rfl) | (go_simp; rw [IntKind.wrap_i64]; omega) | (go_simp; omega)
  simp only [Act.put, List.setIfInBounds_toArray, List.set_cons_zero, List.set_cons_succ]
  refine wpAnyH_take (i := 15) (v := .int .i64 (j : Int)) rfl (by kernel_rfl) (by kernel_rfl) (by kernel_rfl) (fun _ _ _ h => h) (Or.inl ⟨by kernel_rfl, ?_⟩) hHeld ?_
  · intro w' hSw
    obtain ⟨s0, s1, si0, si1, si2, si3, si4, sj0, sj1, sj2, sj3, sj4⟩ := hSw
    first | (go_simp; done) | (go_simp; with_reducible rfl) | (go_simp; rw [IntKind.wrap_i64]; omega) | (go_simp; omega)
  simp only [Act.put, List.setIfInBounds_toArray, List.set_cons_zero, List.set_cons_succ]
  refine wpAnyH_take (i := 16) (v := .pointer (some ⟨g, j * 5, none⟩)) rfl (by kernel_rfl) (by kernel_rfl) (by kernel_rfl) (fun _ _ _ h => h) (Or.inl ⟨by kernel_rfl, ?_⟩) hHeld ?_
  · intro w' hSw
    obtain ⟨s0, s1, si0, si1, si2, si3, si4, sj0, sj1, sj2, sj3, sj4⟩ := hSw
    first | (go_simp; done) | (go_simp; with_reducible rfl) | (go_simp; rw [IntKind.wrap_i64]; omega) | (go_simp; omega)
  simp only [Act.put, List.setIfInBounds_toArray, List.set_cons_zero, List.set_cons_succ]
  refine wpAnyH_take (i := 17) (v := .agg #[.int .i64 (V (b * 4)), .int .i64 (V (b * 4 + 1)), .int .i64 (V (b * 4 + 2)), .int .i64 (V (b * 4 + 3)), .int .i64 (b : Int)]) rfl (by kernel_rfl) (by kernel_rfl) (by kernel_rfl) (fun _ _ _ h => h) (Or.inl ⟨by kernel_rfl, ?_⟩) hHeld ?_
  · intro w' hSw
    obtain ⟨s0, s1, si0, si1, si2, si3, si4, sj0, sj1, sj2, sj3, sj4⟩ := hSw
    first | (go_simp; done) | (go_simp; with_reducible rfl) | (go_simp; rw [IntKind.wrap_i64]; omega) | (go_simp; omega)
  simp only [Act.put, List.setIfInBounds_toArray, List.set_cons_zero, List.set_cons_succ]
  refine wpAnyH_take (i := 18) (v := .iface 53 (.agg #[])) rfl (by kernel_rfl) (by kernel_rfl) (by kernel_rfl) (fun _ _ _ h => h) (Or.inl ⟨by kernel_rfl, ?_⟩) hHeld ?_
  · intro w' hSw
    obtain ⟨s0, s1, si0, si1, si2, si3, si4, sj0, sj1, sj2, sj3, sj4⟩ := hSw
    first | (go_simp; done) | (go_simp; with_reducible rfl) | (go_simp; rw [IntKind.wrap_i64]; omega) | (go_simp; omega)
  simp only [Act.put, List.setIfInBounds_toArray, List.set_cons_zero, List.set_cons_succ]
  refine wpAnyH_take (i := 19) (v := .iface 53 (.agg #[])) rfl (by kernel_rfl) (by kernel_rfl) (by kernel_rfl) (fun _ _ _ h => h) (Or.inl ⟨by kernel_rfl, ?_⟩) hHeld ?_
  · intro w' hSw
    obtain ⟨s0, s1, si0, si1, si2, si3, si4, sj0, sj1, sj2, sj3, sj4⟩ := hSw
    first | (go_simp; done) | (go_simp; with_reducible rfl) | (go_simp; rw [IntKind.wrap_i64]; omega) | (go_simp; omega)
  simp only [Act.put, List.setIfInBounds_toArray, List.set_cons_zero, List.set_cons_succ]
  refine wpAnyH_ready (rs := [20]) (by kernel_rfl) (by simp) ?_
  refine (AllReadyH.cons rfl (fun KK hK => ?_) AllReadyH.nil)
  go_simp
  go_wp2_with fail
  refine upon_run (a := (84, Value.agg #[])) (w' := v0) (by kernel_rfl) ?_
  go_wp2_with fail
  refine (HA.out _).mono ?_
  rintro e w1 ⟨rfl, B1⟩
  have b1 : Below w.heap.size w w1 := B0.trans (B1.mono B0.size)
  have zq1 : q < v0.heap.size := Nat.lt_of_lt_of_le zq B0.size
  have zg1 : g < v0.heap.size := Nat.lt_of_lt_of_le zg B0.size
  refine hK.out _ _ (⟨(b1.cell (p := ⟨q, 0, none⟩) zq).trans c0, (b1.cell (p := ⟨q, 1, none⟩) zq).trans c1, (b1.cell (p := ⟨g, i * 5, none⟩) zg).trans i0, (b1.cell (p := ⟨g, i * 5 + 1, none⟩) zg).trans i1, (b1.cell (p := ⟨g, i * 5 + 2, none⟩) zg).trans i2, (b1.cell (p := ⟨g, i * 5 + 3, none⟩) zg).trans i3, (b1.cell (p := ⟨g, i * 5 + 4, none⟩) zg).trans i4, (b1.cell (p := ⟨g, j * 5, none⟩) zg).trans j0, (b1.cell (p := ⟨g, j * 5 + 1, none⟩) zg).trans j1, (b1.cell (p := ⟨g, j * 5 + 2, none⟩) zg).trans j2, (b1.cell (p := ⟨g, j * 5 + 3, none⟩) zg).trans j3, (b1.cell (p := ⟨g, j * 5 + 4, none⟩) zg).trans j4⟩) (fun hHeld => ?_)
  clear hK KK
  refine wpAnyH_ready (rs := [21]) (by kernel_rfl) (by simp) ?_
  refine AllReadyH.cons rfl (fun KK hK => ?_) AllReadyH.nil
  go_simp
  refine hK.out _ _ hHeld (fun hHeld => ?_)
  clear hK KK
  refine wpAnyH_done (by kernel_rfl) ?_ _
  clear hHeld
  go_wp2
  go_ret
  exact ⟨rfl, (by repeat (first | with_reducible exact Below.refl _ _ | with_reducible exact b1 | with_reducible refine Below.setCell ?_ (by first | omega | (simp; done) | (simp; omega)) _ | with_reducible refine bDrewN ?_ _ | with_reducible refine Below.drew ?_ | with_reducible refine Below.alloc ?_ (by first | omega | (simp; done) | (simp; omega)) _))⟩
set_option maxRecDepth 20000 in
set_option maxHeartbeats 4000000 in
theorem lessStart_any (X : Nat → Prop) (q n i j : Nat) (V : Nat → Int) (P : Nat → Nat) (w : World) (hi : i < n) (hj : j < n) (ha : P i < 60) (hb : P j < 60) (HQ : Hid (QAt X q w false n V P)) :
    Calls Try.prog 80 #[.pointer (some ⟨q, 0, none⟩), .int .i64 (i : Int), .int .i64 (j : Int)] w fun e w' => e = .returned (.bool (decide (kO false V (P i) < kO false V (P j)))) ∧ Below w.heap.size w w' := by
  obtain ⟨g, cap, c0, c1, -, -, zq, zg, -, -, -, -, hP⟩ := HQ.out.open_ (by omega)
  have hpi := hP i hi
  have hpj := hP j hj
  unfold PlAt at hpi hpj
  obtain ⟨i0, i1, i2, i3, i4⟩ := hpi
  obtain ⟨j0, j1, j2, j3, j4⟩ := hpj
  clear hP HQ
  obtain ⟨a, hA⟩ : ∃ z, P i = z := ⟨_, rfl⟩
  obtain ⟨b, hB⟩ : ∃ z, P j = z := ⟨_, rfl⟩
  rw [hA] at i0 i1 i2 i3 i4 ha ⊢
  rw [hB] at j0 j1 j2 j3 j4 hb ⊢
  clear hA hB
  have ki : (i : Int) < (n : Int) := by omega
  have kj : (j : Int) < (n : Int) := by omega
  have HA : Hid (∀ w, Calls Try.prog 85 #[.agg #[], plV V a, plV V b] w fun e w' => e = .returned (.bool (decide (kO false V a < kO false V b))) ∧ Below w.heap.size w w') := fun w => aheadStart_any V a b ha hb w
  have hby : byV false = .iface 61 (.agg #[]) := rfl
  rw [hby] at c0
  clear hby hi hj ha hb
  go_enter Try.func80, Try.ntmps80
  go_wp2_with fail
  refine wp_region_held_drew (S := fun w' => w'.cell? ⟨q, 0, none⟩ = some (.iface 61 (.agg #[])) ∧ w'.cell? ⟨q, 1, none⟩ = some (.slice (some ⟨g, 0, none⟩) n cap) ∧ w'.cell? ⟨g, i * 5, none⟩ = some (.int .i64 ((V (a * 4)))) ∧ w'.cell? ⟨g, i * 5 + 1, none⟩ = some (.int .i64 ((V (a * 4 + 1)))) ∧ w'.cell? ⟨g, i * 5 + 2, none⟩ = some (.int .i64 ((V (a * 4 + 2)))) ∧ w'.cell? ⟨g, i * 5 + 3, none⟩ = some (.int .i64 ((V (a * 4 + 3)))) ∧ w'.cell? ⟨g, i * 5 + 4, none⟩ = some (.int .i64 ((a : Int))) ∧ w'.cell? ⟨g, j * 5, none⟩ = some (.int .i64 ((V (b * 4)))) ∧ w'.cell? ⟨g, j * 5 + 1, none⟩ = some (.int .i64 ((V (b * 4 + 1)))) ∧ w'.cell? ⟨g, j * 5 + 2, none⟩ = some (.int .i64 ((V (b * 4 + 2)))) ∧ w'.cell? ⟨g, j * 5 + 3, none⟩ = some (.int .i64 ((V (b * 4 + 3)))) ∧ w'.cell? ⟨g, j * 5 + 4, none⟩ = some (.int .i64 ((b : Int)))) (by kernel_rfl) ?_ (fun hHeld => ?_)
  · exact ⟨c0, c1, i0, i1, i2, i3, i4, j0, j1, j2, j3, j4⟩
  obtain ⟨v0, hv0⟩ : ∃ z, z = w.drew := ⟨_, rfl⟩
  try rw [← hv0] at hHeld
  rw [← hv0]
  have bv0 : Below w.heap.size w v0 := by rw [hv0]; exact Below.drew (Below.refl _ _)
  clear hv0
  have B0 : Below w.heap.size w v0 := bv0
  clear bv0
  refine wpAnyH_take (i := 0) (v := .pointer (some ⟨q, 0, none⟩)) rfl (by kernel_rfl) (by kernel_rfl) (by kernel_rfl) (fun _ _ _ h => h) (Or.inl ⟨by kernel_rfl, ?_⟩) hHeld ?_
  · intro w' hSw
    obtain ⟨s0, s1, si0, si1, si2, si3, si4, sj0, sj1, sj2, sj3, sj4⟩ := hSw
    first | (go_simp; done) | (go_simp; with_reducible rfl) | (go_simp; rw [IntKind.wrap_i64]; omega) | (go_simp; omega)
  simp only [Act.put, List.setIfInBounds_toArray, List.set_cons_zero, List.set_cons_succ]
  refine wpAnyH_take (i := 1) (v := .pointer (some ⟨q, 0, none⟩)) rfl (by kernel_rfl) (by kernel_rfl) (by kernel_rfl) (fun _ _ _ h => h) (Or.inl ⟨by kernel_rfl, ?_⟩) hHeld ?_
  · intro w' hSw
    obtain ⟨s0, s1, si0, si1, si2, si3, si4, sj0, sj1, sj2, sj3, sj4⟩ := hSw
    first | (go_simp; done) | (go_simp; with_reducible rfl) | (go_simp; rw [IntKind.wrap_i64]; omega) | (go_simp; omega)
  simp only [Act.put, List.setIfInBounds_toArray, List.set_cons_zero, List.set_cons_succ]
  refine wpAnyH_take (i := 2) (v := .pointer (some ⟨q, 0, none⟩)) rfl (by kernel_rfl) (by kernel_rfl) (by kernel_rfl) (fun _ _ _ h => h) (Or.inl ⟨by kernel_rfl, ?_⟩) hHeld ?_
  · intro w' hSw
    obtain ⟨s0, s1, si0, si1, si2, si3, si4, sj0, sj1, sj2, sj3, sj4⟩ := hSw
    first | (go_simp; done) | (go_simp; with_reducible rfl) | (go_simp; rw [IntKind.wrap_i64]; omega) | (go_simp; omega)
  simp only [Act.put, List.setIfInBounds_toArray, List.set_cons_zero, List.set_cons_succ]
  refine wpAnyH_take (i := 3) (v := .iface 61 (.agg #[])) rfl (by kernel_rfl) (by kernel_rfl) (by kernel_rfl) (fun _ _ _ h => h) (Or.inl ⟨by kernel_rfl, ?_⟩) hHeld ?_
  · intro w' hSw
    obtain ⟨s0, s1, si0, si1, si2, si3, si4, sj0, sj1, sj2, sj3, sj4⟩ := hSw
    first | (go_simp; done) | (go_simp; with_reducible rfl) | (go_simp; rw [IntKind.wrap_i64]; omega) | (go_simp; omega)
  simp only [Act.put, List.setIfInBounds_toArray, List.set_cons_zero, List.set_cons_succ]
  refine wpAnyH_take (i := 4) (v := .pointer (some ⟨q, 0, none⟩)) rfl (by kernel_rfl) (by kernel_rfl) (by kernel_rfl) (fun _ _ _ h => h) (Or.inl ⟨by kernel_rfl, ?_⟩) hHeld ?_
  · intro w' hSw
    obtain ⟨s0, s1, si0, si1, si2, si3, si4, sj0, sj1, sj2, sj3, sj4⟩ := hSw
    first | (go_simp; done) | (go_simp; with_reducible rfl) | (go_simp; rw [IntKind.wrap_i64]; omega) | (go_simp; omega)
  simp only [Act.put, List.setIfInBounds_toArray, List.set_cons_zero, List.set_cons_succ]
  refine wpAnyH_take (i := 5) (v := .pointer (some ⟨q, 0, none⟩)) rfl (by kernel_rfl) (by kernel_rfl) (by kernel_rfl) (fun _ _ _ h => h) (Or.inl ⟨by kernel_rfl, ?_⟩) hHeld ?_
  · intro w' hSw
    obtain ⟨s0, s1, si0, si1, si2, si3, si4, sj0, sj1, sj2, sj3, sj4⟩ := hSw
    first | (go_simp; done) | (go_simp; with_reducible rfl) | (go_simp; rw [IntKind.wrap_i64]; omega) | (go_simp; omega)
  simp only [Act.put, List.setIfInBounds_toArray, List.set_cons_zero, List.set_cons_succ]
  refine wpAnyH_take (i := 6) (v := .pointer (some ⟨q, 1, none⟩)) rfl (by kernel_rfl) (by kernel_rfl) (by kernel_rfl) (fun _ _ _ h => h) (Or.inl ⟨by kernel_rfl, ?_⟩) hHeld ?_
  · intro w' hSw
    obtain ⟨s0, s1, si0, si1, si2, si3, si4, sj0, sj1, sj2, sj3, sj4⟩ := hSw
    first | (go_simp; done) | (go_simp; with_reducible rfl) | (go_simp; rw [IntKind.wrap_i64]; omega) | (go_simp; omega)
  simp only [Act.put, List.setIfInBounds_toArray, List.set_cons_zero, List.set_cons_succ]
  refine wpAnyH_take (i := 7) (v := .slice (some ⟨g, 0, none⟩) n cap) rfl (by kernel_rfl) (by kernel_rfl) (by kernel_rfl) (fun _ _ _ h => h) (Or.inl ⟨by kernel_rfl, ?_⟩) hHeld ?_
  · intro w' hSw
    obtain ⟨s0, s1, si0, si1, si2, si3, si4, sj0, sj1, sj2, sj3, sj4⟩ := hSw
    first | (go_simp; done) | (go_simp; with_reducible rfl) | (go_simp; rw [IntKind.wrap_i64]; omega) | (go_simp; omega)
  simp only [Act.put, List.setIfInBounds_toArray, List.set_cons_zero, List.set_cons_succ]
  refine wpAnyH_take (i := 8) (v := .int .i64 (i : Int)) rfl (by kernel_rfl) (by kernel_rfl) (by kernel_rfl) (fun _ _ _ h => h) (Or.inl ⟨by kernel_rfl, ?_⟩) hHeld ?_
  · intro w' hSw
    obtain ⟨s0, s1, si0, si1, si2, si3, si4, sj0, sj1, sj2, sj3, sj4⟩ := hSw
    first | (go_simp; done) | (go_simp; with_reducible rfl) | (go_simp; rw [IntKind.wrap_i64]; omega) | (go_simp; omega)
  simp only [Act.put, List.setIfInBounds_toArray, List.set_cons_zero, List.set_cons_succ]
  refine wpAnyH_take (i := 9) (v := .pointer (some ⟨g, i * 5, none⟩)) rfl (by kernel_rfl) (by kernel_rfl) (by kernel_rfl) (fun _ _ _ h => h) (Or.inl ⟨by kernel_rfl, ?_⟩) hHeld ?_
  · intro w' hSw
    obtain ⟨s0, s1, si0, si1, si2, si3, si4, sj0, sj1, sj2, sj3, sj4⟩ := hSw
    first | (go_simp; done) | (go_simp; with_reducible rfl) | (go_simp; rw [IntKind.wrap_i64]; omega) | (go_simp; omega)
  simp only [Act.put, List.setIfInBounds_toArray, List.set_cons_zero, List.set_cons_succ]
  refine wpAnyH_take (i := 10) (v := .agg #[.int .i64 (V (a * 4)), .int .i64 (V (a * 4 + 1)), .int .i64 (V (a * 4 + 2)), .int .i64 (V (a * 4 + 3)), .int .i64 (a : Int)]) rfl (by kernel_rfl) (by kernel_rfl) (by kernel_rfl) (fun _ _ _ h => h) (Or.inl ⟨by kernel_rfl, ?_⟩) hHeld ?_
  · intro w' hSw
    obtain ⟨s0, s1, si0, si1, si2, si3, si4, sj0, sj1, sj2, sj3, sj4⟩ := hSw
    first | (go_simp; done) | (go_simp; with_reducible rfl) | (go_simp; rw [IntKind.wrap_i64]; omega) | (go_simp; omega)
  simp only [Act.put, List.setIfInBounds_toArray, List.set_cons_zero, List.set_cons_succ]
  refine wpAnyH_take (i := 11) (v := .pointer (some ⟨q, 0, none⟩)) rfl (by kernel_rfl) (by kernel_rfl) (by kernel_rfl) (fun _ _ _ h => h) (Or.inl ⟨by kernel_rfl, ?_⟩) hHeld ?_
  · intro w' hSw
    obtain ⟨s0, s1, si0, si1, si2, si3, si4, sj0, sj1, sj2, sj3, sj4⟩ := hSw
    first | (go_simp; done) | (go_simp; with_reducible rfl) | (go_simp; rw [IntKind.wrap_i64]; omega) | (go_simp; omega)
  simp only [Act.put, List.setIfInBounds_toArray, List.set_cons_zero, List.set_cons_succ]
  refine wpAnyH_take (i := 12) (v := .pointer (some ⟨q, 0, none⟩)) rfl (by kernel_rfl) (by kernel_rfl) (by kernel_rfl) (fun _ _ _ h => h) (Or.inl ⟨by kernel_rfl, ?_⟩) hHeld ?_
  · intro w' hSw
    obtain ⟨s0, s1, si0, si1, si2, si3, si4, sj0, sj1, sj2, sj3, sj4⟩ := hSw
    first | (go_simp; done) | (go_simp; with_reducible rfl) | (go_simp; rw [IntKind.wrap_i64]; omega) | (go_simp; omega)
  simp only [Act.put, List.setIfInBounds_toArray, List.set_cons_zero, List.set_cons_succ]
  refine wpAnyH_take (i := 13) (v := .pointer (some ⟨q, 1, none⟩)) rfl (by kernel_rfl) (by kernel_rfl) (by kernel_rfl) (fun _ _ _ h => h) (Or.inl ⟨by kernel_rfl, ?_⟩) hHeld ?_
  · intro w' hSw
    obtain ⟨s0, s1, si0, si1, si2, si3, si4, sj0, sj1, sj2, sj3, sj4⟩ := hSw
    first | (go_simp; done) | (go_simp; with_reducible rfl) | (go_simp; rw [IntKind.wrap_i64]; omega) | (go_simp; omega)
  simp only [Act.put, List.setIfInBounds_toArray, List.set_cons_zero, List.set_cons_succ]
  refine wpAnyH_take (i := 14) (v := .slice (some ⟨g, 0, none⟩) n cap) rfl (by kernel_rfl) (by kernel_rfl) (by kernel_rfl) (fun _ _ _ h => h) (Or.inl ⟨by kernel_rfl, ?_⟩) hHeld ?_
  · intro w' hSw
    obtain ⟨s0, s1, si0, si1, si2, si3, si4, sj0, sj1, sj2, sj3, sj4⟩ := hSw
    first | (go_simp; done) | (go_simp; with_reducible rfl) | (go_simp; rw [IntKind.wrap_i64]; omega) | (go_simp; omega)
  simp only [Act.put, List.setIfInBounds_toArray, List.set_cons_zero, List.set_cons_succ]
  refine wpAnyH_take (i := 15) (v := .int .i64 (j : Int)) rfl (by kernel_rfl) (by kernel_rfl) (by kernel_rfl) (fun _ _ _ h => h) (Or.inl ⟨by kernel_rfl, ?_⟩) hHeld ?_
  · intro w' hSw
    obtain ⟨s0, s1, si0, si1, si2, si3, si4, sj0, sj1, sj2, sj3, sj4⟩ := hSw
    first | (go_simp; done) | (go_simp; with_reducible rfl) | (go_simp; rw [IntKind.wrap_i64]; omega) | (go_simp; omega)
  simp only [Act.put, List.setIfInBounds_toArray, List.set_cons_zero, List.set_cons_succ]
  refine wpAnyH_take (i := 16) (v := .pointer (some ⟨g, j * 5, none⟩)) rfl (by kernel_rfl) (by kernel_rfl) (by kernel_rfl) (fun _ _ _ h => h) (Or.inl ⟨by kernel_rfl, ?_⟩) hHeld ?_
  · intro w' hSw
    obtain ⟨s0, s1, si0, si1, si2, si3, si4, sj0, sj1, sj2, sj3, sj4⟩ := hSw
    first | (go_simp; done) | (go_simp; with_reducible rfl) | (go_simp; rw [IntKind.wrap_i64]; omega) | (go_simp; omega)
  simp only [Act.put, List.setIfInBounds_toArray, List.set_cons_zero, List.set_cons_succ]
  refine wpAnyH_take (i := 17) (v := .agg #[.int .i64 (V (b * 4)), .int .i64 (V (b * 4 + 1)), .int .i64 (V (b * 4 + 2)), .int .i64 (V (b * 4 + 3)), .int .i64 (b : Int)]) rfl (by kernel_rfl) (by kernel_rfl) (by kernel_rfl) (fun _ _ _ h => h) (Or.inl ⟨by kernel_rfl, ?_⟩) hHeld ?_
  · intro w' hSw
    obtain ⟨s0, s1, si0, si1, si2, si3, si4, sj0, sj1, sj2, sj3, sj4⟩ := hSw
    first | (go_simp; done) | (go_simp; with_reducible rfl) | (go_simp; rw [IntKind.wrap_i64]; omega) | (go_simp; omega)
  simp only [Act.put, List.setIfInBounds_toArray, List.set_cons_zero, List.set_cons_succ]
  refine wpAnyH_take (i := 18) (v := .iface 61 (.agg #[])) rfl (by kernel_rfl) (by kernel_rfl) (by kernel_rfl) (fun _ _ _ h => h) (Or.inl ⟨by kernel_rfl, ?_⟩) hHeld ?_
  · intro w' hSw
    obtain ⟨s0, s1, si0, si1, si2, si3, si4, sj0, sj1, sj2, sj3, sj4⟩ := hSw
    first | (go_simp; done) | (go_simp; with_reducible rfl) | (go_simp; rw [IntKind.wrap_i64]; omega) | (go_simp; omega)
  simp only [Act.put, List.setIfInBounds_toArray, List.set_cons_zero, List.set_cons_succ]
  refine wpAnyH_take (i := 19) (v := .iface 61 (.agg #[])) rfl (by kernel_rfl) (by kernel_rfl) (by kernel_rfl) (fun _ _ _ h => h) (Or.inl ⟨by kernel_rfl, ?_⟩) hHeld ?_
  · intro w' hSw
    obtain ⟨s0, s1, si0, si1, si2, si3, si4, sj0, sj1, sj2, sj3, sj4⟩ := hSw
    first | (go_simp; done) | (go_simp; with_reducible rfl) | (go_simp; rw [IntKind.wrap_i64]; omega) | (go_simp; omega)
  simp only [Act.put, List.setIfInBounds_toArray, List.set_cons_zero, List.set_cons_succ]
  refine wpAnyH_ready (rs := [20]) (by kernel_rfl) (by simp) ?_
  refine (AllReadyH.cons rfl (fun KK hK => ?_) AllReadyH.nil)
  go_simp
  go_wp2_with fail
  refine upon_run (a := (85, Value.agg #[])) (w' := v0) (by kernel_rfl) ?_
  go_wp2_with fail
  refine (HA.out _).mono ?_
  rintro e w1 ⟨rfl, B1⟩
  have b1 : Below w.heap.size w w1 := B0.trans (B1.mono B0.size)
  have zq1 : q < v0.heap.size := Nat.lt_of_lt_of_le zq B0.size
  have zg1 : g < v0.heap.size := Nat.lt_of_lt_of_le zg B0.size
  refine hK.out _ _ (⟨(b1.cell (p := ⟨q, 0, none⟩) zq).trans c0, (b1.cell (p := ⟨q, 1, none⟩) zq).trans c1, (b1.cell (p := ⟨g, i * 5, none⟩) zg).trans i0, (b1.cell (p := ⟨g, i * 5 + 1, none⟩) zg).trans i1, (b1.cell (p := ⟨g, i * 5 + 2, none⟩) zg).trans i2, (b1.cell (p := ⟨g, i * 5 + 3, none⟩) zg).trans i3, (b1.cell (p := ⟨g, i * 5 + 4, none⟩) zg).trans i4, (b1.cell (p := ⟨g, j * 5, none⟩) zg).trans j0, (b1.cell (p := ⟨g, j * 5 + 1, none⟩) zg).trans j1, (b1.cell (p := ⟨g, j * 5 + 2, none⟩) zg).trans j2, (b1.cell (p := ⟨g, j * 5 + 3, none⟩) zg).trans j3, (b1.cell (p := ⟨g, j * 5 + 4, none⟩) zg).trans j4⟩) (fun hHeld => ?_)
  clear hK KK
  refine wpAnyH_ready (rs := [21]) (by kernel_rfl) (by simp) ?_
  refine AllReadyH.cons rfl (fun KK hK => ?_) AllReadyH.nil
  go_simp
  refine hK.out _ _ hHeld (fun hHeld => ?_)
  clear hK KK
  refine wpAnyH_done (by kernel_rfl) ?_ _
  clear hHeld
  go_wp2
  go_ret
  exact ⟨rfl, (by repeat (first | with_reducible exact Below.refl _ _ | with_reducible exact b1 | with_reducible refine Below.setCell ?_ (by first | omega | (simp; done) | (simp; omega)) _ | with_reducible refine bDrewN ?_ _ | with_reducible refine Below.drew ?_ | with_reducible refine Below.alloc ?_ (by first | omega | (simp; done) | (simp; omega)) _))⟩
theorem less_any (sh : Bool) (X : Nat → Prop) (q n i j : Nat) (V : Nat → Int) (P : Nat → Nat) (w : World) (hi : i < n) (hj : j < n) (ha : P i < 60) (hb : P j < 60) (HQ : Hid (QAt X q w sh n V P)) :
    Calls Try.prog 80 #[.pointer (some ⟨q, 0, none⟩), .int .i64 (i : Int), .int .i64 (j : Int)] w fun e w' => e = .returned (.bool (decide (kO sh V (P i) < kO sh V (P j)))) ∧ Below w.heap.size w w' := by
  cases sh
  · exact lessStart_any X q n i j V P w hi hj ha hb HQ
  · exact lessShed_any X q n i j V P w hi hj ha hb HQ
set_option maxHeartbeats 1000000 in
theorem qlen_any (sh : Bool) (X : Nat → Prop) (q n : Nat) (V : Nat → Int) (P : Nat → Nat) (w : World) (HQ : Hid (QAt X q w sh n V P)) :
    Calls Try.prog 38 #[.pointer (some ⟨q, 0, none⟩)] w fun e w' => e = .returned (.int .i64 (n : Int)) ∧ w' = w := by
  obtain ⟨s, cap, c1⟩ := HQ.out.len
  go_enter Try.func38, Try.ntmps38
  go_wp2
  go_ret
  exact ⟨rfl, rfl⟩
end Go.Proofs.Ytcialcejmjggeaa
