/-
What is proved: the program's SteamOf where the pressure and the heat are within their bounds.
-/
import Derived.Test.YtkppgnpedbkbnaaSegM
namespace Go.Proofs.Ytkppgnpedbkbnaa
set_option maxRecDepth 40000
open Go.RowKit
set_option linter.unusedVariables false
set_option linter.unusedSimpArgs false

theorem row_mkA {w : World} {b : Nat} {t : TypeId} {Y : Nat → Int} (h : w.heap[b]? = some (.cells (mkA Y 6) t (0, 0))) : RowI w (some ⟨b, 0, none⟩) 12 (curveV Y) := fun j hj => by
  refine ⟨b, 0, rfl, (Array.getElem?_eq_some_iff.1 h).1, ?_⟩
  rw [Nat.zero_add, cell_of_row w _ _ _ _ _ h, mkA_at _ _ _ hj]
  unfold zc
  rw [if_pos (by omega)]
set_option maxRecDepth 20000 in
set_option maxHeartbeats 2000000 in
theorem boilingCurve_any (kd : Nat) (hkd : (kd : Int) < 3) (Y : Nat → Int) (hY : ∀ k, (cell4 k)[1 + kd]? = some (.int .i64 (Y k))) (w : World) :
    Calls Try.prog 51 #[.int .i64 (kd : Int)] w fun e w' => ∃ b, e = .returned (.iface 71 (.slice (some ⟨b, 0, none⟩) 6 6)) ∧ RowI w' (some ⟨b, 0, none⟩) 12 (curveV Y) ∧ Below w.heap.size w w' := by
  have K : Hid (∀ w, Calls Try.prog 54 #[.int .i64 (kd : Int)] w fun e w' => e = .returned (.agg (mkA Y 6)) ∧ Below w.heap.size w w') := fun w => boilingRow_any kd hkd Y hY w
  clear hY hkd
  go_enter Try.func51, Try.ntmps51
  go_wp2_with fail
  refine (K.out _).mono ?_
  rintro e w1 ⟨rfl, h1⟩
  have z1 := h1.size
  have hs := setRow_heap _ _ _ (mkA Y 6) _ _ (heap_alloc_new w1 (.cells #[.int .i64 0, .int .i64 0, .int .i64 0, .int .i64 0, .int .i64 0, .int .i64 0, .int .i64 0, .int .i64 0, .int .i64 0, .int .i64 0, .int .i64 0, .int .i64 0] 83))
  have Bz : Below w.heap.size w ((w1.alloc (.cells #[.int .i64 0, .int .i64 0, .int .i64 0, .int .i64 0, .int .i64 0, .int .i64 0, .int .i64 0, .int .i64 0, .int .i64 0, .int .i64 0, .int .i64 0, .int .i64 0] 83)).setRow w1.heap.size (mkA Y 6)) := by
    have h0 := h1.alloc h1.size (.cells #[.int .i64 0, .int .i64 0, .int .i64 0, .int .i64 0, .int .i64 0, .int .i64 0, .int .i64 0, .int .i64 0, .int .i64 0, .int .i64 0, .int .i64 0, .int .i64 0] 83)
    exact ⟨h0.os, h0.tape, h0.output, by rw [setRow_size]; exact h0.size, fun k hk => by rw [setRow_other _ _ _ _ (by omega)]; exact h0.block k hk⟩
  have HZ : Hid (RowI ((w1.alloc (.cells #[.int .i64 0, .int .i64 0, .int .i64 0, .int .i64 0, .int .i64 0, .int .i64 0, .int .i64 0, .int .i64 0, .int .i64 0, .int .i64 0, .int .i64 0, .int .i64 0] 83)).setRow w1.heap.size (mkA Y 6)) (some ⟨w1.heap.size, 0, none⟩) 12 (curveV Y) ∧ Below w.heap.size w ((w1.alloc (.cells #[.int .i64 0, .int .i64 0, .int .i64 0, .int .i64 0, .int .i64 0, .int .i64 0, .int .i64 0, .int .i64 0, .int .i64 0, .int .i64 0, .int .i64 0, .int .i64 0] 83)).setRow w1.heap.size (mkA Y 6))) := ⟨row_mkA hs, Bz⟩
  clear hs Bz h1
  go_wp2_with (first
    | refine wpList_store_row (by rfl) 83 (.tmp 3) (.tmp 5) (by rfl) w1.heap.size (mkA Y 6) (by rfl) (by rfl) _ _ (by exact heap_alloc_new _ _) (by exact row_info _ _) (by rfl) (by exact mkA_one _ _) ?_)
  go_ret
  exact ⟨w1.heap.size, rfl, HZ.out⟩

set_option maxHeartbeats 1000000 in
theorem heightOf {Y : Nat → Int} (hY : curveB 6 (curveV Y) = true) (b : Nat) (p : Int) (w : World) (p0 : 10 ≤ p) (p1 : p ≤ 20000) (HR : RowI w (some ⟨b, 0, none⟩) 12 (curveV Y)) :
    Calls Try.prog 74 #[.slice (some ⟨b, 0, none⟩) 6 6, .int .i64 p] w fun e w' => (∃ v, HtV Y p v ∧ e = .returned (.int .i64 v)) ∧ Below w.heap.size w w' := by
  obtain ⟨_, _, c3⟩ := curve_ok hY
  refine (height_any (some ⟨b, 0, none⟩) 4 6 (curveV Y) p w (by decide) HR c3 (by have := curve_xs Y 0; simp only [Nat.zero_mul] at this; rw [this]; exact p0) (by rw [curve_xs]; exact p1)).mono ?_
  rintro e w' ⟨⟨j, j1, j2, j3, rfl⟩, hb⟩
  exact ⟨⟨_, ⟨j, j1, j2, j3, rfl⟩, rfl⟩, hb⟩

set_option maxRecDepth 20000 in
set_option maxHeartbeats 2000000 in
theorem boilingAt_any (p : Int) (w : World) (p0 : 10 ≤ p) (p1 : p ≤ 20000) :
    Calls Try.prog 35 #[.int .i64 p] w fun e w' => (∃ b l v, HtV yB p b ∧ HtV yL p l ∧ HtV yV p v ∧ e = .returned (.agg #[.int .i64 b, .int .i64 l, .int .i64 v])) ∧ Below w.heap.size w w' := by
  go_enter Try.func35, Try.ntmps35
  go_wp2_with fail
  refine (boilingCurve_any 0 (by decide) yB c4B _).mono ?_
  rintro e w1 ⟨b1, rfl, R1, h1⟩
  go_wp2_with fail
  refine upon_run (a := (74, Value.slice (some ⟨b1, 0, none⟩) 6 6)) (w' := w1) (by kernel_rfl) ?_
  go_wp2_with fail
  refine (heightOf okB b1 p _ p0 p1 R1).mono ?_
  rintro e w2 ⟨⟨b, Hb, rfl⟩, h2⟩
  go_wp2_with fail
  refine (boilingCurve_any 1 (by decide) yL c4L _).mono ?_
  rintro e w3 ⟨b3, rfl, R3, h3⟩
  go_wp2_with fail
  refine upon_run (a := (74, Value.slice (some ⟨b3, 0, none⟩) 6 6)) (w' := w3) (by kernel_rfl) ?_
  go_wp2_with fail
  refine (heightOf okL b3 p _ p0 p1 R3).mono ?_
  rintro e w4 ⟨⟨l, Hl, rfl⟩, h4⟩
  go_wp2_with fail
  refine (boilingCurve_any 2 (by decide) yV c4V _).mono ?_
  rintro e w5 ⟨b5, rfl, R5, h5⟩
  go_wp2_with fail
  refine upon_run (a := (74, Value.slice (some ⟨b5, 0, none⟩) 6 6)) (w' := w5) (by kernel_rfl) ?_
  go_wp2_with fail
  refine (heightOf okV b5 p _ p0 p1 R5).mono ?_
  rintro e w6 ⟨⟨v, Hv, rfl⟩, h6⟩
  have H : Hid (HtV yB p b ∧ HtV yL p l ∧ HtV yV p v) := ⟨Hb, Hl, Hv⟩
  have z1 := h1.size
  simp at z1
  have BB : Below (w.heap.size + 1) (w.alloc (.cells #[.int .i64 0, .int .i64 0, .int .i64 0] 58)) w6 := by
    have g1 : Below (w.heap.size + 1) (w.alloc (.cells #[.int .i64 0, .int .i64 0, .int .i64 0] 58)) w1 := h1.mono (by simp)
    have g2 := g1.trans (h2.mono (by omega))
    have g3 := g2.trans (h3.mono (by have := h2.size; omega))
    have g4 := g3.trans (h4.mono (by have := h2.size; have := h3.size; omega))
    have g5 := g4.trans (h5.mono (by have := h2.size; have := h3.size; have := h4.size; omega))
    exact g5.trans (h6.mono (by have := h2.size; have := h3.size; have := h4.size; have := h5.size; omega))
  have B6 : Below w.heap.size w w6 := (below0 w _).trans (BB.mono (by omega))
  have q0 : w6.cell? ⟨w.heap.size, 0, none⟩ = some (.int .i64 0) := (BB.cell (p := ⟨w.heap.size, 0, none⟩) (by simp only; omega)).trans (by simp [go_sem])
  have q1 : w6.cell? ⟨w.heap.size, 1, none⟩ = some (.int .i64 0) := (BB.cell (p := ⟨w.heap.size, 1, none⟩) (by simp only; omega)).trans (by simp [go_sem])
  have q2 : w6.cell? ⟨w.heap.size, 2, none⟩ = some (.int .i64 0) := (BB.cell (p := ⟨w.heap.size, 2, none⟩) (by simp only; omega)).trans (by simp [go_sem])
  have f0 : ∀ o, w6.frozen? ⟨w.heap.size, o, none⟩ = false := fun o => (BB.frozen (p := ⟨w.heap.size, o, none⟩) (by simp only; omega)).trans (by simp [go_sem])
  have zz : w.heap.size < w6.heap.size := by have := BB.size; simp at this; omega
  clear BB h1 h2 h3 h4 h5 h6 R1 R3 R5 Hb Hl Hv z1
  go_wp2
  exact bodyPost_ret (v := .agg #[.int .i64 b, .int .i64 l, .int .i64 v]) (by simp [results, Try.results35, go_sem, q0, q1, q2]) rfl ⟨⟨b, l, v, H.out.1, H.out.2.1, H.out.2.2, rfl⟩, (by repeat (first | with_reducible exact Below.refl _ _ | with_reducible exact B6 | with_reducible refine Below.setCell ?_ (by first | omega | (simp; done) | (simp; omega)) _ | with_reducible refine bDrewN ?_ _ | with_reducible refine Below.drew ?_ | with_reducible refine Below.alloc ?_ (by first | omega | (simp; done) | (simp; omega)) _))⟩

set_option maxRecDepth 20000 in
set_option maxHeartbeats 2000000 in
theorem state_any (h b l v : Int) (w : World) (h0 : 0 ≤ h) (h1 : h ≤ 40000) (b0 : 0 ≤ b) (b1 : b ≤ 100000) (l0 : 0 ≤ l) (lv : l < v) (v1 : v ≤ 100000) :
    Calls Try.prog 36 #[.agg #[.int .i64 b, .int .i64 l, .int .i64 v], .int .i64 h] w fun e w' => e = .returned (.agg #[.int .i64 (stK b l v h), .int .i64 (stT b l v h), .int .i64 (stP b l v h)]) ∧ Below w.heap.size w w' := by
  by_cases q : h < l
  · obtain ⟨t0, t1⟩ := tdiv_lt (x := (l - h) * 10) (y := 42) (by omega) (by omega) (by omega)
    have E : Hid (stK b l v h = 1 ∧ stT b l v h = b - ((l - h) * 10).tdiv 42 ∧ stP b l v h = 0) := by show _ ∧ _; unfold stK stT stP; simp [q]
    go_enter Try.func36, Try.ntmps36
    go_wp2
    exact bodyPost_ret (v := .agg #[.int .i64 (stK b l v h), .int .i64 (stT b l v h), .int .i64 (stP b l v h)]) (by rw [E.out.1, E.out.2.1, E.out.2.2]; simp [results, Try.results36, go_sem]) rfl ⟨rfl, (by repeat (first | with_reducible exact Below.refl _ _ | with_reducible refine Below.setCell ?_ (by first | omega | (simp; done) | (simp; omega)) _ | with_reducible refine bDrewN ?_ _ | with_reducible refine Below.drew ?_ | with_reducible refine Below.alloc ?_ (by first | omega | (simp; done) | (simp; omega)) _))⟩
  · by_cases q2 : v < h
    · obtain ⟨t0, t1⟩ := tdiv_lt (x := (h - v) * 10) (y := 22) (by omega) (by omega) (by omega)
      have E : Hid (stK b l v h = 3 ∧ stT b l v h = b + ((h - v) * 10).tdiv 22 ∧ stP b l v h = 1000) := by show _ ∧ _; unfold stK stT stP; simp [q, q2]
      go_enter Try.func36, Try.ntmps36
      go_wp2
      exact bodyPost_ret (v := .agg #[.int .i64 (stK b l v h), .int .i64 (stT b l v h), .int .i64 (stP b l v h)]) (by rw [E.out.1, E.out.2.1, E.out.2.2]; simp [results, Try.results36, go_sem]) rfl ⟨rfl, (by repeat (first | with_reducible exact Below.refl _ _ | with_reducible refine Below.setCell ?_ (by first | omega | (simp; done) | (simp; omega)) _ | with_reducible refine bDrewN ?_ _ | with_reducible refine Below.drew ?_ | with_reducible refine Below.alloc ?_ (by first | omega | (simp; done) | (simp; omega)) _))⟩
    · obtain ⟨t0, t1⟩ := tdiv_lt (x := (h - l) * 1000) (y := v - l) (by omega) (by omega) (by omega)
      have E : Hid (stK b l v h = 2 ∧ stT b l v h = b ∧ stP b l v h = ((h - l) * 1000).tdiv (v - l)) := by show _ ∧ _; unfold stK stT stP; simp [q, q2]
      have d0 : ¬ v - l = 0 := by omega
      have w1 : IntKind.i64.wrap (h - l) = h - l := by rw [IntKind.wrap_i64]; omega
      have w2 : IntKind.i64.wrap ((h - l) * 1000) = (h - l) * 1000 := by rw [IntKind.wrap_i64]; omega
      have w3 : IntKind.i64.wrap (v - l) = v - l := by rw [IntKind.wrap_i64]; omega
      have w4 : IntKind.i64.wrap (((h - l) * 1000).tdiv (v - l)) = ((h - l) * 1000).tdiv (v - l) := by rw [IntKind.wrap_i64]; omega
      go_enter Try.func36, Try.ntmps36
      go_wp2_with fail
      go_region_held3 (fun w' => w'.cell? ⟨w.heap.size, 0, none⟩ = some (.int .i64 b) ∧ w'.cell? ⟨w.heap.size, 1, none⟩ = some (.int .i64 l) ∧ w'.cell? ⟨w.heap.size, 2, none⟩ = some (.int .i64 v)) (first | (simp [go_sem]; done) | go_keep) (fail)
      all_goals
        go_wp2
        exact bodyPost_ret (v := .agg #[.int .i64 (stK b l v h), .int .i64 (stT b l v h), .int .i64 (stP b l v h)]) (by rw [E.out.1, E.out.2.1, E.out.2.2]; simp [results, Try.results36, go_sem]) rfl ⟨rfl, (by repeat (first | with_reducible exact Below.refl _ _ | with_reducible refine Below.setCell ?_ (by first | omega | (simp; done) | (simp; omega)) _ | with_reducible refine bDrewN ?_ _ | with_reducible refine Below.drew ?_ | with_reducible refine Below.alloc ?_ (by first | omega | (simp; done) | (simp; omega)) _))⟩
end Go.Proofs.Ytkppgnpedbkbnaa
