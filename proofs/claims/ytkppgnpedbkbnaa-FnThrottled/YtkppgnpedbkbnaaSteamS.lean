/-
What is proved: the specification's SteamOf where its three heights are given.
-/
import Derived.Test.YtkppgnpedbkbnaaCurveL
namespace Go.Proofs.Ytkppgnpedbkbnaa
set_option maxRecDepth 40000
open Go.RowKit
set_option linter.unusedVariables false

def litV (a0 a1 a2 a3 a4 a5 : Int) (j : Nat) : Int := if j = 0 then a0 else if j = 1 then a1 else if j = 2 then a2 else if j = 3 then a3 else if j = 4 then a4 else a5
def yB : Nat → Int := litV 458 996 1799 2639 3110 3657
def yL : Nat → Int := litV 1918 4175 7628 11542 14076 18268
def yV : Nat → Int := litV 25846 26755 27781 27942 27247 24105
theorem row_lit (W : World) (t : TypeId) (a0 a1 a2 a3 a4 a5 : Int) (n : Nat) (hn : n = W.heap.size) : RowI (W.alloc (.cells #[.int .i64 a0, .int .i64 a1, .int .i64 a2, .int .i64 a3, .int .i64 a4, .int .i64 a5] t)) (some ⟨n, 0, none⟩) 6 (litV a0 a1 a2 a3 a4 a5) := fun j hj => by
  subst hn
  refine ⟨W.heap.size, 0, rfl, by simp, ?_⟩
  rw [Nat.zero_add, World.cell?_alloc_at _ _ _ _ rfl]
  have : j = 0 ∨ j = 1 ∨ j = 2 ∨ j = 3 ∨ j = 4 ∨ j = 5 := by omega
  rcases this with rfl | rfl | rfl | rfl | rfl | rfl <;> rfl
/-- The three numbers of a state. -/
def stK (b l v h : Int) : Int := if h < l then 1 else if v < h then 3 else 2
def stT (b l v h : Int) : Int := if h < l then b - ((l - h) * 10).tdiv 42 else if v < h then b + ((h - v) * 10).tdiv 22 else b
def stP (b l v h : Int) : Int := if h < l then 0 else if v < h then 1000 else ((h - l) * 1000).tdiv (v - l)
theorem tdiv_lt {x y : Int} (h0 : 0 ≤ x) (h1 : x ≤ 1000000000) (hy : 1 ≤ y) : 0 ≤ x.tdiv y ∧ x.tdiv y ≤ 1000000000 := by
  rw [Int.tdiv_eq_ediv_of_nonneg h0]
  have := Int.ediv_le_self y h0
  have := Int.ediv_nonneg (a := x) (b := y) h0 (by omega)
  omega

set_option maxRecDepth 20000 in
set_option maxHeartbeats 2000000 in
theorem specSteam_in (p h b l v : Int) (w : World) (h0 : 0 ≤ h) (h1 : h ≤ 40000) (b0 : 0 ≤ b) (b1 : b ≤ 100000) (l0 : 0 ≤ l) (lv : l < v) (v1 : v ≤ 100000)
    (I : Hid (∀ w, Calls Try.prog 32 #[.int .i64 p, .int .i64 h] w fun e w' => e = .returned (.bool true) ∧ w' = w))
    (A1 : Hid (∀ s c w, RowI w s 12 (curveV yB) → Calls Try.prog 19 #[.slice s 6 c, .int .i64 p] w fun e w' => e = .returned (.tuple #[.int .i64 b, .bool true]) ∧ Below w.heap.size w w'))
    (A2 : Hid (∀ s c w, RowI w s 12 (curveV yL) → Calls Try.prog 19 #[.slice s 6 c, .int .i64 p] w fun e w' => e = .returned (.tuple #[.int .i64 l, .bool true]) ∧ Below w.heap.size w w'))
    (A3 : Hid (∀ s c w, RowI w s 12 (curveV yV) → Calls Try.prog 19 #[.slice s 6 c, .int .i64 p] w fun e w' => e = .returned (.tuple #[.int .i64 v, .bool true]) ∧ Below w.heap.size w w')) :
    Calls Try.prog 23 #[.int .i64 p, .int .i64 h] w fun e w' => e = .returned (.tuple #[.agg #[.int .i64 (stK b l v h), .int .i64 (stT b l v h), .int .i64 (stP b l v h)], .bool true]) ∧ Below w.heap.size w w' := by
  go_enter Try.func23, Try.ntmps23
  go_wp2_with fail
  refine (I.out _).mono ?_
  rintro r w1 ⟨rfl, rfl⟩
  go_wp2_with fail
  refine (l3Curve_any _ _ yB _ (row_lit _ _ 458 996 1799 2639 3110 3657 _ (by simp))).mono ?_
  rintro r w2 ⟨g2, c2, rfl, R2, h2⟩
  go_wp2_with fail
  refine (A1.out _ _ _ R2).mono ?_
  rintro r w3 ⟨rfl, h3⟩
  go_wp2_with fail
  refine (l3Curve_any _ _ yL _ (row_lit _ _ 1918 4175 7628 11542 14076 18268 _ (by simp))).mono ?_
  rintro r w4 ⟨g4, c4, rfl, R4, h4⟩
  go_wp2_with fail
  refine (A2.out _ _ _ R4).mono ?_
  rintro r w5 ⟨rfl, h5⟩
  go_wp2_with fail
  refine (l3Curve_any _ _ yV _ (row_lit _ _ 25846 26755 27781 27942 27247 24105 _ (by simp))).mono ?_
  rintro r w6 ⟨g6, c6, rfl, R6, h6⟩
  go_wp2_with fail
  refine (A3.out _ _ _ R6).mono ?_
  rintro r w7 ⟨rfl, h7⟩
  have z2 := h2.size
  have z3 := h3.size
  have z4 := h4.size
  have z5 := h5.size
  have z6 := h6.size
  have z7 := h7.size
  simp at z2 z4 z6
  obtain ⟨B7, hB7⟩ : ∃ W0 : World, W0 = w.alloc (.cells #[.int .i64 0, .int .i64 0, .int .i64 0] 27) := ⟨_, rfl⟩
  have BB : Below (w.heap.size + 1) B7 w7 := by
    have e2 : Below (w.heap.size + 1) B7 w2 := by rw [hB7]; exact ((Below.refl _ _).alloc (by simp) _).trans (h2.mono (by simp))
    have e3 := e2.trans (h3.mono (by omega))
    have e4 := (e3.alloc (by omega) _).trans (h4.mono (by simp; omega))
    have e5 := e4.trans (h5.mono (by omega))
    have e6 := (e5.alloc (by omega) _).trans (h6.mono (by simp; omega))
    exact e6.trans (h7.mono (by omega))
  have BW : Below w.heap.size w w7 := ((below0 w _).trans ((hB7 ▸ BB).mono (by omega)))
  have k0 : w7.cell? ⟨w.heap.size, 0, none⟩ = some (.int .i64 0) := by rw [BB.cell (p := ⟨w.heap.size, 0, none⟩) (by simp only; omega), hB7]; simp [go_sem]
  have k1 : w7.cell? ⟨w.heap.size, 1, none⟩ = some (.int .i64 0) := by rw [BB.cell (p := ⟨w.heap.size, 1, none⟩) (by simp only; omega), hB7]; simp [go_sem]
  have k2 : w7.cell? ⟨w.heap.size, 2, none⟩ = some (.int .i64 0) := by rw [BB.cell (p := ⟨w.heap.size, 2, none⟩) (by simp only; omega), hB7]; simp [go_sem]
  have f0 : ∀ o, w7.frozen? ⟨w.heap.size, o, none⟩ = false := fun o => by rw [BB.frozen (p := ⟨w.heap.size, o, none⟩) (by simp only; omega), hB7]; simp [go_sem]
  have HZ : w.heap.size < w7.heap.size := by omega
  have HB : Hid (Below w.heap.size w w7) := BW
  clear BW BB hB7 B7 h2 h3 h4 h5 h6 h7 z2 z3 z4 z5 z6 z7 R2 R4 R6 I A1 A2 A3
  by_cases q : h < l
  · obtain ⟨t0, t1⟩ := tdiv_lt (x := (l - h) * 10) (y := 42) (by omega) (by omega) (by omega)
    have E : Hid (stK b l v h = 1 ∧ stT b l v h = b - ((l - h) * 10).tdiv 42 ∧ stP b l v h = 0) := by show _ ∧ _; unfold stK stT stP; simp [q]
    go_wp2
    have B7 := HB.out
    exact bodyPost_ret (v := .tuple #[.agg #[.int .i64 (stK b l v h), .int .i64 (stT b l v h), .int .i64 (stP b l v h)], .bool true]) (by rw [E.out.1, E.out.2.1, E.out.2.2]; simp [results, Try.results23, go_sem, k0, k1, k2]) rfl ⟨rfl, (by repeat (first | with_reducible exact Below.refl _ _ | with_reducible exact B7 | with_reducible refine Below.setCell ?_ (by first | omega | (simp; done) | (simp; omega)) _ | with_reducible refine bDrewN ?_ _ | with_reducible refine Below.drew ?_ | with_reducible refine Below.alloc ?_ (by first | omega | (simp; done) | (simp; omega)) _))⟩
  · by_cases q2 : v < h
    · obtain ⟨t0, t1⟩ := tdiv_lt (x := (h - v) * 10) (y := 22) (by omega) (by omega) (by omega)
      have E : Hid (stK b l v h = 3 ∧ stT b l v h = b + ((h - v) * 10).tdiv 22 ∧ stP b l v h = 1000) := by show _ ∧ _; unfold stK stT stP; simp [q, q2]
      go_wp2
      have B7 := HB.out
      exact bodyPost_ret (v := .tuple #[.agg #[.int .i64 (stK b l v h), .int .i64 (stT b l v h), .int .i64 (stP b l v h)], .bool true]) (by rw [E.out.1, E.out.2.1, E.out.2.2]; simp [results, Try.results23, go_sem, k0, k1, k2]) rfl ⟨rfl, (by repeat (first | with_reducible exact Below.refl _ _ | with_reducible exact B7 | with_reducible refine Below.setCell ?_ (by first | omega | (simp; done) | (simp; omega)) _ | with_reducible refine bDrewN ?_ _ | with_reducible refine Below.drew ?_ | with_reducible refine Below.alloc ?_ (by first | omega | (simp; done) | (simp; omega)) _))⟩
    · obtain ⟨t0, t1⟩ := tdiv_lt (x := (h - l) * 1000) (y := v - l) (by omega) (by omega) (by omega)
      have E : Hid (stK b l v h = 2 ∧ stT b l v h = b ∧ stP b l v h = ((h - l) * 1000).tdiv (v - l)) := by show _ ∧ _; unfold stK stT stP; simp [q, q2]
      have d0 : ¬ v - l = 0 := by omega
      go_wp2
      have B7 := HB.out
      exact bodyPost_ret (v := .tuple #[.agg #[.int .i64 (stK b l v h), .int .i64 (stT b l v h), .int .i64 (stP b l v h)], .bool true]) (by rw [E.out.1, E.out.2.1, E.out.2.2]; simp [results, Try.results23, go_sem, k0, k1, k2]) rfl ⟨rfl, (by repeat (first | with_reducible exact Below.refl _ _ | with_reducible exact B7 | with_reducible refine Below.setCell ?_ (by first | omega | (simp; done) | (simp; omega)) _ | with_reducible refine bDrewN ?_ _ | with_reducible refine Below.drew ?_ | with_reducible refine Below.alloc ?_ (by first | omega | (simp; done) | (simp; omega)) _))⟩
end Go.Proofs.Ytkppgnpedbkbnaa
