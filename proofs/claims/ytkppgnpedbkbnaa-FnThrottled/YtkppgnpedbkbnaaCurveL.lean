/-
What is proved: the specification's table: a curve laid out of a row of heights.
-/
import Derived.Test.YtkppgnpedbkbnaaOwnK
import Derived.Deep.RegionHeldLaw
import Derived.Deep.RegionHeld3
namespace Go.Proofs.Ytkppgnpedbkbnaa
set_option maxRecDepth 40000
open Go.RowKit
set_option linter.unusedVariables false

def xsV (j : Nat) : Int := if j = 0 then 10 else if j = 1 then 100 else if j = 2 then 1000 else if j = 3 then 5000 else if j = 4 then 10000 else 20000
def curveV (Y : Nat → Int) (j : Nat) : Int := if j % 2 = 0 then xsV (j / 2) else Y (j / 2)
def CurveRow (w wr : World) (v : Value) (k : Nat) (Y : Nat → Int) : Prop := wr.ownsRow (w.heap.size + 1) 67 2 v k (vals (curveV Y) (k * 2)) ∧ Below w.heap.size w wr ∧ w.heap.size < wr.heap.size ∧ ∀ j, j < 6 → wr.cell? ⟨w.heap.size, j, none⟩ = some (.int .i64 (xsV j))
theorem curveRow_start (w : World) (t t' : TypeId) (Y : Nat → Int) (ht : t' = 67) : CurveRow w ((w.alloc (.cells #[.int .i64 10, .int .i64 100, .int .i64 1000, .int .i64 5000, .int .i64 10000, .int .i64 20000] t)).alloc (.cells #[] t')) (.slice (some ⟨w.heap.size + 1, 0, none⟩) 0 0) 0 Y := by
  subst ht
  refine ⟨?_, ((Below.refl _ _).alloc (Nat.le_refl _) _).alloc (by simp) _, by simp; omega, fun j hj => ?_⟩
  · have := World.ownsRow_lit (base := w.heap.size + 1) (size := 2) (e := 67) (w.alloc (.cells #[.int .i64 10, .int .i64 100, .int .i64 1000, .int .i64 5000, .int .i64 10000, .int .i64 20000] t)) #[] 0 (by simp) (by simp [maxLen]) (by simp)
    simpa [vals] using this
  · rw [World.cell?_alloc_past _ _ _ (by simp), World.cell?_alloc_at _ _ _ _ rfl]
    have : j = 0 ∨ j = 1 ∨ j = 2 ∨ j = 3 ∨ j = 4 ∨ j = 5 := by omega
    rcases this with rfl | rfl | rfl | rfl | rfl | rfl <;> rfl
theorem curveRow_on {w wr w1 w2 : World} {v v' : Value} {k : Nat} {Y : Nat → Int} (h : CurveRow w wr v k Y) (hb : Below wr.heap.size wr w1) (hown : w2.ownsRow (w.heap.size + 1) 67 2 v' (k + 1) (vals (curveV Y) (k * 2) ++ [.int .i64 (xsV k), .int .i64 (Y k)])) (hg : w1.grownBy w2 v.ownBlock) : CurveRow w w2 v' (k + 1) Y := by
  obtain ⟨h1, h2, h3, h4⟩ := h
  have ob := own_block h1
  have z1 : w.heap.size < w1.heap.size := Nat.lt_of_lt_of_le h3 hb.size
  refine ⟨?_, (h2.trans (hb.mono h2.size)).trans (grown_below hg (by omega) fun r hr => by have := ob r hr; omega), Nat.lt_of_lt_of_le z1 hg.size, fun j hj => ?_⟩
  · have e0 : curveV Y (k * 2) = xsV k := by unfold curveV; rw [if_pos (by omega)]; congr 1; omega
    have e1 : curveV Y (k * 2 + 1) = Y k := by unfold curveV; rw [if_neg (by omega)]; congr 1; omega
    rw [show (k + 1) * 2 = k * 2 + 2 by omega, vals_two, e0, e1]
    exact hown
  · rw [hg.cell_far ⟨w.heap.size, j, none⟩ z1 (fun e => by have := ob _ e.symm; simp only at this; omega)]
    exact (hb.cell (p := ⟨w.heap.size, j, none⟩) h3).trans (h4 j hj)
theorem keepX {W W' : World} {p q i j : Nat} {a b : Value} (h0 : W.cell? ⟨p, i, none⟩ = some a) (h1 : W.cell? ⟨q, j, none⟩ = some b) (hp : p < W.heap.size) (hq : q < W.heap.size) (hb : Below W.heap.size W W') : W'.cell? ⟨p, i, none⟩ = some a ∧ W'.cell? ⟨q, j, none⟩ = some b :=
  ⟨(hb.cell (p := ⟨p, i, none⟩) hp).trans h0, (hb.cell (p := ⟨q, j, none⟩) hq).trans h1⟩
theorem keepG {W W1 W' : World} {base : Nat} {v : Value} {n p q i j : Nat} {xs : List Value} {a b : Value} (ho : W.ownsRow base 67 2 v n xs) (h0 : W.cell? ⟨p, i, none⟩ = some a) (h1 : W.cell? ⟨q, j, none⟩ = some b) (hp : p < W.heap.size) (hq : q < W.heap.size) (hp' : p < base) (hq' : q < base) (hb : Below W.heap.size W W1) (hg : W1.grownBy W' v.ownBlock) : W'.cell? ⟨p, i, none⟩ = some a ∧ W'.cell? ⟨q, j, none⟩ = some b := by
  have ob := own_block ho
  have z := hb.size
  constructor
  · rw [hg.cell_far ⟨p, i, none⟩ (by simp only; omega) (fun e => by have := ob _ e.symm; simp only at this; omega)]
    exact (hb.cell (p := ⟨p, i, none⟩) hp).trans h0
  · rw [hg.cell_far ⟨q, j, none⟩ (by simp only; omega) (fun e => by have := ob _ e.symm; simp only at this; omega)]
    exact (hb.cell (p := ⟨q, j, none⟩) hq).trans h1

set_option maxRecDepth 20000 in
set_option maxHeartbeats 2000000 in
theorem l3Curve_any (s : Option Addr) (c : Nat) (Y : Nat → Int) (w : World) (HR : Hid (RowI w s 6 Y)) :
    Calls Try.prog 50 #[.slice s 6 c] w fun e w' => ∃ g cap, e = .returned (.slice (some ⟨g, 0, none⟩) 6 cap) ∧ RowI w' (some ⟨g, 0, none⟩) 12 (curveV Y) ∧ Below w.heap.size w w' := by
  go_enter Try.func50, Try.ntmps50
  go_wp2_with fail
  go_loopw [4, 5] (fun v i wr => ∃ k : Nat, k ≤ 6 ∧ i = .int .i64 k ∧ CurveRow w wr v k Y) (fun _ i _ => 6 - (intOf i).toNat)
  case atStart => exact ⟨0, Nat.zero_le _, rfl, curveRow_start w _ _ Y rfl⟩
  case round =>
    obtain ⟨k, hk, rfl, hC⟩ := hrel
    have HC : Hid (CurveRow w wr u4 k Y) := hC
    obtain ⟨hown, hB, hz, hx⟩ := hC
    by_cases h1 : k < 6
    · obtain ⟨g, o, rfl, hg, c0⟩ := HR.out k (by omega)
      have d0 : wr.cell? ⟨g, o + k, none⟩ = some (.int .i64 (Y k)) := (hB.cell (p := ⟨g, o + k, none⟩) hg).trans c0
      have e0 := hx k h1
      have k1 : (k : Int) < 6 := by omega
      have zg : g < wr.heap.size := Nat.lt_of_lt_of_le hg hB.size
      have HO : Hid (wr.ownsRow (w.heap.size + 1) 67 2 u4 k (vals (curveV Y) (k * 2))) := hown
      clear hown hB hx c0
      go_wp2_with fail
      go_region_held_law (fun w' => w'.cell? ⟨w.heap.size, k, none⟩ = some (.int .i64 (xsV k)) ∧ w'.cell? ⟨g, o + k, none⟩ = some (.int .i64 (Y k))) (first | (refine keepG HO.out e0 d0 hz zg (by omega) (by omega) (Below.refl _ wr).drew HG.out) | (refine keepX e0 d0 hz zg ?_; exact (by repeat (first | with_reducible exact Below.refl _ _ | with_reducible refine Below.setCell ?_ (by first | omega | (simp; done) | (simp; omega)) _ | with_reducible refine bDrewN ?_ _ | with_reducible refine Below.drew ?_ | with_reducible refine Below.alloc ?_ (by first | omega | (simp; done) | (simp; omega)) _)))) (first | (refine step_knot (w.heap.size + 1) u4 k (vals (curveV Y) (k * 2)) (.tmp 14) (.tmp 24) (by rfl) (by rfl) (by simp [Act.eval]) (by simp [Act.eval]) HO.out.drew (by omega) (by simp; omega) ?_; intro g' cap' w3 hown3 hgrow3 hlt3; have HG : Hid (wr.drew.grownBy w3 u4.ownBlock) := hgrow3; have HO3 : Hid (w3.ownsRow (w.heap.size + 1) 67 2 (.slice (some ⟨g', 0, none⟩) (k + 1) cap') (k + 1) (vals (curveV Y) (k * 2) ++ [.int .i64 (xsV k), .int .i64 (Y k)])) := hown3; clear hgrow3 hown3))
      all_goals
        go_wp2
        go_roundw
        case rel => exact ⟨k + 1, by omega, by go_num, curveRow_on HC.out (Below.refl _ wr).drew HO3.out HG.out⟩
        case measure => simp [intOf]; omega
    · obtain rfl : k = 6 := by omega
      obtain ⟨s', cap, rfl, ho⟩ := own_OwnI hown
      obtain ⟨b, rfl, _, _⟩ := ho 0 (by omega)
      have HRow := ho.row
      go_wp2
      go_ret
      exact ⟨b, cap, rfl, HRow, hB⟩
end Go.Proofs.Ytkppgnpedbkbnaa
