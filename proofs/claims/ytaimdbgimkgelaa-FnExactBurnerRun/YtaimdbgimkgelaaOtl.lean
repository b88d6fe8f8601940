/-
What is proved: lists of what is done: whether two are the same, one marked, and whether it holds its marks.
-/
import Derived.Test.YtaimdbgimkgelaaBoM
import Derived.Test.YtaimdbgimkgelaaSp
import Derived.Deep.RegionHeld3
import Derived.Deep.DeepCutAuto
namespace Go.Proofs.Ytaimdbgimkgelaa
set_option maxRecDepth 40000
open Go.RowKit
set_option linter.unusedVariables false
set_option linter.unusedSimpArgs false

set_option maxHeartbeats 1600000 in
theorem eqOut_same (x0 x1 x2 : Bool) (w : World) : Calls Try.prog 16 #[.agg #[.bool x0, .bool x1, .bool x2], .agg #[.bool x0, .bool x1, .bool x2]] w fun r w' => r = .returned (.bool true) ∧ Below w.heap.size w w' := by
  have n0 : (x0 != x0) = false := bne_self_eq_false x0
  have n1 : (x1 != x1) = false := bne_self_eq_false x1
  have n2 : (x2 != x2) = false := bne_self_eq_false x2
  go_enter Try.func16, Try.ntmps16
  go_wp2
  go_ret
  exact ⟨rfl, (by repeat (first | with_reducible exact Below.refl _ _ | with_reducible refine Below.setCell ?_ (by first | omega | (simp; done) | (simp; omega)) _ | with_reducible refine bDrewN ?_ _ | with_reducible refine Below.drew ?_ | with_reducible refine Below.alloc ?_ (by first | omega | (simp; done) | (simp; omega)) _))⟩
theorem keepOut {W W' : World} {p q i0 j0 i1 j1 i2 j2 : Nat} {a0 b0 a1 b1 a2 b2 : Value} (h0 : W.cell? ⟨p, i0, none⟩ = some a0) (h1 : W.cell? ⟨p, i1, none⟩ = some a1) (h2 : W.cell? ⟨p, i2, none⟩ = some a2) (g0 : W.cell? ⟨q, j0, none⟩ = some b0) (g1 : W.cell? ⟨q, j1, none⟩ = some b1) (g2 : W.cell? ⟨q, j2, none⟩ = some b2) (hp : p < W.heap.size) (hq : q < W.heap.size) (hb : Below W.heap.size W W') :
    W'.cell? ⟨p, i0, none⟩ = some a0 ∧ W'.cell? ⟨p, i1, none⟩ = some a1 ∧ W'.cell? ⟨p, i2, none⟩ = some a2 ∧ W'.cell? ⟨q, j0, none⟩ = some b0 ∧ W'.cell? ⟨q, j1, none⟩ = some b1 ∧ W'.cell? ⟨q, j2, none⟩ = some b2 :=
  ⟨(hb.cell (p := ⟨p, i0, none⟩) hp).trans h0, (hb.cell (p := ⟨p, i1, none⟩) hp).trans h1, (hb.cell (p := ⟨p, i2, none⟩) hp).trans h2, (hb.cell (p := ⟨q, j0, none⟩) hq).trans g0, (hb.cell (p := ⟨q, j1, none⟩) hq).trans g1, (hb.cell (p := ⟨q, j2, none⟩) hq).trans g2⟩
set_option maxRecDepth 20000 in
set_option maxHeartbeats 4000000 in
theorem eqOutS_any (s t : Option Addr) (n c d : Nat) (V : Nat → Bool) (w : World) (hn : (n : Int) ≤ 1048576) (HR : Hid (RowB w s (n * 3) V)) (HT : Hid (RowB w t (n * 3) V)) :
    Calls Try.prog 21 #[.slice s n c, .slice t n d] w fun e w' => e = .returned (.bool true) ∧ Below w.heap.size w w' := by
  go_enter Try.func21, Try.ntmps21
  go_wp2_with fail
  go_loopw [5] (fun i wr => ∃ k : Nat, k ≤ n ∧ i = .int .i64 k ∧ Below w.heap.size w wr) (fun i _ => n - (intOf i).toNat)
  case atStart => exact ⟨0, Nat.zero_le _, rfl, Below.refl _ _⟩
  case round =>
    obtain ⟨k, hk, rfl, hB⟩ := hrel
    by_cases h1 : k < n
    · obtain ⟨g, o, rfl, hg, c0⟩ := HR.out (k * 3) (by omega)
      obtain ⟨g', o', e', hg1, c1⟩ := HR.out (k * 3 + 1) (by omega)
      cases e'
      obtain ⟨g', o', e', hg2, c2⟩ := HR.out (k * 3 + 2) (by omega)
      cases e'
      obtain ⟨p, q, rfl, hp, d0⟩ := HT.out (k * 3) (by omega)
      obtain ⟨p', q', e', hp1, d1⟩ := HT.out (k * 3 + 1) (by omega)
      cases e'
      obtain ⟨p', q', e', hp2, d2⟩ := HT.out (k * 3 + 2) (by omega)
      cases e'
      have u0 : wr.cell? ⟨g, o + k * 3, none⟩ = some (.bool (V (k * 3))) := (hB.cell (p := ⟨g, o + k * 3, none⟩) hg).trans c0
      have u1 : wr.cell? ⟨g, o + k * 3 + 1, none⟩ = some (.bool (V (k * 3 + 1))) := (hB.cell (p := ⟨g, o + (k * 3 + 1), none⟩) hg).trans c1
      have u2 : wr.cell? ⟨g, o + k * 3 + 2, none⟩ = some (.bool (V (k * 3 + 2))) := (hB.cell (p := ⟨g, o + (k * 3 + 2), none⟩) hg).trans c2
      have v0 : wr.cell? ⟨p, q + k * 3, none⟩ = some (.bool (V (k * 3))) := (hB.cell (p := ⟨p, q + k * 3, none⟩) hp).trans d0
      have v1 : wr.cell? ⟨p, q + k * 3 + 1, none⟩ = some (.bool (V (k * 3 + 1))) := (hB.cell (p := ⟨p, q + (k * 3 + 1), none⟩) hp).trans d1
      have v2 : wr.cell? ⟨p, q + k * 3 + 2, none⟩ = some (.bool (V (k * 3 + 2))) := (hB.cell (p := ⟨p, q + (k * 3 + 2), none⟩) hp).trans d2
      have k1 : (k : Int) < (n : Int) := by omega
      have zg : g < wr.heap.size := Nat.lt_of_lt_of_le hg hB.size
      have zp : p < wr.heap.size := Nat.lt_of_lt_of_le hp hB.size
      have HB : Hid (Below w.heap.size w wr) := hB
      clear hB c0 d0 c1 d1 c2 d2 hg hp hg1 hp1 hg2 hp2
      go_wp2_with fail
      go_region_held3 (fun w' => w'.cell? ⟨g, o + k * 3, none⟩ = some (.bool (V (k * 3))) ∧ w'.cell? ⟨g, o + k * 3 + 1, none⟩ = some (.bool (V (k * 3 + 1))) ∧ w'.cell? ⟨g, o + k * 3 + 2, none⟩ = some (.bool (V (k * 3 + 2))) ∧ w'.cell? ⟨p, q + k * 3, none⟩ = some (.bool (V (k * 3))) ∧ w'.cell? ⟨p, q + k * 3 + 1, none⟩ = some (.bool (V (k * 3 + 1))) ∧ w'.cell? ⟨p, q + k * 3 + 2, none⟩ = some (.bool (V (k * 3 + 2)))) (first | (refine keepOut u0 u1 u2 v0 v1 v2 zg zp ?_; exact (by repeat (first | with_reducible exact Below.refl _ _ | with_reducible exact B3 | with_reducible refine Below.setCell ?_ (by first | omega | (simp; done) | (simp; omega)) _ | with_reducible refine bDrewN ?_ _ | with_reducible refine Below.drew ?_ | with_reducible refine Below.alloc ?_ (by first | omega | (simp; done) | (simp; omega)) _)))) (first
        | (go_at_call 16; refine (eqOut_same _ _ _ _).mono ?_; rintro r w3 ⟨rfl, h3⟩; have B3 : Below wr.heap.size wr w3 := Below.trans (by repeat (first | with_reducible exact Below.refl _ _ | with_reducible refine Below.setCell ?_ (by first | omega | (simp; done) | (simp; omega)) _ | with_reducible refine bDrewN ?_ _ | with_reducible refine Below.drew ?_ | with_reducible refine Below.alloc ?_ (by first | omega | (simp; done) | (simp; omega)) _)) (h3.mono (by first | omega | (simp; done) | (simp; omega)))))
      all_goals
        have B4 : Below w.heap.size w w3 := HB.out.trans (B3.mono HB.out.size)
        go_wp2
        go_round
        case rel => exact ⟨k + 1, by omega, by go_num, (by repeat (first | with_reducible exact Below.refl _ _ | with_reducible exact B4 | with_reducible refine Below.setCell ?_ (by first | omega | (simp; done) | (simp; omega)) _ | with_reducible refine bDrewN ?_ _ | with_reducible refine Below.drew ?_ | with_reducible refine Below.alloc ?_ (by first | omega | (simp; done) | (simp; omega)) _))⟩
        case measure => simp [intOf]; omega
    · obtain rfl : k = n := by omega
      go_wp2
      go_ret
      exact ⟨rfl, (by repeat (first | with_reducible exact Below.refl _ _ | with_reducible exact hB | with_reducible refine Below.setCell ?_ (by first | omega | (simp; done) | (simp; omega)) _ | with_reducible refine bDrewN ?_ _ | with_reducible refine Below.drew ?_ | with_reducible refine Below.alloc ?_ (by first | omega | (simp; done) | (simp; omega)) _))⟩
set_option maxRecDepth 20000 in
set_option maxHeartbeats 4000000 in
theorem markOutS_at (b n c : Nat) (k : Int) (V : Nat → Bool) (w : World) (hn : (n : Int) ≤ 1048576) (k0 : 0 ≤ k) (k1 : k ≤ 100000000) (hb : b < w.heap.size) (HR : Hid (∀ j, j < n * 3 → w.cell? ⟨b, j, none⟩ = some (.bool (V j)) ∧ w.frozen? ⟨b, j, none⟩ = false)) :
    Calls Try.prog 24 #[.slice (some ⟨b, 0, none⟩) n c, .int .i64 k] w fun e w' => e = .returned (.int .i64 (k + (n : Int) * 3)) ∧ BarkTo b w w' (n * 3) (n * 3) k V := by
  go_enter Try.func24, Try.ntmps24
  go_wp2_with fail
  go_loopw [1, 5] (fun q i wr => ∃ j : Nat, j ≤ n ∧ i = .int .i64 j ∧ q = .int .i64 (k + (j : Int) * 3) ∧ BarkTo b w wr (n * 3) (j * 3) k V) (fun _ i _ => n - (intOf i).toNat)
  case atStart => exact ⟨0, Nat.zero_le _, rfl, by simp, (Beside.of (Below.refl _ _)), fun o ho => (HR.out o ho).2, fun i hi => by rw [if_neg (by omega)]; exact (HR.out i hi).1⟩
  case round =>
    obtain ⟨j, hj, rfl, rfl, hR⟩ := hrel
    have HT : Hid (BarkTo b w wr (n * 3) (j * 3) k V) := hR
    obtain ⟨hB, hf, hc⟩ := hR
    by_cases h1 : j < n
    · have e0 := hc (j * 3) (by omega); have e1 := hc (j * 3 + 1) (by omega); have e2 := hc (j * 3 + 2) (by omega)
      have f0 := hf (j * 3) (by omega); have f1 := hf (j * 3 + 1) (by omega); have f2 := hf (j * 3 + 2) (by omega)
      have k1 : (j : Int) < (n : Int) := by omega
      clear hc hf hB
      go_wp2
      go_roundw
      case rel => exact ⟨j + 1, by omega, by go_num, by go_num, (by rw [show (j + 1) * 3 = j * 3 + 3 by omega]; exact bark3 hb HT.out _ _ _ (by unfold markB; first | rfl | (congr 2; omega) | (congr 1; omega) | (rw [Bool.eq_iff_iff]; simp; omega)) (by unfold markB; first | rfl | (congr 2; omega) | (congr 1; omega) | (rw [Bool.eq_iff_iff]; simp; omega)) (by unfold markB; first | rfl | (congr 2; omega) | (congr 1; omega) | (rw [Bool.eq_iff_iff]; simp; omega)))⟩
      case measure => simp [intOf]; omega
    · obtain rfl : j = n := by omega
      go_wp2
      go_ret
      exact ⟨rfl, HT.out⟩
set_option maxHeartbeats 1000000 in
theorem markOutS_nil (s : Option Addr) (c : Nat) (k : Int) (w : World) :
    Calls Try.prog 24 #[.slice s 0 c, .int .i64 k] w fun e w' => e = .returned (.int .i64 k) ∧ w' = w := by
  go_enter Try.func24, Try.ntmps24
  go_wp2_with fail
  go_loop [1, 5] (fun q i => i = .int .i64 0 ∧ q = .int .i64 k) (fun _ i => 0)
  case atStart => exact ⟨rfl, rfl⟩
  case round =>
    obtain ⟨rfl, rfl⟩ := hrel
    go_wp2
    go_ret
    exact ⟨rfl, rfl⟩
theorem markOutS_own (base : Nat) (s : Option Addr) (n c : Nat) (k : Int) (V : Nat → Bool) (w : World) (hn : (n : Int) ≤ 1048576) (k0 : 0 ≤ k) (k1 : k ≤ 100000000) (hb : base ≤ w.heap.size) (HR : OwnB base w s (n * 3) V) :
    Calls Try.prog 24 #[.slice s n c, .int .i64 k] w fun e w' => e = .returned (.int .i64 (k + (n : Int) * 3)) ∧ OwnB base w' s (n * 3) (markB k) ∧ Below base w w' ∧ Spared s (n * 3) w w' := by
  by_cases h : n = 0
  · subst h
    refine (markOutS_nil s c k w).mono ?_
    rintro e w' ⟨rfl, rfl⟩
    exact ⟨by simp, fun j hj => by omega, Below.refl _ _, Spared.refl _ _ _⟩
  · obtain ⟨b, rfl, hB, hl, _, _⟩ := HR 0 (by omega)
    have HH : Hid (∀ j, j < n * 3 → w.cell? ⟨b, j, none⟩ = some (.bool (V j)) ∧ w.frozen? ⟨b, j, none⟩ = false) := fun j hj => by
      obtain ⟨b', e', _, _, h1, h2⟩ := HR j hj
      cases e'
      exact ⟨h1, h2⟩
    refine (markOutS_at b n c k V w hn k0 k1 hl HH).mono ?_
    rintro e w' ⟨rfl, hB', hf, hc⟩
    refine ⟨rfl, fun j hj => ⟨b, rfl, hB, Nat.lt_of_lt_of_le hl hB'.2.2.2.1, by rw [hc j hj, if_pos hj], hf j hj⟩, hB'.below hB hb, Spared.of (fun b' e => ?_) (fun e => by omega) (fun _ => ⟨b, rfl⟩)⟩
    cases e
    exact hB'
set_option maxRecDepth 20000 in
set_option maxHeartbeats 4000000 in
theorem heldOutS_any (s : Option Addr) (n c : Nat) (k : Int) (w : World) (hn : (n : Int) ≤ 1048576) (k0 : 0 ≤ k) (k1 : k ≤ 100000000) (HR : Hid (RowB w s (n * 3) (markB k))) :
    Calls Try.prog 25 #[.slice s n c, .int .i64 k] w fun e w' => e = .returned (.int .i64 (k + (n : Int) * 3)) ∧ w' = w := by
  go_enter Try.func25, Try.ntmps25
  go_wp2_with fail
  go_loop [1, 5] (fun q i => ∃ j : Nat, j ≤ n ∧ i = .int .i64 j ∧ q = .int .i64 (k + (j : Int) * 3)) (fun _ i => n - (intOf i).toNat)
  case atStart => exact ⟨0, Nat.zero_le _, rfl, by simp⟩
  case round =>
    obtain ⟨j, hj, rfl, rfl⟩ := hrel
    by_cases h1 : j < n
    · obtain ⟨g, o, rfl, hg, c0⟩ := HR.out (j * 3) (by omega)
      obtain ⟨g', o', e', hg1, c1⟩ := HR.out (j * 3 + 1) (by omega)
      cases e'
      obtain ⟨g', o', e', hg2, c2⟩ := HR.out (j * 3 + 2) (by omega)
      cases e'
      have k1 : (j : Int) < (n : Int) := by omega
      obtain ⟨Q, hQ⟩ : ∃ Q, k + (j : Int) * 3 = Q := ⟨_, rfl⟩
      have m0 : markB k (j * 3) = ((Q) % 3 == 0) := by rw [← hQ]; unfold markB; first | rfl | (congr 2; omega) | (congr 1; omega) | (rw [Bool.eq_iff_iff]; simp; omega)
      rw [m0] at c0
      have m1 : markB k (j * 3 + 1) = ((Q + 1) % 3 == 0) := by rw [← hQ]; unfold markB; first | rfl | (congr 2; omega) | (congr 1; omega) | (rw [Bool.eq_iff_iff]; simp; omega)
      rw [m1] at c1
      have m2 : markB k (j * 3 + 2) = ((Q + 1 + 1) % 3 == 0) := by rw [← hQ]; unfold markB; first | rfl | (congr 2; omega) | (congr 1; omega) | (rw [Bool.eq_iff_iff]; simp; omega)
      rw [m2] at c2
      have q0 : 0 ≤ Q := by omega
      have q1 : Q ≤ 1000000000 := by omega
      have d0 : w.cell? ⟨g, o + j * 3, none⟩ = some (.bool ((Q) % 3 == 0)) := c0
      have d1 : w.cell? ⟨g, o + j * 3 + 1, none⟩ = some (.bool ((Q + 1) % 3 == 0)) := c1
      have d2 : w.cell? ⟨g, o + j * 3 + 2, none⟩ = some (.bool ((Q + 1 + 1) % 3 == 0)) := c2
      rw [hQ]
      have HQ : Hid (k + (j : Int) * 3 = Q) := hQ
      clear hQ m0 c0 m1 c1 m2 c2
      cases h0 : (Q % 3 == 0)
      all_goals
        cases h1 : ((Q + 1) % 3 == 0)
      all_goals
        cases h2 : ((Q + 1 + 1) % 3 == 0)
      all_goals
        rw [h0] at d0
        rw [h1] at d1
        rw [h2] at d2
        have h2b : ((Q + 2) % 3 == 0) = ((Q + 1 + 1) % 3 == 0) := by rw [show Q + 2 = Q + 1 + 1 by omega]
        rw [h2] at h2b
        go_wp2
        go_round
        case rel => exact ⟨j + 1, by omega, by go_num, (by have := HQ.out; go_num)⟩
        case measure => simp [intOf]; omega
    · obtain rfl : j = n := by omega
      go_wp2
      go_ret
      exact ⟨rfl, rfl⟩
end Go.Proofs.Ytaimdbgimkgelaa
