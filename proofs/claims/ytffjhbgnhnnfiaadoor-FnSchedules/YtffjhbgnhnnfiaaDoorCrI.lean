/-
What is proved: the greatest row of jobs, as both packages say it.
-/
import Derived.Test.YtffjhbgnhnnfiaaDoorJoI
import Derived.Test.YtffjhbgnhnnfiaaDoorJoS
import Derived.Test.YtffjhbgnhnnfiaaDoorRo
import Derived.Test.YtffjhbgnhnnfiaaDoorOwnV
import Derived.Deep.RegionHeld3
import Derived.Deep.DeepCutAuto
import Derived.BigQuiet
namespace Go.Proofs.YtffjhbgnhnnfiaaDoor
set_option maxRecDepth 40000
open Go.ChangeShapes Go.WideShapes Go.ChangeAt Go.RowKit
set_option linter.unusedVariables false
set_option linter.unusedSimpArgs false

def BegAt (w : World) (b n : Nat) (B : Nat → Int) : Prop := b < w.heap.size ∧ (∀ o, w.frozen? ⟨b, o, none⟩ = false) ∧ ∀ j, j < n → w.cell? ⟨b, j, none⟩ = some (.int .i64 (B j))
theorem BegAt.row {w : World} {b n : Nat} {B : Nat → Int} (h : BegAt w b n B) : RowI w (some ⟨b, 0, none⟩) n B := fun j hj => ⟨b, 0, rfl, h.1, by rw [Nat.zero_add]; exact h.2.2 j hj⟩
theorem BegAt.below {w w' : World} {b n : Nat} {B : Nat → Int} (h : BegAt w b n B) (hb : Below w.heap.size w w') : BegAt w' b n B := ⟨Nat.lt_of_lt_of_le h.1 hb.size, fun o => (hb.frozen (p := ⟨b, o, none⟩) h.1).trans (h.2.1 o), fun j hj => (hb.cell (p := ⟨b, j, none⟩) h.1).trans (h.2.2 j hj)⟩
theorem BegAt.set {w : World} {b n k : Nat} {B : Nat → Int} {x : Int} (h : BegAt w b n B) (hk : k < n) : BegAt (w.setCell ⟨b, k, none⟩ (.int .i64 x)) b n (fun j => if j = k then x else B j) := by
  refine ⟨by simpa using h.1, fun o => ?_, fun j hj => ?_⟩
  · simpa [go_sem] using h.2.1 o
  · show (w.setCell ⟨b, k, none⟩ (.int .i64 x)).cell? ⟨b, j, none⟩ = some (.int .i64 (if j = k then x else B j))
    by_cases e : j = k
    · subst e
      rw [if_pos rfl]
      simp [go_sem, h.2.2 j hj]
    · rw [if_neg e]
      rw [World.cell?_setCell_other _ _ _ _ (by intro q; cases q; exact e rfl)]
      exact h.2.2 j hj
theorem BegAt.start (w : World) (n : Nat) (t : TypeId) : BegAt (w.alloc (.cells (madeCells #[.int .i64 0] n) t)) w.heap.size n (fun _ => 0) := by
  obtain ⟨h1, h2, h3, h4⟩ := rowTo_start w n (fun _ => 0) t
  refine ⟨h2, h3, fun j hj => ?_⟩
  have := h4 j hj
  simpa using this
theorem keep2R {W W' : World} {p : Nat} {a b : Value} (h0 : W.cell? ⟨p, 0, none⟩ = some a) (h1 : W.cell? ⟨p, 1, none⟩ = some b) (zp : p < W.heap.size) (hb : Below W.heap.size W W') : W'.cell? ⟨p, 0, none⟩ = some a ∧ W'.cell? ⟨p, 1, none⟩ = some b := ⟨(hb.cell (p := ⟨p, 0, none⟩) zp).trans h0, (hb.cell (p := ⟨p, 1, none⟩) zp).trans h1⟩
theorem keep2S {W W' : World} {p g i : Nat} {a b v : Value} (h0 : W.cell? ⟨p, 0, none⟩ = some a) (h1 : W.cell? ⟨p, 1, none⟩ = some b) (zp : p < W.heap.size) (hg : p ≠ g) (hb : Below W.heap.size W W') : (W'.setCell ⟨g, i, none⟩ v).cell? ⟨p, 0, none⟩ = some a ∧ (W'.setCell ⟨g, i, none⟩ v).cell? ⟨p, 1, none⟩ = some b := by
  obtain ⟨a0, a1⟩ := keep2R h0 h1 zp hb
  rw [World.cell?_setCell_other _ _ _ _ (by intro q; cases q; exact hg rfl), World.cell?_setCell_other _ _ _ _ (by intro q; cases q; exact hg rfl)]
  exact ⟨a0, a1⟩
theorem job_good {n : Nat} {X : Nat → Int} {K : Nat → Nat} {V : Nat → Nat → Int} (h : jobsB n X K V = true) : ∀ j, j < n → (1 ≤ X j ∧ X j ≤ 1000) ∧ (∀ i, i < K j → 0 ≤ V j i ∧ V j i < (j : Int)) := fun j hj => by
  have q := job_yes ((jobs_yes h).2 j hj)
  exact ⟨q.1, fun i hi => by have := q.2.2 i hi; omega⟩
set_option maxRecDepth 20000 in
set_option maxHeartbeats 8000000 in
theorem implCritical_any (s : Option Addr) (n c : Nat) (X : Nat → Int) (K : Nat → Nat) (V : Nat → Nat → Int) (w : World) (hn : (n : Int) ≤ 1048576) (HK : Hid (∀ i, i < n → (K i : Int) ≤ 1048576)) (HR : Hid (RowJbs w s n X K V)) (HE : Hid (ErrJ w)) :
    Calls Tryd.prog 10 #[.slice s n c] w fun e w' => e = .returned (.int .i64 (criV n X K V)) ∧ Below w.heap.size w w' := by
  have HX : Hid (∀ w1, Below w.heap.size w w1 → ErrJ w1) := fun w1 hb => HE.out.below hb
  go_enter Tryd.func10, Tryd.ntmps10
  go_wp2_with fail
  refine (jobsMisfit_any s n c X K V _ hn HK HR HE).mono ?_
  rintro e w1 ⟨v, rfl, hv, h1⟩
  have HV : Hid (MisV v (jobsB n X K V)) := hv
  have B1 : Below w.heap.size w w1 := h1
  clear hv h1
  go_wp2_with fail
  refine (refused_any v (jobsB n X K V) _ HV (HX.out _ B1).1).mono ?_
  rintro e w2 ⟨rfl, h2⟩
  replace B1 : Below w.heap.size w w2 := B1.trans (h2.mono B1.size)
  clear h2 HV HX HE
  cases hc : jobsB n X K V
  · have HO : Hid (criV n X K V = -1) := cri_no hc
    clear hc
    go_wp2
    go_ret
    exact ⟨ret_int HO.out.symm, B1⟩
  have HO : Hid (criV n X K V = lastF X (crT X K V n) n) := cri_yes hc
  have HJ : Hid (∀ j, j < n → (1 ≤ X j ∧ X j ≤ 1000) ∧ (∀ i, i < K j → 0 ≤ V j i ∧ V j i < (j : Int))) := job_good hc
  have HI : Hid (∀ k, k ≤ n → ∀ j, 0 ≤ crT X K V k j ∧ crT X K V k j ≤ 1000 * (j : Int)) := crT_in (jobs_yes hc).2
  have n4 := (jobs_yes hc).1
  have n5 : (n : Int) ≤ 40 := by omega
  have hmk := make_i64 n (by omega)
  have HB1 : Hid (Below w.heap.size w w2) := B1
  have zw : w.heap.size ≤ w2.heap.size := B1.size
  clear hc B1
  go_upto_region 4 with fail
  obtain ⟨wa, hwa⟩ : ∃ wa, wa = (w2.alloc (.cells (madeCells #[.int .i64 0] n) 2)).alloc (.cells #[.slice s n c, .slice (some ⟨w2.heap.size, 0, none⟩) n n] 57) := ⟨_, rfl⟩
  rw [← hwa]
  have hb : Below w2.heap.size w2 wa := by rw [hwa]; exact (by repeat (first | with_reducible exact Below.refl _ _ | with_reducible refine Below.setCell ?_ (by first | omega | (simp; done) | (simp; omega)) _ | with_reducible refine bDrewN ?_ _ | with_reducible refine Below.drew ?_ | with_reducible refine Below.alloc ?_ (by first | omega | (simp; done) | (simp; omega)) _))
  have a0 : wa.cell? ⟨w2.heap.size + 1, 0, none⟩ = some (.slice s n c) := by rw [hwa]; simp [go_sem]
  have a1 : wa.cell? ⟨w2.heap.size + 1, 1, none⟩ = some (.slice (some ⟨w2.heap.size, 0, none⟩) n n) := by rw [hwa]; simp [go_sem]
  have za : w2.heap.size + 1 < wa.heap.size := by rw [hwa]; simp
  have HG : Hid (BegAt wa w2.heap.size n (crT X K V 0)) := by show BegAt _ _ _ _; rw [hwa]; exact (BegAt.start w2 n _).below (below0 _ _)
  have HB : Hid (Below w.heap.size w wa) := HB1.out.trans (hb.mono HB1.out.size)
  clear hwa hb hmk HB1
  go_wp2_with fail
  go_loopw [15] (fun i wr => ∃ k : Nat, k ≤ n ∧ i = .int .i64 k ∧ Hid (BegAt wr w2.heap.size n (crT X K V k)) ∧ wr.cell? ⟨w2.heap.size + 1, 0, none⟩ = some (.slice s n c) ∧ wr.cell? ⟨w2.heap.size + 1, 1, none⟩ = some (.slice (some ⟨w2.heap.size, 0, none⟩) n n) ∧ w2.heap.size + 1 < wr.heap.size ∧ Below w.heap.size w wr) (fun i _ => n - (intOf i).toNat)
  case atStart => exact ⟨0, Nat.zero_le _, rfl, HG, a0, a1, za, HB.out⟩
  case round =>
    obtain ⟨k, hk, rfl, HGk, q0, q1, zr, hB⟩ := hrel
    have HBr : Hid (Below w.heap.size w wr) := hB
    have HGG : Hid (∀ j, j < n → (1 ≤ X j ∧ X j ≤ 1000) ∧ 0 ≤ crT X K V k j ∧ crT X K V k j ≤ 1000000000) := fun j hj => ⟨(HJ.out j hj).1, by have := HI.out k hk j; omega⟩
    by_cases h1 : k < n
    · have k1 : (k : Int) < (n : Int) := by omega
      have HCR : Hid (∀ w1, Below wr.heap.size wr w1 → Calls Tryd.prog 32 #[.agg #[.slice s n c, .slice (some ⟨w2.heap.size, 0, none⟩) n n], .int .i64 k] w1 fun e w' => e = .returned (.int .i64 (crT X K V (k + 1) k)) ∧ Below w1.heap.size w1 w') := fun w1 hb => by
        rw [crT_new]
        exact readyAt_any s (some ⟨w2.heap.size, 0, none⟩) n c n X K V (crT X K V k) k w1 h1 n5 (HK.out k h1) (fun i hi => by have := (HJ.out k h1).2 i hi; omega) ((HR.out.below HBr.out).below hb) (HGk.out.row.below hb) HGG
      have f0 := HGk.out.2.1 k
      have g0 := HGk.out.2.2 k h1
      have HGs : Hid (∀ w3, Below wr.heap.size wr w3 → BegAt (w3.setCell ⟨w2.heap.size, k, none⟩ (.int .i64 (crT X K V (k + 1) k))) w2.heap.size n (crT X K V (k + 1))) := fun w3 hb => by
        have := (HGk.out.below hb).set (x := crT X K V (k + 1) k) h1
        refine ⟨this.1, this.2.1, fun j hj => ?_⟩
        rw [this.2.2 j hj]
        show some (Value.int .i64 (if j = k then crT X K V (k + 1) k else crT X K V k j)) = _
        by_cases e : j = k
        · rw [if_pos e, e]
        · rw [if_neg e, crT_old X K V e]
      obtain ⟨N, hN⟩ : ∃ N, crT X K V (k + 1) k = N := ⟨_, rfl⟩
      rw [hN] at HCR HGs
      have zb : w2.heap.size < wr.heap.size := by omega
      clear hN HGk hB
      go_upto_region 7 with fail
      go_region_held3 (fun w' => w'.cell? ⟨w2.heap.size + 1, 0, none⟩ = some (.slice s n c) ∧ w'.cell? ⟨w2.heap.size + 1, 1, none⟩ = some (.slice (some ⟨w2.heap.size, 0, none⟩) n n)) (first | with_reducible exact ⟨q0, q1⟩ | (with_reducible refine keep2S q0 q1 zr (by omega) ?_; exact (by repeat (first | with_reducible exact Below.refl _ _ | with_reducible exact B8 | with_reducible refine Below.setCell ?_ (by first | omega | (simp; done) | (simp; omega)) _ | with_reducible refine bDrewN ?_ _ | with_reducible refine Below.drew ?_ | with_reducible refine Below.alloc ?_ (by first | omega | (simp; done) | (simp; omega)) _))) | (refine keep2R q0 q1 zr ?_; exact (by repeat (first | with_reducible exact Below.refl _ _ | with_reducible exact B8 | with_reducible refine Below.setCell ?_ (by first | omega | (simp; done) | (simp; omega)) _ | with_reducible refine bDrewN ?_ _ | with_reducible refine Below.drew ?_ | with_reducible refine Below.alloc ?_ (by first | omega | (simp; done) | (simp; omega)) _)))) (first
        | (go_at_call 32; refine (HCR.out _ (by repeat (first | with_reducible exact Below.refl _ _ | with_reducible refine Below.setCell ?_ (by first | omega | (simp; done) | (simp; omega)) _ | with_reducible refine bDrewN ?_ _ | with_reducible refine Below.drew ?_ | with_reducible refine Below.alloc ?_ (by first | omega | (simp; done) | (simp; omega)) _))).mono ?_; rintro e wz ⟨rfl, h8⟩; have B8 : Below wr.heap.size wr wz := Below.trans (by repeat (first | with_reducible exact Below.refl _ _ | with_reducible refine Below.setCell ?_ (by first | omega | (simp; done) | (simp; omega)) _ | with_reducible refine bDrewN ?_ _ | with_reducible refine Below.drew ?_ | with_reducible refine Below.alloc ?_ (by first | omega | (simp; done) | (simp; omega)) _)) (h8.mono (by first | omega | (simp; done) | (simp; omega))); have g8 := (B8.cell (p := ⟨w2.heap.size, k, none⟩) zb).trans g0; have f8 := (B8.frozen (p := ⟨w2.heap.size, k, none⟩) zb).trans f0; clear h8))
      all_goals
        have BZ : Below w.heap.size w wz := HBr.out.trans (B8.mono HBr.out.size)
        have s8 := B8.size
        go_wp2
        go_roundw
        case rel => exact ⟨k + 1, by omega, by go_num, HGs.out _ (by exact B8), (keep2S q0 q1 zr (by omega) B8).1, (keep2S q0 q1 zr (by omega) B8).2, by first | omega | (simp; omega), (by repeat (first | with_reducible exact Below.refl _ _ | with_reducible exact BZ | with_reducible refine Below.setCell ?_ (by first | omega | (simp; done) | (simp; omega)) _ | with_reducible refine bDrewN ?_ _ | with_reducible refine Below.drew ?_ | with_reducible refine Below.alloc ?_ (by first | omega | (simp; done) | (simp; omega)) _))⟩
        case measure => first | (simp [intOf]; done) | (simp [intOf]; omega)
    · obtain rfl : k = n := by omega
      go_wp2_with fail
      refine (lastEnd_any s (some ⟨w2.heap.size, 0, none⟩) k c k X K V (crT X K V k) _ n5 (HR.out.below hB) HGk.out.row HGG).mono ?_
      rintro e w5 ⟨rfl, h5⟩
      have B5 : Below w.heap.size w w5 := hB.trans (h5.mono hB.size)
      clear h5
      go_wp2
      go_ret
      exact ⟨ret_int HO.out.symm, B5⟩
end Go.Proofs.YtffjhbgnhnnfiaaDoor
