/-
What is proved: a filter, as the program tells it.
-/
import Derived.Test.YtebbkcbpecpolaaTap
namespace Go.Proofs.Ytebbkcbpecpolaa
set_option maxRecDepth 40000
open Go.RowKit
set_option linter.unusedVariables false
set_option linter.unusedSimpArgs false

theorem make_room (n : Nat) (hn : n ≤ 1048576) (w : World) : (Instr.makeSlice 24 (.int .i64 0) (.int .i64 (n : Int))).run Try.prog w = .ok (.slice (some ⟨w.heap.size, 0, none⟩) 0 n) (w.alloc (.cells (madeCells #[.float .f64 0] n) 25)) := by
  have hinfo := info_f64
  obtain ⟨i, hi, hzz⟩ := Option.map_eq_some_iff.1 hinfo
  simp only [Prod.mk.injEq] at hzz
  obtain ⟨hz, hs, hb⟩ := hzz
  have hr := run_make (P := Try.prog) w 24 25 i _ Try.underlying24 hi hz .i64 .i64 0 n (by omega) (by omega) (by rw [hb]; omega) (by omega)
  simp only [Int.toNat_natCast, hs, Nat.mul_one] at hr
  exact hr
theorem madeF_room (w : World) (V : Nat → Option Nat) (n : Nat) (hn : n ≤ 1048576) : MadeF w.heap.size w (w.alloc (.cells (madeCells #[.float .f64 0] n) 25)) (.slice (some ⟨w.heap.size, 0, none⟩) 0 n) 0 [] V :=
  ⟨World.ownsRow_made w _ n (Nat.le_refl _) (by unfold maxLen; omega) (by simp [madeCells]), ⟨rfl, fun j hj => by omega⟩, (Below.refl _ _).alloc (Nat.le_refl _) _⟩
set_option maxHeartbeats 1000000 in
theorem tapsOk_any (s : Option Addr) (n c : Nat) (w : World) (hn : (n : Int) ≤ 1048576) : Calls Try.prog 12 #[.slice s n c] w fun e w' => e = .returned (.bool (decide (1 ≤ n ∧ n ≤ 8))) ∧ w' = w := by
  by_cases h : 1 ≤ n ∧ n ≤ 8
  · rw [decide_eq_true h]
    go_enter Try.func12, Try.ntmps12
    go_wp2_with fail
    refine (within_yes _ _ _ _ (by omega) (by omega)).mono ?_
    rintro e w1 ⟨rfl, rfl⟩
    go_wp2
    go_ret
    exact ⟨rfl, rfl⟩
  · rw [decide_eq_false h]
    go_enter Try.func12, Try.ntmps12
    go_wp2_with fail
    refine (within_no _ _ _ _ (by omega)).mono ?_
    rintro e w1 ⟨rfl, rfl⟩
    go_wp2
    go_ret
    exact ⟨rfl, rfl⟩
set_option maxRecDepth 20000 in
set_option maxHeartbeats 8000000 in
theorem implFil_any (s : Option Addr) (p : Nat) (N : Nat → Option Nat) (t : Option Addr) (d : Nat) (D : Nat → Option Nat) (u : Option Addr) (n : Nat) (L : Nat → Option Nat) (w : World) (hp : (p : Int) ≤ 1048576) (hd : (d : Int) ≤ 1048576) (hn : (n : Int) ≤ 1048576) (HN : Hid (RowF w s p N)) (HD : Hid (RowF w t d D)) (HL : Hid (RowF w u n L)) :
    Calls Try.prog 6 #[.slice s p p, .slice t d d, .slice u n n] w fun e w' => ∃ s' c', e = .returned (.slice s' (filM p d n) c') ∧ OwnF w.heap.size w' s' (filM p d n) (outF N D L p d) ∧ Below w.heap.size w w' := by
  have hmk := make_room n (by omega)
  go_enter Try.func6, Try.ntmps6
  go_wp2_with fail
  refine (tapsOk_any s p p _ hp).mono ?_
  rintro e w1 ⟨rfl, rfl⟩
  cases h0 : decide (1 ≤ p ∧ p ≤ 8)
  · have HV : Hid (filM p d n = 0) := fil_no (show filB p d n = false by unfold filB; simp [h0])
    go_wp2
    go_ret
    exact ⟨none, 0, by rw [HV.out]; rfl, by rw [HV.out]; exact own_nil _ _ _ _, (by repeat (first | with_reducible exact Below.refl _ _ | with_reducible refine Below.setCell ?_ (by first | omega | (simp; done) | (simp; omega)) _ | with_reducible refine bDrewN ?_ _ | with_reducible refine Below.drew ?_ | with_reducible refine Below.alloc ?_ (by first | omega | (simp; done) | (simp; omega)) _))⟩
  go_wp2_with fail
  refine (tapsOk_any t d d _ hd).mono ?_
  rintro e w2 ⟨rfl, rfl⟩
  cases h1 : decide (1 ≤ d ∧ d ≤ 8)
  · have HV : Hid (filM p d n = 0) := fil_no (show filB p d n = false by unfold filB; simp [h1])
    go_wp2
    go_ret
    exact ⟨none, 0, by rw [HV.out]; rfl, by rw [HV.out]; exact own_nil _ _ _ _, (by repeat (first | with_reducible exact Below.refl _ _ | with_reducible refine Below.setCell ?_ (by first | omega | (simp; done) | (simp; omega)) _ | with_reducible refine bDrewN ?_ _ | with_reducible refine Below.drew ?_ | with_reducible refine Below.alloc ?_ (by first | omega | (simp; done) | (simp; omega)) _))⟩
  by_cases h2 : 1000 < n
  · have n1 : (1000 : Int) < (n : Int) := by omega
    have HV : Hid (filM p d n = 0) := fil_no (show filB p d n = false by unfold filB; rw [decide_eq_false (p := n ≤ 1000) (by omega)]; simp)
    go_wp2
    go_ret
    exact ⟨none, 0, by rw [HV.out]; rfl, by rw [HV.out]; exact own_nil _ _ _ _, (by repeat (first | with_reducible exact Below.refl _ _ | with_reducible refine Below.setCell ?_ (by first | omega | (simp; done) | (simp; omega)) _ | with_reducible refine bDrewN ?_ _ | with_reducible refine Below.drew ?_ | with_reducible refine Below.alloc ?_ (by first | omega | (simp; done) | (simp; omega)) _))⟩
  have n1 : (n : Int) ≤ 1000 := by omega
  have p1 := of_decide_eq_true h0
  have d1 := of_decide_eq_true h1
  have HV : Hid (filM p d n = n) := fil_yes (show filB p d n = true by unfold filB; rw [h0, h1, decide_eq_true (p := n ≤ 1000) (by omega)]; rfl)
  obtain ⟨gd, od, yd, rfl, hgd, cd, hyd⟩ := HD.out 0 (by omega)
  clear h0 h1 h2
  go_wp2_with fail
  go_loopw [7, 29] (fun v i wr => ∃ (k : Nat) (xs : List Value), k ≤ n ∧ i = .int .i64 k ∧ MadeF w2.heap.size w2 wr v k xs (outF N D L p d)) (fun _ i _ => n - (intOf i).toNat)
  case atStart => exact ⟨0, [], Nat.zero_le _, rfl, madeF_room w2 _ n (by omega)⟩
  case round =>
    obtain ⟨k, xs, hk, rfl, hM⟩ := hrel
    have HM : Hid (MadeF w2.heap.size w2 wr u7 k xs (outF N D L p d)) := hM
    obtain ⟨s', cap, rfl, ho⟩ := madeF_own HM.out
    have HS : Hid (OwnF w2.heap.size wr s' k (outF N D L p d)) := ho
    have HO : Hid (wr.ownsRow w2.heap.size 25 1 (.slice s' k cap) k xs) := hM.1
    have hB : Below w2.heap.size w2 wr := hM.2.2
    have zB := hB.size
    clear hM ho
    by_cases hlt : k < n
    · obtain ⟨g, o, yl, rfl, hg, cl, hyl⟩ := HL.out k hlt
      have k1 : (k : Int) < (n : Int) := by omega
      have dd : wr.cell? ⟨gd, od, none⟩ = some (.float .f64 yd) := (hB.cell (p := ⟨gd, od, none⟩) hgd).trans cd
      have RL : Hid (RowF wr (some ⟨g, o, none⟩) (k + 1) L) := fun j hj => (HL.out.below hB) j (by omega)
      have RD : Hid (RowF wr (some ⟨gd, od + 1, none⟩) (d - 1) (fun j => D (j + 1))) := fun j hj => by
        obtain ⟨b, o', x, e, hb, c, hx⟩ := (HD.out.below hB) (j + 1) (by omega)
        cases e
        exact ⟨gd, od + 1, x, rfl, hb, by rw [show od + 1 + j = od + (j + 1) by omega]; exact c, hx⟩
      have RN : Hid (RowF wr s p N) := HN.out.below hB
      have EQ : Hid (outF N D L p d k = opO .quo (opO .sub (tapU N L (k + 1) (min p (k + 1))) (tapU (fun j => D (j + 1)) (outF N D L p d) k (min (d - 1) k))) (D 0)) := outF_eq N D L p d k
      clear cl hyl
      go_wp2_with fail
      refine (tapped_any s p p N (some ⟨g, o, none⟩) (k + 1) n L _ (by omega) (by omega) RN.out RL.out).mono ?_
      rintro e w3 ⟨ra, rfl, fa, b3⟩
      by_cases e1 : d = 1
      · subst e1
        have TD : Hid (∀ w', Below wr.heap.size wr w' → Calls Try.prog 13 #[.slice (some ⟨gd, od, none⟩) 0 0, .slice s' k cap] w' fun e w'' => ∃ r, e = .returned (.float .f64 r) ∧ Fl r (tapU (fun j => D (j + 1)) (outF N D L p 1) k (min (1 - 1) k)) ∧ Below w'.heap.size w' w'') := fun w' hb => tapped_any _ 0 0 _ s' k cap _ w' (by omega) (by omega) (fun j hj => by omega) (HS.out.below hb).row
        go_wp2_with fail
        refine (TD.out _ b3).mono ?_
        rintro e w4 ⟨rb, rfl, fb, b4⟩
        have B4 : Below wr.heap.size wr w4 := b3.trans (b4.mono b3.size)
        have de : w4.cell? ⟨gd, od, none⟩ = some (.float .f64 yd) := (B4.cell (p := ⟨gd, od, none⟩) (Nat.lt_of_lt_of_le hgd zB)).trans dd
        have z4 : w2.heap.size ≤ w4.heap.size := Nat.le_trans zB B4.size
        clear b3 b4 dd TD
        go_wp2_with (first
          | (refine list_fop .sub rfl _ _ _ _ (by rfl) (by rfl) (by rfl) (by rfl) fa fb ?_; intro x1 n1' f1)
          | (refine list_fop .quo rfl _ _ _ _ (by rfl) (by rfl) (by rfl) (by rfl) f1 hyd ?_; intro x2 n2' f2)
          | (at_builtin; refine list_f64 w2.heap.size (.slice s' k cap) k xs (.tmp 42) (.tmp 50) (by rfl) (by rfl) (by rfl) (by rfl) (own_belowF HO.out (show Below wr.heap.size wr (w4.drewN (n1' + n2')) from (by repeat (first | with_reducible exact Below.refl _ _ | with_reducible exact B4 | with_reducible refine Below.setCell ?_ (by first | omega | (simp; done) | (simp; omega)) _ | with_reducible refine bDrewN ?_ _ | with_reducible refine Below.drew ?_ | with_reducible refine Below.alloc ?_ (by first | omega | (simp; done) | (simp; omega)) _)))) (by omega) (by first | exact z4 | (simp; omega)) ?_; intro g' cap' w7 hown7 hgrow7 hlt7))
        go_roundw
        case rel => exact ⟨k + 1, _, by omega, by go_num, madeF_on HM.out (show Below wr.heap.size wr (w4.drewN (n1' + n2')) from (by repeat (first | with_reducible exact Below.refl _ _ | with_reducible exact B4 | with_reducible refine Below.setCell ?_ (by first | omega | (simp; done) | (simp; omega)) _ | with_reducible refine bDrewN ?_ _ | with_reducible refine Below.drew ?_ | with_reducible refine Below.alloc ?_ (by first | omega | (simp; done) | (simp; omega)) _))) zB (by rw [EQ.out]; exact f2) hown7 hgrow7⟩
        case measure => simp [intOf]; omega
      · have d2 : (1 : Int) < (d : Int) := by omega
        have e3 : (d : Int) - 1 = ((d - 1 : Nat) : Int) := by omega
        have TD : Hid (∀ w', Below wr.heap.size wr w' → Calls Try.prog 13 #[.slice (some ⟨gd, od + 1, none⟩) (d - 1) (d - 1), .slice s' k cap] w' fun e w'' => ∃ r, e = .returned (.float .f64 r) ∧ Fl r (tapU (fun j => D (j + 1)) (outF N D L p d) k (min (d - 1) k)) ∧ Below w'.heap.size w' w'') := fun w' hb => tapped_any _ (d - 1) (d - 1) _ s' k cap _ w' (by omega) (by omega) (RD.out.below hb) (HS.out.below hb).row
        go_wp2_with fail
        refine (TD.out _ b3).mono ?_
        rintro e w4 ⟨rb, rfl, fb, b4⟩
        have B4 : Below wr.heap.size wr w4 := b3.trans (b4.mono b3.size)
        have de : w4.cell? ⟨gd, od, none⟩ = some (.float .f64 yd) := (B4.cell (p := ⟨gd, od, none⟩) (Nat.lt_of_lt_of_le hgd zB)).trans dd
        have z4 : w2.heap.size ≤ w4.heap.size := Nat.le_trans zB B4.size
        clear b3 b4 dd TD
        go_wp2_with (first
          | (refine list_fop .sub rfl _ _ _ _ (by rfl) (by rfl) (by rfl) (by rfl) fa fb ?_; intro x1 n1' f1)
          | (refine list_fop .quo rfl _ _ _ _ (by rfl) (by rfl) (by rfl) (by rfl) f1 hyd ?_; intro x2 n2' f2)
          | (at_builtin; refine list_f64 w2.heap.size (.slice s' k cap) k xs (.tmp 42) (.tmp 50) (by rfl) (by rfl) (by rfl) (by rfl) (own_belowF HO.out (show Below wr.heap.size wr (w4.drewN (n1' + n2')) from (by repeat (first | with_reducible exact Below.refl _ _ | with_reducible exact B4 | with_reducible refine Below.setCell ?_ (by first | omega | (simp; done) | (simp; omega)) _ | with_reducible refine bDrewN ?_ _ | with_reducible refine Below.drew ?_ | with_reducible refine Below.alloc ?_ (by first | omega | (simp; done) | (simp; omega)) _)))) (by omega) (by first | exact z4 | (simp; omega)) ?_; intro g' cap' w7 hown7 hgrow7 hlt7))
        go_roundw
        case rel => exact ⟨k + 1, _, by omega, by go_num, madeF_on HM.out (show Below wr.heap.size wr (w4.drewN (n1' + n2')) from (by repeat (first | with_reducible exact Below.refl _ _ | with_reducible exact B4 | with_reducible refine Below.setCell ?_ (by first | omega | (simp; done) | (simp; omega)) _ | with_reducible refine bDrewN ?_ _ | with_reducible refine Below.drew ?_ | with_reducible refine Below.alloc ?_ (by first | omega | (simp; done) | (simp; omega)) _))) zB (by rw [EQ.out]; exact f2) hown7 hgrow7⟩
        case measure => simp [intOf]; omega
    · obtain rfl : k = n := by omega
      go_wp2
      go_ret
      exact ⟨s', cap, by rw [HV.out]; rfl, by rw [HV.out]; exact HS.out, hB⟩
end Go.Proofs.Ytebbkcbpecpolaa
