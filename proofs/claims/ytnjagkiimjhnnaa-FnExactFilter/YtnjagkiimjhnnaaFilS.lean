/-
What is proved: a filter, as the specification tells it.
-/
import Derived.Test.YtnjagkiimjhnnaaTap
namespace Go.Proofs.Ytnjagkiimjhnnaa
set_option maxRecDepth 40000
open Go.RowKit
set_option linter.unusedVariables false
set_option linter.unusedSimpArgs false

set_option maxRecDepth 20000 in
set_option maxHeartbeats 8000000 in
theorem specFil_any (s : Option Addr) (p : Nat) (N : Nat → Option Nat) (t : Option Addr) (d : Nat) (D : Nat → Option Nat) (u : Option Addr) (n : Nat) (L : Nat → Option Nat) (w : World) (hp : (p : Int) ≤ 1048576) (hd : (d : Int) ≤ 1048576) (hn : (n : Int) ≤ 1048576) (HN : Hid (RowF w s p N)) (HD : Hid (RowF w t d D)) (HL : Hid (RowF w u n L)) :
    Calls Try.prog 5 #[.slice s p p, .slice t d d, .slice u n n] w fun e w' => ∃ s' c', e = .returned (.slice s' (filM p d n) c') ∧ OwnF w.heap.size w' s' (filM p d n) (outF N D L p d) ∧ Below w.heap.size w w' := by
  by_cases p0 : p < 1
  · have q1 : (p : Int) < 1 := by omega
    have HV : Hid (filM p d n = 0) := fil_no (show filB p d n = false by unfold filB; rw [decide_eq_false (p := 1 ≤ p ∧ p ≤ 8) (by omega)]; rfl)
    go_enter Try.func5, Try.ntmps5
    go_wp2
    go_ret
    exact ⟨_, 0, by rw [HV.out]; rfl, by rw [HV.out]; exact own_nil _ _ _ _, (by repeat (first | with_reducible exact Below.refl _ _ | with_reducible refine Below.setCell ?_ (by first | omega | (simp; done) | (simp; omega)) _ | with_reducible refine bDrewN ?_ _ | with_reducible refine Below.drew ?_ | with_reducible refine Below.alloc ?_ (by first | omega | (simp; done) | (simp; omega)) _))⟩
  have q1 : decide ((p : Int) < 1) = false := decide_eq_false (by omega)
  by_cases p8 : 8 < p
  · have q2 : (8 : Int) < (p : Int) := by omega
    have HV : Hid (filM p d n = 0) := fil_no (show filB p d n = false by unfold filB; rw [decide_eq_false (p := 1 ≤ p ∧ p ≤ 8) (by omega)]; rfl)
    go_enter Try.func5, Try.ntmps5
    go_wp2
    go_ret
    exact ⟨_, 0, by rw [HV.out]; rfl, by rw [HV.out]; exact own_nil _ _ _ _, (by repeat (first | with_reducible exact Below.refl _ _ | with_reducible refine Below.setCell ?_ (by first | omega | (simp; done) | (simp; omega)) _ | with_reducible refine bDrewN ?_ _ | with_reducible refine Below.drew ?_ | with_reducible refine Below.alloc ?_ (by first | omega | (simp; done) | (simp; omega)) _))⟩
  have q2 : decide ((8 : Int) < (p : Int)) = false := decide_eq_false (by omega)
  by_cases d0 : d < 1
  · have q3 : (d : Int) < 1 := by omega
    have HV : Hid (filM p d n = 0) := fil_no (show filB p d n = false by unfold filB; rw [decide_eq_false (p := 1 ≤ d ∧ d ≤ 8) (by omega)]; simp)
    go_enter Try.func5, Try.ntmps5
    go_wp2
    go_ret
    exact ⟨_, 0, by rw [HV.out]; rfl, by rw [HV.out]; exact own_nil _ _ _ _, (by repeat (first | with_reducible exact Below.refl _ _ | with_reducible refine Below.setCell ?_ (by first | omega | (simp; done) | (simp; omega)) _ | with_reducible refine bDrewN ?_ _ | with_reducible refine Below.drew ?_ | with_reducible refine Below.alloc ?_ (by first | omega | (simp; done) | (simp; omega)) _))⟩
  have q3 : decide ((d : Int) < 1) = false := decide_eq_false (by omega)
  by_cases d8 : 8 < d
  · have q4 : (8 : Int) < (d : Int) := by omega
    have HV : Hid (filM p d n = 0) := fil_no (show filB p d n = false by unfold filB; rw [decide_eq_false (p := 1 ≤ d ∧ d ≤ 8) (by omega)]; simp)
    go_enter Try.func5, Try.ntmps5
    go_wp2
    go_ret
    exact ⟨_, 0, by rw [HV.out]; rfl, by rw [HV.out]; exact own_nil _ _ _ _, (by repeat (first | with_reducible exact Below.refl _ _ | with_reducible refine Below.setCell ?_ (by first | omega | (simp; done) | (simp; omega)) _ | with_reducible refine bDrewN ?_ _ | with_reducible refine Below.drew ?_ | with_reducible refine Below.alloc ?_ (by first | omega | (simp; done) | (simp; omega)) _))⟩
  have q4 : decide ((8 : Int) < (d : Int)) = false := decide_eq_false (by omega)
  by_cases n8 : 1000 < n
  · have q5 : (1000 : Int) < (n : Int) := by omega
    have HV : Hid (filM p d n = 0) := fil_no (show filB p d n = false by unfold filB; rw [decide_eq_false (p := n ≤ 1000) (by omega)]; simp)
    go_enter Try.func5, Try.ntmps5
    go_wp2
    go_ret
    exact ⟨_, 0, by rw [HV.out]; rfl, by rw [HV.out]; exact own_nil _ _ _ _, (by repeat (first | with_reducible exact Below.refl _ _ | with_reducible refine Below.setCell ?_ (by first | omega | (simp; done) | (simp; omega)) _ | with_reducible refine bDrewN ?_ _ | with_reducible refine Below.drew ?_ | with_reducible refine Below.alloc ?_ (by first | omega | (simp; done) | (simp; omega)) _))⟩
  have q5 : (n : Int) ≤ 1000 := by omega
  have HV : Hid (filM p d n = n) := fil_yes (show filB p d n = true by unfold filB; rw [decide_eq_true (p := 1 ≤ p ∧ p ≤ 8) (by omega), decide_eq_true (p := 1 ≤ d ∧ d ≤ 8) (by omega), decide_eq_true (p := n ≤ 1000) (by omega)]; rfl)
  obtain ⟨gd, od, yd, rfl, hgd, cd, hyd⟩ := HD.out 0 (by omega)
  go_enter Try.func5, Try.ntmps5
  go_wp2_with fail
  go_loopw [7, 8] (fun v i wr => ∃ (k : Nat) (xs : List Value), k ≤ n ∧ i = .int .i64 k ∧ MadeF w.heap.size w wr v k xs (outF N D L p d)) (fun _ i _ => n - (intOf i).toNat)
  case atStart => exact ⟨0, [], Nat.zero_le _, rfl, madeF_lit w _ (Nat.le_refl _)⟩
  case round =>
    obtain ⟨k, xs, hk, rfl, hM⟩ := hrel
    have HM : Hid (MadeF w.heap.size w wr u7 k xs (outF N D L p d)) := hM
    obtain ⟨s', cap, rfl, ho⟩ := madeF_own HM.out
    have HS : Hid (OwnF w.heap.size wr s' k (outF N D L p d)) := ho
    have HO : Hid (wr.ownsRow w.heap.size 30 1 (.slice s' k cap) k xs) := hM.1
    have hB : Below w.heap.size w wr := hM.2.2
    have zB := hB.size
    clear hM ho
    by_cases hlt : k < n
    · obtain ⟨g, o, yl, rfl, hg, cl, hyl⟩ := HL.out k hlt
      have k1 : (k : Int) < (n : Int) := by omega
      have HW : Hid (Below w.heap.size w wr) := hB
      have EQ : Hid (outF N D L p d k = opO .quo (opO .sub (tapU N L (k + 1) (min p (k + 1))) (tapU (fun j => D (j + 1)) (outF N D L p d) k (min (d - 1) k))) (D 0)) := outF_eq N D L p d k
      obtain ⟨M, hMM⟩ : ∃ M, min p (k + 1) = M := ⟨_, rfl⟩
      obtain ⟨Q, hQQ⟩ : ∃ Q, min (d - 1) k = Q := ⟨_, rfl⟩
      rw [hMM, hQQ] at EQ
      clear cl hyl hB
      rename World => wo
      go_wp2_with fail
      go_loopw [9, 10] (fun q i wr => ∃ (k2 x : Nat), k2 ≤ M ∧ i = .int .i64 k2 ∧ q = .float .f64 x ∧ Fl x (tapU N L (k + 1) k2) ∧ Below wo.heap.size wo wr) (fun _ i _ => M - (intOf i).toNat)
      case atStart => exact ⟨0, 0, Nat.zero_le _, rfl, rfl, fl_zero, Below.refl _ _⟩
      case round =>
        obtain ⟨k2, x, hk2, rfl, rfl, hx, hB2⟩ := hrel
        have HB2 : Hid (Below wo.heap.size wo wr) := hB2
        have BW : Below w.heap.size w wr := HW.out.trans (hB2.mono zB)
        by_cases hin : k2 < M
        · obtain ⟨j, hj⟩ : ∃ j, k = j + k2 := ⟨k - k2, by omega⟩
          have ej : k + 1 - 1 - k2 = j := by omega
          obtain ⟨g1, o1, y, rfl, hg1, c1, hy⟩ := HN.out k2 (by omega)
          obtain ⟨g', o', z, e', hg', c2, hz⟩ := HL.out j (by omega)
          cases e'
          have e1 : wr.cell? ⟨g1, o1 + k2, none⟩ = some (.float .f64 y) := (BW.cell (p := ⟨g1, o1 + k2, none⟩) hg1).trans c1
          have e2 : wr.cell? ⟨g, o + j, none⟩ = some (.float .f64 z) := (BW.cell (p := ⟨g, o + j, none⟩) hg').trans c2
          have k3 : (k2 : Int) < (p : Int) := by omega
          have k4 : (k2 : Int) ≤ (k : Int) := by omega
          have k5 : decide ((k2 : Int) ≤ (k : Int)) = true := decide_eq_true k4
          have j1 : (j : Int) < (n : Int) := by omega
          have wb : IntKind.i64.wrap ((k : Int) - (k2 : Int)) = (j : Int) := by rw [wrapF (by omega) (by omega)]; omega
          obtain ⟨r1, n1, hr1, f1⟩ := fl_run (P := Try.prog) (f := .mul) rfl 30 hy hz wr.drew
          obtain ⟨r2, n2, hr2, f2⟩ := fl_run (P := Try.prog) (f := .add) rfl 30 hx f1 (wr.drewN (1 + n1))
          have HF : Hid (Fl r2 (tapU N L (k + 1) (k2 + 1))) := show Fl r2 (opO .add (tapU N L (k + 1) k2) (opO .mul (N k2) (L (k + 1 - 1 - k2)))) by rw [ej]; exact f2
          clear c1 c2 hg1 hg' hx hy hz f1 f2 ej hB2 BW hj
          go_wp2_with fail
          go_region_held_law (fun w' => w'.cell? ⟨g1, o1 + k2, none⟩ = some (.float .f64 y) ∧ w'.cell? ⟨g, o + j, none⟩ = some (.float .f64 z)) (first | (simp [go_sem, e1, e2]; done) | go_keep) (fail)
          all_goals
            have B4 := HB2.out
            go_wp2
            go_roundw
            case rel => exact ⟨k2 + 1, r2, by omega, by go_num, rfl, HF.out, (by repeat (first | with_reducible exact Below.refl _ _ | with_reducible exact B4 | with_reducible refine Below.setCell ?_ (by first | omega | (simp; done) | (simp; omega)) _ | with_reducible refine bDrewN ?_ _ | with_reducible refine Below.drew ?_ | with_reducible refine Below.alloc ?_ (by first | omega | (simp; done) | (simp; omega)) _))⟩
            case measure => simp [intOf]; omega
        · have e0 : k2 = M := by omega
          have HA : Hid (Fl x (tapU N L (k + 1) M)) := by rw [← e0]; exact hx
          have HS2 : Hid (OwnF w.heap.size wr s' k (outF N D L p d)) := HS.out.below hB2
          have zo : wo.heap.size ≤ wr.heap.size := hB2.size
          have cnd : (k2 : Int) < (p : Int) → decide ((k2 : Int) ≤ (k : Int)) = false := fun h => decide_eq_false (by omega)
          clear hx e0
          rename World => wq
          by_cases c3 : (k2 : Int) < (p : Int)
          · have c4 := cnd c3
            have C4 : Hid (decide ((k2 : Int) ≤ (k : Int)) = false) := c4
            have C3 : Hid (decide ((k2 : Int) < (p : Int)) = true) := decide_eq_true c3
            have C5 : Hid (k < k2) := show k < k2 by have := of_decide_eq_false c4; omega
            clear cnd
            go_wp2_with fail
            (try simp only [c4])
            go_loopw [11, 12] (fun q i wr => ∃ (k3 x : Nat), k3 ≤ Q ∧ i = .int .i64 ((k3 : Int) + 1) ∧ q = .float .f64 x ∧ Fl x (tapU (fun j => D (j + 1)) (outF N D L p d) k k3) ∧ Below wq.heap.size wq wr) (fun _ i _ => Q + 1 - (intOf i).toNat)
            case atStart => exact ⟨0, 0, Nat.zero_le _, rfl, rfl, fl_zero, Below.refl _ _⟩
            case round =>
              obtain ⟨k3, x3, hk3, rfl, rfl, hx3, hB3⟩ := hrel
              (try clear c4)
              (try clear c3)
              (try clear hin)
              (try clear hk2)
              (try clear hMM)
              have HB3 : Hid (Below wq.heap.size wq wr) := hB3
              have BW : Below w.heap.size w wr := HW.out.trans ((HB2.out.trans (hB3.mono zo)).mono zB)
              have HS3 : Hid (OwnF w.heap.size wr s' k (outF N D L p d)) := HS2.out.below hB3
              by_cases hin3 : k3 < Q
              · obtain ⟨j, hj⟩ : ∃ j, k = j + k3 + 1 := ⟨k - 1 - k3, by omega⟩
                have ej : k - 1 - k3 = j := by omega
                obtain ⟨g1, o1, y, e', hg1, c1, hy⟩ := HD.out (k3 + 1) (by omega)
                cases e'
                obtain ⟨g2, z, rfl, hl2, hg2, c2, hz, -⟩ := HS3.out j (by omega)
                have e1 : wr.cell? ⟨gd, od + (k3 + 1), none⟩ = some (.float .f64 y) := (BW.cell (p := ⟨gd, od + (k3 + 1), none⟩) hg1).trans c1
                have e2 : wr.cell? ⟨g2, 0 + j, none⟩ = some (.float .f64 z) := by rw [Nat.zero_add]; exact c2
                have e2' := c2
                have l1 : (k3 : Int) + 1 < (d : Int) := by omega
                have l2 : (k3 : Int) + 1 ≤ (k : Int) := by omega
                have l3 : decide ((k3 : Int) + 1 ≤ (k : Int)) = true := decide_eq_true l2
                have j1 : (j : Int) < (k : Int) := by omega
                have wb : IntKind.i64.wrap ((k : Int) - ((k3 : Int) + 1)) = (j : Int) := by rw [wrapF (by omega) (by omega)]; omega
                obtain ⟨r1, n1, hr1, f1⟩ := fl_run (P := Try.prog) (f := .mul) rfl 30 hy hz wr.drew
                obtain ⟨r2, n2, hr2, f2⟩ := fl_run (P := Try.prog) (f := .add) rfl 30 hx3 f1 (wr.drewN (1 + n1))
                have HF : Hid (Fl r2 (tapU (fun j => D (j + 1)) (outF N D L p d) k (k3 + 1))) := show Fl r2 (opO .add (tapU (fun j => D (j + 1)) (outF N D L p d) k k3) (opO .mul (D (k3 + 1)) (outF N D L p d (k - 1 - k3)))) by rw [ej]; exact f2
                clear c1 c2 hg1 hx3 hy hz f1 f2 ej hB3 BW hj hl2
                go_wp2_with fail
                go_region_held_law (fun w' => w'.cell? ⟨gd, od + (k3 + 1), none⟩ = some (.float .f64 y) ∧ w'.cell? ⟨g2, j, none⟩ = some (.float .f64 z)) (first | (simp [go_sem, e1, e2']; done) | go_keep) (fail)
                all_goals
                  have B4 := HB3.out
                  go_wp2
                  go_roundw
                  case rel => first | exact ⟨k3 + 1, r2, by omega, by go_num, rfl, HF.out, (by repeat (first | with_reducible exact Below.refl _ _ | with_reducible exact B4 | with_reducible refine Below.setCell ?_ (by first | omega | (simp; done) | (simp; omega)) _ | with_reducible refine bDrewN ?_ _ | with_reducible refine Below.drew ?_ | with_reducible refine Below.alloc ?_ (by first | omega | (simp; done) | (simp; omega)) _))⟩ | exact ⟨_, .int .i64 ((k3 : Int) + 1 + 1), _, _, _, _, _, _, _, _, _, _, _, _, _, _, _, _, _, _, _, _, _, _, _, _, ⟨k3 + 1, r2, by omega, by go_num, rfl, HF.out, (by repeat (first | with_reducible exact Below.refl _ _ | with_reducible exact B4 | with_reducible refine Below.setCell ?_ (by first | omega | (simp; done) | (simp; omega)) _ | with_reducible refine bDrewN ?_ _ | with_reducible refine Below.drew ?_ | with_reducible refine Below.alloc ?_ (by first | omega | (simp; done) | (simp; omega)) _))⟩, (by first | rfl | (simp [C4.out, C3.out]; refine ⟨C5.out, ?_⟩; repeat (first | exact rfl | refine And.intro rfl ?_)))⟩
                  case measure => simp [intOf]; omega
              · have e0 : k3 = Q := by omega
                have HBQ : Hid (Fl x3 (tapU (fun j => D (j + 1)) (outF N D L p d) k Q)) := by rw [← e0]; exact hx3
                have de : wr.cell? ⟨gd, od, none⟩ = some (.float .f64 yd) := (BW.cell (p := ⟨gd, od, none⟩) hgd).trans cd
                have BO : Below wo.heap.size wo wr := HB2.out.trans (hB3.mono zo)
                have zw : w.heap.size ≤ wr.heap.size := BW.size
                clear hx3 e0
                by_cases c5 : (k3 : Int) + 1 < (d : Int)
                · have c6 : decide ((k3 : Int) + 1 ≤ (k : Int)) = false := decide_eq_false (by omega)
                  go_wp2_with (first
                    | (refine list_fop .sub rfl _ _ _ _ (by rfl) (by rfl) (by rfl) (by rfl) HA.out HBQ.out ?_; intro x1 n1' f1)
                    | (refine list_fop .quo rfl _ _ _ _ (by rfl) (by rfl) (by rfl) (by rfl) f1 hyd ?_; intro x2 n2' f2)
                    | (at_builtin; refine list_f64 w.heap.size (.slice s' k cap) k xs (.tmp 96) (.tmp 102) (by rfl) (by rfl) (by rfl) (by rfl) (own_belowF HO.out (show Below wo.heap.size wo (wr.drewN (n1' + n2')) from (by repeat (first | with_reducible exact Below.refl _ _ | with_reducible exact BO | with_reducible refine Below.setCell ?_ (by first | omega | (simp; done) | (simp; omega)) _ | with_reducible refine bDrewN ?_ _ | with_reducible refine Below.drew ?_ | with_reducible refine Below.alloc ?_ (by first | omega | (simp; done) | (simp; omega)) _)))) (by omega) (by first | exact zw | (simp; omega)) ?_; intro g' cap' w7 hown7 hgrow7 hlt7))
                  go_roundw
                  case rel => exact ⟨k + 1, _, by omega, by go_num, madeF_on HM.out (show Below wo.heap.size wo (wr.drewN (n1' + n2')) from (by repeat (first | with_reducible exact Below.refl _ _ | with_reducible exact BO | with_reducible refine Below.setCell ?_ (by first | omega | (simp; done) | (simp; omega)) _ | with_reducible refine bDrewN ?_ _ | with_reducible refine Below.drew ?_ | with_reducible refine Below.alloc ?_ (by first | omega | (simp; done) | (simp; omega)) _))) zB (by rw [EQ.out]; exact f2) hown7 hgrow7⟩
                  case measure => simp [intOf]; omega
                · go_wp2_with (first
                    | (refine list_fop .sub rfl _ _ _ _ (by rfl) (by rfl) (by rfl) (by rfl) HA.out HBQ.out ?_; intro x1 n1' f1)
                    | (refine list_fop .quo rfl _ _ _ _ (by rfl) (by rfl) (by rfl) (by rfl) f1 hyd ?_; intro x2 n2' f2)
                    | (at_builtin; refine list_f64 w.heap.size (.slice s' k cap) k xs (.tmp 96) (.tmp 102) (by rfl) (by rfl) (by rfl) (by rfl) (own_belowF HO.out (show Below wo.heap.size wo (wr.drewN (n1' + n2')) from (by repeat (first | with_reducible exact Below.refl _ _ | with_reducible exact BO | with_reducible refine Below.setCell ?_ (by first | omega | (simp; done) | (simp; omega)) _ | with_reducible refine bDrewN ?_ _ | with_reducible refine Below.drew ?_ | with_reducible refine Below.alloc ?_ (by first | omega | (simp; done) | (simp; omega)) _)))) (by omega) (by first | exact zw | (simp; omega)) ?_; intro g' cap' w7 hown7 hgrow7 hlt7))
                  go_roundw
                  case rel => exact ⟨k + 1, _, by omega, by go_num, madeF_on HM.out (show Below wo.heap.size wo (wr.drewN (n1' + n2')) from (by repeat (first | with_reducible exact Below.refl _ _ | with_reducible exact BO | with_reducible refine Below.setCell ?_ (by first | omega | (simp; done) | (simp; omega)) _ | with_reducible refine bDrewN ?_ _ | with_reducible refine Below.drew ?_ | with_reducible refine Below.alloc ?_ (by first | omega | (simp; done) | (simp; omega)) _))) zB (by rw [EQ.out]; exact f2) hown7 hgrow7⟩
                  case measure => simp [intOf]; omega
          · clear cnd
            go_wp2_with fail
            (try simp only [c4])
            go_loopw [11, 12] (fun q i wr => ∃ (k3 x : Nat), k3 ≤ Q ∧ i = .int .i64 ((k3 : Int) + 1) ∧ q = .float .f64 x ∧ Fl x (tapU (fun j => D (j + 1)) (outF N D L p d) k k3) ∧ Below wq.heap.size wq wr) (fun _ i _ => Q + 1 - (intOf i).toNat)
            case atStart => exact ⟨0, 0, Nat.zero_le _, rfl, rfl, fl_zero, Below.refl _ _⟩
            case round =>
              obtain ⟨k3, x3, hk3, rfl, rfl, hx3, hB3⟩ := hrel
              (try clear c4)
              (try clear c3)
              (try clear hin)
              (try clear hk2)
              (try clear hMM)
              have HB3 : Hid (Below wq.heap.size wq wr) := hB3
              have BW : Below w.heap.size w wr := HW.out.trans ((HB2.out.trans (hB3.mono zo)).mono zB)
              have HS3 : Hid (OwnF w.heap.size wr s' k (outF N D L p d)) := HS2.out.below hB3
              by_cases hin3 : k3 < Q
              · obtain ⟨j, hj⟩ : ∃ j, k = j + k3 + 1 := ⟨k - 1 - k3, by omega⟩
                have ej : k - 1 - k3 = j := by omega
                obtain ⟨g1, o1, y, e', hg1, c1, hy⟩ := HD.out (k3 + 1) (by omega)
                cases e'
                obtain ⟨g2, z, rfl, hl2, hg2, c2, hz, -⟩ := HS3.out j (by omega)
                have e1 : wr.cell? ⟨gd, od + (k3 + 1), none⟩ = some (.float .f64 y) := (BW.cell (p := ⟨gd, od + (k3 + 1), none⟩) hg1).trans c1
                have e2 : wr.cell? ⟨g2, 0 + j, none⟩ = some (.float .f64 z) := by rw [Nat.zero_add]; exact c2
                have e2' := c2
                have l1 : (k3 : Int) + 1 < (d : Int) := by omega
                have l2 : (k3 : Int) + 1 ≤ (k : Int) := by omega
                have l3 : decide ((k3 : Int) + 1 ≤ (k : Int)) = true := decide_eq_true l2
                have j1 : (j : Int) < (k : Int) := by omega
                have wb : IntKind.i64.wrap ((k : Int) - ((k3 : Int) + 1)) = (j : Int) := by rw [wrapF (by omega) (by omega)]; omega
                obtain ⟨r1, n1, hr1, f1⟩ := fl_run (P := Try.prog) (f := .mul) rfl 30 hy hz wr.drew
                obtain ⟨r2, n2, hr2, f2⟩ := fl_run (P := Try.prog) (f := .add) rfl 30 hx3 f1 (wr.drewN (1 + n1))
                have HF : Hid (Fl r2 (tapU (fun j => D (j + 1)) (outF N D L p d) k (k3 + 1))) := show Fl r2 (opO .add (tapU (fun j => D (j + 1)) (outF N D L p d) k k3) (opO .mul (D (k3 + 1)) (outF N D L p d (k - 1 - k3)))) by rw [ej]; exact f2
                clear c1 c2 hg1 hx3 hy hz f1 f2 ej hB3 BW hj hl2
                go_wp2_with fail
                go_region_held_law (fun w' => w'.cell? ⟨gd, od + (k3 + 1), none⟩ = some (.float .f64 y) ∧ w'.cell? ⟨g2, j, none⟩ = some (.float .f64 z)) (first | (simp [go_sem, e1, e2']; done) | go_keep) (fail)
                all_goals
                  have B4 := HB3.out
                  go_wp2
                  go_roundw
                  case rel => first | exact ⟨k3 + 1, r2, by omega, by go_num, rfl, HF.out, (by repeat (first | with_reducible exact Below.refl _ _ | with_reducible exact B4 | with_reducible refine Below.setCell ?_ (by first | omega | (simp; done) | (simp; omega)) _ | with_reducible refine bDrewN ?_ _ | with_reducible refine Below.drew ?_ | with_reducible refine Below.alloc ?_ (by first | omega | (simp; done) | (simp; omega)) _))⟩ | exact ⟨_, .int .i64 ((k3 : Int) + 1 + 1), _, _, _, _, _, _, _, _, _, _, _, _, _, _, _, _, _, _, _, _, _, _, _, _, ⟨k3 + 1, r2, by omega, by go_num, rfl, HF.out, (by repeat (first | with_reducible exact Below.refl _ _ | with_reducible exact B4 | with_reducible refine Below.setCell ?_ (by first | omega | (simp; done) | (simp; omega)) _ | with_reducible refine bDrewN ?_ _ | with_reducible refine Below.drew ?_ | with_reducible refine Below.alloc ?_ (by first | omega | (simp; done) | (simp; omega)) _))⟩, (by first | rfl | (simp [C4.out, C3.out]; refine ⟨C5.out, ?_⟩; repeat (first | exact rfl | refine And.intro rfl ?_)))⟩
                  case measure => simp [intOf]; omega
              · have e0 : k3 = Q := by omega
                have HBQ : Hid (Fl x3 (tapU (fun j => D (j + 1)) (outF N D L p d) k Q)) := by rw [← e0]; exact hx3
                have de : wr.cell? ⟨gd, od, none⟩ = some (.float .f64 yd) := (BW.cell (p := ⟨gd, od, none⟩) hgd).trans cd
                have BO : Below wo.heap.size wo wr := HB2.out.trans (hB3.mono zo)
                have zw : w.heap.size ≤ wr.heap.size := BW.size
                clear hx3 e0
                by_cases c5 : (k3 : Int) + 1 < (d : Int)
                · have c6 : decide ((k3 : Int) + 1 ≤ (k : Int)) = false := decide_eq_false (by omega)
                  go_wp2_with (first
                    | (refine list_fop .sub rfl _ _ _ _ (by rfl) (by rfl) (by rfl) (by rfl) HA.out HBQ.out ?_; intro x1 n1' f1)
                    | (refine list_fop .quo rfl _ _ _ _ (by rfl) (by rfl) (by rfl) (by rfl) f1 hyd ?_; intro x2 n2' f2)
                    | (at_builtin; refine list_f64 w.heap.size (.slice s' k cap) k xs (.tmp 96) (.tmp 102) (by rfl) (by rfl) (by rfl) (by rfl) (own_belowF HO.out (show Below wo.heap.size wo (wr.drewN (n1' + n2')) from (by repeat (first | with_reducible exact Below.refl _ _ | with_reducible exact BO | with_reducible refine Below.setCell ?_ (by first | omega | (simp; done) | (simp; omega)) _ | with_reducible refine bDrewN ?_ _ | with_reducible refine Below.drew ?_ | with_reducible refine Below.alloc ?_ (by first | omega | (simp; done) | (simp; omega)) _)))) (by omega) (by first | exact zw | (simp; omega)) ?_; intro g' cap' w7 hown7 hgrow7 hlt7))
                  go_roundw
                  case rel => exact ⟨k + 1, _, by omega, by go_num, madeF_on HM.out (show Below wo.heap.size wo (wr.drewN (n1' + n2')) from (by repeat (first | with_reducible exact Below.refl _ _ | with_reducible exact BO | with_reducible refine Below.setCell ?_ (by first | omega | (simp; done) | (simp; omega)) _ | with_reducible refine bDrewN ?_ _ | with_reducible refine Below.drew ?_ | with_reducible refine Below.alloc ?_ (by first | omega | (simp; done) | (simp; omega)) _))) zB (by rw [EQ.out]; exact f2) hown7 hgrow7⟩
                  case measure => simp [intOf]; omega
                · go_wp2_with (first
                    | (refine list_fop .sub rfl _ _ _ _ (by rfl) (by rfl) (by rfl) (by rfl) HA.out HBQ.out ?_; intro x1 n1' f1)
                    | (refine list_fop .quo rfl _ _ _ _ (by rfl) (by rfl) (by rfl) (by rfl) f1 hyd ?_; intro x2 n2' f2)
                    | (at_builtin; refine list_f64 w.heap.size (.slice s' k cap) k xs (.tmp 96) (.tmp 102) (by rfl) (by rfl) (by rfl) (by rfl) (own_belowF HO.out (show Below wo.heap.size wo (wr.drewN (n1' + n2')) from (by repeat (first | with_reducible exact Below.refl _ _ | with_reducible exact BO | with_reducible refine Below.setCell ?_ (by first | omega | (simp; done) | (simp; omega)) _ | with_reducible refine bDrewN ?_ _ | with_reducible refine Below.drew ?_ | with_reducible refine Below.alloc ?_ (by first | omega | (simp; done) | (simp; omega)) _)))) (by omega) (by first | exact zw | (simp; omega)) ?_; intro g' cap' w7 hown7 hgrow7 hlt7))
                  go_roundw
                  case rel => exact ⟨k + 1, _, by omega, by go_num, madeF_on HM.out (show Below wo.heap.size wo (wr.drewN (n1' + n2')) from (by repeat (first | with_reducible exact Below.refl _ _ | with_reducible exact BO | with_reducible refine Below.setCell ?_ (by first | omega | (simp; done) | (simp; omega)) _ | with_reducible refine bDrewN ?_ _ | with_reducible refine Below.drew ?_ | with_reducible refine Below.alloc ?_ (by first | omega | (simp; done) | (simp; omega)) _))) zB (by rw [EQ.out]; exact f2) hown7 hgrow7⟩
                  case measure => simp [intOf]; omega
    · obtain rfl : k = n := by omega
      go_wp2
      go_ret
      exact ⟨s', cap, by rw [HV.out]; rfl, by rw [HV.out]; exact HS.out, hB⟩
end Go.Proofs.Ytnjagkiimjhnnaa
