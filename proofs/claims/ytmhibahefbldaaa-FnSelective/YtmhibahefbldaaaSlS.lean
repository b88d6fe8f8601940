/-
What is proved: whether a feeder is selective, as the specification tells it.
-/
import Derived.Test.YtmhibahefbldaaaSl
import Derived.Test.YtmhibahefbldaaaFeS
import Derived.Deep.RegionHeld3
import Derived.Deep.DeepCutAuto
namespace Go.Proofs.Ytmhibahefbldaaa
set_option maxRecDepth 40000
open Go.RowKit
set_option linter.unusedVariables false
set_option linter.unusedSimpArgs false

set_option maxRecDepth 20000 in
set_option maxHeartbeats 8000000 in
theorem specSelective_any (s : Option Addr) (n c : Nat) (V : Nat → Int) (sa : Option Addr) (m ca : Nat) (A : Nat → Int) (ap : Int) (w : World) (hn : (n : Int) ≤ 1048576) (hm : (m : Int) ≤ 1048576) (hcap : n ≤ c) (HR : Hid (RowI w s (n * 2) V)) (HA : Hid (RowI w sa m A)) :
    Calls Try.prog 15 #[.slice s n c, .slice sa m ca, .int .i64 ap] w fun e w' => ∃ x, SelV n V m A ap x ∧ e = .returned (.int .i64 x) ∧ Below w.heap.size w w' := by
  go_enter Try.func15, Try.ntmps15
  go_wp2_with fail
  refine (specFeeder_any s n c V _ hn HR).mono ?_
  rintro e w1 ⟨rfl, B1⟩
  cases h0 : feedB n V
  · have HO : Hid (goS n V m A ap = false) := by show _ = _; unfold goS; simp [h0]
    go_wp2
    go_ret
    exact ⟨-2, .inl ⟨HO.out, rfl⟩, rfl, B1⟩
  obtain ⟨n0, n1, -⟩ := feed_yes h0
  by_cases h1 : m = n
  case neg =>
    have b1 : ((m : Int) == (n : Int)) = false := by simp; omega
    have b2 : ¬ (m : Int) = (n : Int) := by omega
    have HO : Hid (goS n V m A ap = false) := by show _ = _; unfold goS; simp [h1]
    go_wp2
    go_ret
    exact ⟨-2, .inl ⟨HO.out, rfl⟩, rfl, B1⟩
  subst h1
  have H0 : Hid (feedB m V = true) := h0
  have HB1 : Hid (Below w.heap.size w w1) := B1
  clear h0 B1
  go_wp2_with fail
  go_loopw [7] (fun i wr => ∃ k : Nat, k ≤ m ∧ i = .int .i64 k ∧ Hid (∀ j, j < k → 0 ≤ A j ∧ A j ≤ 1000000) ∧ Hid (Below w.heap.size w wr)) (fun i _ => m - (intOf i).toNat)
  case atStart => exact ⟨0, Nat.zero_le _, rfl, fun j hj => by omega, HB1.out⟩
  case round =>
    obtain ⟨k, hk, rfl, HP, HW⟩ := hrel
    by_cases hlt : k < m
    · obtain ⟨ga, oa, rfl, hga, a0⟩ := HA.out k hlt
      have d0 : wr.cell? ⟨ga, oa + k, none⟩ = some (.int .i64 (A k)) := (HW.out.cell (p := ⟨ga, oa + k, none⟩) hga).trans a0
      have k1 : (k : Int) < (m : Int) := by omega
      clear a0
      go_wp2_with fail
      refine (l16Amps_any _ _).mono ?_
      rintro e w2 ⟨rfl, rfl⟩
      cases q : inB 0 1000000 (A k)
      · have HO : Hid (goS m V m A ap = false) := by
          show _ = _
          have : allInB 0 1000000 A m = false := decide_eq_false fun h => by have := h k hlt; have := inB_no q; omega
          unfold goS; simp [this]
        have BF := HW.out
        go_wp2
        go_ret
        exact ⟨-2, .inl ⟨HO.out, rfl⟩, rfl, BF⟩
      · have HQ := inB_yes q
        have HQ2 : Hid (0 ≤ A k ∧ A k ≤ 1000000) := HQ
        clear HQ
        go_wp2
        go_roundw
        case rel => exact ⟨k + 1, by omega, by go_num, ball_succ HP.out HQ2.out, HW.out⟩
        case measure => simp [intOf]; omega
    · obtain rfl : k = m := by omega
      have HAL : Hid (allInB 0 1000000 A k = true) := decide_eq_true HP.out
      clear HP
      go_wp2_with fail
      refine (l1In_is _ _ _ _).mono ?_
      rintro e w2 ⟨rfl, rfl⟩
      cases h2 : inB 0 1000000 ap
      · have HO : Hid (goS k V k A ap = false) := by show _ = _; unfold goS; simp [h2]
        have BF := HW.out
        go_wp2
        go_ret
        exact ⟨-2, .inl ⟨HO.out, rfl⟩, rfl, BF⟩
      have HO : Hid (goS k V k A ap = true) := by show _ = _; unfold goS; rw [h2, H0.out, HAL.out]; simp
      obtain ⟨p0, p1⟩ := inB_yes h2
      have HBw : Hid (Below w.heap.size w w2) := HW
      clear h2 HW
      rename Nat => n
      go_wp2_with fail
      go_loopw [8] (fun i wr => ∃ k : Nat, k ≤ n ∧ i = .int .i64 k ∧ Hid (∀ j, j < k → apB V (A j) ap j = true) ∧ Hid (Below w.heap.size w wr)) (fun i _ => n - (intOf i).toNat)
      case atStart => exact ⟨0, Nat.zero_le _, rfl, fun j hj => by omega, HBw.out⟩
      case round =>
        obtain ⟨k, hk, rfl, HP, HW⟩ := hrel
        by_cases hlt : k < n
        · have hB := HW.out
          obtain ⟨g, o, rfl, hg, c0⟩ := HR.out (k * 2) (by omega)
          obtain ⟨g', o', e', hg1, c1⟩ := HR.out (k * 2 + 1) (by omega)
          cases e'
          have d0 : wr.cell? ⟨g, o + k * 2, none⟩ = some (.int .i64 (V (k * 2))) := (hB.cell (p := ⟨g, o + k * 2, none⟩) hg).trans c0
          have d1 : wr.cell? ⟨g, o + k * 2 + 1, none⟩ = some (.int .i64 (V (k * 2 + 1))) := (hB.cell (p := ⟨g, o + (k * 2 + 1), none⟩) hg).trans c1
          have zg : g < wr.heap.size := Nat.lt_of_lt_of_le hg hB.size
          obtain ⟨ga, oa, rfl, hga, a0⟩ := HA.out k hlt
          have x0 : wr.cell? ⟨ga, oa + k, none⟩ = some (.int .i64 (A k)) := (hB.cell (p := ⟨ga, oa + k, none⟩) hga).trans a0
          have za : ga < wr.heap.size := Nat.lt_of_lt_of_le hga hB.size
          have k1 : (k : Int) < (n : Int) := by omega
          have HD : Hid (dl V (A k) k = delV (V (k * 2)) (V (k * 2 + 1)) (A k)) := rfl
          have dr := del_rng (V (k * 2)) (V (k * 2 + 1)) (A k)
          obtain ⟨D, hD⟩ : ∃ D, delV (V (k * 2)) (V (k * 2 + 1)) (A k) = D := ⟨_, rfl⟩
          have HI : Hid (∀ w, Calls Try.prog 7 #[.agg #[.int .i64 (V (k * 2)), .int .i64 (V (k * 2 + 1))], .int .i64 (A k)] w fun e w' => e = .returned (.int .i64 D) ∧ Below w.heap.size w w') := fun w => hD ▸ specDelay_any _ _ (A k) w
          rw [hD] at HD dr
          obtain ⟨dr0, dr1⟩ := dr
          clear hD
          have HG : Hid (g < w.heap.size ∧ ga < w.heap.size) := ⟨hg, hga⟩
          have HAK : Hid (w.cell? ⟨ga, oa + k, none⟩ = some (.int .i64 (A k))) := a0
          clear hB c0 c1 hg hg1 hga a0
          go_upto_region 13 with fail
          go_cut [9] (fun q wx => q = .int .i64 D ∧ Below wr.heap.size wr wx)
          case first =>
            go_region_held3 (fun w' => w'.cell? ⟨g, o + k * 2, none⟩ = some (.int .i64 (V (k * 2))) ∧ w'.cell? ⟨g, o + k * 2 + 1, none⟩ = some (.int .i64 (V (k * 2 + 1))) ∧ w'.cell? ⟨ga, oa + k, none⟩ = some (.int .i64 (A k))) (first | (refine keepS d0 d1 x0 zg za ?_; exact (by repeat (first | with_reducible exact Below.refl _ _ | with_reducible exact B3 | with_reducible refine Below.setCell ?_ (by first | omega | (simp; done) | (simp; omega)) _ | with_reducible refine bDrewN ?_ _ | with_reducible refine Below.drew ?_ | with_reducible refine Below.alloc ?_ (by first | omega | (simp; done) | (simp; omega)) _)))) (first
              | (go_at_call 7; refine (HI.out _).mono ?_; rintro r w3 ⟨rfl, h3⟩; have B3 : Below wr.heap.size wr w3 := Below.trans (by repeat (first | with_reducible exact Below.refl _ _ | with_reducible refine Below.setCell ?_ (by first | omega | (simp; done) | (simp; omega)) _ | with_reducible refine bDrewN ?_ _ | with_reducible refine Below.drew ?_ | with_reducible refine Below.alloc ?_ (by first | omega | (simp; done) | (simp; omega)) _)) (h3.mono (by first | omega | (simp; done) | (simp; omega)))))
            all_goals
              go_wp2_with fail
              go_meet
              case rel => exact ⟨rfl, (by repeat (first | with_reducible exact Below.refl _ _ | with_reducible exact B3 | with_reducible refine Below.setCell ?_ (by first | omega | (simp; done) | (simp; omega)) _ | with_reducible refine bDrewN ?_ _ | with_reducible refine Below.drew ?_ | with_reducible refine Below.alloc ?_ (by first | omega | (simp; done) | (simp; omega)) _))⟩
          case rest =>
            obtain ⟨rfl, hB⟩ := hcut
            have BC : Hid (Below w.heap.size w wc) := HW.out.trans (hB.mono HW.out.size)
            clear hB d0 d1 x0
            by_cases q0 : D < 0
            · have HF : Hid (SelV n V n A ap k) := .inr ⟨HO.out, .inr ⟨k, hlt, rfl, ap_neg (by rw [HD.out]; exact q0), HP.out⟩⟩
              have BF := BC.out
              go_wp2
              go_ret
              exact ⟨k, HF.out, rfl, BF⟩
            clear HI
            rename World => w5
            go_wp2_with fail
            go_loopw [10] (fun i wr => ∃ j : Nat, j ≤ k ∧ i = .int .i64 j ∧ Hid (∀ i, i < j → 0 ≤ dl V (A k) i → dl V (A k) k + ap ≤ dl V (A k) i) ∧ Hid (Below w.heap.size w wr)) (fun i _ => k - (intOf i).toNat)
            case atStart => exact ⟨0, Nat.zero_le _, rfl, fun i hi => by omega, BC.out⟩
            case round =>
              obtain ⟨j, hj, rfl, HJ, HV⟩ := hrel
              by_cases jlt : j < k
              · have hB := HV.out
                obtain ⟨gm, om, eq1, hgm, c0⟩ := HR.out (j * 2) (by omega)
                cases eq1
                have hhgm := hgm
                obtain ⟨g', o', e', hgm1, c1⟩ := HR.out (j * 2 + 1) (by omega)
                cases e'
                have f0 : wr.cell? ⟨g, o + j * 2, none⟩ = some (.int .i64 (V (j * 2))) := (hB.cell (p := ⟨g, o + j * 2, none⟩) hhgm).trans c0
                have f1 : wr.cell? ⟨g, o + j * 2 + 1, none⟩ = some (.int .i64 (V (j * 2 + 1))) := (hB.cell (p := ⟨g, o + (j * 2 + 1), none⟩) hhgm).trans c1
                have yg : g < wr.heap.size := Nat.lt_of_lt_of_le hhgm hB.size
                have x0 : wr.cell? ⟨ga, oa + k, none⟩ = some (.int .i64 (A k)) := (hB.cell (p := ⟨ga, oa + k, none⟩) HG.out.2).trans HAK.out
                have za : ga < wr.heap.size := Nat.lt_of_lt_of_le HG.out.2 hB.size
                have j1 : (j : Int) < (k : Int) := by omega
                have j2 : (j : Int) < (n : Int) := by omega
                have HE : Hid (dl V (A k) j = delV (V (j * 2)) (V (j * 2 + 1)) (A k)) := rfl
                have dm := del_rng (V (j * 2)) (V (j * 2 + 1)) (A k)
                obtain ⟨E, hE⟩ : ∃ E, delV (V (j * 2)) (V (j * 2 + 1)) (A k) = E := ⟨_, rfl⟩
                have HJ2 : Hid (∀ w, Calls Try.prog 7 #[.agg #[.int .i64 (V (j * 2)), .int .i64 (V (j * 2 + 1))], .int .i64 (A k)] w fun e w' => e = .returned (.int .i64 E) ∧ Below w.heap.size w w') := fun w => hE ▸ specDelay_any _ _ (A k) w
                rw [hE] at HE dm
                obtain ⟨dm0, dm1⟩ := dm
                clear hE
                clear hB c0 c1 hgm hhgm hgm1
                go_upto_region 19 with fail
                go_cut [11] (fun q wx => q = .int .i64 E ∧ Below wr.heap.size wr wx)
                case first =>
                  go_region_held3 (fun w' => w'.cell? ⟨g, o + j * 2, none⟩ = some (.int .i64 (V (j * 2))) ∧ w'.cell? ⟨g, o + j * 2 + 1, none⟩ = some (.int .i64 (V (j * 2 + 1))) ∧ w'.cell? ⟨ga, oa + k, none⟩ = some (.int .i64 (A k))) (first | (refine keepS f0 f1 x0 yg za ?_; exact (by repeat (first | with_reducible exact Below.refl _ _ | with_reducible exact B3 | with_reducible refine Below.setCell ?_ (by first | omega | (simp; done) | (simp; omega)) _ | with_reducible refine bDrewN ?_ _ | with_reducible refine Below.drew ?_ | with_reducible refine Below.alloc ?_ (by first | omega | (simp; done) | (simp; omega)) _)))) (first
                    | (go_at_call 7; refine (HJ2.out _).mono ?_; rintro r w3 ⟨rfl, h3⟩; have B3 : Below wr.heap.size wr w3 := Below.trans (by repeat (first | with_reducible exact Below.refl _ _ | with_reducible refine Below.setCell ?_ (by first | omega | (simp; done) | (simp; omega)) _ | with_reducible refine bDrewN ?_ _ | with_reducible refine Below.drew ?_ | with_reducible refine Below.alloc ?_ (by first | omega | (simp; done) | (simp; omega)) _)) (h3.mono (by first | omega | (simp; done) | (simp; omega)))))
                  all_goals
                    go_wp2_with fail
                    go_meet
                    case rel => exact ⟨rfl, (by repeat (first | with_reducible exact Below.refl _ _ | with_reducible exact B3 | with_reducible refine Below.setCell ?_ (by first | omega | (simp; done) | (simp; omega)) _ | with_reducible refine bDrewN ?_ _ | with_reducible refine Below.drew ?_ | with_reducible refine Below.alloc ?_ (by first | omega | (simp; done) | (simp; omega)) _))⟩
                case rest =>
                  obtain ⟨rfl, hB⟩ := hcut
                  have BD : Hid (Below w.heap.size w wc) := HV.out.trans (hB.mono HV.out.size)
                  clear hB f0 f1 x0
                  by_cases q1 : 0 ≤ E
                  case neg =>
                    have b1 : decide (0 ≤ E) = false := decide_eq_false q1
                    go_wp2
                    go_roundw
                    case rel => exact ⟨j + 1, by omega, by go_num, ball_succ HJ.out (fun h => by rw [HE.out] at h; omega), BD.out⟩
                    case measure => simp [intOf]; omega
                  by_cases q2 : E < D + ap
                  · have HF : Hid (SelV n V n A ap k) := .inr ⟨HO.out, .inr ⟨k, hlt, rfl, ap_no jlt (by rw [HE.out]; exact q1) (by rw [HE.out, HD.out]; exact q2), HP.out⟩⟩
                    have BF := BD.out
                    go_wp2
                    go_ret
                    exact ⟨k, HF.out, rfl, BF⟩
                  · have b2 : decide (E < D + ap) = false := decide_eq_false q2
                    go_wp2
                    go_roundw
                    case rel => exact ⟨j + 1, by omega, by go_num, ball_succ HJ.out (fun h => by rw [HE.out, HD.out]; omega), BD.out⟩
                    case measure => simp [intOf]; omega
              · obtain rfl : j = k := by omega
                have HK : Hid (apB V (A j) ap j = true) := ap_yes (by rw [HD.out]; omega) HJ.out
                go_wp2
                go_roundw
                case rel => exact ⟨j + 1, by omega, by go_num, ball_succ HP.out HK.out, HV.out⟩
                case measure => simp [intOf]; omega
        · obtain rfl : k = n := by omega
          have BF := HW.out
          have HF : Hid (SelV k V k A ap (-1)) := .inr ⟨HO.out, .inl ⟨rfl, HP.out⟩⟩
          go_wp2
          go_ret
          exact ⟨-1, HF.out, rfl, BF⟩
end Go.Proofs.Ytmhibahefbldaaa
