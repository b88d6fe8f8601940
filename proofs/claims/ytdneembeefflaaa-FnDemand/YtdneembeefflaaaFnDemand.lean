/-
What is proved: where the number of bypassed and stuck channels that is drawn from every code is borne, says with just so many of them as every other code has it, all others tripping, trip; all others good, they do not where that is told; no condition.
-/
import Derived.Test.YtdneembeefflaaaDmN
import Derived.Test.YtdneembeefflaaaDmT
import Derived.Test.YtdneembeefflaaaToT
import Derived.Test.YtdneembeefflaaaToI
import Derived.Test.YtdneembeefflaaaOpen8
import Derived.Deep.DeepCutAuto
namespace Go.Proofs.Ytdneembeefflaaa
set_option maxRecDepth 40000
open Go.ChangeShapes Go.WideShapes Go.ChangeAt Go.RowKit
set_option linter.unusedVariables false
set_option linter.unusedSimpArgs false

theorem i64_in {m : Int} (h : (Lit.int .i64 m).wf = true) : -9223372036854775808 ≤ m ∧ m ≤ 9223372036854775807 := by
  simp only [Lit.wf, Bool.and_eq_true, decide_eq_true_eq] at h
  exact h
theorem madeO (w : World) (n : Nat) (t : TypeId) : OwnI w.heap.size (w.alloc (.cells (madeCells #[.int .i64 0] n) t)) (some ⟨w.heap.size, 0, none⟩) n (fun _ => 0) := fun j hj => by
  have m0 : (madeCells #[.int .i64 0] n)[j]? = some (.int .i64 0) := by
    simp only [madeCells, Array.getElem?_map, Array.getElem?_range, hj, if_true, Option.map_some]
    show some ((#[Value.int .i64 0] : Array Value)[j % 1]!) = _
    rw [Nat.mod_one]; rfl
  exact ⟨_, rfl, Nat.le_refl _, by simp, by simp [go_sem, m0], by simp [go_sem]⟩
theorem own_set {base : Nat} {w : World} {g n p i : Nat} {V : Nat → Int} {u : Value} (h : OwnI base w (some ⟨g, 0, none⟩) n V) (hp : g ≠ p) : OwnI base (w.setCell ⟨p, i, none⟩ u) (some ⟨g, 0, none⟩) n V := fun j hj => by
  obtain ⟨b, e, hB, hl, hc, hf⟩ := h j hj
  cases e
  exact ⟨g, rfl, hB, by simpa using hl, by simp [go_sem, hc, hp], by simp [go_sem, hf]⟩
theorem tol_no {n need b k : Int} (h : tolB n need b k = false) : tolV true n need b k = false ∧ tolV false n need b k = false := by
  unfold tolV
  rw [h]
  exact ⟨rfl, rfl⟩
set_option maxHeartbeats 400000 in
theorem demand_far1 (w : World) (s : Option Addr) (n c : Nat) (s2 : Option Addr) (n2 c2 : Nat) (h : (1048576 : Int) < n) :
    Calls Try.prog 5 #[.slice s n c, .slice s2 n2 c2] w fun e w' => e = .returned (.bool true) ∧ Below w.heap.size w w' := by
  go_enter Try.func5, Try.ntmps5
  go_wp2_with fail
  refine (big_yes _ _ _ _ h).mono ?_
  rintro e w1 ⟨rfl, rfl⟩
  go_wp2
  go_ret
  exact ⟨rfl, Below.refl _ _⟩
set_option maxHeartbeats 400000 in
theorem demand_far2 (w : World) (s : Option Addr) (n c : Nat) (s2 : Option Addr) (n2 c2 : Nat) (h0 : (n : Int) ≤ 1048576) (h : (1048576 : Int) < n2) :
    Calls Try.prog 5 #[.slice s n c, .slice s2 n2 c2] w fun e w' => e = .returned (.bool true) ∧ Below w.heap.size w w' := by
  go_enter Try.func5, Try.ntmps5
  go_wp2_with fail
  refine (big_no _ _ _ _ h0).mono ?_
  rintro e w1 ⟨rfl, rfl⟩
  go_wp2_with fail
  refine (big_yes _ _ _ _ h).mono ?_
  rintro e w1 ⟨rfl, rfl⟩
  go_wp2
  go_ret
  exact ⟨rfl, Below.refl _ _⟩
set_option maxRecDepth 20000 in
set_option maxHeartbeats 8000000 in
theorem demand_near (w : World) (s : Option Addr) (n c : Nat) (s2 : Option Addr) (n2 c2 : Nat) (h0 : (n : Int) ≤ 1048576) (h : (n2 : Int) ≤ 1048576) (HC : Hid (Code8 w s n)) (HC2 : Hid (Code8 w s2 n2)) :
    Calls Try.prog 5 #[.slice s n c, .slice s2 n2 c2] w fun e w' => e = .returned (.bool true) ∧ Below w.heap.size w w' := by
  go_enter Try.func5, Try.ntmps5
  go_wp2_with fail
  refine (big_no _ _ _ _ h0).mono ?_
  rintro e w1 ⟨rfl, rfl⟩
  go_wp2_with fail
  refine (big_no _ _ _ _ h).mono ?_
  rintro e w1 ⟨rfl, rfl⟩
  have HB : Hid (Below w1.heap.size w1 w1) := Below.refl _ _
  go_wp2_with fail
  refine (drawTolerates_any HC).mono ?_
  rintro e wv1 ⟨m, nd, b, k, rfl, wm, wn, b0, b2, k0, k2, h_⟩
  replace HC2 : Hid (Code8 wv1 s2 n2) := HC2.out.below h_
  replace HB : Hid (Below w1.heap.size w1 wv1) := HB.out.trans (h_.mono HB.out.size)
  clear h_
  clear HC
  obtain ⟨TA, hTA⟩ : ∃ t, tolV true m nd b k = t := ⟨_, rfl⟩
  obtain ⟨TB, hTB⟩ : ∃ t, tolV false m nd b k = t := ⟨_, rfl⟩
  have SV : Hid (∀ w, Calls Try.prog 6 #[.int .i64 m, .int .i64 nd, .int .i64 b, .int .i64 k] w fun e w' => e = .returned (.tuple #[.bool TA, .bool TB]) ∧ Below w.heap.size w w') := fun w => hTA ▸ hTB ▸ specTolerates_any m nd b k w (i64_in wm) ⟨by omega, by omega⟩
  have IV : Hid (∀ w, Calls Try.prog 7 #[.int .i64 m, .int .i64 nd, .int .i64 b, .int .i64 k] w fun e w' => e = .returned (.tuple #[.bool TA, .bool TB]) ∧ Below w.heap.size w w') := fun w => hTA ▸ hTB ▸ implTolerates_any m nd b k w (i64_in wm) ⟨by omega, by omega⟩
  have HTA : Hid (tolV true m nd b k = TA) := hTA
  have HTB : Hid (tolV false m nd b k = TB) := hTB
  have wm2 := i64_in wm
  have wn2 := i64_in wn
  obtain ⟨wm3, wm4⟩ := wm2
  obtain ⟨wn3, wn4⟩ := wn2
  clear hTA hTB wm wn
  go_wp2_with fail
  refine (SV.out _).mono ?_
  rintro e wv2 ⟨rfl, h_⟩
  replace HC2 : Hid (Code8 wv2 s2 n2) := HC2.out.below h_
  replace HB : Hid (Below w1.heap.size w1 wv2) := HB.out.trans (h_.mono HB.out.size)
  clear h_
  go_wp2_with fail
  refine (IV.out _).mono ?_
  rintro e wv3 ⟨rfl, h_⟩
  replace HC2 : Hid (Code8 wv3 s2 n2) := HC2.out.below h_
  replace HB : Hid (Below w1.heap.size w1 wv3) := HB.out.trans (h_.mono HB.out.size)
  clear h_
  clear SV IV
  have e1 : (TA != TA) = false := by simp
  have e2 : (TB != TB) = false := by simp
  have db : decide (b < 0) = false := decide_eq_false (by omega)
  have dk : decide (k < 0) = false := decide_eq_false (by omega)
  have wbk : IntKind.i64.wrap (b + k) = b + k := by rw [IntKind.wrap_i64]; omega
  by_cases c1 : m < 1
  case pos =>
    have ht : tolB m nd b k = false := by unfold tolB votersB inB; simp; omega
    have TA0 : TA = false := by rw [← HTA.out]; exact (tol_no ht).1
    have TB0 : TB = false := by rw [← HTB.out]; exact (tol_no ht).2
    clear HTA HTB ht
    subst TA0 TB0
    have BF := HB.out
    have sBF := BF.size
    go_wp2
    go_ret
    exact ⟨rfl, (by repeat (first | with_reducible exact Below.refl _ _ | with_reducible exact BF | with_reducible refine Below.setCell ?_ (by first | omega | (simp; done) | (simp; omega)) _ | with_reducible refine bDrewN ?_ _ | with_reducible refine Below.drew ?_ | with_reducible refine Below.alloc ?_ (by first | omega | (simp; done) | (simp; omega)) _))⟩
  case neg =>
    have d1 : decide (m < 1) = false := decide_eq_false c1
    by_cases c2 : 8 < m
    case pos =>
      have ht : tolB m nd b k = false := by unfold tolB votersB inB; simp; omega
      have TA0 : TA = false := by rw [← HTA.out]; exact (tol_no ht).1
      have TB0 : TB = false := by rw [← HTB.out]; exact (tol_no ht).2
      clear HTA HTB ht
      subst TA0 TB0
      have BF := HB.out
      have sBF := BF.size
      go_wp2
      go_ret
      exact ⟨rfl, (by repeat (first | with_reducible exact Below.refl _ _ | with_reducible exact BF | with_reducible refine Below.setCell ?_ (by first | omega | (simp; done) | (simp; omega)) _ | with_reducible refine bDrewN ?_ _ | with_reducible refine Below.drew ?_ | with_reducible refine Below.alloc ?_ (by first | omega | (simp; done) | (simp; omega)) _))⟩
    case neg =>
      have d2 : decide (8 < m) = false := decide_eq_false c2
      by_cases c3 : nd < 1
      case pos =>
        have ht : tolB m nd b k = false := by unfold tolB votersB inB; simp; omega
        have TA0 : TA = false := by rw [← HTA.out]; exact (tol_no ht).1
        have TB0 : TB = false := by rw [← HTB.out]; exact (tol_no ht).2
        clear HTA HTB ht
        subst TA0 TB0
        have BF := HB.out
        have sBF := BF.size
        go_wp2
        go_ret
        exact ⟨rfl, (by repeat (first | with_reducible exact Below.refl _ _ | with_reducible exact BF | with_reducible refine Below.setCell ?_ (by first | omega | (simp; done) | (simp; omega)) _ | with_reducible refine bDrewN ?_ _ | with_reducible refine Below.drew ?_ | with_reducible refine Below.alloc ?_ (by first | omega | (simp; done) | (simp; omega)) _))⟩
      case neg =>
        have d3 : decide (nd < 1) = false := decide_eq_false c3
        by_cases c4 : m < nd
        case pos =>
          have ht : tolB m nd b k = false := by unfold tolB votersB inB; simp; omega
          have TA0 : TA = false := by rw [← HTA.out]; exact (tol_no ht).1
          have TB0 : TB = false := by rw [← HTB.out]; exact (tol_no ht).2
          clear HTA HTB ht
          subst TA0 TB0
          have BF := HB.out
          have sBF := BF.size
          go_wp2
          go_ret
          exact ⟨rfl, (by repeat (first | with_reducible exact Below.refl _ _ | with_reducible exact BF | with_reducible refine Below.setCell ?_ (by first | omega | (simp; done) | (simp; omega)) _ | with_reducible refine bDrewN ?_ _ | with_reducible refine Below.drew ?_ | with_reducible refine Below.alloc ?_ (by first | omega | (simp; done) | (simp; omega)) _))⟩
        case neg =>
          have d4 : decide (m < nd) = false := decide_eq_false c4
          by_cases c5 : m < b + k
          case pos =>
            have ht : tolB m nd b k = false := by unfold tolB votersB inB; simp; omega
            have TA0 : TA = false := by rw [← HTA.out]; exact (tol_no ht).1
            have TB0 : TB = false := by rw [← HTB.out]; exact (tol_no ht).2
            clear HTA HTB ht
            subst TA0 TB0
            have BF := HB.out
            have sBF := BF.size
            go_wp2
            go_ret
            exact ⟨rfl, (by repeat (first | with_reducible exact Below.refl _ _ | with_reducible exact BF | with_reducible refine Below.setCell ?_ (by first | omega | (simp; done) | (simp; omega)) _ | with_reducible refine bDrewN ?_ _ | with_reducible refine Below.drew ?_ | with_reducible refine Below.alloc ?_ (by first | omega | (simp; done) | (simp; omega)) _))⟩
          case neg =>
            have d5 : decide (m < b + k) = false := decide_eq_false c5
            have hv : votersB m nd = true := by unfold votersB inB; simp; omega
            have ht : tolB m nd b k = true := by unfold tolB; rw [hv]; unfold inB; simp; omega
            obtain ⟨N, rfl⟩ : ∃ N : Nat, m = (N : Int) := ⟨m.toNat, by omega⟩
            obtain ⟨B, rfl⟩ : ∃ B : Nat, b = (B : Int) := ⟨b.toNat, by omega⟩
            obtain ⟨K, rfl⟩ : ∃ K : Nat, k = (K : Int) := ⟨k.toNat, by omega⟩
            have HEND : Hid (∀ t (A G : Nat → Int), DemI N B K t N A G → (TA = true → voteV N A nd = 1) ∧ (TB = true → voteV N G nd = 0)) := fun t A G hD => by
              obtain ⟨p, q⟩ := dem_end hD (by omega) hv
              refine ⟨fun h => p ?_, fun h => q ?_⟩
              · rw [← HTA.out] at h; unfold tolV at h; rw [ht] at h; exact h
              · rw [← HTB.out] at h; unfold tolV at h; rw [ht] at h; exact h
            have hBK : B + K ≤ N := by omega
            have N1 : 1 ≤ N := by omega
            have N8 : N ≤ 8 := by omega
            have N8i : (N : Int) ≤ 8 := by omega
            have N1i : (1 : Int) ≤ (N : Int) := by omega
            have Nz : ((N : Int) == 0) = false := by simp; omega
            have Nz2 : ¬ ((N : Int) = 0) := by omega
            have hmk := make_i64 N (by omega)
            clear hv ht HTA HTB e1 e2
            go_upto_region 11 with fail
            obtain ⟨wa, hwa⟩ : ∃ x_, x_ = wv3.alloc (.cells (madeCells #[.int .i64 0] N) 2) := ⟨_, rfl⟩
            rw [← hwa]
            have OA : Hid (OwnI wv3.heap.size wa (some ⟨wv3.heap.size, 0, none⟩) N (fun _ => 0)) := by show OwnI _ _ _ _ _; rw [hwa]; exact madeO wv3 N _
            have bla : Below wv3.heap.size wv3 wa := by rw [hwa]; exact below0 _ _
            have zA : wv3.heap.size < wa.heap.size := by rw [hwa]; simp
            obtain ⟨ga, hga⟩ : ∃ g, g = wv3.heap.size := ⟨_, rfl⟩
            rw [← hga] at OA zA ⊢
            have HGA : Hid (ga = wv3.heap.size) := hga
            clear hwa hga
            go_upto_region 12 with fail
            obtain ⟨wb, hwb⟩ : ∃ x_, x_ = wa.alloc (.cells (madeCells #[.int .i64 0] N) 2) := ⟨_, rfl⟩
            rw [← hwb]
            have OG : Hid (OwnI wa.heap.size wb (some ⟨wa.heap.size, 0, none⟩) N (fun _ => 0)) := by show OwnI _ _ _ _ _; rw [hwb]; exact madeO wa N _
            have blb : Below wa.heap.size wa wb := by rw [hwb]; exact below0 _ _
            obtain ⟨gb, hgb⟩ : ∃ g, g = wa.heap.size := ⟨_, rfl⟩
            rw [← hgb] at OG ⊢
            have nab : ga ≠ gb := by omega
            have gab : ga ≤ gb := by omega
            replace OA : Hid (OwnI ga wb (some ⟨ga, 0, none⟩) N (fun _ => 0)) := OA.out.below blb
            replace OG : Hid (OwnI ga wb (some ⟨gb, 0, none⟩) N (fun _ => 0)) := OG.out.mono (by omega)
            have BLW : Hid (Below ga wv3 wb) := by show Below _ _ _; rw [HGA.out]; exact bla.trans (blb.mono bla.size)
            have zOld : ga ≤ wv3.heap.size := by rw [HGA.out]; exact Nat.le_refl _
            clear hwb hgb bla blb zA hmk
            go_upto_if 98 with fail
            go_cut [15] (fun v wx => ∃ t : Nat, v = .int .i64 (t : Int) ∧ t < N ∧ wx = wb)
            case first =>
              by_cases hl : 0 < n2
              · obtain ⟨g, o, kb, rfl, hg, hc, k00, k01⟩ := ((HC2.out.below (by rw [← HGA.out]; exact BLW.out)).2 0 hl)
                have l1 : (0 : Int) < (n2 : Int) := by omega
                have l2 : (n2 : Int) ≤ 1048576 := by omega
                have hc0 : wb.cell? ⟨g, o, none⟩ = some (.int .u8 kb) := by simpa using hc
                obtain ⟨tv, htv, htl⟩ : ∃ tv : Nat, kb % (N : Int) = (tv : Int) ∧ tv < N := ⟨(kb % (N : Int)).toNat, by have := Int.emod_nonneg kb Nz2; omega, by have := Int.emod_lt_of_pos kb (show (0 : Int) < (N : Int) by omega); have := Int.emod_nonneg kb Nz2; omega⟩
                have htm : Int.tmod kb (N : Int) = (tv : Int) := by rw [Int.tmod_eq_emod_of_nonneg k00]; exact htv
                have wk : IntKind.i64.wrap kb = kb := by rw [IntKind.wrap_i64]; omega
                go_wp2_with fail
                go_meet
                first | exact ⟨tv, rfl, htl, rfl⟩ | exact ⟨tv, by rw [htm], htl, rfl⟩ | exact ⟨tv, by rw [htv], htl, rfl⟩
              · have l1 : decide ((0 : Int) < (n2 : Int)) = false := decide_eq_false (by omega)
                go_wp2_with fail
                go_meet
                exact ⟨0, rfl, by omega, rfl⟩
            case rest =>
              obtain ⟨t, rfl, tN, rfl⟩ := hcut
              rename World => wz
              have tNi : (t : Int) < (N : Int) := by omega
              go_wp2_with fail
              go_loopw [16] (fun v wr => ∃ (i : Nat) (A G : Nat → Int), i ≤ N ∧ v = .int .i64 (i : Int) ∧ Hid (DemI N B K t i A G) ∧ Hid (OwnI ga wr (some ⟨ga, 0, none⟩) N A) ∧ Hid (OwnI ga wr (some ⟨gb, 0, none⟩) N G) ∧ Hid (Below ga wv3 wr)) (fun v _ => N - (intOf v).toNat)
              case atStart => exact ⟨0, fun _ => 0, fun _ => 0, by omega, rfl, dem_start N B K t, OA, OG, BLW⟩
              case round =>
                clear OA OG BLW
                obtain ⟨i, A, G, hi, rfl, HD, OA, OG, HBW⟩ := hrel
                by_cases hlt : i < N
                · have i1 : (i : Int) < (N : Int) := by omega
                  obtain ⟨p, hp, hpN⟩ : ∃ p : Nat, ((i : Int) + (t : Int)) % (N : Int) = (p : Int) ∧ p = (i + t) % N := ⟨(i + t) % N, by rw [Int.natCast_emod, Int.natCast_add], rfl⟩
                  have hpl : p < N := by rw [hpN]; exact Nat.mod_lt _ (by omega)
                  have hpm : Int.tmod ((i : Int) + (t : Int)) (N : Int) = (p : Int) := by rw [Int.tmod_eq_emod_of_nonneg (by omega)]; exact hp
                  have wit : IntKind.i64.wrap ((i : Int) + (t : Int)) = (i : Int) + (t : Int) := by rw [IntKind.wrap_i64]; omega
                  have pl : (p : Int) < (N : Int) := by omega
                  have HPN : Hid (p = (i + t) % N) := hpN
                  clear hpN
                  obtain ⟨_, m0, -, za, ca, fa⟩ := OA.out p hpl
                  cases m0
                  obtain ⟨_, m0, -, zb, cb, fb⟩ := OG.out p hpl
                  cases m0
                  have sW : ga ≤ wr.heap.size := by omega
                  go_upto_region 21 with fail
                  obtain ⟨w5, hw5⟩ : ∃ x_, x_ = (wr.setCell ⟨ga, p, none⟩ (.int .i64 1)).setCell ⟨gb, p, none⟩ (.int .i64 0) := ⟨_, rfl⟩
                  rw [← hw5]
                  have OA5 : Hid (OwnI ga w5 (some ⟨ga, 0, none⟩) N (updV A p 1)) := by show OwnI _ _ _ _ _; rw [hw5]; exact own_set (upd_row OA.out) nab
                  have OG5 : Hid (OwnI ga w5 (some ⟨gb, 0, none⟩) N (updV G p 0)) := by show OwnI _ _ _ _ _; rw [hw5]; exact upd_row (own_set OG.out nab.symm)
                  have HB5 : Hid (Below ga wv3 w5) := by show Below _ _ _; rw [hw5]; exact HBW.out.trans (((Beside.setCell ga wr p _).below (Nat.le_refl _) sW).trans ((Beside.setCell gb _ p _).below gab (by simpa using sW)))
                  clear hw5 OA OG HBW za ca fa zb cb fb sW hp hpm
                  by_cases hb : i < B
                  · have hd : decide ((i : Int) < (B : Int)) = true := decide_eq_true (by omega)
                    have hdi : (i : Int) < (B : Int) := by omega
                    have HD2 : Hid (DemI N B K t (i + 1) (updV A p 3) (updV G p 3)) := by show DemI _ _ _ _ _ _ _; rw [HPN.out]; exact dem_step HD.out hlt hBK (Or.inl ⟨hb, rfl, rfl⟩)
                    obtain ⟨_, m0, -, za, ca, fa⟩ := OA5.out p hpl
                    cases m0
                    obtain ⟨_, m0, -, zb, cb, fb⟩ := OG5.out p hpl
                    cases m0
                    have sW : ga ≤ w5.heap.size := by omega
                    go_upto_region 17 with fail
                    obtain ⟨w6, hw6⟩ : ∃ x_, x_ = (w5.setCell ⟨ga, p, none⟩ (.int .i64 3)).setCell ⟨gb, p, none⟩ (.int .i64 3) := ⟨_, rfl⟩
                    rw [← hw6]
                    have OA6 : Hid (OwnI ga w6 (some ⟨ga, 0, none⟩) N (updV A p 3)) := by show OwnI _ _ _ _ _; rw [hw6, ← upd_upd A p 1 3]; exact own_set (upd_row OA5.out) nab
                    have OG6 : Hid (OwnI ga w6 (some ⟨gb, 0, none⟩) N (updV G p 3)) := by show OwnI _ _ _ _ _; rw [hw6, ← upd_upd G p 0 3]; exact upd_row (own_set OG5.out nab.symm)
                    have HB6 : Hid (Below ga wv3 w6) := by show Below _ _ _; rw [hw6]; exact HB5.out.trans (((Beside.setCell ga w5 p _).below (Nat.le_refl _) sW).trans ((Beside.setCell gb _ p _).below gab (by simpa using sW)))
                    clear hw6 OA5 OG5 HB5 HD HPN za ca fa zb cb fb sW
                    go_wp2
                    go_roundw
                    case rel => exact ⟨i + 1, _, _, by omega, by go_num, HD2, OA6, OG6, HB6⟩
                    case measure => simp [intOf]; omega
                  · have hd : decide ((i : Int) < (B : Int)) = false := decide_eq_false (by omega)
                    have wBK : IntKind.i64.wrap ((B : Int) + (K : Int)) = (B : Int) + (K : Int) := by rw [IntKind.wrap_i64]; omega
                    by_cases hk : i < B + K
                    · have hd2 : decide ((i : Int) < (B : Int) + (K : Int)) = true := decide_eq_true (by omega)
                      have hdi : (i : Int) < (B : Int) + (K : Int) := by omega
                      have wi1 : IntKind.i64.wrap ((i : Int) + 1) = (i : Int) + 1 := by rw [IntKind.wrap_i64]; omega
                      go_upto_if 139 with fail
                      go_cut [18] (fun v wx => ∃ y : Int, v = .int .i64 y ∧ 0 ≤ y ∧ y ≤ 2 ∧ wx = w5)
                      case first =>
                        by_cases hl : i + 1 < n2
                        · obtain ⟨g, o, kb, rfl, hg, hc, k00, k01⟩ := ((HC2.out.below (by rw [← HGA.out]; exact HB5.out)).2 (i + 1) hl)
                          have l1 : (i : Int) + 1 < (n2 : Int) := by omega
                          have l2 : (n2 : Int) ≤ 1048576 := by omega
                          obtain ⟨i9, hi9, hi9b⟩ : ∃ i9 : Nat, (i : Int) + 1 = (i9 : Int) ∧ i9 = i + 1 := ⟨i + 1, by omega, rfl⟩
                          rw [← hi9b] at hc
                          have l3 : (i9 : Int) < (n2 : Int) := by omega
                          clear hi9b hl l1
                          obtain ⟨y, hy, hy0, hy2⟩ : ∃ y : Int, kb % 3 = y ∧ 0 ≤ y ∧ y ≤ 2 := ⟨_, rfl, by omega, by omega⟩
                          have hym : Int.tmod kb 3 = y := by rw [Int.tmod_eq_emod_of_nonneg k00]; exact hy
                          have wy : IntKind.i64.wrap y = y := by rw [IntKind.wrap_i64]; omega
                          go_wp2_with fail
                          go_meet
                          first | exact ⟨y, rfl, hy0, hy2, rfl⟩ | exact ⟨y, by rw [hym], hy0, hy2, rfl⟩ | exact ⟨y, by rw [hy], hy0, hy2, rfl⟩
                        · have l1 : decide ((i : Int) + 1 < (n2 : Int)) = false := decide_eq_false (by omega)
                          go_wp2_with fail
                          go_meet
                          exact ⟨0, rfl, by omega, by omega, rfl⟩
                      case rest =>
                        obtain ⟨y, rfl, y0, y2, rfl⟩ := hcut
                        rename World => w5
                        have HD2 : Hid (DemI N B K t (i + 1) (updV A p y) (updV G p y)) := by show DemI _ _ _ _ _ _ _; rw [HPN.out]; exact dem_step HD.out hlt hBK (Or.inr (Or.inl ⟨by omega, hk, y0, y2, rfl⟩))
                        obtain ⟨_, m0, -, za, ca, fa⟩ := OA5.out p hpl
                        cases m0
                        obtain ⟨_, m0, -, zb, cb, fb⟩ := OG5.out p hpl
                        cases m0
                        have sW : ga ≤ w5.heap.size := by omega
                        go_upto_region 17 with fail
                        obtain ⟨w6, hw6⟩ : ∃ x_, x_ = (w5.setCell ⟨ga, p, none⟩ (.int .i64 y)).setCell ⟨gb, p, none⟩ (.int .i64 y) := ⟨_, rfl⟩
                        rw [← hw6]
                        have OA6 : Hid (OwnI ga w6 (some ⟨ga, 0, none⟩) N (updV A p y)) := by show OwnI _ _ _ _ _; rw [hw6, ← upd_upd A p 1 y]; exact own_set (upd_row OA5.out) nab
                        have OG6 : Hid (OwnI ga w6 (some ⟨gb, 0, none⟩) N (updV G p y)) := by show OwnI _ _ _ _ _; rw [hw6, ← upd_upd G p 0 y]; exact upd_row (own_set OG5.out nab.symm)
                        have HB6 : Hid (Below ga wv3 w6) := by show Below _ _ _; rw [hw6]; exact HB5.out.trans (((Beside.setCell ga w5 p _).below (Nat.le_refl _) sW).trans ((Beside.setCell gb _ p _).below gab (by simpa using sW)))
                        clear hw6 OA5 OG5 HB5 HD HPN za ca fa zb cb fb sW
                        go_wp2
                        go_roundw
                        case rel => exact ⟨i + 1, _, _, by omega, by go_num, HD2, OA6, OG6, HB6⟩
                        case measure => simp [intOf]; omega
                    · have hd2 : decide ((i : Int) < (B : Int) + (K : Int)) = false := decide_eq_false (by omega)
                      have HD2 : Hid (DemI N B K t (i + 1) (updV A p 1) (updV G p 0)) := by show DemI _ _ _ _ _ _ _; rw [HPN.out]; exact dem_step HD.out hlt hBK (Or.inr (Or.inr ⟨by omega, rfl, rfl⟩))
                      clear HD HPN
                      go_wp2
                      go_roundw
                      case rel => exact ⟨i + 1, _, _, by omega, by go_num, HD2, OA5, OG5, HB5⟩
                      case measure => simp [intOf]; omega
                · obtain rfl : i = N := by omega
                  obtain ⟨E1, E0⟩ := HEND.out t A G HD.out
                  have RA : Hid (RowI wr (some ⟨ga, 0, none⟩) i A) := OA.out.row
                  have RG : Hid (RowI wr (some ⟨gb, 0, none⟩) i G) := OG.out.row
                  have HBF : Hid (Below w1.heap.size w1 wr) := HB.out.trans (HBW.out.mono (by have := HB.out.size; have := HGA.out; omega))
                  have hd : decide ((i : Int) < (i : Int)) = false := decide_eq_false (by omega)
                  obtain ⟨v1, hv1⟩ : ∃ v, voteV i A nd = v := ⟨_, rfl⟩
                  obtain ⟨v0, hv0⟩ : ∃ v, voteV i G nd = v := ⟨_, rfl⟩
                  rw [hv1] at E1
                  rw [hv0] at E0
                  have IV1 : Hid (∀ w c, RowI w (some ⟨ga, 0, none⟩) i A → Calls Try.prog 10 #[.slice (some ⟨ga, 0, none⟩) i c, .int .i64 nd] w fun e w' => e = .returned (.int .i64 v1) ∧ Below w.heap.size w w') := fun w c q => (implVote_any _ i c A nd w (by omega) q).mono fun e w' h => ⟨by rw [← hv1]; exact h.1, by first | exact h.2 | exact h.2 ▸ Below.refl _ _⟩
                  have IV0 : Hid (∀ w c, RowI w (some ⟨gb, 0, none⟩) i G → Calls Try.prog 10 #[.slice (some ⟨gb, 0, none⟩) i c, .int .i64 nd] w fun e w' => e = .returned (.int .i64 v0) ∧ Below w.heap.size w w') := fun w c q => (implVote_any _ i c G nd w (by omega) q).mono fun e w' h => ⟨by rw [← hv0]; exact h.1, by first | exact h.2 | exact h.2 ▸ Below.refl _ _⟩
                  have HE1 : Hid (TA = true → v1 = 1) := E1
                  have HE0 : Hid (TB = true → v0 = 0) := E0
                  clear hv1 hv0 HD OA OG HBW HB HEND E1 E0
                  cases hta : TA
                  · cases htb : TB
                    · have BF := HBF.out
                      go_wp2
                      go_ret
                      exact ⟨rfl, BF⟩
                    · obtain rfl : v0 = 0 := HE0.out htb
                      go_wp2_with fail
                      refine (IV0.out _ _ RG.out).mono ?_
                      rintro e w7 ⟨rfl, h7⟩
                      have BF : Below w1.heap.size w1 w7 := HBF.out.trans (h7.mono HBF.out.size)
                      go_wp2
                      go_ret
                      exact ⟨rfl, BF⟩
                  · obtain rfl : v1 = 1 := HE1.out hta
                    go_wp2_with fail
                    refine (IV1.out _ _ RA.out).mono ?_
                    rintro e w7 ⟨rfl, h7⟩
                    have HB7 : Hid (Below w1.heap.size w1 w7) := HBF.out.trans (h7.mono HBF.out.size)
                    replace RG : Hid (RowI w7 (some ⟨gb, 0, none⟩) i G) := RG.out.below h7
                    clear h7
                    cases htb : TB
                    · have BF := HB7.out
                      go_wp2
                      go_ret
                      exact ⟨rfl, BF⟩
                    · obtain rfl : v0 = 0 := HE0.out htb
                      go_wp2_with fail
                      refine (IV0.out _ _ RG.out).mono ?_
                      rintro e w8 ⟨rfl, h8⟩
                      have BF : Below w1.heap.size w1 w8 := HB7.out.trans (h8.mono HB7.out.size)
                      go_wp2
                      go_ret
                      exact ⟨rfl, BF⟩
theorem fnDemand_walk (w : World) (s : Option Addr) (n c : Nat) (hn : n ≤ 9223372036854775807) (R : Bytes w s n) (s2 : Option Addr) (n2 c2 : Nat) (hn2 : n2 ≤ 9223372036854775807) (R2 : Bytes w s2 n2) :
    Calls Try.prog 5 #[.slice s n c, .slice s2 n2 c2] w fun e w' => e = .returned (.bool true) ∧ Below w.heap.size w w' := by
  by_cases h : n ≤ 1048576
  · by_cases h2 : n2 ≤ 1048576
    · exact demand_near w s n c s2 n2 c2 (by omega) (by omega) (R.code h) (R2.code h2)
    · exact demand_far2 w s n c s2 n2 c2 (by omega) (by omega)
  · exact demand_far1 w s n c s2 n2 c2 (by omega)

set_option maxRecDepth 100000 in
theorem fnDemand_lifted (os : Os) (started : os.Started) (H : Type) (enc : TypeId × Value → H) :
    ReturnsInHanded {} Try.checked os 5 .any (Rows.fnDemandSpec.pre6 enc Try.prog Try.f5 Rows.fnDemandRow.domain false) (Rows.fnDemandSpec.post enc Try.prog Try.f5 false true false false) := by
  refine returnsInHanded_of_change (C := Try.checked) own started (by kernel_rfl) Try.func5
    (ChangeSpec.witness6 (enc := enc) (C := Try.checked) false ⟨#[], #[.slice none 0 0, .slice none 0 0], []⟩ 8 (by kernel_rfl) (by kernel_rfl) (by kernel_rfl) (by kernel_rfl)) ?_
  intro W base args ds gs before hval0 hW hcnd _
  have hval : ∀ (j : Nat) t v, Try.f5.params[j]? = some t → args[j]? = some v → Value.okWide Try.prog W .any base t v := hval0
  have hW' := hW
  obtain ⟨p, q, hA0, hV, rfl, hfz, hnd⟩ := hW
  have hA : DataW.TrodAll enc Try.prog W 0 (fun _ => true) true Try.f5.params.toList args.toList ds p := hA0
  rw [Try.params5] at hA hval
  obtain ⟨v0, vs0, d0, ds0, p0, q0, hargs, rfl, rfl, h0, r0⟩ := trodAll_cons hA
  obtain ⟨v1, vs1, d1, ds1, p1, q1, rfl, rfl, rfl, h1, r1⟩ := trodAll_cons r0
  obtain ⟨rfl, rfl, rfl⟩ := trodAll_nil r1
  obtain rfl : args = #[v0, v1] := by cases args; simp_all
  obtain ⟨rfl, rfl⟩ := trodVars_none hV
  have k0 := h0
  have lt0 : ∀ x ∈ p0, x.block < W.heap.size := by obtain ⟨m, hm⟩ := k0; exact DataW.trod_lt m _ _ _ hm
  have k1 := h1
  have lt1 : ∀ x ∈ p1, x.block < W.heap.size := by obtain ⟨m, hm⟩ := k1; exact DataW.trod_lt m _ _ _ hm
  obtain ⟨s0, n0, c0, rfl, m0, R0⟩ := open_code Try.underlying30 Try.underlying5 (by kernel_rfl) (hval 0 30 v0 rfl rfl) h0
  obtain ⟨s1, n1, c1, rfl, m1, R1⟩ := open_code Try.underlying30 Try.underlying5 (by kernel_rfl) (hval 1 30 v1 rfl rfl) h1
  clear hA0 hval0
  refine (fnDemand_walk W s0 n0 c0 m0 R0 s1 n1 c1 m1 R1).mono fun e W' ⟨he, bel⟩ => ?_
  subst he
  exact ⟨_, rfl, _, _, _, [], _, [], hW', trodAll_mk1 (shut_bool Try.underlying4 _), (trodAll_cons_mk (Below.trod laidOut (by kernel_rfl) (of_decide_eq_true (by kernel_rfl)) k0 bel lt0) (trodAll_cons_mk (Below.trod laidOut (by kernel_rfl) (of_decide_eq_true (by kernel_rfl)) k1 bel lt1) trodAll_mk0)), rfl, bel.frame _, fun h => by cases h⟩

theorem fnDemand_holds : Rows.FnDemandSaid :=
  OpenClaim.holds_of_wide 5 Try.f5 rfl rfl rfl rfl rfl rfl rfl ⟨rfl, rfl, rfl, rfl, rfl⟩ rfl rfl rfl rfl rfl (by kernel_rfl) Try.func5 (by kernel_rfl)
    (of_decide_eq_true (by kernel_rfl)) (by unfold Func.isWrapper; first | (rw [if_pos (by decide +kernel)]; kernel_rfl) | (rw [if_neg (by decide +kernel)]; exact ⟨rfl, rfl⟩))
    (fun os started H enc _ => fnDemand_lifted os started H enc)
#print axioms fnDemand_holds
end Go.Proofs.Ytdneembeefflaaa
