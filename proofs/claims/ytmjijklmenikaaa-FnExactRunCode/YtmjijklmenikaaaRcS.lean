/-
What is proved: compiled code run over rows, as the specification does it.
-/
import Derived.Test.YtmjijklmenikaaaRc
import Derived.Test.YtmjijklmenikaaaExS
namespace Go.Proofs.Ytmjijklmenikaaa
set_option maxRecDepth 40000
open Go.ChangeShapes Go.WideShapes Go.ChangeAt Go.RowKit
set_option linter.unusedVariables false
set_option linter.unusedSimpArgs false

theorem NowAt.grown {p : Nat} {wr w2 : World} {s : Option Addr} {a : Nat} {N : Nat → Int} {row : Option Nat} (h : RowI wr s a N) (hg : wr.grownBy w2 row) (hb : 0 < a → ∀ b o, s = some ⟨b, o, none⟩ → row ≠ some b) : RowI w2 s a N := fun j hj => by
  obtain ⟨b, o, e, hl, hc⟩ := h j hj
  exact ⟨b, o, e, Nat.lt_of_lt_of_le hl hg.size, (hg.cell_far ⟨b, o + j, none⟩ hl (fun q => hb (by omega) b o e q.symm)).trans hc⟩
set_option maxRecDepth 20000 in
set_option maxHeartbeats 8000000 in
theorem specRunCode_any (s : Option Addr) (n c : Nat) (V : Nat → Int) (C : Int) (t : Option Addr) (no co : Nat) (Os : Nat → Int) (r : Option Addr) (nr cr : Nat) (J : Nat → Nat) (I : Nat → Nat → Int) (w : World) (hn : (n : Int) ≤ 1048576) (hno : (no : Int) ≤ 1048576) (hnr : (nr : Int) ≤ 1048576) (hJ : ∀ i, i < nr → (J i : Int) ≤ 1048576) (HR : Hid (RowI w s (n * 2) V)) (HS : Hid (RowI w t no Os)) (HI : Hid (RowLL w r nr J I)) :
    Calls Try.prog 8 #[.slice s n c, .int .i64 C, .slice t no co, .slice r nr cr] w fun e w' => RcPost w n V C no Os nr J I e w' := by
  go_enter Try.func8, Try.ntmps8
  go_wp2_with fail
  obtain ⟨wa, hwa⟩ : ∃ wa, wa = w.alloc (.cells #[] 23) := ⟨_, rfl⟩
  rw [← hwa]
  have B0 : Below w.heap.size w wa := by rw [hwa]; exact below0 _ _
  have za : w.heap.size < wa.heap.size := by rw [hwa]; simp
  clear hwa
  refine (l1In_is _ _ _ _).mono ?_
  rintro e wa ⟨rfl, rfl⟩
  cases h0 : inB 0 60 C
  · have HO : Hid (rcB n V C no Os nr J I = false) := by show _ = _; unfold rcB; rw [h0]; rfl
    go_wp2
    exact bodyPost_ret (v := .tuple #[.slice (some ⟨w.heap.size, 0, none⟩) 0 0, .bool false]) (by simp [results, Try.results8, go_sem]) rfl (rc_no HO.out B0)
  obtain ⟨c0, c1⟩ := inB_yes h0
  obtain ⟨a, rfl⟩ : ∃ a : Nat, C = (a : Int) := ⟨C.toNat, by omega⟩
  by_cases n1 : 300 < nr
  · have b1 : (300 : Int) < (nr : Int) := by omega
    have HO : Hid (rcB n V a no Os nr J I = false) := by show _ = _; unfold rcB; rw [decide_eq_false (by omega : ¬ nr ≤ 300)]; simp
    go_wp2
    exact bodyPost_ret (v := .tuple #[.slice (some ⟨w.heap.size, 0, none⟩) 0 0, .bool false]) (by simp [results, Try.results8, go_sem]) rfl (rc_no HO.out B0)
  have b1 : decide ((300 : Int) < (nr : Int)) = false := decide_eq_false (by omega)
  by_cases n2 : 60 < no
  · have b2 : (60 : Int) < (no : Int) := by omega
    have HO : Hid (rcB n V a no Os nr J I = false) := by show _ = _; unfold rcB; rw [decide_eq_false (by omega : ¬ no ≤ 60)]; simp
    go_wp2
    exact bodyPost_ret (v := .tuple #[.slice (some ⟨w.heap.size, 0, none⟩) 0 0, .bool false]) (by simp [results, Try.results8, go_sem]) rfl (rc_no HO.out B0)
  have b2 : decide ((60 : Int) < (no : Int)) = false := decide_eq_false (by omega)
  have HA : Hid (rcB n V a no Os nr J I = (allInB 0 ((a : Int) - 1) Os no && rcT n V a J I nr)) := by show _ = _; unfold rcB; rw [h0, decide_eq_true (by omega : nr ≤ 300), decide_eq_true (by omega : no ≤ 60), Int.toNat_natCast]; simp
  have hnr2 : (nr : Int) ≤ 300 := by omega
  have hno2 : (no : Int) ≤ 60 := by omega
  have ha : (a : Int) ≤ 1048576 := by omega
  have hmk := make_i64 a (by omega)
  have HJ : Hid (∀ i, i < nr → (J i : Int) ≤ 1048576) := hJ
  have zW := B0.size
  clear h0 n1 n2 hJ
  go_wp2_with fail
  go_loopw [11] (fun i wr => ∃ k : Nat, k ≤ no ∧ i = .int .i64 k ∧ Hid (∀ j, j < k → 0 ≤ Os j ∧ Os j ≤ (a : Int) - 1) ∧ wr = wa) (fun i _ => no - (intOf i).toNat)
  case atStart => exact ⟨0, Nat.zero_le _, rfl, fun j hj => by omega, rfl⟩
  case round =>
    obtain ⟨k, hk, rfl, HP, rfl⟩ := hrel
    by_cases h1 : k < no
    · obtain ⟨g, o, rfl, hg, x0⟩ := HS.out k h1
      have d0 := (B0.cell (p := ⟨g, o + k, none⟩) hg).trans x0
      have k1 : (k : Int) < (no : Int) := by omega
      by_cases q : 0 ≤ Os k ∧ Os k ≤ (a : Int) - 1
      · have HN : Hid (∀ j, j < k + 1 → 0 ≤ Os j ∧ Os j ≤ (a : Int) - 1) := ball_succ HP.out q
        go_wp2_with fail
        refine (l1In_yes _ _ _ _ q.1 q.2).mono ?_
        rintro e w2 ⟨rfl, rfl⟩
        go_wp2
        go_roundw
        case rel => exact ⟨k + 1, by omega, by go_num, HN.out, by first | rfl | trivial⟩
        case measure => first | (simp [intOf]; done) | (simp [intOf]; omega)
      · have HO : Hid (rcB n V a no Os nr J I = false) := by
          show _ = _
          rw [HA.out, show allInB 0 ((a : Int) - 1) Os no = false from decide_eq_false fun h => q (h k h1)]
          rfl
        go_wp2_with fail
        refine (l1In_no _ _ _ _ (by omega)).mono ?_
        rintro e w2 ⟨rfl, rfl⟩
        go_wp2
        exact bodyPost_ret (v := .tuple #[.slice (some ⟨w.heap.size, 0, none⟩) 0 0, .bool false]) (by simp [results, Try.results8, go_sem]) rfl (rc_no HO.out B0)
    · obtain rfl : k = no := by omega
      have HF : Hid (∀ q : Bool, rcT n V a J I nr = q → rcB n V a k Os nr J I = q) := fun q e => by rw [HA.out, show allInB 0 ((a : Int) - 1) Os k = true from decide_eq_true HP.out, e]; simp
      clear hk h1
      go_upto_region 11 with fail
      obtain ⟨wb, hwb⟩ : ∃ wb, wb = (wr.alloc (.cells #[] 23)).alloc (.cells (madeCells #[.int .i64 0] a) 2) := ⟨_, rfl⟩
      rw [← hwb]
      have B1 : Below wr.heap.size wr wb := by rw [hwb]; exact (by repeat (first | with_reducible exact Below.refl _ _ | with_reducible refine Below.setCell ?_ (by first | omega | (simp; done) | (simp; omega)) _ | with_reducible refine bDrewN ?_ _ | with_reducible refine Below.drew ?_ | with_reducible refine Below.alloc ?_ (by first | omega | (simp; done) | (simp; omega)) _))
      have HM : Hid (MT w.heap.size w wb (.slice (some ⟨wr.heap.size, 0, none⟩) 0 0) 0 [] (fun _ => k) (rcU n V Os I)) := by
        rw [hwb]
        have h := (MT.lit wr (base := w.heap.size) (K := fun _ => k) (V := rcU n V Os I) (by omega)).below (below0 _ (.cells (madeCells #[.int .i64 0] a) 2)) (by simp; omega)
        exact ⟨B0.trans h.1, h.2⟩
      have HN : Hid (RowI wb (some ⟨wr.heap.size + 1, 0, none⟩) a (rcN n V I 0)) := fun j hj => ⟨wr.heap.size + 1, 0, rfl, by rw [hwb]; simp, by rw [hwb]; have hm := made_int hj; simpa [go_sem, rcN] using hm⟩
      clear hwb B1
      have HSp : Hid (0 < a → ∀ b o, some (⟨wr.heap.size + 1, 0, none⟩ : Addr) = some ⟨b, o, none⟩ → (Value.slice (some ⟨wr.heap.size, 0, none⟩) 0 0).ownBlock ≠ some b) := fun _ b o e q => by
        cases e
        have q' : some wr.heap.size = some (wr.heap.size + 1) := q
        simp at q'
      rename World => wc
      go_wp2_with fail
      go_loopw [12, 13, 14] (fun v u i wx => ∃ (q : Nat) (xs : List Value) (sN : Option Addr) (cN : Nat), q ≤ nr ∧ i = .int .i64 q ∧ u = .slice sN a cN ∧ Hid (rcT n V a J I q = true) ∧ MT w.heap.size w wx v q xs (fun _ => k) (rcU n V Os I) ∧ RowI wx sN a (rcN n V I q) ∧ Hid (0 < a → ∀ b o, sN = some ⟨b, o, none⟩ → v.ownBlock ≠ some b)) (fun _ _ i _ => nr - (intOf i).toNat)
      case atStart => exact ⟨0, [], _, _, Nat.zero_le _, rfl, rfl, rfl, HM.out, HN.out, HSp.out⟩
      case round =>
        clear HM HN HSp
        obtain ⟨q, xs, sN, cN, hq, rfl, rfl, HT, hM, hN, HSp⟩ := hrel
        have HM : Hid (MT w.heap.size w wr u12 q xs (fun _ => k) (rcU n V Os I)) := hM
        have hB := hM.1
        have HN : Hid (RowI wr sN a (rcN n V I q)) := hN
        have zR := hB.size
        have HLT : Hid (∀ r, u12.ownBlock = some r → r < wr.heap.size) := own_lt hM.2.1
        clear hM hN
        by_cases h1 : q < nr
        · obtain ⟨b, o, ai, ci, rfl, hb, hc, hr⟩ := HI.out q h1
          have d0 := (hB.cell (p := ⟨b, o + q, none⟩) hb).trans hc
          have HIk : Hid (RowI wr ai (J q) (I q)) := hr.below hB
          have kJ := HJ.out q h1
          have k1 : (q : Int) < (nr : Int) := by omega
          obtain ⟨m, hm⟩ : ∃ m, J q = m := ⟨_, rfl⟩
          rw [hm] at d0 HIk kJ
          have HJm : Hid (J q = m) := hm
          clear hm hr hc hb
          cases y : exB n V a (rcN n V I q) m (I q)
          · have HO : Hid (rcB n V a k Os nr J I = false) := HF.out _ (rcT_no (show q + 1 ≤ nr by omega) (by simp [rcT, HJm.out, y]))
            go_wp2_with fail
            refine (specExec_any s n c V sN a cN (rcN n V I q) ai m ci (I q) _ hn ha kJ (HR.out.below hB) HN.out HIk).mono ?_
            intro e w3 hx
            obtain ⟨s', c', rfl, h3⟩ := exec_no hx y
            have B3 : Below w.heap.size w w3 := hB.trans (h3.mono zR)
            clear hx h3
            go_wp2
            exact bodyPost_ret (v := .tuple #[.slice (some ⟨w.heap.size, 0, none⟩) 0 0, .bool false]) (by simp [results, Try.results8, go_sem]) rfl (rc_no HO.out B3)
          · go_wp2_with fail
            refine (specExec_any s n c V sN a cN (rcN n V I q) ai m ci (I q) _ hn ha kJ (HR.out.below hB) HN.out HIk).mono ?_
            intro e w3 hx
            obtain ⟨s', c', rfl, O3, h3⟩ := exec_yes hx y
            have B3 : Below w.heap.size w w3 := hB.trans (h3.mono zR)
            have HO3 : Hid (OwnI wr.heap.size w3 s' a (exK V (rcN n V I q) (I q) n).N) := O3
            have HM3 : Hid (MT w.heap.size w w3 u12 q xs (fun _ => k) (rcU n V Os I)) := HM.out.below h3 zR
            have HT3 : Hid (rcT n V a J I (q + 1) = true) := by show _ = _; simp [rcT, HT.out, HJm.out, y]
            have z3 := h3.size
            have HV3 : Hid (0 < a → ∀ b o, s' = some ⟨b, o, none⟩ → wr.heap.size ≤ b ∧ b < w3.heap.size) := fun h0 b o e => by
              obtain ⟨b', e', g1, g2, _⟩ := HO3.out 0 h0
              rw [e] at e'
              cases e'
              exact ⟨g1, g2⟩
            clear hx O3 h3 d0 HM HN HIk
            go_wp2_with fail
            go_loopw [17, 18] (fun v2 i2 wy => ∃ j : Nat, j ≤ k ∧ i2 = .int .i64 j ∧ MadeI w3.heap.size w3 wy v2 j (rcU n V Os I q)) (fun _ i _ => k - (intOf i).toNat)
            case atStart => exact ⟨0, Nat.zero_le _, rfl, made_lit w3 _ (Nat.le_refl _)⟩
            case round =>
              rename World => wy
              obtain ⟨j, hj, rfl, hMI⟩ := hrel
              have HMI : Hid (MadeI w3.heap.size w3 wy u17 j (rcU n V Os I q)) := hMI
              obtain ⟨hown, hY⟩ := hMI
              have HOW : Hid (wy.ownsRow w3.heap.size 2 1 u17 j (vals (rcU n V Os I q) j)) := hown
              have zY := hY.size
              clear hown
              by_cases h2 : j < k
              · obtain ⟨g, o2, e2, hg, x0⟩ := HS.out j h2
                subst e2
                obtain ⟨o0, o1⟩ := HP.out j h2
                obtain ⟨p, hp⟩ : ∃ p : Nat, Os j = (p : Int) := ⟨(Os j).toNat, by omega⟩
                rw [hp] at x0
                have hpa : p < a := by omega
                obtain ⟨b4, e4, g3, g4, x4, _⟩ := HO3.out p hpa
                subst e4
                have d1 : wy.cell? ⟨g, o2 + j, none⟩ = some (.int .i64 (p : Int)) := (hY.cell (p := ⟨g, o2 + j, none⟩) (by show g < _; omega)).trans ((B3.cell (p := ⟨g, o2 + j, none⟩) hg).trans x0)
                have d2 : wy.cell? ⟨b4, p, none⟩ = some (.int .i64 ((exK V (rcN n V I q) (I q) n).N p)) := (hY.cell (p := ⟨b4, p, none⟩) g4).trans x4
                have k2 : (j : Int) < (k : Int) := by omega
                have k3 : (p : Int) < (a : Int) := by omega
                have E : Hid (rcU n V Os I q j = (exK V (rcN n V I q) (I q) n).N p) := by show rcN n V I (q + 1) (Os j).toNat = _; rw [hp, Int.toNat_natCast]; rfl
                clear x0 x4 hg hp
                go_wp2_with (at_builtin; refine list_i64h w3.heap.size u17 j (vals (rcU n V Os I q) j) (.tmp 78) (.tmp 86) (by rfl) (by rfl) (by rfl) (by rfl) HOW.out (by omega) zY ?_; intro g' cap' w6 hown6 hgrow6 hlt6 hat6)
                go_roundw
                case rel => exact ⟨j + 1, by omega, by go_num, made_on HMI.out (Below.refl _ _) zY (by rw [E.out]; exact hown6) hgrow6⟩
                case measure => first | (simp [intOf]; done) | (simp [intOf]; omega)
              · obtain rfl : j = k := by omega
                obtain ⟨s2, cap2, e2, O2⟩ := made_own HMI.out
                subst e2
                have HO2 : Hid (OwnI w3.heap.size wy s2 j (rcU n V Os I q)) := O2
                have HY : Hid (Below w3.heap.size w3 wy) := hY
                have HMY : Hid (wy.ownsRow w.heap.size 23 1 u12 q xs) := (HM3.out.below hY (by omega)).2.1
                have HR5 : Hid (RowI wy s' a (exK V (rcN n V I q) (I q) n).N) := HO3.out.row.below hY
                clear O2 HMI HOW
                go_wp2_with (at_builtin; refine list_slh (x := .slice s2 j cap2) rfl w.heap.size u12 q xs (.tmp 88) (.tmp 90) (by rfl) (by rfl) (by rfl) (by rfl) HMY.out (by omega) (by omega) ?_; intro g' cap' w6 hown6 hgrow6 hlt6 hat6)
                go_roundw
                case rel => exact ⟨q + 1, _, s', c', by omega, by go_num, rfl, HT3.out, MT.on HM3.out HY.out (by omega) HO2.out hown6 hgrow6 hat6, NowAt.grown (p := 0) HR5.out hgrow6 (fun h0 b o e r => by have := HV3.out h0 b o e; have := HLT.out b r; omega), fun h0 b o e r => by
                  have h5 := HV3.out h0 b o e
                  have r' : g' = b := by simpa [Value.ownBlock] using r
                  rcases hat6 with t | t
                  · have := HLT.out g' t; omega
                  · omega⟩
                case measure => first | (simp [intOf]; done) | (simp [intOf]; omega)
        · obtain rfl : q = nr := by omega
          have HO : Hid (rcB n V a k Os q J I = true) := HF.out _ HT.out
          obtain ⟨s', c', ev, HD⟩ := HM.out.done
          subst ev
          have HD2 : Hid (OwnLL (fun x => w.heap.size ≤ x ∧ x < wr.heap.size) wr s' q (fun _ => k) (rcU n V Os I)) := HD
          clear HD HM
          go_wp2
          exact bodyPost_ret (v := .tuple #[.slice s' q c', .bool true]) (by simp [results, Try.results8, go_sem]) rfl (rc_yes HO.out HD2.out hB)
end Go.Proofs.Ytmjijklmenikaaa
