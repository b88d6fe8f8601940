/-
What is proved: compiled code run over rows, as the program does it.
-/
import Derived.Test.YtmjijklmenikaaaRc
import Derived.Test.YtmjijklmenikaaaExI
namespace Go.Proofs.Ytmjijklmenikaaa
set_option maxRecDepth 40000
open Go.ChangeShapes Go.WideShapes Go.ChangeAt Go.RowKit
set_option linter.unusedVariables false
set_option linter.unusedSimpArgs false

set_option maxRecDepth 20000 in
set_option maxHeartbeats 8000000 in
theorem implRunCode_any (s : Option Addr) (n c : Nat) (V : Nat → Int) (C : Int) (t : Option Addr) (no co : Nat) (Os : Nat → Int) (r : Option Addr) (nr cr : Nat) (J : Nat → Nat) (I : Nat → Nat → Int) (w : World) (hn : (n : Int) ≤ 1048576) (hno : (no : Int) ≤ 1048576) (hnr : (nr : Int) ≤ 1048576) (hJ : ∀ i, i < nr → (J i : Int) ≤ 1048576) (HR : Hid (RowI w s (n * 2) V)) (HS : Hid (RowI w t no Os)) (HI : Hid (RowLL w r nr J I)) :
    Calls Try.prog 12 #[.slice s n c, .int .i64 C, .slice t no co, .slice r nr cr] w fun e w' => RcPost w n V C no Os nr J I e w' := by
  go_enter Try.func12, Try.ntmps12
  go_wp2_with fail
  refine (within_is _ _ _ _).mono ?_
  rintro e w1 ⟨rfl, rfl⟩
  cases h0 : inB 0 60 C
  · have HO : Hid (rcB n V C no Os nr J I = false) := by show _ = _; unfold rcB; rw [h0]; rfl
    go_wp2
    exact bodyPost_ret (v := .tuple #[.slice none 0 0, .bool false]) (by simp [results, Try.results12, go_sem]) rfl (rc_no HO.out (Below.refl _ _))
  obtain ⟨c0, c1⟩ := inB_yes h0
  obtain ⟨a, rfl⟩ : ∃ a : Nat, C = (a : Int) := ⟨C.toNat, by omega⟩
  by_cases n1 : 300 < nr
  · have b1 : (300 : Int) < (nr : Int) := by omega
    have HO : Hid (rcB n V a no Os nr J I = false) := by show _ = _; unfold rcB; rw [decide_eq_false (by omega : ¬ nr ≤ 300)]; simp
    go_wp2
    exact bodyPost_ret (v := .tuple #[.slice none 0 0, .bool false]) (by simp [results, Try.results12, go_sem]) rfl (rc_no HO.out (Below.refl _ _))
  have b1 : decide ((300 : Int) < (nr : Int)) = false := decide_eq_false (by omega)
  by_cases n2 : 60 < no
  · have b2 : (60 : Int) < (no : Int) := by omega
    have HO : Hid (rcB n V a no Os nr J I = false) := by show _ = _; unfold rcB; rw [decide_eq_false (by omega : ¬ no ≤ 60)]; simp
    go_wp2
    exact bodyPost_ret (v := .tuple #[.slice none 0 0, .bool false]) (by simp [results, Try.results12, go_sem]) rfl (rc_no HO.out (Below.refl _ _))
  have b2 : decide ((60 : Int) < (no : Int)) = false := decide_eq_false (by omega)
  go_wp2_with fail
  refine (allWithin_any t no co Os _ _ _ hno HS).mono ?_
  rintro e w1 ⟨rfl, rfl⟩
  cases h1 : allInB 0 ((a : Int) - 1) Os no
  · have HO : Hid (rcB n V a no Os nr J I = false) := by show _ = _; unfold rcB; rw [h1]; simp
    go_wp2
    exact bodyPost_ret (v := .tuple #[.slice none 0 0, .bool false]) (by simp [results, Try.results12, go_sem]) rfl (rc_no HO.out (Below.refl _ _))
  have HF : Hid (∀ q : Bool, rcT n V a J I nr = q → rcB n V a no Os nr J I = q) := fun q e => by unfold rcB; rw [h0, h1, decide_eq_true (by omega : nr ≤ 300), decide_eq_true (by omega : no ≤ 60), Int.toNat_natCast, e]; simp
  have hO := allIn_yes h1.symm
  have HO2 : Hid (∀ j, j < no → 0 ≤ Os j ∧ Os j ≤ (a : Int) - 1) := hO
  have hnr2 : (nr : Int) ≤ 300 := by omega
  have hno2 : (no : Int) ≤ 60 := by omega
  have ha : (a : Int) ≤ 1048576 := by omega
  have hmk := make_i64 a (by omega)
  have hml := make_ll nr (by omega)
  have sto := store_slT
  have HJ : Hid (∀ i, i < nr → (J i : Int) ≤ 1048576) := hJ
  clear h0 h1 hO n1 n2 hJ
  go_upto_region 3 with fail
  go_cut [10, 11] (fun v u wx => ∃ bn bs, v = .slice (some ⟨bn, 0, none⟩) a a ∧ u = .slice (some ⟨bs, 0, none⟩) nr nr ∧ LT (fun q => w1.heap.size ≤ q) bs wx nr 0 (fun _ => no) (rcU n V Os I) ∧ NowAt bs wx (some ⟨bn, 0, none⟩) a (rcN n V I 0) ∧ Below w1.heap.size w1 wx)
  case first =>
    first | go_region_with (fail) | fail
    all_goals
      go_wp2_with fail
      go_meet
      refine ⟨_, _, rfl, rfl, LT.start (w := w1) ?_ ?_ ?_ ?_, ?_, ?_⟩
      · first | exact Nat.le_refl _ | exact Nat.le_succ _
      · first | (simp; done) | (simp; omega)
      · intro o; simp [go_sem]
      · intro i hi; have hm := made_sl hi; simpa [go_sem] using hm
      · exact fun j hj => ⟨_, rfl, by omega, by first | (simp; done) | (simp; omega), by have hm := made_int hj; simpa [go_sem, rcN] using hm⟩
      · exact (by repeat (first | with_reducible exact Below.refl _ _ | with_reducible refine Below.setCell ?_ (by first | omega | (simp; done) | (simp; omega)) _ | with_reducible refine bDrewN ?_ _ | with_reducible refine Below.drew ?_ | with_reducible refine Below.alloc ?_ (by first | omega | (simp; done) | (simp; omega)) _))
  obtain ⟨bn, bs, rfl, rfl, hL, hN, hB⟩ := hcut
  rename World => w2
  go_wp2_with fail
  go_loopw [10, 43] (fun v i wr => ∃ (k : Nat) (sN : Option Addr) (cN : Nat), k ≤ nr ∧ i = .int .i64 k ∧ v = .slice sN a cN ∧ Hid (rcT n V a J I k = true) ∧ NowAt bs wr sN a (rcN n V I k) ∧ LT (fun q => w1.heap.size ≤ q) bs wr nr k (fun _ => no) (rcU n V Os I) ∧ Below w1.heap.size w1 wr) (fun _ i _ => nr - (intOf i).toNat)
  case atStart => exact ⟨0, _, _, Nat.zero_le _, rfl, rfl, rfl, hN, hL, hB⟩
  case round =>
    clear hN hL hB
    obtain ⟨k, sN, cN, hk, rfl, rfl, HT, hN, hL, hB⟩ := hrel
    have zW := hB.size
    by_cases h1 : k < nr
    · obtain ⟨b, o, ai, ci, rfl, hb, hc, hr⟩ := HI.out k h1
      have d0 := (hB.cell (p := ⟨b, o + k, none⟩) hb).trans hc
      have HIk : Hid (RowI wr ai (J k) (I k)) := hr.below hB
      have kJ := HJ.out k h1
      have k1 : (k : Int) < (nr : Int) := by omega
      have HL : Hid (LT (fun q => w1.heap.size ≤ q) bs wr nr k (fun _ => no) (rcU n V Os I)) := hL
      have HN : Hid (NowAt bs wr sN a (rcN n V I k)) := hN
      have zb : bs < wr.heap.size := hL.2.1
      have e0 := hL.2.2.2.1 k (Nat.le_refl _) h1
      have f0 := hL.2.2.1 k
      obtain ⟨m, hm⟩ : ∃ m, J k = m := ⟨_, rfl⟩
      rw [hm] at d0 HIk kJ
      have HM : Hid (J k = m) := hm
      clear hm hr hc hb hL hN
      cases q : exB n V a (rcN n V I k) m (I k)
      · have HO : Hid (rcB n V a no Os nr J I = false) := HF.out _ (rcT_no (show k + 1 ≤ nr by omega) (by simp [rcT, HM.out, q]))
        go_wp2_with fail
        refine (implExec_any s n c V sN a cN (rcN n V I k) ai m ci (I k) _ hn ha kJ (HR.out.below hB) HN.out.row HIk).mono ?_
        intro e w3 hx
        obtain ⟨s', c', rfl, h3⟩ := exec_no hx q
        have B3 : Below w1.heap.size w1 w3 := hB.trans (h3.mono zW)
        clear hx h3
        go_wp2
        exact bodyPost_ret (v := .tuple #[.slice none 0 0, .bool false]) (by simp [results, Try.results12, go_sem]) rfl (rc_no HO.out B3)
      · go_wp2_with fail
        refine (implExec_any s n c V sN a cN (rcN n V I k) ai m ci (I k) _ hn ha kJ (HR.out.below hB) HN.out.row HIk).mono ?_
        intro e w3 hx
        obtain ⟨s', c', rfl, O3, h3⟩ := exec_yes hx q
        have B3 : Below w1.heap.size w1 w3 := hB.trans (h3.mono zW)
        have HO3 : Hid (OwnI wr.heap.size w3 s' a (exK V (rcN n V I k) (I k) n).N) := O3
        have HL3 : Hid (LT (fun q => w1.heap.size ≤ q) bs w3 nr k (fun _ => no) (rcU n V Os I)) := HL.out.below h3
        have HT3 : Hid (rcT n V a J I (k + 1) = true) := by show _ = _; simp [rcT, HT.out, HM.out, q]
        have z3 := h3.size
        replace e0 := (h3.cell (p := ⟨bs, k, none⟩) zb).trans e0
        replace f0 := (h3.frozen (p := ⟨bs, k, none⟩) zb).trans f0
        clear hx O3 h3 d0
        go_wp2_with fail
        refine (valuesAt_any s' a c' _ t no co Os _ ha hno HO2.out HO3.out.row (HS.out.below B3)).mono ?_
        rintro e w4 ⟨rfl, O4, h4⟩
        have HO4 : Hid (OwnI w3.heap.size w4 (some ⟨w3.heap.size, 0, none⟩) no (fun j => (exK V (rcN n V I k) (I k) n).N (Os j).toNat)) := O4
        have H4 : Hid (Below w3.heap.size w3 w4) := h4
        have zb3 : bs < w3.heap.size := by omega
        replace e0 := (h4.cell (p := ⟨bs, k, none⟩) zb3).trans e0
        replace f0 := (h4.frozen (p := ⟨bs, k, none⟩) zb3).trans f0
        have B4 : Below w1.heap.size w1 w4 := B3.trans (h4.mono (by omega))
        have z4 := h4.size
        have w1b : w1.heap.size ≤ bs := HL3.out.1
        clear O4 h4
        go_wp2
        go_roundw
        case rel => exact ⟨k + 1, s', c', by omega, by go_num, rfl, HT3.out, ((NowAt.of HO3.out zb).below H4.out).set, HL3.out.on h1 HO4.out H4.out (fun q hq => by show w1.heap.size ≤ q; omega), (by repeat (first | with_reducible exact Below.refl _ _ | with_reducible exact B4 | with_reducible refine Below.setCell ?_ (by first | omega | (simp; done) | (simp; omega)) _ | with_reducible refine bDrewN ?_ _ | with_reducible refine Below.drew ?_ | with_reducible refine Below.alloc ?_ (by first | omega | (simp; done) | (simp; omega)) _))⟩
        case measure => first | (simp [intOf]; done) | (simp [intOf]; omega)
    · obtain rfl : k = nr := by omega
      have HO : Hid (rcB n V a no Os k J I = true) := HF.out _ HT.out
      have HD : Hid (OwnLL (fun q => w1.heap.size ≤ q ∧ q < wr.heap.size) wr (some ⟨bs, 0, none⟩) k (fun _ => no) (rcU n V Os I)) := hL.done.bound
      clear hL hN
      go_wp2
      exact bodyPost_ret (v := .tuple #[.slice (some ⟨bs, 0, none⟩) k k, .bool true]) (by simp [results, Try.results12, go_sem]) rfl (rc_yes HO.out HD.out hB)
end Go.Proofs.Ytmjijklmenikaaa
