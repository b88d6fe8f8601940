/-
What is proved: what several instruments say together, as the specification tells it.
-/
import Derived.Test.YtffbpidldnbgaaaValS
namespace Go.Proofs.Ytffbpidldnbgaaa
set_option maxRecDepth 40000
open Go.RowKit
set_option linter.unusedVariables false
set_option linter.unusedSimpArgs false

set_option maxRecDepth 20000 in
set_option maxHeartbeats 8000000 in
theorem specVal_any (s : Option Addr) (n c : Nat) (V : Nat → Option Nat) (z : Nat) (a : Option Nat) (hz : Fl z a) (w : World) (hn : (n : Int) ≤ 1048576) (HR : Hid (RowF w s n V)) :
    Calls Try.prog 8 #[.slice s n c, .float .f64 z] w fun e w' => ∃ s' c' r, e = .returned (.tuple #[.float .f64 r, .slice s' (vaM n z) c', .bool (vaG V a n z)]) ∧ Fl r (vaQ V a n z) ∧ OwnB w.heap.size w' s' (vaM n z) (flgB V a n) ∧ Below w.heap.size w w' := by
  have cv := conv_run
  by_cases n0 : n = 0
  · have n1 : (n : Int) < 1 := by omega
    have HV : Hid (vaM n z = 0 ∧ vaG V a n z = false ∧ vaQ V a n z = none) := va_no V a (show vaB n z = false by unfold vaB; simp [n0])
    clear n0
    go_enter Try.func8, Try.ntmps8
    go_wp2_with fail
    refine (l1None_any _).mono ?_
    rintro e w1 ⟨r, nr, rfl, hr, rfl⟩
    go_wp2
    exact bodyPost_ret (v := .tuple #[.float .f64 r, .slice (some ⟨w.heap.size, 0, none⟩) 0 0, .bool false]) (by simp [results, Try.results8, go_sem]) rfl ⟨_, 0, r, by rw [HV.out.1, HV.out.2.1], by rw [HV.out.2.2]; exact hr, by rw [HV.out.1]; exact fun j hj => by omega, (by repeat (first | with_reducible exact Below.refl _ _ | with_reducible refine Below.setCell ?_ (by first | omega | (simp; done) | (simp; omega)) _ | with_reducible refine bDrewN ?_ _ | with_reducible refine Below.drew ?_ | with_reducible refine Below.alloc ?_ (by first | omega | (simp; done) | (simp; omega)) _))⟩
  have n3 : decide ((n : Int) < 1) = false := decide_eq_false (by omega)
  by_cases n16 : 16 < n
  · have n1 : (16 : Int) < (n : Int) := by omega
    have HV : Hid (vaM n z = 0 ∧ vaG V a n z = false ∧ vaQ V a n z = none) := va_no V a (show vaB n z = false by unfold vaB; rw [decide_eq_false (by omega)]; rfl)
    go_enter Try.func8, Try.ntmps8
    go_wp2_with fail
    refine (l1None_any _).mono ?_
    rintro e w1 ⟨r, nr, rfl, hr, rfl⟩
    go_wp2
    exact bodyPost_ret (v := .tuple #[.float .f64 r, .slice (some ⟨w.heap.size, 0, none⟩) 0 0, .bool false]) (by simp [results, Try.results8, go_sem]) rfl ⟨_, 0, r, by rw [HV.out.1, HV.out.2.1], by rw [HV.out.2.2]; exact hr, by rw [HV.out.1]; exact fun j hj => by omega, (by repeat (first | with_reducible exact Below.refl _ _ | with_reducible refine Below.setCell ?_ (by first | omega | (simp; done) | (simp; omega)) _ | with_reducible refine bDrewN ?_ _ | with_reducible refine Below.drew ?_ | with_reducible refine Below.alloc ?_ (by first | omega | (simp; done) | (simp; omega)) _))⟩
  have n1 : (n : Int) ≤ 16 := by omega
  have n4 : decide ((16 : Int) < (n : Int)) = false := decide_eq_false (by omega)
  have nn : decide (1 ≤ n ∧ n ≤ 16) = true := decide_eq_true (by omega)
  go_enter Try.func8, Try.ntmps8
  go_wp2_with fail
  refine (specKnown_any z _).mono ?_
  rintro e w1 ⟨rfl, d1, rfl⟩
  cases kz : knownB z
  · have HV : Hid (vaM n z = 0 ∧ vaG V a n z = false ∧ vaQ V a n z = none) := va_no V a (show vaB n z = false by unfold vaB; simp [kz])
    go_wp2_with fail
    refine (l1None_any _).mono ?_
    rintro e w1 ⟨r, nr, rfl, hr, rfl⟩
    go_wp2
    exact bodyPost_ret (v := .tuple #[.float .f64 r, .slice (some ⟨w.heap.size, 0, none⟩) 0 0, .bool false]) (by simp [results, Try.results8, go_sem]) rfl ⟨_, 0, r, by rw [HV.out.1, HV.out.2.1], by rw [HV.out.2.2]; exact hr, by rw [HV.out.1]; exact fun j hj => by omega, (by repeat (first | with_reducible exact Below.refl _ _ | with_reducible refine Below.setCell ?_ (by first | omega | (simp; done) | (simp; omega)) _ | with_reducible refine bDrewN ?_ _ | with_reducible refine Below.drew ?_ | with_reducible refine Below.alloc ?_ (by first | omega | (simp; done) | (simp; omega)) _))⟩
  cases kl : (FloatKind.f64.format.order z 0 == some .lt)
  case true =>
    have HV : Hid (vaM n z = 0 ∧ vaG V a n z = false ∧ vaQ V a n z = none) := va_no V a (show vaB n z = false by unfold vaB; simp [kl])
    go_wp2_with fail
    refine (l1None_any _).mono ?_
    rintro e w1 ⟨r, nr, rfl, hr, rfl⟩
    go_wp2
    exact bodyPost_ret (v := .tuple #[.float .f64 r, .slice (some ⟨w.heap.size, 0, none⟩) 0 0, .bool false]) (by simp [results, Try.results8, go_sem]) rfl ⟨_, 0, r, by rw [HV.out.1, HV.out.2.1], by rw [HV.out.2.2]; exact hr, by rw [HV.out.1]; exact fun j hj => by omega, (by repeat (first | with_reducible exact Below.refl _ _ | with_reducible refine Below.setCell ?_ (by first | omega | (simp; done) | (simp; omega)) _ | with_reducible refine bDrewN ?_ _ | with_reducible refine Below.drew ?_ | with_reducible refine Below.alloc ?_ (by first | omega | (simp; done) | (simp; omega)) _))⟩
  have HY : Hid (vaM n z = n ∧ vaG V a n z = goodB V a n ∧ vaQ V a n z = (if goodB V a n = true then opO .quo (sumL (thL V (flgB V a n) n)) (some (itf (frN V a n (bstN V a n n)))) else none)) := va_yes V a (show vaB n z = true by unfold vaB; rw [nn, kz, kl]; rfl)
  obtain ⟨wd, hwd⟩ : ∃ wd, wd = (w.alloc (.cells #[] 4)).drewN d1 := ⟨_, rfl⟩
  have HM0 : Hid (MadeB w.heap.size w wd (.slice (some ⟨w.heap.size, 0, none⟩) 0 0) 0 (flgB V a n)) := by rw [hwd]; exact (madeB_lit w _ (Nat.le_refl _)).below (by repeat (first | with_reducible exact Below.refl _ _ | with_reducible refine Below.setCell ?_ (by first | omega | (simp; done) | (simp; omega)) _ | with_reducible refine bDrewN ?_ _ | with_reducible refine Below.drew ?_ | with_reducible refine Below.alloc ?_ (by first | omega | (simp; done) | (simp; omega)) _)) (by simp)
  have hwd' := hwd
  (try simp only [World.drewN] at hwd')
  rw [← hwd]
  have BD : Below w.heap.size w wd := HM0.out.2
  have sd := BD.size
  clear hwd hwd' kz nn
  go_wp2_with fail
  go_loopw [8, 9] (fun b i wr => ∃ k : Nat, k ≤ n ∧ i = .int .i64 k ∧ b = .int .i64 (bstN V a n k : Nat) ∧ Below wd.heap.size wd wr) (fun _ i _ => n - (intOf i).toNat)
  case atStart => exact ⟨0, Nat.zero_le _, rfl, rfl, Below.refl _ _⟩
  case round =>
    obtain ⟨k, hk, rfl, rfl, hB⟩ := hrel
    have HB : Hid (Below wd.heap.size wd wr) := hB
    have BW : Below w.heap.size w wr := BD.trans (hB.mono sd)
    have HRw : Hid (RowF wr s n V) := HR.out.below BW
    have sw := BW.size
    by_cases h1 : k < n
    · have bl := bst_lt V a n (by omega) k hk
      have k1 : (k : Int) < (n : Int) := by omega
      obtain ⟨B, hBB⟩ : ∃ B, bstN V a n k = B := ⟨_, rfl⟩
      rw [hBB] at bl ⊢
      go_wp2_with fail
      refine (l12Friends_any s n c k V z a hz _ (by omega) h1 HRw).mono ?_
      rintro e w2 ⟨rfl, h2⟩
      go_wp2_with fail
      refine (l12Friends_any s n c B V z a hz _ (by omega) bl (HRw.out.below h2)).mono ?_
      rintro e w3 ⟨rfl, h3⟩
      have B3 : Below wd.heap.size wd w3 := HB.out.trans ((h2.trans (h3.mono h2.size)).mono HB.out.size)
      have f1 := cnt_le (nbB V a k) n
      have f2 := cnt_le (nbB V a B) n
      clear h2 h3 hB BW
      by_cases q : frN V a n B < frN V a n k
      · have q1 : ((frN V a n B : Nat) : Int) < (frN V a n k : Nat) := by omega
        have E : Hid (bstN V a n (k + 1) = k) := bst_yes (by rw [hBB]; exact q)
        go_wp2
        go_roundw
        case rel => exact ⟨k + 1, by omega, by go_num, by rw [E.out], B3⟩
        case measure => simp [intOf]; omega
      · have q1 : ((frN V a n k : Nat) : Int) ≤ (frN V a n B : Nat) := by omega
        have E : Hid (bstN V a n (k + 1) = B) := (bst_no (by rw [hBB]; exact q)).trans hBB
        go_wp2
        go_roundw
        case rel => exact ⟨k + 1, by omega, by go_num, by rw [E.out], B3⟩
        case measure => simp [intOf]; omega
    have e0 : n = k := by omega
    subst e0
    have bl := bst_lt V a n (by omega) n hk
    obtain ⟨b, hb0⟩ : ∃ b, bstN V a n n = b := ⟨_, rfl⟩
    rw [hb0] at bl ⊢
    have hb : b < n := bl
    go_wp2_with fail
    refine (l12Friends_any s n c b V z a hz _ (by omega) bl HRw).mono ?_
    rintro e w2 ⟨rfl, h2⟩
    have HMB : Hid (MadeB w.heap.size w w2 (.slice (some ⟨w.heap.size, 0, none⟩) 0 0) 0 (flgB V a n)) := HM0.out.below (HB.out.trans (h2.mono HB.out.size)) sd
    have f1 := cnt_le (nbB V a b) n
    obtain ⟨M, hM⟩ : ∃ M, frN V a n b = M := ⟨_, rfl⟩
    have fl2 : M ≤ n := by rw [← hM]; exact f1
    have HY2 := HY.out
    rw [hb0, hM] at HY2
    rw [hM]
    clear h2 hB BW HRw sw HB HM0 BD sd f1 kl
    rename World => w8
    by_cases hg : n < 2 * M
    · have g1 : (n : Int) < 2 * (M : Int) := by omega
      have GB : goodB V a n = true := by unfold goodB; rw [hb0, hM]; exact decide_eq_true hg
      have EF : Hid (nbB V a b = flgB V a n) := show nbB V a b = flgB V a n by funext j; unfold flgB; rw [GB, hb0]; rfl
      have HP : Hid (vaM n z = n ∧ vaG V a n z = true ∧ vaQ V a n z = opO .quo (sumL (thL V (flgB V a n) n)) (some (itf (M : Int)))) := by
        obtain ⟨y1, y2, y3⟩ := HY2
        rw [GB] at y3 y2
        exact ⟨y1, y2, y3⟩
      clear GB HY HY2 hM hb0 hg
      go_wp2_with fail
      go_loopw [7, 12, 13] (fun v q i wr => ∃ (k x : Nat), k ≤ n ∧ i = .int .i64 k ∧ q = .float .f64 x ∧ Fl x (sumL (thL V (flgB V a n) k)) ∧ MadeB w.heap.size w wr v k (flgB V a n)) (fun _ _ i _ => n - (intOf i).toNat)
      case atStart => exact ⟨0, 0, Nat.zero_le _, rfl, rfl, fl_zero, HMB.out⟩
      case round =>
        obtain ⟨k, x, hk, rfl, rfl, hx, hM⟩ := hrel
        have HM : Hid (MadeB w.heap.size w wr u7 k (flgB V a n)) := hM
        have HO : Hid (wr.ownsRow w.heap.size 4 1 u7 k (valB (flgB V a n) k)) := hM.1
        have hB : Below w.heap.size w wr := hM.2
        have zB := hB.size
        clear hM
        by_cases hlt : k < n
        · obtain ⟨g, o, y, rfl, hg, c0, hy⟩ := HR.out k hlt
          have d0 : wr.cell? ⟨g, o + k, none⟩ = some (.float .f64 y) := (hB.cell (p := ⟨g, o + k, none⟩) hg).trans c0
          obtain ⟨g', o', yb, e', hg', cb, hyb⟩ := HR.out b hb
          cases e'
          have db : wr.cell? ⟨g, o + b, none⟩ = some (.float .f64 yb) := (hB.cell (p := ⟨g, o + b, none⟩) hg).trans cb
          have NR : Hid (∀ w, Calls Try.prog 27 #[.float .f64 yb, .float .f64 y, .float .f64 z] w fun e w' => e = .returned (.bool (nbB V a b k)) ∧ Below w.heap.size w w') := fun w => l12Near_any hyb hy hz w
          have eb : flgB V a n k = nbB V a b k := by rw [← EF.out]
          have EB : Hid (flgB V a n k = nbB V a b k) := eb
          clear eb
          clear cb hg'
          have zg : g < wr.heap.size := Nat.lt_of_lt_of_le hg hB.size
          have k1 : (k : Int) < (n : Int) := by omega
          have hg0 := hg
          clear c0
          go_wp2_with fail
          refine (specKnown_any y _).mono ?_
          rintro e w6 ⟨rfl, n6, rfl⟩
          cases hf : nbB V a b k
          · have EV : Hid (flgB V a n k = false) := EB.out.trans hf
            rw [hf] at NR
            go_wp2_with fail
            go_region_held3 (fun w' => w'.cell? ⟨g, o + b, none⟩ = some (.float .f64 yb) ∧ w'.cell? ⟨g, o + k, none⟩ = some (.float .f64 y)) (first | (refine keepF2 db d0 zg zg ?_; exact (by repeat (first | with_reducible exact Below.refl _ _ | with_reducible exact B3 | with_reducible refine Below.setCell ?_ (by first | omega | (simp; done) | (simp; omega)) _ | with_reducible refine bDrewN ?_ _ | with_reducible refine Below.drew ?_ | with_reducible refine Below.alloc ?_ (by first | omega | (simp; done) | (simp; omega)) _)))) (first
              | (go_at_call 27; refine (NR.out _).mono ?_; rintro r w3 ⟨rfl, h3⟩; have B3 : Below wr.heap.size wr w3 := Below.trans (by repeat (first | with_reducible exact Below.refl _ _ | with_reducible refine Below.setCell ?_ (by first | omega | (simp; done) | (simp; omega)) _ | with_reducible refine bDrewN ?_ _ | with_reducible refine Below.drew ?_ | with_reducible refine Below.alloc ?_ (by first | omega | (simp; done) | (simp; omega)) _)) (h3.mono (by first | omega | (simp; done) | (simp; omega)))))
            all_goals
              have f0 : w3.cell? ⟨g, o + k, none⟩ = some (.float .f64 y) := (B3.cell (p := ⟨g, o + k, none⟩) zg).trans d0
              have z3 : w.heap.size ≤ w3.heap.size := Nat.le_trans zB B3.size
              have E : Hid (thL V (flgB V a n) (k + 1) = thL V (flgB V a n) k) := th_no EV.out
              go_wp2_with (at_builtin; refine list_bool w.heap.size u7 k (valB (flgB V a n) k) (.tmp 89) (.tmp 91) (by rfl) (by rfl) (by rfl) (by rfl) (ownB_same HO.out B3) (by omega) z3 ?_; intro g' cap' w7 hown7 hgrow7 hlt7)
              go_roundw
              case rel => exact ⟨k + 1, x, by omega, by go_num, rfl, by rw [E.out]; exact hx, madeB_on HM.out B3 zB (by rw [EV.out]; exact hown7) hgrow7⟩
              case measure => simp [intOf]; omega
          · have EV : Hid (flgB V a n k = true) := EB.out.trans hf
            rw [hf] at NR
            go_wp2_with fail
            go_region_held3 (fun w' => w'.cell? ⟨g, o + b, none⟩ = some (.float .f64 yb) ∧ w'.cell? ⟨g, o + k, none⟩ = some (.float .f64 y)) (first | (refine keepF2 db d0 zg zg ?_; exact (by repeat (first | with_reducible exact Below.refl _ _ | with_reducible exact B3 | with_reducible refine Below.setCell ?_ (by first | omega | (simp; done) | (simp; omega)) _ | with_reducible refine bDrewN ?_ _ | with_reducible refine Below.drew ?_ | with_reducible refine Below.alloc ?_ (by first | omega | (simp; done) | (simp; omega)) _)))) (first
              | (go_at_call 27; refine (NR.out _).mono ?_; rintro r w3 ⟨rfl, h3⟩; have B3 : Below wr.heap.size wr w3 := Below.trans (by repeat (first | with_reducible exact Below.refl _ _ | with_reducible refine Below.setCell ?_ (by first | omega | (simp; done) | (simp; omega)) _ | with_reducible refine bDrewN ?_ _ | with_reducible refine Below.drew ?_ | with_reducible refine Below.alloc ?_ (by first | omega | (simp; done) | (simp; omega)) _)) (h3.mono (by first | omega | (simp; done) | (simp; omega)))))
            all_goals
              have f0 : w3.cell? ⟨g, o + k, none⟩ = some (.float .f64 y) := (B3.cell (p := ⟨g, o + k, none⟩) zg).trans d0
              have z3 : w.heap.size ≤ w3.heap.size := Nat.le_trans zB B3.size
              have ee : sumL (thL V (flgB V a n) (k + 1)) = opO .add (sumL (thL V (flgB V a n) k)) (V k) := by rw [th_yes EV.out, sum_snoc]
              have E : Hid (sumL (thL V (flgB V a n) (k + 1)) = opO .add (sumL (thL V (flgB V a n) k)) (V k)) := ee
              clear ee
              go_wp2_with (first
                | (refine list_fop .add rfl _ _ _ _ (by rfl) (by rfl) (by rfl) (by rfl) hx hy ?_; intro x1 n1' f1)
                | (at_builtin; refine list_bool w.heap.size u7 k (valB (flgB V a n) k) (.tmp 89) (.tmp 91) (by rfl) (by rfl) (by rfl) (by rfl) (ownB_same HO.out (show Below wr.heap.size wr (w3.drewN n1') from (by repeat (first | with_reducible exact Below.refl _ _ | with_reducible exact B3 | with_reducible refine Below.setCell ?_ (by first | omega | (simp; done) | (simp; omega)) _ | with_reducible refine bDrewN ?_ _ | with_reducible refine Below.drew ?_ | with_reducible refine Below.alloc ?_ (by first | omega | (simp; done) | (simp; omega)) _)))) (by omega) (by first | exact z3 | (simp; omega)) ?_; intro g' cap' w7 hown7 hgrow7 hlt7)
                | (at_builtin; refine list_bool w.heap.size u7 k (valB (flgB V a n) k) (.tmp 89) (.tmp 91) (by rfl) (by rfl) (by rfl) (by rfl) (ownB_same HO.out (show Below wr.heap.size wr (wr.drewN (n6 + n1')) from (by repeat (first | with_reducible exact Below.refl _ _ | with_reducible refine Below.setCell ?_ (by first | omega | (simp; done) | (simp; omega)) _ | with_reducible refine bDrewN ?_ _ | with_reducible refine Below.drew ?_ | with_reducible refine Below.alloc ?_ (by first | omega | (simp; done) | (simp; omega)) _)))) (by omega) (by first | exact z3 | (simp; omega)) ?_; intro g' cap' w7 hown7 hgrow7 hlt7))
              go_roundw
              case rel => exact ⟨k + 1, x1, by omega, by go_num, rfl, by rw [E.out]; exact f1, madeB_on HM.out (by first | exact (show Below wr.heap.size wr (w3.drewN n1') from (by repeat (first | with_reducible exact Below.refl _ _ | with_reducible exact B3 | with_reducible refine Below.setCell ?_ (by first | omega | (simp; done) | (simp; omega)) _ | with_reducible refine bDrewN ?_ _ | with_reducible refine Below.drew ?_ | with_reducible refine Below.alloc ?_ (by first | omega | (simp; done) | (simp; omega)) _))) | exact (show Below wr.heap.size wr (wr.drewN (n6 + n1')) from (by repeat (first | with_reducible exact Below.refl _ _ | with_reducible refine Below.setCell ?_ (by first | omega | (simp; done) | (simp; omega)) _ | with_reducible refine bDrewN ?_ _ | with_reducible refine Below.drew ?_ | with_reducible refine Below.alloc ?_ (by first | omega | (simp; done) | (simp; omega)) _)))) zB (by rw [EV.out]; exact hown7) hgrow7⟩
              case measure => simp [intOf]; omega
        · have e0 : n = k := by omega
          subst e0
          obtain ⟨s', cap, rfl, ho⟩ := madeB_own HM.out
          have HS : Hid (OwnB w.heap.size wr s' n (flgB V a n)) := ho
          clear ho HO HM
          have fM := itf_fl (M : Int)
          go_wp2_with (first | (refine list_fop .quo rfl _ _ _ _ (by rfl) (by rfl) (by rfl) (by rfl) hx fM ?_; intro x1 n1' f1))
          exact bodyPost_ret (v := .tuple #[.float .f64 x1, .slice s' n cap, .bool true]) (by simp [results, Try.results8, go_sem]) rfl ⟨s', cap, x1, by rw [HP.out.1, HP.out.2.1], by rw [HP.out.2.2]; exact f1, by rw [HP.out.1]; exact HS.out.below (by repeat (first | with_reducible exact Below.refl _ _ | with_reducible refine Below.setCell ?_ (by first | omega | (simp; done) | (simp; omega)) _ | with_reducible refine bDrewN ?_ _ | with_reducible refine Below.drew ?_ | with_reducible refine Below.alloc ?_ (by first | omega | (simp; done) | (simp; omega)) _)), (by repeat (first | with_reducible exact Below.refl _ _ | with_reducible exact hB | with_reducible refine Below.setCell ?_ (by first | omega | (simp; done) | (simp; omega)) _ | with_reducible refine bDrewN ?_ _ | with_reducible refine Below.drew ?_ | with_reducible refine Below.alloc ?_ (by first | omega | (simp; done) | (simp; omega)) _))⟩
    · have g1 : 2 * (M : Int) ≤ (n : Int) := by omega
      have g2 : decide ((n : Int) < 2 * (M : Int)) = false := decide_eq_false (by omega)
      have GB : goodB V a n = false := by unfold goodB; rw [hb0, hM]; exact decide_eq_false hg
      have EF : Hid ((fun k => knP (V k)) = flgB V a n) := show _ = flgB V a n by funext j; unfold flgB; rw [GB]; rfl
      have HP : Hid (vaM n z = n ∧ vaG V a n z = false ∧ vaQ V a n z = none) := by
        obtain ⟨y1, y2, y3⟩ := HY2
        rw [GB] at y3 y2
        exact ⟨y1, y2, y3⟩
      clear GB HY HY2 hM hb0 hg
      go_wp2_with fail
      go_loopw [7, 12, 13] (fun v q i wr => ∃ (k x : Nat), k ≤ n ∧ i = .int .i64 k ∧ q = .float .f64 x ∧ Fl x (sumL (thL V (flgB V a n) k)) ∧ MadeB w.heap.size w wr v k (flgB V a n)) (fun _ _ i _ => n - (intOf i).toNat)
      case atStart => exact ⟨0, 0, Nat.zero_le _, rfl, rfl, fl_zero, HMB.out⟩
      case round =>
        obtain ⟨k, x, hk, rfl, rfl, hx, hM⟩ := hrel
        have HM : Hid (MadeB w.heap.size w wr u7 k (flgB V a n)) := hM
        have HO : Hid (wr.ownsRow w.heap.size 4 1 u7 k (valB (flgB V a n) k)) := hM.1
        have hB : Below w.heap.size w wr := hM.2
        have zB := hB.size
        clear hM
        by_cases hlt : k < n
        · obtain ⟨g, o, y, rfl, hg, c0, hy⟩ := HR.out k hlt
          have d0 : wr.cell? ⟨g, o + k, none⟩ = some (.float .f64 y) := (hB.cell (p := ⟨g, o + k, none⟩) hg).trans c0
          have eb : flgB V a n k = knownB y := by rw [← EF.out]; exact (knownP_fl hy).symm
          have EB : Hid (flgB V a n k = knownB y) := eb
          clear eb
          have zg : g < wr.heap.size := Nat.lt_of_lt_of_le hg hB.size
          have k1 : (k : Int) < (n : Int) := by omega
          have hg0 := hg
          clear c0
          go_wp2_with fail
          refine (specKnown_any y _).mono ?_
          rintro e w6 ⟨rfl, n6, rfl⟩
          cases hf : knownB y
          · have EV : Hid (flgB V a n k = false) := EB.out.trans hf
            have f0 : (wr.drewN n6).cell? ⟨g, o + k, none⟩ = some (.float .f64 y) := d0
            have E : Hid (thL V (flgB V a n) (k + 1) = thL V (flgB V a n) k) := th_no EV.out
            go_wp2_with (at_builtin; refine list_bool w.heap.size u7 k (valB (flgB V a n) k) (.tmp 89) (.tmp 91) (by rfl) (by rfl) (by rfl) (by rfl) (ownB_same HO.out (show Below wr.heap.size wr (wr.drewN n6) from (by repeat (first | with_reducible exact Below.refl _ _ | with_reducible refine Below.setCell ?_ (by first | omega | (simp; done) | (simp; omega)) _ | with_reducible refine bDrewN ?_ _ | with_reducible refine Below.drew ?_ | with_reducible refine Below.alloc ?_ (by first | omega | (simp; done) | (simp; omega)) _)))) (by omega) zB ?_; intro g' cap' w7 hown7 hgrow7 hlt7)
            go_roundw
            case rel => exact ⟨k + 1, x, by omega, by go_num, rfl, by rw [E.out]; exact hx, madeB_on HM.out (show Below wr.heap.size wr (wr.drewN n6) from (by repeat (first | with_reducible exact Below.refl _ _ | with_reducible refine Below.setCell ?_ (by first | omega | (simp; done) | (simp; omega)) _ | with_reducible refine bDrewN ?_ _ | with_reducible refine Below.drew ?_ | with_reducible refine Below.alloc ?_ (by first | omega | (simp; done) | (simp; omega)) _))) zB (by rw [EV.out]; exact hown7) hgrow7⟩
            case measure => simp [intOf]; omega
          · have EV : Hid (flgB V a n k = true) := EB.out.trans hf
            have f0 : (wr.drewN n6).cell? ⟨g, o + k, none⟩ = some (.float .f64 y) := d0
            have ee : sumL (thL V (flgB V a n) (k + 1)) = opO .add (sumL (thL V (flgB V a n) k)) (V k) := by rw [th_yes EV.out, sum_snoc]
            have E : Hid (sumL (thL V (flgB V a n) (k + 1)) = opO .add (sumL (thL V (flgB V a n) k)) (V k)) := ee
            clear ee
            go_wp2_with (first
              | (refine list_fop .add rfl _ _ _ _ (by rfl) (by rfl) (by rfl) (by rfl) hx hy ?_; intro x1 n1' f1)
              | (at_builtin; refine list_bool w.heap.size u7 k (valB (flgB V a n) k) (.tmp 89) (.tmp 91) (by rfl) (by rfl) (by rfl) (by rfl) (ownB_same HO.out (show Below wr.heap.size wr ((wr.drewN n6).drewN n1') from (by repeat (first | with_reducible exact Below.refl _ _ | with_reducible refine Below.setCell ?_ (by first | omega | (simp; done) | (simp; omega)) _ | with_reducible refine bDrewN ?_ _ | with_reducible refine Below.drew ?_ | with_reducible refine Below.alloc ?_ (by first | omega | (simp; done) | (simp; omega)) _)))) (by omega) (by first | exact zB | (simp; omega)) ?_; intro g' cap' w7 hown7 hgrow7 hlt7)
              | (at_builtin; refine list_bool w.heap.size u7 k (valB (flgB V a n) k) (.tmp 89) (.tmp 91) (by rfl) (by rfl) (by rfl) (by rfl) (ownB_same HO.out (show Below wr.heap.size wr (wr.drewN (n6 + n1')) from (by repeat (first | with_reducible exact Below.refl _ _ | with_reducible refine Below.setCell ?_ (by first | omega | (simp; done) | (simp; omega)) _ | with_reducible refine bDrewN ?_ _ | with_reducible refine Below.drew ?_ | with_reducible refine Below.alloc ?_ (by first | omega | (simp; done) | (simp; omega)) _)))) (by omega) (by first | exact zB | (simp; omega)) ?_; intro g' cap' w7 hown7 hgrow7 hlt7))
            go_roundw
            case rel => exact ⟨k + 1, x1, by omega, by go_num, rfl, by rw [E.out]; exact f1, madeB_on HM.out (by first | exact (show Below wr.heap.size wr ((wr.drewN n6).drewN n1') from (by repeat (first | with_reducible exact Below.refl _ _ | with_reducible refine Below.setCell ?_ (by first | omega | (simp; done) | (simp; omega)) _ | with_reducible refine bDrewN ?_ _ | with_reducible refine Below.drew ?_ | with_reducible refine Below.alloc ?_ (by first | omega | (simp; done) | (simp; omega)) _))) | exact (show Below wr.heap.size wr (wr.drewN (n6 + n1')) from (by repeat (first | with_reducible exact Below.refl _ _ | with_reducible refine Below.setCell ?_ (by first | omega | (simp; done) | (simp; omega)) _ | with_reducible refine bDrewN ?_ _ | with_reducible refine Below.drew ?_ | with_reducible refine Below.alloc ?_ (by first | omega | (simp; done) | (simp; omega)) _)))) zB (by rw [EV.out]; exact hown7) hgrow7⟩
            case measure => simp [intOf]; omega
        · have e0 : n = k := by omega
          subst e0
          obtain ⟨s', cap, rfl, ho⟩ := madeB_own HM.out
          have HS : Hid (OwnB w.heap.size wr s' n (flgB V a n)) := ho
          clear ho HO HM
          go_wp2_with fail
          refine (l1None_any _).mono ?_
          rintro e w9 ⟨r, nr, rfl, hr, rfl⟩
          go_wp2
          exact bodyPost_ret (v := .tuple #[.float .f64 r, .slice s' n cap, .bool false]) (by simp [results, Try.results8, go_sem]) rfl ⟨s', cap, r, by rw [HP.out.1, HP.out.2.1], by rw [HP.out.2.2]; exact hr, by rw [HP.out.1]; exact HS.out.below (by repeat (first | with_reducible exact Below.refl _ _ | with_reducible refine Below.setCell ?_ (by first | omega | (simp; done) | (simp; omega)) _ | with_reducible refine bDrewN ?_ _ | with_reducible refine Below.drew ?_ | with_reducible refine Below.alloc ?_ (by first | omega | (simp; done) | (simp; omega)) _)), (by repeat (first | with_reducible exact Below.refl _ _ | with_reducible exact hB | with_reducible refine Below.setCell ?_ (by first | omega | (simp; done) | (simp; omega)) _ | with_reducible refine bDrewN ?_ _ | with_reducible refine Below.drew ?_ | with_reducible refine Below.alloc ?_ (by first | omega | (simp; done) | (simp; omega)) _))⟩
end Go.Proofs.Ytffbpidldnbgaaa
