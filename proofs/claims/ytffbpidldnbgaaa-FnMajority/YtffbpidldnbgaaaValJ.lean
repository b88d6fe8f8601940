/-
What is proved: the friends of the one that has the most, and what all say together, as the program tells it.
-/
import Derived.Test.YtffbpidldnbgaaaValI
namespace Go.Proofs.Ytffbpidldnbgaaa
set_option maxRecDepth 40000
open Go.RowKit
set_option linter.unusedVariables false
set_option linter.unusedSimpArgs false

/-- The best one's flags so far. -/
def BIv (w wr : World) (v : Value) (x : Option Nat) (n : Nat) (V : Nat → Option Nat) (a : Option Nat) : Prop := (x = none ∧ v = .slice none 0 0) ∨ ∃ i b, x = some i ∧ v = .slice (some ⟨b, 0, none⟩) n n ∧ OwnB w.heap.size wr (some ⟨b, 0, none⟩) n (nbB V a i)
theorem BIv.below {w wr w' : World} {v : Value} {x : Option Nat} {n : Nat} {V : Nat → Option Nat} {a : Option Nat} (h : BIv w wr v x n V a) (hb : Below wr.heap.size wr w') : BIv w w' v x n V a := by
  rcases h with h | ⟨i, b, h1, h2, h3⟩
  · exact .inl h
  · exact .inr ⟨i, b, h1, h2, h3.below hb⟩
theorem bs_no {V : Nat → Option Nat} {a : Option Nat} {n k : Nat} (h : ¬ (knP (V k) = true ∧ frO V a n (bsI V a n k) < frN V a n k)) : bsI V a n (k + 1) = bsI V a n k := by
  show (if _ then _ else _) = _
  rw [if_neg h]
theorem bs_yes {V : Nat → Option Nat} {a : Option Nat} {n k : Nat} (h : knP (V k) = true ∧ frO V a n (bsI V a n k) < frN V a n k) : bsI V a n (k + 1) = some k := by
  show (if _ then _ else _) = _
  rw [if_pos h]
set_option maxRecDepth 20000 in
set_option maxHeartbeats 4000000 in
theorem friendsOfBest_any (s : Option Addr) (n c : Nat) (V : Nat → Option Nat) (z : Nat) (a : Option Nat) (hz : Fl z a) (w : World) (hn : n ≤ 16) (HR : Hid (RowN w s n V)) :
    Calls Try.prog 31 #[.slice s n c, .float .f64 z] w fun e w' => ∃ v, e = .returned v ∧ BIv w w' v (bsI V a n n) n V a ∧ Below w.heap.size w w' := by
  have ty := assert_yes
  have tn := assert_no
  go_enter Try.func31, Try.ntmps31
  go_wp2_with fail
  go_loopw [5, 13] (fun v i wr => ∃ k : Nat, k ≤ n ∧ i = .int .i64 k ∧ BIv w wr v (bsI V a n k) n V a ∧ Below w.heap.size w wr) (fun _ i _ => n - (intOf i).toNat)
  case atStart => exact ⟨0, Nat.zero_le _, rfl, .inl ⟨rfl, rfl⟩, Below.refl _ _⟩
  case round =>
    obtain ⟨k, hk, rfl, hI, hB⟩ := hrel
    have HI : Hid (BIv w wr u5 (bsI V a n k) n V a) := hI
    clear hI
    by_cases h1 : k < n
    · obtain ⟨g, o, x, rfl, hg, c0, hx⟩ := HR.out k h1
      have d0 : wr.cell? ⟨g, o + k, none⟩ = some (insV x) := (hB.cell (p := ⟨g, o + k, none⟩) hg).trans c0
      have k1 : (k : Int) < (n : Int) := by omega
      have HX : Hid (knownB x = knP (V k)) := knownP_fl hx
      have HB : Hid (Below w.heap.size w wr) := hB
      have HRR : Hid (RowN wr (some ⟨g, o, none⟩) n V) := HR.out.below hB
      have sB := hB.size
      clear c0 hg hB
      cases hb : knownB x
      · have kn : knP (V k) = false := HX.out.symm.trans hb
        have E : Hid (bsI V a n (k + 1) = bsI V a n k) := bs_no (fun q => by rw [kn] at q; cases q.1)
        have e2 : insV x = .iface 72 (.agg #[]) := by unfold insV; rw [hb]; rfl
        rw [e2] at d0
        clear e2 hb kn
        go_wp2
        go_roundw
        case rel => exact ⟨k + 1, by omega, by go_num, by rw [E.out]; exact HI.out, HB.out⟩
        case measure => simp [intOf]; omega
      · have kn : knP (V k) = true := HX.out.symm.trans hb
        have EF : Hid ((fun j => knP (V j) && nearO (V j) (V k) a) = nbB V a k) := show _ = nbB V a k by funext j; unfold nbB; rw [kn, near_comm]; simp
        have HKN : Hid (knP (V k) = true) := kn
        have e2 : insV x = .iface 65 (.float .f64 x) := by unfold insV; rw [hb]; rfl
        rw [e2] at d0
        clear e2 hb kn
        go_wp2_with fail
        refine (friendsOf_any hx hz _ n _ V _ (by omega) HRR).mono ?_
        rintro e w2 ⟨rfl, ho, h2⟩
        rw [EF.out] at ho
        have HO : Hid (OwnB w.heap.size w2 (some ⟨wr.heap.size, 0, none⟩) n (nbB V a k)) := ho.mono sB
        have HI2 : Hid (BIv w w2 u5 (bsI V a n k) n V a) := HI.out.below h2
        have B2 : Below w.heap.size w w2 := HB.out.trans (h2.mono sB)
        clear ho h2 HI EF d0
        go_wp2_with fail
        refine (countSet_any _ n _ (nbB V a k) _ (by omega) HO.out.row).mono ?_
        rintro e w3 ⟨rfl, rfl⟩
        have fl := cnt_le (nbB V a k) n
        rcases HI2.out with ⟨q1, q2⟩ | ⟨i, b, q1, q2, q3⟩
        · subst q2
          go_wp2_with fail
          refine (countSet_any none 0 0 (fun _ => false) _ (by omega) (fun j hj => by omega)).mono ?_
          rintro e w4 ⟨rfl, rfl⟩
          have e0 : cnt (fun _ => false) 0 = 0 := rfl
          rw [e0]
          by_cases q : 0 < cnt (nbB V a k) n
          · have q' : (0 : Int) < (cnt (nbB V a k) n : Nat) := by omega
            have E : Hid (bsI V a n (k + 1) = some k) := bs_yes ⟨HKN.out, by rw [q1]; exact q⟩
            go_wp2
            go_roundw
            case rel => exact ⟨k + 1, by omega, by go_num, by rw [E.out]; exact .inr ⟨k, _, rfl, rfl, HO.out⟩, B2⟩
            case measure => simp [intOf]; omega
          · have q' : ((cnt (nbB V a k) n : Nat) : Int) ≤ 0 := by omega
            have E : Hid (bsI V a n (k + 1) = bsI V a n k) := bs_no (fun r => q (by have := r.2; rw [q1] at this; exact this))
            go_wp2
            go_roundw
            case rel => exact ⟨k + 1, by omega, by go_num, by rw [E.out]; exact HI2.out, B2⟩
            case measure => simp [intOf]; omega
        · subst q2
          have HQ3 : Hid (OwnB w.heap.size _ (some ⟨b, 0, none⟩) n (nbB V a i)) := q3
          clear q3
          go_wp2_with fail
          refine (countSet_any _ n _ (nbB V a i) _ (by omega) HQ3.out.row).mono ?_
          rintro e w4 ⟨rfl, rfl⟩
          have fi := cnt_le (nbB V a i) n
          by_cases q : cnt (nbB V a i) n < cnt (nbB V a k) n
          · have q' : ((cnt (nbB V a i) n : Nat) : Int) < (cnt (nbB V a k) n : Nat) := by omega
            have E : Hid (bsI V a n (k + 1) = some k) := bs_yes ⟨HKN.out, by rw [q1]; exact q⟩
            go_wp2
            go_roundw
            case rel => exact ⟨k + 1, by omega, by go_num, by rw [E.out]; exact .inr ⟨k, _, rfl, rfl, HO.out⟩, B2⟩
            case measure => simp [intOf]; omega
          · have q' : ((cnt (nbB V a k) n : Nat) : Int) ≤ (cnt (nbB V a i) n : Nat) := by omega
            have E : Hid (bsI V a n (k + 1) = bsI V a n k) := bs_no (fun r => q (by have := r.2; rw [q1] at this; exact this))
            go_wp2
            go_roundw
            case rel => exact ⟨k + 1, by omega, by go_num, by rw [E.out]; exact HI2.out, B2⟩
            case measure => simp [intOf]; omega
    · obtain rfl : k = n := by omega
      go_wp2
      go_ret
      exact ⟨_, rfl, HI.out, hB⟩
set_option maxRecDepth 20000 in
set_option maxHeartbeats 4000000 in
theorem implVal_any (s : Option Addr) (n c : Nat) (V : Nat → Option Nat) (z : Nat) (a : Option Nat) (hz : Fl z a) (w : World) (hn : (n : Int) ≤ 1048576) (HR : Hid (RowF w s n V)) :
    Calls Try.prog 9 #[.slice s n c, .float .f64 z] w fun e w' => ∃ s' c' r, e = .returned (.tuple #[.float .f64 r, .slice s' (vaM n z) c', .bool (vaG V a n z)]) ∧ Fl r (vaQ V a n z) ∧ OwnB w.heap.size w' s' (vaM n z) (flgB V a n) ∧ Below w.heap.size w w' := by
  have cv := conv_run
  by_cases n0 : n = 0
  · have n1 : (n : Int) = 0 := by omega
    have HV : Hid (vaM n z = 0 ∧ vaG V a n z = false ∧ vaQ V a n z = none) := va_no V a (show vaB n z = false by unfold vaB; simp [n0])
    clear n0
    go_enter Try.func9, Try.ntmps9
    go_wp2_with fail
    refine (nan_any _).mono ?_
    rintro e w1 ⟨r, rfl, hr, rfl⟩
    go_wp2
    exact bodyPost_ret (v := .tuple #[.float .f64 r, .slice none 0 0, .bool false]) (by simp [results, Try.results9, go_sem]) rfl ⟨none, 0, r, by rw [HV.out.1, HV.out.2.1], by rw [HV.out.2.2]; exact hr, by rw [HV.out.1]; exact fun j hj => by omega, (by repeat (first | with_reducible exact Below.refl _ _ | with_reducible refine Below.setCell ?_ (by first | omega | (simp; done) | (simp; omega)) _ | with_reducible refine bDrewN ?_ _ | with_reducible refine Below.drew ?_ | with_reducible refine Below.alloc ?_ (by first | omega | (simp; done) | (simp; omega)) _))⟩
  by_cases n16 : 16 < n
  · have n1 : (16 : Int) < (n : Int) := by omega
    have n2 : ((n : Int) == 0) = false := by simp; omega
    have HV : Hid (vaM n z = 0 ∧ vaG V a n z = false ∧ vaQ V a n z = none) := va_no V a (show vaB n z = false by unfold vaB; rw [decide_eq_false (by omega)]; rfl)
    go_enter Try.func9, Try.ntmps9
    go_wp2_with fail
    refine (nan_any _).mono ?_
    rintro e w1 ⟨r, rfl, hr, rfl⟩
    go_wp2
    exact bodyPost_ret (v := .tuple #[.float .f64 r, .slice none 0 0, .bool false]) (by simp [results, Try.results9, go_sem]) rfl ⟨none, 0, r, by rw [HV.out.1, HV.out.2.1], by rw [HV.out.2.2]; exact hr, by rw [HV.out.1]; exact fun j hj => by omega, (by repeat (first | with_reducible exact Below.refl _ _ | with_reducible refine Below.setCell ?_ (by first | omega | (simp; done) | (simp; omega)) _ | with_reducible refine bDrewN ?_ _ | with_reducible refine Below.drew ?_ | with_reducible refine Below.alloc ?_ (by first | omega | (simp; done) | (simp; omega)) _))⟩
  have n1 : (n : Int) ≤ 16 := by omega
  have n2 : ((n : Int) == 0) = false := by simp; omega
  have n3 : decide ((16 : Int) < (n : Int)) = false := decide_eq_false (by omega)
  have nn : decide (1 ≤ n ∧ n ≤ 16) = true := decide_eq_true (by omega)
  have lz := hz.1
  go_enter Try.func9, Try.ntmps9
  go_wp2_with fail
  refine (implKnown_any z lz _).mono ?_
  rintro e w1 ⟨rfl, d1, rfl⟩
  cases kz : knownB z
  · have HV : Hid (vaM n z = 0 ∧ vaG V a n z = false ∧ vaQ V a n z = none) := va_no V a (show vaB n z = false by unfold vaB; simp [kz])
    go_wp2_with fail
    refine (nan_any _).mono ?_
    rintro e w1 ⟨r, rfl, hr, rfl⟩
    go_wp2
    exact bodyPost_ret (v := .tuple #[.float .f64 r, .slice none 0 0, .bool false]) (by simp [results, Try.results9, go_sem]) rfl ⟨none, 0, r, by rw [HV.out.1, HV.out.2.1], by rw [HV.out.2.2]; exact hr, by rw [HV.out.1]; exact fun j hj => by omega, (by repeat (first | with_reducible exact Below.refl _ _ | with_reducible refine Below.setCell ?_ (by first | omega | (simp; done) | (simp; omega)) _ | with_reducible refine bDrewN ?_ _ | with_reducible refine Below.drew ?_ | with_reducible refine Below.alloc ?_ (by first | omega | (simp; done) | (simp; omega)) _))⟩
  cases kl : (FloatKind.f64.format.order z 0 == some .lt)
  case true =>
    have HV : Hid (vaM n z = 0 ∧ vaG V a n z = false ∧ vaQ V a n z = none) := va_no V a (show vaB n z = false by unfold vaB; simp [kl])
    go_wp2_with fail
    refine (nan_any _).mono ?_
    rintro e w1 ⟨r, rfl, hr, rfl⟩
    go_wp2
    exact bodyPost_ret (v := .tuple #[.float .f64 r, .slice none 0 0, .bool false]) (by simp [results, Try.results9, go_sem]) rfl ⟨none, 0, r, by rw [HV.out.1, HV.out.2.1], by rw [HV.out.2.2]; exact hr, by rw [HV.out.1]; exact fun j hj => by omega, (by repeat (first | with_reducible exact Below.refl _ _ | with_reducible refine Below.setCell ?_ (by first | omega | (simp; done) | (simp; omega)) _ | with_reducible refine bDrewN ?_ _ | with_reducible refine Below.drew ?_ | with_reducible refine Below.alloc ?_ (by first | omega | (simp; done) | (simp; omega)) _))⟩
  have HY : Hid (vaM n z = n ∧ vaG V a n z = goodB V a n ∧ vaQ V a n z = (if goodB V a n = true then opO .quo (sumL (thL V (flgB V a n) n)) (some (itf (frN V a n (bstN V a n n)))) else none)) := va_yes V a (show vaB n z = true by unfold vaB; rw [nn, kz, kl]; rfl)
  obtain ⟨m, hm⟩ : ∃ m, n = m + 1 := ⟨n - 1, by omega⟩
  have BS := bs_same V a n m
  rw [← hm] at BS
  have HBS : Hid _ := BS
  clear BS hm kz nn
  have HR1 : Hid (RowF (w.drewN d1) s n V) := HR.out.below (by repeat (first | with_reducible exact Below.refl _ _ | with_reducible refine Below.setCell ?_ (by first | omega | (simp; done) | (simp; omega)) _ | with_reducible refine bDrewN ?_ _ | with_reducible refine Below.drew ?_ | with_reducible refine Below.alloc ?_ (by first | omega | (simp; done) | (simp; omega)) _))
  go_wp2_with fail
  refine (instrumentsOf_any s n c V _ hn HR1).mono ?_
  rintro e w2 ⟨rfl, hR2, b2⟩
  have HN2 : Hid (RowN w2 (some ⟨(w.drewN d1).heap.size, 0, none⟩) n V) := hR2
  have B2 : Below w.heap.size w w2 := Below.trans (by repeat (first | with_reducible exact Below.refl _ _ | with_reducible refine Below.setCell ?_ (by first | omega | (simp; done) | (simp; omega)) _ | with_reducible refine bDrewN ?_ _ | with_reducible refine Below.drew ?_ | with_reducible refine Below.alloc ?_ (by first | omega | (simp; done) | (simp; omega)) _)) b2
  have s2 := B2.size
  clear hR2 b2 HR1
  go_wp2_with fail
  refine (friendsOfBest_any _ n _ V z a hz _ (by omega) HN2).mono ?_
  rintro e w3 ⟨v, rfl, hI, b3⟩
  have HI : Hid (BIv w2 w3 v (bsI V a n n) n V a) := hI
  have HN3 : Hid (RowN w3 (some ⟨(w.drewN d1).heap.size, 0, none⟩) n V) := HN2.out.below b3
  have B3 : Below w.heap.size w w3 := B2.trans (b3.mono s2)
  have s3 := B3.size
  clear hI HN2 b3
  have fl := cnt_le (nbB V a (bstN V a n n)) n
  have MANY : Hid (Calls Try.prog 32 #[v] w3 fun e w' => e = .returned (.int .i64 (frN V a n (bstN V a n n) : Nat)) ∧ w' = w3) := by
    rcases HI.out with ⟨q1, q2⟩ | ⟨i, b, q1, q2, q3⟩
    · have z0 : frN V a n (bstN V a n n) = 0 := by
        rcases HBS.out with ⟨h1, h2⟩ | ⟨h1, h2⟩
        · exact h1
        · rw [q1] at h2; cases h2
      rw [q2, z0]
      exact countSet_any none 0 0 (fun _ => false) w3 (by omega) (fun j hj => by omega)
    · have z0 : bstN V a n n = i := by
        rcases HBS.out with ⟨h1, h2⟩ | ⟨h1, h2⟩
        · rw [q1] at h2; cases h2
        · rw [q1] at h2; cases h2; rfl
      rw [q2, z0]
      exact countSet_any _ n n (nbB V a i) w3 (by omega) q3.row
  go_wp2_with fail
  refine MANY.out.mono ?_
  rintro e w4 ⟨rfl, rfl⟩
  obtain ⟨M, hM⟩ : ∃ M, frN V a n (bstN V a n n) = M := ⟨_, rfl⟩
  have fl2 : M ≤ n := by rw [← hM]; exact fl
  rw [hM]
  clear fl MANY
  by_cases hg : n < 2 * M
  · have g1 : (n : Int) < 2 * (M : Int) := by omega
    have GB : goodB V a n = true := by unfold goodB; rw [hM]; exact decide_eq_true hg
    obtain ⟨b, q2, q3⟩ : ∃ b, v = .slice (some ⟨b, 0, none⟩) n n ∧ OwnB w2.heap.size w4 (some ⟨b, 0, none⟩) n (nbB V a (bstN V a n n)) := by
      rcases HBS.out with ⟨h1, h2⟩ | ⟨h1, h2⟩
      · omega
      · rcases HI.out with ⟨q1, q2⟩ | ⟨i, b, q1, q2, q3⟩
        · rw [q1] at h2; cases h2
        · rw [q1] at h2; cases h2
          exact ⟨b, q2, q3⟩
    subst q2
    have EF : nbB V a (bstN V a n n) = flgB V a n := by funext j; unfold flgB; rw [GB]; rfl
    rw [EF] at q3
    have HQ : Hid (OwnB w.heap.size w4 (some ⟨b, 0, none⟩) n (flgB V a n)) := q3.mono s2
    have HP : Hid (vaM n z = n ∧ vaG V a n z = true ∧ vaQ V a n z = opO .quo (sumL (thL V (flgB V a n) n)) (some (itf (M : Int)))) := by
      obtain ⟨y1, y2, y3⟩ := HY.out
      rw [GB, hM] at y3
      rw [GB] at y2
      exact ⟨y1, y2, y3⟩
    clear q3 EF GB HI HBS HY hM hg
    go_wp2_with fail
    refine (those_any s n c V _ _ (flgB V a n) _ n1 (HR.out.below B3) HQ.out.row).mono ?_
    rintro e w5 ⟨s5, c5, rfl, hR5, b5⟩
    have HR5 : Hid (RowF w5 s5 (thL V (flgB V a n) n).length (fun j => (thL V (flgB V a n) n).getD j none)) := hR5
    have HQ5 : Hid (OwnB w.heap.size w5 (some ⟨b, 0, none⟩) n (flgB V a n)) := HQ.out.below b5
    have B5 : Below w.heap.size w w5 := B3.trans (b5.mono s3)
    have s5 := B5.size
    have tl := th_le V (flgB V a n) n
    clear hR5 HQ b5
    go_wp2_with fail
    refine (sumOfV_any _ _ _ _ _ (by omega) HR5.out).mono ?_
    rintro e w6 ⟨r, rfl, hr, b6⟩
    rw [sumU_all] at hr
    have HQ6 : Hid (OwnB w.heap.size w6 (some ⟨b, 0, none⟩) n (flgB V a n)) := HQ5.out.below b6
    have B6 : Below w.heap.size w w6 := B5.trans (b6.mono s5)
    have fM := itf_fl (M : Int)
    clear HR5 HQ5 b6
    go_wp2_with (first | (refine list_fop .quo rfl _ _ _ _ (by rfl) (by rfl) (by rfl) (by rfl) hr fM ?_; intro x1 n1 f1))
    exact bodyPost_ret (v := .tuple #[.float .f64 x1, .slice (some ⟨b, 0, none⟩) n n, .bool true]) (by simp [results, Try.results9, go_sem]) rfl ⟨some ⟨b, 0, none⟩, n, x1, by rw [HP.out.1, HP.out.2.1], by rw [HP.out.2.2]; exact f1, by rw [HP.out.1]; exact HQ6.out.below (by repeat (first | with_reducible exact Below.refl _ _ | with_reducible refine Below.setCell ?_ (by first | omega | (simp; done) | (simp; omega)) _ | with_reducible refine bDrewN ?_ _ | with_reducible refine Below.drew ?_ | with_reducible refine Below.alloc ?_ (by first | omega | (simp; done) | (simp; omega)) _)), (by repeat (first | with_reducible exact Below.refl _ _ | with_reducible exact B6 | with_reducible refine Below.setCell ?_ (by first | omega | (simp; done) | (simp; omega)) _ | with_reducible refine bDrewN ?_ _ | with_reducible refine Below.drew ?_ | with_reducible refine Below.alloc ?_ (by first | omega | (simp; done) | (simp; omega)) _))⟩
  · have g1 : 2 * (M : Int) ≤ (n : Int) := by omega
    have GB : goodB V a n = false := by unfold goodB; rw [hM]; exact decide_eq_false hg
    have EF : (fun k => knP (V k)) = flgB V a n := by funext j; unfold flgB; rw [GB]; rfl
    have HEF : Hid _ := EF
    have HP : Hid (vaM n z = n ∧ vaG V a n z = false ∧ vaQ V a n z = none) := by
      obtain ⟨y1, y2, y3⟩ := HY.out
      rw [GB] at y3 y2
      exact ⟨y1, y2, y3⟩
    clear EF GB HI HBS HY hM hg
    go_wp2_with fail
    refine (nan_any _).mono ?_
    rintro e w5 ⟨r, rfl, hr, rfl⟩
    go_wp2_with fail
    refine (whichWork_any _ n _ V _ hn HN3).mono ?_
    rintro e w6 ⟨rfl, ho, b6⟩
    rw [HEF.out] at ho
    have HO : Hid (OwnB w.heap.size w6 (some ⟨w5.heap.size, 0, none⟩) n (flgB V a n)) := ho.mono s3
    have B6 : Below w.heap.size w w6 := B3.trans (b6.mono s3)
    clear ho b6
    go_wp2
    exact bodyPost_ret (v := .tuple #[.float .f64 r, .slice (some ⟨w5.heap.size, 0, none⟩) n n, .bool false]) (by simp [results, Try.results9, go_sem]) rfl ⟨_, n, r, by rw [HP.out.1, HP.out.2.1], by rw [HP.out.2.2]; exact hr, by rw [HP.out.1]; exact HO.out, (by repeat (first | with_reducible exact Below.refl _ _ | with_reducible exact B6 | with_reducible refine Below.setCell ?_ (by first | omega | (simp; done) | (simp; omega)) _ | with_reducible refine bDrewN ?_ _ | with_reducible refine Below.drew ?_ | with_reducible refine Below.alloc ?_ (by first | omega | (simp; done) | (simp; omega)) _))⟩
end Go.Proofs.Ytffbpidldnbgaaa
