/-
What is proved: when machines begin, as the specification's Loading tells it.
-/
import Derived.Test.YtcialcejmjggeaaLdX
import Derived.Test.YtcialcejmjggeaaShdM
import Derived.Test.YtcialcejmjggeaaLdT
import Derived.Deep.RegionHeldLaw
import Derived.Deep.DeepCutAuto

namespace Go.Proofs.Ytcialcejmjggeaa
set_option maxRecDepth 40000
open Go.ChangeShapes Go.WideShapes Go.ChangeAt Go.RowKit
set_option linter.unusedVariables false
set_option linter.unusedSimpArgs false

set_option maxRecDepth 20000 in
set_option maxHeartbeats 4000000 in
theorem specLoading_any (s : Option Addr) (n c : Nat) (V : Nat → Int) (most : Int) (w : World) (hn : (n : Int) ≤ 1048576) (HR0 : RowI w s (n * 4) V) :
    Calls Try.prog 17 #[.slice s n c, .int .i64 most] w fun e w' => ∃ s' c', e = .returned (.tuple #[.slice s' (ldM n V most) c', .bool (ldB V n most)]) ∧ OwnI w.heap.size w' s' (ldM n V most) (ldT V n most) ∧ Below w.heap.size w w' := by
  have HR : Hid (RowI w s (n * 4) V) := HR0
  clear HR0
  go_enter Try.func17, Try.ntmps17
  go_wp2_with fail
  refine (l11Ok_any s n c V _ HR).mono ?_
  rintro e w1 ⟨rfl, B1⟩
  have HB1 : Hid (Below w.heap.size w w1) := B1
  clear B1
  cases hm : machsB n V
  · have NO : Hid (ldB V n most = false) := by show _ = _; unfold ldB; rw [hm]; rfl
    have NM : Hid (ldM n V most = 0) := by show _ = _; unfold ldM; rw [NO.out]; rfl
    have hB := HB1.out
    have hS := hB.size
    clear hm HR
    go_wp2
    first
      | exact bodyPost_ret (v := .tuple #[.slice (some ⟨w1.heap.size, 0, none⟩) 0 0, .bool false]) (by simp [results, Try.results17, go_sem]) rfl ⟨_, _, by rw [NM.out, NO.out], by rw [NM.out]; exact own_zero _ _ _ _, (by repeat (first | with_reducible exact Below.refl _ _ | with_reducible exact hB | with_reducible refine Below.setCell ?_ (by first | omega | (simp; done) | (simp; omega)) _ | with_reducible refine bDrewN ?_ _ | with_reducible refine Below.drew ?_ | with_reducible refine Below.alloc ?_ (by first | omega | (simp; done) | (simp; omega)) _))⟩
      | exact bodyPost_ret (v := .tuple #[.slice (some ⟨w1.heap.size, 0, none⟩) 0 0, .bool false]) (by simp [results, Try.results17, go_sem]) rfl ⟨_, ⟨_, by rw [NM.out, NO.out]⟩, by rw [NM.out]; exact own_zero _ _ _ _, (by repeat (first | with_reducible exact Below.refl _ _ | with_reducible exact hB | with_reducible refine Below.setCell ?_ (by first | omega | (simp; done) | (simp; omega)) _ | with_reducible refine bDrewN ?_ _ | with_reducible refine Below.drew ?_ | with_reducible refine Below.alloc ?_ (by first | omega | (simp; done) | (simp; omega)) _))⟩
  go_wp2_with fail
  refine (l1In_is _ _ _ _).mono ?_
  rintro e w1 ⟨rfl, rfl⟩
  cases h0 : inB 0 100000000 most
  · have NO : Hid (ldB V n most = false) := by show _ = _; unfold ldB; rw [h0]; simp
    have NM : Hid (ldM n V most = 0) := by show _ = _; unfold ldM; rw [NO.out]; rfl
    have hB := HB1.out
    have hS := hB.size
    clear hm HR h0
    go_wp2
    first
      | exact bodyPost_ret (v := .tuple #[.slice (some ⟨w1.heap.size, 0, none⟩) 0 0, .bool false]) (by simp [results, Try.results17, go_sem]) rfl ⟨_, _, by rw [NM.out, NO.out], by rw [NM.out]; exact own_zero _ _ _ _, (by repeat (first | with_reducible exact Below.refl _ _ | with_reducible exact hB | with_reducible refine Below.setCell ?_ (by first | omega | (simp; done) | (simp; omega)) _ | with_reducible refine bDrewN ?_ _ | with_reducible refine Below.drew ?_ | with_reducible refine Below.alloc ?_ (by first | omega | (simp; done) | (simp; omega)) _))⟩
      | exact bodyPost_ret (v := .tuple #[.slice (some ⟨w1.heap.size, 0, none⟩) 0 0, .bool false]) (by simp [results, Try.results17, go_sem]) rfl ⟨_, ⟨_, by rw [NM.out, NO.out]⟩, by rw [NM.out]; exact own_zero _ _ _ _, (by repeat (first | with_reducible exact Below.refl _ _ | with_reducible exact hB | with_reducible refine Below.setCell ?_ (by first | omega | (simp; done) | (simp; omega)) _ | with_reducible refine bDrewN ?_ _ | with_reducible refine Below.drew ?_ | with_reducible refine Below.alloc ?_ (by first | omega | (simp; done) | (simp; omega)) _))⟩
  have YB : Hid (ldB V n most = true) := by show _ = _; unfold ldB; rw [hm, h0]; rfl
  have YM : Hid (ldM n V most = n) := by show _ = _; unfold ldM; rw [YB.out]; rfl
  have n60 : n ≤ 60 := (machs_yes hm).1
  have HM : Hid (∀ j, j < n → machB V j = true) := (machs_yes hm).2
  have HM0 : Hid (0 ≤ most) := (inB_yes h0).1
  clear hm hn h0
  go_wp2_with fail
  have HMK : Hid (MadeI w.heap.size w (w1.alloc (.cells #[] 2)) (.slice (some ⟨w1.heap.size, 0, none⟩) 0 0) 0 (TT V n most 0)) := ⟨by simpa [vals] using World.ownsRow_lit (base := w.heap.size) (size := 1) (e := 2) w1 #[] 0 HB1.out.size (by simp [maxLen]) (by simp), HB1.out.trans ((Below.refl _ _).alloc HB1.out.size _)⟩
  obtain ⟨w2, hw2⟩ : ∃ z, z = w1.alloc (.cells #[] 2) := ⟨_, rfl⟩
  obtain ⟨v0, hv0⟩ : ∃ z, z = Value.slice (some ⟨w1.heap.size, 0, none⟩) 0 0 := ⟨_, rfl⟩
  rw [← hw2, ← hv0] at HMK ⊢
  clear hw2 hv0
  go_loopw [6, 7] (fun cv iv wr => ∃ k : Nat, k ≤ n ∧ iv = .int .i64 k ∧ Hid (MadeI w.heap.size w wr cv k (TT V n most 0))) (fun _ iv _ => n - (intOf iv).toNat)
  case atStart => exact ⟨0, Nat.zero_le _, rfl, HMK⟩
  case round =>
    clear HMK
    obtain ⟨k, hk, rfl, HMK⟩ := hrel
    by_cases h1 : k < n
    · have k1 : (k : Int) < (n : Int) := by omega
      have zb : w.heap.size ≤ wr.heap.size := HMK.out.2.size
      go_wp2_with (first | (at_builtin; refine list_i64 w.heap.size u6 k (vals (TT V n most 0) k) _ _ (by rfl) (by rfl) (by rfl) (by rfl) HMK.out.1 (by omega) zb ?_; intro g8 cap8 w8 o8 gr8 gz8))
      have HM8 : Hid (MadeI w.heap.size w w8 (.slice (some ⟨g8, 0, none⟩) (k + 1) cap8) (k + 1) (TT V n most 0)) := made_on HMK.out (Below.refl _ _) zb o8 gr8
      clear o8 gr8 gz8 HMK
      go_wp2
      go_roundw
      case rel => exact ⟨k + 1, by omega, by go_num, HM8⟩
      case measure => simp [intOf]; omega
    obtain rfl : k = n := by omega
    obtain ⟨s1, cap, rfl, -⟩ := made_own HMK.out
    have HTM : Hid (TmAt w.heap.size wr s1 k cap (TT V k most 0)) := HMK.out.1
    have HB : Hid (Below w.heap.size w wr) := HMK.out.2
    clear HMK h1 hk
    go_wp2_with fail
    go_loopw [8] (fun tv wx => ∃ t : Nat, t ≤ 2000 ∧ tv = .int .i64 t ∧ Hid (TmAt w.heap.size wx s1 k cap (TT V k most t)) ∧ Hid (Below w.heap.size w wx)) (fun tv _ => 2000 - (intOf tv).toNat)
    case atStart => exact ⟨0, by omega, rfl, HTM, HB⟩
    case round =>
      clear HTM HB
      obtain ⟨t, ht, rfl, HTM, HB⟩ := hrel
      have hBw := HB.out
      by_cases h2 : t < 2000
      case neg =>
        have e2 : t = 2000 := by omega
        have HOW : Hid (OwnI w.heap.size wr s1 k (ldT V k most)) := by
          show OwnI _ _ _ _ _
          have := HTM.out.own
          rw [e2] at this
          exact this
        clear HTM e2
        go_wp2
        first
          | exact bodyPost_ret (v := .tuple #[.slice s1 k cap, .bool true]) (by simp [results, Try.results17, go_sem]) rfl ⟨s1, cap, by rw [YM.out, YB.out], by rw [YM.out]; exact HOW.out, (by repeat (first | with_reducible exact Below.refl _ _ | with_reducible exact hBw | with_reducible refine Below.setCell ?_ (by first | omega | (simp; done) | (simp; omega)) _ | with_reducible refine bDrewN ?_ _ | with_reducible refine Below.drew ?_ | with_reducible refine Below.alloc ?_ (by first | omega | (simp; done) | (simp; omega)) _))⟩
          | exact bodyPost_ret (v := .tuple #[.slice s1 k cap, .bool true]) (by simp [results, Try.results17, go_sem]) rfl ⟨s1, ⟨cap, by rw [YM.out, YB.out]⟩, by rw [YM.out]; exact HOW.out, (by repeat (first | with_reducible exact Below.refl _ _ | with_reducible exact hBw | with_reducible refine Below.setCell ?_ (by first | omega | (simp; done) | (simp; omega)) _ | with_reducible refine bDrewN ?_ _ | with_reducible refine Below.drew ?_ | with_reducible refine Below.alloc ?_ (by first | omega | (simp; done) | (simp; omega)) _))⟩
      have k2 : (t : Int) < 2000 := by omega
      have HRr : Hid (RowI wr s (k * 4) V) := HR.out.below hBw
      have HUr : Hid (RowI wr s1 k (TT V k most t)) := HTM.out.own.row
      have HTB : Hid (∀ j, j < k → -1 ≤ TT V k most t j ∧ TT V k most t j ≤ 1000000) := fun j _ => by have := TT_bd V k most t j; omega
      have HTC : Hid (∀ j, j < k → -1 ≤ TT V k most t j ∧ TT V k most t j ≤ 1000000 ∧ TT V k most t j ≤ (t : Int)) := fun j _ => by have := TT_bd V k most t j; omega
      clear hBw
      go_wp2_with fail
      refine (l11Next_any s k c V s1 k cap (TT V k most t) t most _ rfl n60 HM HTB HRr HUr).mono ?_
      rintro e w5 ⟨rfl, B5⟩
      have HTM5 : Hid (TmAt w.heap.size w5 s1 k cap (TT V k most t)) := HTM.out.below B5
      have HB5 : Hid (Below w.heap.size w w5) := HB.out.trans (B5.mono HB.out.size)
      have HR5 : Hid (RowI w5 s (k * 4) V) := HRr.out.below B5
      have HU5 : Hid (RowI w5 s1 k (TT V k most t)) := HUr.out.below B5
      clear B5 HTM HB HRr HUr HTB
      rcases nx_is (V := V) (n := k) (most := most) (T := TT V k most t) (t := (t : Int)) with e | ⟨b, e, hb, -, -⟩
      · have HE1 : Hid (nxL V k most (TT V k most t) t = -1) := e
        rw [e]
        clear e
        go_wp2_with fail
        refine (l11Starting_any s k c V s1 k cap (TT V k most t) t _ rfl n60 HM HTC HR5 HU5).mono ?_
        rintro e w6 ⟨rfl, B6⟩
        have HTM6 : Hid (TmAt w.heap.size w6 s1 k cap (TT V k most t)) := HTM5.out.below B6
        have HB6 : Hid (Below w.heap.size w w6) := HB5.out.trans (B6.mono HB5.out.size)
        clear B6 HTM5 HB5 HR5 HU5
        have hiff := anS_iff (V := V) (T := TT V k most t) (t := (t : Int)) k (fun i hi => (HTC.out i hi).2.2)
        cases ha : anS V (TT V k most t) t k
        · have hns : ¬ StartP V k (TT V k most t) t := fun q => by have := hiff.2 q; rw [ha] at this; cases this
          have HOW : Hid (OwnI w.heap.size w6 s1 k (ldT V k most)) := by
            show OwnI _ _ _ _ _
            rw [← ld_stop (by omega) HE1.out hns]
            exact HTM6.out.own
          have hBw := HB6.out
          clear hiff ha hns HTM6 HB6
          go_wp2
          first
            | exact bodyPost_ret (v := .tuple #[.slice s1 k cap, .bool true]) (by simp [results, Try.results17, go_sem]) rfl ⟨s1, cap, by rw [YM.out, YB.out], by rw [YM.out]; exact HOW.out, (by repeat (first | with_reducible exact Below.refl _ _ | with_reducible exact hBw | with_reducible refine Below.setCell ?_ (by first | omega | (simp; done) | (simp; omega)) _ | with_reducible refine bDrewN ?_ _ | with_reducible refine Below.drew ?_ | with_reducible refine Below.alloc ?_ (by first | omega | (simp; done) | (simp; omega)) _))⟩
            | exact bodyPost_ret (v := .tuple #[.slice s1 k cap, .bool true]) (by simp [results, Try.results17, go_sem]) rfl ⟨s1, ⟨cap, by rw [YM.out, YB.out]⟩, by rw [YM.out]; exact HOW.out, (by repeat (first | with_reducible exact Below.refl _ _ | with_reducible exact hBw | with_reducible refine Below.setCell ?_ (by first | omega | (simp; done) | (simp; omega)) _ | with_reducible refine bDrewN ?_ _ | with_reducible refine Below.drew ?_ | with_reducible refine Below.alloc ?_ (by first | omega | (simp; done) | (simp; omega)) _))⟩
        · have HTN : Hid (TmAt w.heap.size w6 s1 k cap (TT V k most (t + 1))) := by
            show TmAt _ _ _ _ _ _
            rw [TT_on HE1.out]
            exact HTM6.out
          clear hiff ha HTM6
          go_wp2
          go_roundw
          case rel => exact ⟨t + 1, by omega, by go_num, HTN, HB6⟩
          case measure => simp [intOf]; omega
      · have HE1 : Hid (nxL V k most (TT V k most t) t = (b : Int)) := e
        rw [e]
        clear e
        obtain ⟨g, rfl, hg0, hg1, hgc, hgf⟩ := HTM5.out.at_ (by omega)
        have cb := hgc b hb
        have fb := hgf b
        have kb : (b : Int) < (k : Int) := by omega
        have HTN : Hid (TmAt w.heap.size (w5.setCell ⟨g, b, none⟩ (.int .i64 (t : Int))) (some ⟨g, 0, none⟩) k cap (TT V k most (t + 1))) := HTM5.out.set HE1.out
        have HBN : Hid (Below w.heap.size w (w5.setCell ⟨g, b, none⟩ (.int .i64 (t : Int)))) := HB5.out.trans ((Turn.of (S := fun k => k = g) (Beside.setCell g _ _ _) rfl).below (fun _ h => by rw [h]; exact hg0) HB5.out.size)
        clear hgc hgf HTM5 HB5 HR5 HU5
        go_wp2
        go_roundw
        case rel => exact ⟨t + 1, by omega, by go_num, HTN, HBN⟩
        case measure => simp [intOf]; omega
end Go.Proofs.Ytcialcejmjggeaa
