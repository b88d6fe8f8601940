/-
What is proved: when a board is right, as the specification says it.
-/
import Derived.Test.YtlbbdifmjdpfiaaBdz
namespace Go.Proofs.Ytlbbdifmjdpfiaa
set_option maxRecDepth 40000
open Go.ChangeShapes Go.WideShapes Go.ChangeAt Go.RowKit
set_option linter.unusedVariables false
set_option linter.unusedSimpArgs false

set_option maxRecDepth 20000 in
set_option maxHeartbeats 4000000 in
theorem specBoardOk_any (x : Int) (s : Option Addr) (n c : Nat) (V : Nat → Int × Int × Int × Bool × Int) (w : World) (hn : (n : Int) ≤ 1048576) (HR : Hid (RowAlarm w s n V)) :
    Calls Try.prog 37 #[.agg #[.int .i64 x, .slice s n c]] w fun e w' => e = .returned (.bool (boardB x n V)) ∧ Below w.heap.size w w' := by
  go_enter Try.func37, Try.ntmps37
  go_wp2_with fail
  refine (l1In_is _ _ _ _).mono ?_
  rintro e w1 ⟨rfl, rfl⟩
  cases h0 : inB 0 1000000000 x
  · go_wp2
    go_ret
    exact ⟨ret_bool (by unfold boardB; rw [h0]; rfl), (by repeat (first | with_reducible exact Below.refl _ _ | with_reducible refine Below.setCell ?_ (by first | omega | (simp; done) | (simp; omega)) _ | with_reducible refine bDrewN ?_ _ | with_reducible refine Below.drew ?_ | with_reducible refine Below.alloc ?_ (by first | omega | (simp; done) | (simp; omega)) _))⟩
  by_cases n1 : 60 < n
  · have b1 : (60 : Int) < (n : Int) := by omega
    have HO : Hid (boardB x n V = false) := by show _ = _; unfold boardB; rw [decide_eq_false (by omega : ¬ n ≤ 60)]; simp
    go_wp2
    go_ret
    exact ⟨ret_bool HO.out.symm, (by repeat (first | with_reducible exact Below.refl _ _ | with_reducible refine Below.setCell ?_ (by first | omega | (simp; done) | (simp; omega)) _ | with_reducible refine bDrewN ?_ _ | with_reducible refine Below.drew ?_ | with_reducible refine Below.alloc ?_ (by first | omega | (simp; done) | (simp; omega)) _))⟩
  have b1 : decide ((60 : Int) < (n : Int)) = false := decide_eq_false (by omega)
  have hn2 : (n : Int) ≤ 60 := by omega
  have HF : Hid (∀ q : Bool, okB V n = q → boardB x n V = q) := fun q e => by unfold boardB; rw [h0, e, decide_eq_true (by omega : n ≤ 60)]; simp
  clear h0 hn
  go_wp2_with fail
  go_loopw [3] (fun i wr => ∃ k : Nat, k ≤ n ∧ i = .int .i64 k ∧ Hid (okB V k = true) ∧ wr.cell? ⟨w.heap.size, 1, none⟩ = some (.slice s n c) ∧ w.heap.size < wr.heap.size ∧ Below w.heap.size w wr) (fun i _ => n - (intOf i).toNat)
  case atStart => exact ⟨0, Nat.zero_le _, rfl, rfl, by simp [go_sem], by simp, (by repeat (first | with_reducible exact Below.refl _ _ | with_reducible refine Below.setCell ?_ (by first | omega | (simp; done) | (simp; omega)) _ | with_reducible refine bDrewN ?_ _ | with_reducible refine Below.drew ?_ | with_reducible refine Below.alloc ?_ (by first | omega | (simp; done) | (simp; omega)) _))⟩
  case round =>
    obtain ⟨k, hk, rfl, HP, p1, zp, hB⟩ := hrel
    by_cases h1 : k < n
    · obtain ⟨g, o, rfl, hg, c0, c1, c2, c3, c4⟩ := HR.out k (by omega)
      replace c0 := (hB.cell (p := ⟨g, o + k * 5, none⟩) hg).trans c0
      replace c1 := (hB.cell (p := ⟨g, o + k * 5 + 1, none⟩) hg).trans c1
      replace c2 := (hB.cell (p := ⟨g, o + k * 5 + 2, none⟩) hg).trans c2
      replace c3 := (hB.cell (p := ⟨g, o + k * 5 + 3, none⟩) hg).trans c3
      replace c4 := (hB.cell (p := ⟨g, o + k * 5 + 4, none⟩) hg).trans c4
      have zg : g < wr.heap.size := Nat.lt_of_lt_of_le hg hB.size
      obtain ⟨⟨G, O, T, F, U⟩, hV⟩ : ∃ z, V k = z := ⟨_, rfl⟩
      rw [hV] at c0 c1 c2 c3 c4
      simp only at c0 c1 c2 c3 c4
      have HV : Hid (V k = (G, O, T, F, U)) := hV
      have k1 : (k : Int) < (n : Int) := by omega
      have HB : Hid (Below w.heap.size w wr) := hB
      have zW : w.heap.size ≤ wr.heap.size := hB.size
      clear hB hV hg
      have HA : Hid (almB (G, O, T, F, U) = (inB 1 9 G && (inB 0 255 O && (inB 0 3 T && (inB 0 1000001000 U && (T != 0 || !F)))))) := rfl
      go_wp2_with fail
      refine (l1In_is _ _ _ _).mono ?_
      rintro e w2 ⟨rfl, rfl⟩
      cases q0 : inB 1 9 G
      · have HO : Hid (boardB x n V = false) := HF.out _ (ok_mono (show k + 1 ≤ n by omega) (by simp [okB, HV.out, HA.out, q0]))
        have B2 := HB.out
        go_wp2
        go_ret
        exact ⟨ret_bool HO.out.symm, (by repeat (first | with_reducible exact Below.refl _ _ | with_reducible exact B2 | with_reducible refine Below.setCell ?_ (by first | omega | (simp; done) | (simp; omega)) _ | with_reducible refine bDrewN ?_ _ | with_reducible refine Below.drew ?_ | with_reducible refine Below.alloc ?_ (by first | omega | (simp; done) | (simp; omega)) _))⟩
      go_wp2_with fail
      refine (l1In_is _ _ _ _).mono ?_
      rintro e w2 ⟨rfl, rfl⟩
      cases q1 : inB 0 255 O
      · have HO : Hid (boardB x n V = false) := HF.out _ (ok_mono (show k + 1 ≤ n by omega) (by simp [okB, HV.out, HA.out, q0, q1]))
        have B2 := HB.out
        go_wp2
        go_ret
        exact ⟨ret_bool HO.out.symm, (by repeat (first | with_reducible exact Below.refl _ _ | with_reducible exact B2 | with_reducible refine Below.setCell ?_ (by first | omega | (simp; done) | (simp; omega)) _ | with_reducible refine bDrewN ?_ _ | with_reducible refine Below.drew ?_ | with_reducible refine Below.alloc ?_ (by first | omega | (simp; done) | (simp; omega)) _))⟩
      go_wp2_with fail
      refine (l1In_is _ _ _ _).mono ?_
      rintro e w2 ⟨rfl, rfl⟩
      cases q2 : inB 0 3 T
      · have HO : Hid (boardB x n V = false) := HF.out _ (ok_mono (show k + 1 ≤ n by omega) (by simp [okB, HV.out, HA.out, q0, q1, q2]))
        have B2 := HB.out
        go_wp2
        go_ret
        exact ⟨ret_bool HO.out.symm, (by repeat (first | with_reducible exact Below.refl _ _ | with_reducible exact B2 | with_reducible refine Below.setCell ?_ (by first | omega | (simp; done) | (simp; omega)) _ | with_reducible refine bDrewN ?_ _ | with_reducible refine Below.drew ?_ | with_reducible refine Below.alloc ?_ (by first | omega | (simp; done) | (simp; omega)) _))⟩
      go_wp2_with fail
      refine (l1In_is _ _ _ _).mono ?_
      rintro e w2 ⟨rfl, rfl⟩
      cases q3 : inB 0 1000001000 U
      · have HO : Hid (boardB x n V = false) := HF.out _ (ok_mono (show k + 1 ≤ n by omega) (by simp [okB, HV.out, HA.out, q0, q1, q2, q3]))
        have B2 := HB.out
        go_wp2
        go_ret
        exact ⟨ret_bool HO.out.symm, (by repeat (first | with_reducible exact Below.refl _ _ | with_reducible exact B2 | with_reducible refine Below.setCell ?_ (by first | omega | (simp; done) | (simp; omega)) _ | with_reducible refine bDrewN ?_ _ | with_reducible refine Below.drew ?_ | with_reducible refine Below.alloc ?_ (by first | omega | (simp; done) | (simp; omega)) _))⟩
      have B2 := HB.out
      by_cases t : T = 0 ∧ F = true
      · obtain ⟨rfl, rfl⟩ := t
        have HO : Hid (boardB x n V = false) := HF.out _ (ok_mono (show k + 1 ≤ n by omega) (by simp [okB, HV.out, HA.out, q0, q1, q2, q3]))
        go_wp2
        go_ret
        exact ⟨ret_bool HO.out.symm, (by repeat (first | with_reducible exact Below.refl _ _ | with_reducible exact B2 | with_reducible refine Below.setCell ?_ (by first | omega | (simp; done) | (simp; omega)) _ | with_reducible refine bDrewN ?_ _ | with_reducible refine Below.drew ?_ | with_reducible refine Below.alloc ?_ (by first | omega | (simp; done) | (simp; omega)) _))⟩
      have HQ : Hid (almB (G, O, T, F, U) = true) := by
        show _ = _
        rw [HA.out, q0, q1, q2, q3]
        cases F
        · simp
        · have : ¬ T = 0 := fun e => t ⟨e, rfl⟩
          simp [this]
      clear q0 q1 q2 q3
      have HT : (F && (T == 0)) = false := by
        cases F
        · rfl
        · have : ¬ T = 0 := fun e => t ⟨e, rfl⟩
          simp [this]
      clear t
      cases F
      case false =>
        go_wp2_with fail
        go_loopw [5] (fun i wx => ∃ m : Nat, m ≤ k ∧ i = .int .i64 m ∧ wx.cell? ⟨wr.heap.size, 3, none⟩ = some (.bool false) ∧ wx.cell? ⟨w.heap.size, 1, none⟩ = some (.slice (some ⟨g, o, none⟩) n c) ∧ wr.heap.size < wx.heap.size ∧ Below wr.heap.size wr wx) (fun i _ => k - (intOf i).toNat)
        case atStart => exact ⟨0, Nat.zero_le _, rfl, by simp [go_sem], ((below0 wr _).cell (p := ⟨w.heap.size, 1, none⟩) zp).trans p1, by simp, (by repeat (first | with_reducible exact Below.refl _ _ | with_reducible refine Below.setCell ?_ (by first | omega | (simp; done) | (simp; omega)) _ | with_reducible refine bDrewN ?_ _ | with_reducible refine Below.drew ?_ | with_reducible refine Below.alloc ?_ (by first | omega | (simp; done) | (simp; omega)) _))⟩
        case round =>
          rename World => wx
          obtain ⟨m, hm, rfl, r3, r1, zx, hX⟩ := hrel
          have HX : Hid (Below wr.heap.size wr wx) := hX
          clear hX
          by_cases h2 : m < k
          · have k2 : (m : Int) < (k : Int) := by omega
            go_wp2_with fail
            go_quiet (fail)
            have X2 := HX.out
            go_wp2
            go_roundw
            case rel => exact ⟨m + 1, by omega, by go_num, by first | with_reducible exact r3 | simpa using r3, by first | with_reducible exact r1 | simpa using r1, by first | with_reducible exact zx | simpa using zx, (by repeat (first | with_reducible exact Below.refl _ _ | with_reducible exact X2 | with_reducible refine Below.setCell ?_ (by first | omega | (simp; done) | (simp; omega)) _ | with_reducible refine bDrewN ?_ _ | with_reducible refine Below.drew ?_ | with_reducible refine Below.alloc ?_ (by first | omega | (simp; done) | (simp; omega)) _))⟩
            case measure => first | (simp [intOf]; done) | (simp [intOf]; omega)
          · obtain rfl : m = k := by omega
            have HK : Hid (okB V (m + 1) = true) := by show _ = _; simp [okB, HP.out, HV.out, HQ.out]
            have X3 : Below w.heap.size w wx := HB.out.trans (HX.out.mono zW)
            go_wp2
            go_roundw
            case rel => exact ⟨m + 1, by omega, by go_num, HK.out, by first | with_reducible exact r1 | simpa using r1, by omega, (by repeat (first | with_reducible exact Below.refl _ _ | with_reducible exact X3 | with_reducible refine Below.setCell ?_ (by first | omega | (simp; done) | (simp; omega)) _ | with_reducible refine bDrewN ?_ _ | with_reducible refine Below.drew ?_ | with_reducible refine Below.alloc ?_ (by first | omega | (simp; done) | (simp; omega)) _))⟩
            case measure => first | (simp [intOf]; done) | (simp [intOf]; omega)
      case true =>
        have t0 : (T == 0) = false := by simpa using HT
        go_wp2_with fail
        go_loopw [5] (fun i wx => ∃ m : Nat, m ≤ k ∧ i = .int .i64 m ∧ Hid (ledB V m G = false) ∧ wx.cell? ⟨wr.heap.size, 0, none⟩ = some (.int .i64 G) ∧ wx.cell? ⟨wr.heap.size, 3, none⟩ = some (.bool true) ∧ wx.cell? ⟨w.heap.size, 1, none⟩ = some (.slice (some ⟨g, o, none⟩) n c) ∧ wr.heap.size < wx.heap.size ∧ Below wr.heap.size wr wx) (fun i _ => k - (intOf i).toNat)
        case atStart => exact ⟨0, Nat.zero_le _, rfl, rfl, by simp [go_sem], by simp [go_sem], ((below0 wr _).cell (p := ⟨w.heap.size, 1, none⟩) zp).trans p1, by simp, (by repeat (first | with_reducible exact Below.refl _ _ | with_reducible refine Below.setCell ?_ (by first | omega | (simp; done) | (simp; omega)) _ | with_reducible refine bDrewN ?_ _ | with_reducible refine Below.drew ?_ | with_reducible refine Below.alloc ?_ (by first | omega | (simp; done) | (simp; omega)) _))⟩
        case round =>
          rename World => wx
          obtain ⟨m, hm, rfl, HM, r0, r3, r1, zx, hX⟩ := hrel
          have HX : Hid (Below wr.heap.size wr wx) := hX
          have X3 : Below w.heap.size w wx := HB.out.trans (hX.mono zW)
          clear hX
          by_cases h2 : m < k
          · have k2 : (m : Int) < (k : Int) := by omega
            have k3 : (m : Int) < (n : Int) := by omega
            obtain ⟨g', o', e', hg', d0, d1, d2, d3, d4⟩ := HR.out m (by omega)
            cases e'
            replace d0 := (X3.cell (p := ⟨g, o + m * 5, none⟩) hg').trans d0
            replace d3 := (X3.cell (p := ⟨g, o + m * 5 + 3, none⟩) hg').trans d3
            obtain ⟨⟨G2, O2, T2, F2, U2⟩, hV2⟩ : ∃ z, V m = z := ⟨_, rfl⟩
            rw [hV2] at d0 d3
            simp only at d0 d3
            have HV2 : Hid (V m = (G2, O2, T2, F2, U2)) := hV2
            clear hV2 d1 d2 d4
            cases F2
            case false =>
              have HN : Hid (ledB V (m + 1) G = false) := by show _ = _; simp [ledB, HM.out, HV2.out]
              go_wp2_with fail
              go_quiet (fail)
              have X2 := HX.out
              go_wp2
              go_roundw
              case rel => exact ⟨m + 1, by omega, by go_num, HN.out, by first | with_reducible exact r0 | simpa using r0, by first | with_reducible exact r3 | simpa using r3, by first | with_reducible exact r1 | simpa using r1, by first | with_reducible exact zx | simpa using zx, (by repeat (first | with_reducible exact Below.refl _ _ | with_reducible exact X2 | with_reducible refine Below.setCell ?_ (by first | omega | (simp; done) | (simp; omega)) _ | with_reducible refine bDrewN ?_ _ | with_reducible refine Below.drew ?_ | with_reducible refine Below.alloc ?_ (by first | omega | (simp; done) | (simp; omega)) _))⟩
              case measure => first | (simp [intOf]; done) | (simp [intOf]; omega)
            case true =>
              by_cases q : G = G2
              · subst q
                have HO : Hid (boardB x n V = false) := HF.out _ (ok_mono (show k + 1 ≤ n by omega) (by
                  have hl : ledB V k G = true := led_mono (show m + 1 ≤ k by omega) (by simp [ledB, HV2.out])
                  simp [okB, HV.out, hl]))
                go_wp2_with fail
                go_quiet (fail)
                go_wp2
                go_ret
                exact ⟨ret_bool HO.out.symm, (by repeat (first | with_reducible exact Below.refl _ _ | with_reducible exact X3 | with_reducible refine Below.setCell ?_ (by first | omega | (simp; done) | (simp; omega)) _ | with_reducible refine bDrewN ?_ _ | with_reducible refine Below.drew ?_ | with_reducible refine Below.alloc ?_ (by first | omega | (simp; done) | (simp; omega)) _))⟩
              · have q' : (G == G2) = false := by simpa using q
                have HN : Hid (ledB V (m + 1) G = false) := by show _ = _; simp [ledB, HM.out, HV2.out, Ne.symm q]
                clear q
                go_wp2_with fail
                go_quiet (fail)
                have X2 := HX.out
                go_wp2
                go_roundw
                case rel => exact ⟨m + 1, by omega, by go_num, HN.out, by first | with_reducible exact r0 | simpa using r0, by first | with_reducible exact r3 | simpa using r3, by first | with_reducible exact r1 | simpa using r1, by first | with_reducible exact zx | simpa using zx, (by repeat (first | with_reducible exact Below.refl _ _ | with_reducible exact X2 | with_reducible refine Below.setCell ?_ (by first | omega | (simp; done) | (simp; omega)) _ | with_reducible refine bDrewN ?_ _ | with_reducible refine Below.drew ?_ | with_reducible refine Below.alloc ?_ (by first | omega | (simp; done) | (simp; omega)) _))⟩
                case measure => first | (simp [intOf]; done) | (simp [intOf]; omega)
          · obtain rfl : m = k := by omega
            have HK : Hid (okB V (m + 1) = true) := by show _ = _; simp [okB, HP.out, HV.out, HQ.out, HM.out]
            go_wp2
            go_roundw
            case rel => exact ⟨m + 1, by omega, by go_num, HK.out, by first | with_reducible exact r1 | simpa using r1, by omega, (by repeat (first | with_reducible exact Below.refl _ _ | with_reducible exact X3 | with_reducible refine Below.setCell ?_ (by first | omega | (simp; done) | (simp; omega)) _ | with_reducible refine bDrewN ?_ _ | with_reducible refine Below.drew ?_ | with_reducible refine Below.alloc ?_ (by first | omega | (simp; done) | (simp; omega)) _))⟩
            case measure => first | (simp [intOf]; done) | (simp [intOf]; omega)
    · obtain rfl : k = n := by omega
      have HO : Hid (boardB x k V = true) := HF.out _ HP.out
      go_wp2
      go_ret
      exact ⟨ret_bool HO.out.symm, hB⟩
end Go.Proofs.Ytlbbdifmjdpfiaa
