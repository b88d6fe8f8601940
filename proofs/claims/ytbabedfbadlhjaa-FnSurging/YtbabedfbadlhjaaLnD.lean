/-
What is proved: a map that is drawn: lines with any numbers, up to 13 of them, each with 1 to 61 points.
-/
import Derived.Test.YtbabedfbadlhjaaLnA
import Derived.Test.YtbabedfbadlhjaaLsKnot
import Derived.Test.YtbabedfbadlhjaaRdC
import Derived.Deep.DeepCutAuto
import Derived.RegionTactic
namespace Go.Proofs.Ytbabedfbadlhjaa
set_option maxRecDepth 40000
open Go.ChangeShapes Go.WideShapes Go.ChangeAt Go.RowKit
set_option linter.unusedVariables false
set_option linter.unusedSimpArgs false

theorem Lst.lowK {base b : Nat} {T : TypeId} {M : Nat} {w : World} {v : Value} {k : Nat} {U : Nat → Int} (h : Lst base T M w v k U) (hb : b ≤ base) : Lst b T M w v k U := by
  refine ⟨h.1, ?_⟩
  rcases h.2 with q | ⟨g, cap, cur, e1, h1, r⟩
  · exact .inl q
  · exact .inr ⟨g, cap, cur, e1, by omega, r⟩
def LonPost (w : World) (e : Ending) (w' : World) : Prop := ∃ (v : Value) (U : Nat → Int), e = .returned v ∧ Lst w.heap.size 33 2 w' v 2 U ∧ Below w.heap.size w w'
set_option maxRecDepth 20000 in
set_option maxHeartbeats 4000000 in
theorem l3Long_any (w : World) : Calls Try.prog 30 #[.int .i64 2] w fun e w' => LonPost w e w' := by
  go_enter Try.func30, Try.ntmps30
  go_upto_region 2 with fail
  have HL : Hid (Lst w.heap.size 33 2 (w.alloc (.cells #[] 33)) (.slice (some ⟨w.heap.size, 0, none⟩) 0 0) 0 (fun _ => 0)) := Lst.lit w _ _ 33 2 _ (Nat.le_refl _)
  have HB : Hid (Below w.heap.size w (w.alloc (.cells #[] 33))) := below0 _ _
  obtain ⟨w1, hw1⟩ : ∃ z, z = w.alloc (.cells #[] 33) := ⟨_, rfl⟩
  rw [← hw1] at HL HB ⊢
  clear hw1
  go_wp2_with fail
  go_loopw [3, 4] (fun v i wx => ∃ (k : Nat) (U : Nat → Int), k ≤ 2 ∧ i = .int .i64 k ∧ Hid (Lst w.heap.size 33 2 wx v k U) ∧ Hid (Below w.heap.size w wx)) (fun _ i _ => 2 - (intOf i).toNat)
  case atStart => exact ⟨0, _, by omega, rfl, HL, HB⟩
  case round =>
    clear HL HB
    obtain ⟨k, U, hk, rfl, HL, HB⟩ := hrel
    by_cases hlt : k < 2
    · have k1 : (k : Int) < 2 := by omega
      have z5 : w.heap.size ≤ wr.heap.size := HB.out.size
      go_wp2_with (at_builtin; refine list_Knot w.heap.size u3 k U (.tmp 11) (.tmp 17) (by rfl) (by rfl) (by rfl) (by rfl) HL.out (by omega) (by omega) ?_; intro g9 cap9 w9 l9 b9)
      have HB9 : Hid (Below w.heap.size w w9) := HB.out.trans b9
      go_roundw
      case rel => exact ⟨k + 1, _, by omega, by go_num, l9, HB9⟩
      case measure => simp [intOf]; omega
    · obtain rfl : k = 2 := by omega
      have hL := HL.out
      have hB := HB.out
      go_wp2
      go_ret
      unfold LonPost
      exact ⟨u3, U, rfl, hL, hB⟩
def LinPost (r : Nat) (s : Option Addr) (n c : Nat) (w : World) (e : Ending) (w' : World) : Prop := ∃ (v : Value) (m p' : Nat), e = .returned v ∧ 1 ≤ m ∧ m ≤ 6 ∧ MpL w.heap.size w' v m ∧ Rd w' r s n c p' ∧ Beside r w w'
set_option maxRecDepth 20000 in
set_option maxHeartbeats 16000000 in
theorem lines_any {r : Nat} {s : Option Addr} {n c p : Nat} {w : World} (h : Hid (Rd w r s n c p)) : Calls Try.prog 27 #[.pointer (some ⟨r, 0, none⟩)] w fun e w' => LinPost r s n c w e w' := by
  have zr0 : r < w.heap.size := h.out.1
  have HR : Hid (Rd w r s n c p) := h
  have HS : Hid (Beside r w w) := Beside.of (Below.refl _ _)
  clear h
  go_enter Try.func27, Try.ntmps27
  go_upto_region 2 with fail
  obtain ⟨x1, hw1⟩ : ∃ z, z = w.alloc (.cells #[] 29) := ⟨_, rfl⟩
  rw [← hw1]
  have b1 : Below w.heap.size w x1 := by rw [hw1]; exact below0 _ _
  have HM : Hid (MpL w.heap.size x1 (.slice (some ⟨w.heap.size, 0, none⟩) 0 0) 0) := by show MpL _ _ _ _; rw [hw1]; exact MpL.lit w _ (Nat.le_refl _)
  replace HR : Hid (Rd x1 r s n c p) := HR.out.below b1
  replace HS : Hid (Beside r w x1) := Beside.of b1
  obtain ⟨g0, hg0⟩ : ∃ z, z = w.heap.size := ⟨_, rfl⟩
  have HG0 : Hid (g0 = w.heap.size) := hg0
  have z0 : r < g0 := by omega
  rw [← hg0] at HM ⊢
  clear hw1 b1 hg0
  go_wp2_with fail
  refine (upto_any 3000 (wfi (by omega) (by omega)) HR).mono ?_
  rintro e x2 ⟨sp, q1, rfl, sp0, sp1, R_, b_⟩
  have zr_ : r < x1.heap.size := HR.out.1
  replace HM : Hid (MpL g0 x2 (.slice (some ⟨g0, 0, none⟩) 0 0) 0) := HM.out.beside b_ (by omega)
  replace HS : Hid (Beside r w x2) := HS.out.trans b_
  replace HR : Hid (Rd x2 r s n c q1) := R_
  clear R_ b_ zr_
  obtain ⟨Sp, hSp⟩ : ∃ z, 1 + sp = z := ⟨_, rfl⟩
  have Sp0 : 1 ≤ Sp := by omega
  have Sp1 : Sp ≤ 3001 := by omega
  go_upto_region 3 with fail
  try rw [hSp]
  clear hSp sp0 sp1
  go_wp2_with fail
  refine (upto_any 90 (wfi (by omega) (by omega)) HR).mono ?_
  rintro e x3 ⟨xx, q2, rfl, xx0, xx1, R_, b_⟩
  have zr_ : r < x2.heap.size := HR.out.1
  replace HM : Hid (MpL g0 x3 (.slice (some ⟨g0, 0, none⟩) 0 0) 0) := HM.out.beside b_ (by omega)
  replace HS : Hid (Beside r w x3) := HS.out.trans b_
  replace HR : Hid (Rd x3 r s n c q2) := R_
  clear R_ b_ zr_
  obtain ⟨X0, hX0⟩ : ∃ z, 1 + xx = z := ⟨_, rfl⟩
  have X00 : 1 ≤ X0 := by omega
  have X01 : X0 ≤ 91 := by omega
  go_upto_region 4 with fail
  try rw [hX0]
  clear hX0 xx0 xx1
  have cr : x3.cell? ⟨r, 0, none⟩ = some (.slice s n c) := HR.out.2.2.1
  have n9 : (n : Int) ≤ 1048576 := by have := HR.out.2.2.2.2.2.1; omega
  obtain ⟨q, hq⟩ : ∃ q : Nat, (n : Int) / 20 = (q : Int) := ⟨n / 20, by omega⟩
  have q9 : (q : Int) ≤ 52429 := by omega
  obtain ⟨mn, hmn⟩ : ∃ z : Int, (if (5 : Int) < 1 + (q : Int) then 5 else 1 + (q : Int)) = z := ⟨_, rfl⟩
  have mn0 : 1 ≤ mn ∧ mn ≤ 5 := by rw [← hmn]; split <;> omega
  go_wp2_with fail
  all_goals
    refine (below_any _ HR).mono ?_
    rintro e x4 ⟨nn, q3, rfl, nn0, -, nn2, R_, b_⟩
    have zr_ : r < x3.heap.size := HR.out.1
    replace HM : Hid (MpL g0 x4 (.slice (some ⟨g0, 0, none⟩) 0 0) 0) := HM.out.beside b_ (by omega)
    replace HS : Hid (Beside r w x4) := HS.out.trans b_
    replace HR : Hid (Rd x4 r s n c q3) := R_
    clear R_ b_ zr_
    have nn5 : nn ≤ 5 := by omega
    obtain ⟨N, hN⟩ : ∃ N : Int, 1 + nn = N := ⟨_, rfl⟩
    have N1 : 1 ≤ N := by omega
    have N6 : N ≤ 6 := by omega
    go_upto_region 5 with fail
    try rw [hN]
    clear hN nn0 nn5 nn2 cr hq n9 hmn mn0
    go_wp2_with fail
    go_loopw [3, 4, 5, 6] (fun v vs vx i wx => ∃ (k p5 : Nat) (S X : Int), (k : Int) ≤ N ∧ i = .int .i64 (N - k) ∧ vs = .int .i64 S ∧ vx = .int .i64 X ∧ (1 ≤ S ∧ S ≤ 3001 + 4001 * k) ∧ (1 - 8 * k ≤ X ∧ X ≤ 91 + 60 * k) ∧ Hid (Rd wx r s n c p5) ∧ Hid (Beside r w wx) ∧ Hid (MpL g0 wx v k)) (fun _ _ _ i _ => (intOf i).toNat)
    case atStart => exact ⟨0, q3, Sp, X0, by omega, by simp, rfl, rfl, by omega, by omega, HR, HS, HM⟩
    case round =>
      clear HR HS HM
      obtain ⟨k, p5, S, X, hk, rfl, rfl, rfl, hS, hX, HR, HS, HM⟩ := hrel
      by_cases hlt : (k : Int) < N
      case pos =>
        have q0 : 0 < N - (k : Int) := by omega
        rename World => wa
        go_upto_region 8 with fail
        obtain ⟨wb, hwb⟩ : ∃ z, z = wa.alloc (.cells #[] 33) := ⟨_, rfl⟩
        rw [← hwb]
        have bb : Below wa.heap.size wa wb := by rw [hwb]; exact below0 _ _
        have HL : Hid (Lst wa.heap.size 33 2 wb (.slice (some ⟨wa.heap.size, 0, none⟩) 0 0) 0 (fun _ => 0)) := by show Lst _ _ _ _ _ _ _; rw [hwb]; exact Lst.lit wa _ _ 33 2 _ (Nat.le_refl _)
        have za : r < wa.heap.size := HR.out.1
        have zw : w.heap.size ≤ wa.heap.size := HS.out.2.2.2.1
        replace HR : Hid (Rd wb r s n c p5) := HR.out.below bb
        have H0 : Hid (Beside r wa wb) := Beside.of bb
        obtain ⟨bc, hbc⟩ : ∃ z, z = wa.heap.size := ⟨_, rfl⟩
        have HBC : Hid (bc = wa.heap.size) := hbc
        rw [← hbc] at HL za ⊢
        have zb : bc ≤ wb.heap.size := by rw [hbc]; exact bb.size
        have HZ : Hid (bc ≤ wb.heap.size) := zb
        clear hwb bb zb hbc
        have HSa : Hid (Beside r w wa) := HS
        clear HS
        have HS : Hid (Beside r wa wb) := H0
        clear H0
        go_wp2_with fail
        refine (upto_any 2000 (wfi (by omega) (by omega)) HR).mono ?_
        rintro e x5 ⟨yy, q4, rfl, yy0, yy1, R_, b_⟩
        have zr_ : r < wb.heap.size := HR.out.1
        replace HL : Hid (Lst bc 33 2 x5 (.slice (some ⟨bc, 0, none⟩) 0 0) 0 (fun _ => 0)) := HL.out.beside b_ (by omega)
        replace HZ : Hid (bc ≤ x5.heap.size) := Nat.le_trans HZ.out b_.2.2.2.1
        replace HS : Hid (Beside r wa x5) := HS.out.trans b_
        replace HR : Hid (Rd x5 r s n c q4) := R_
        clear R_ b_ zr_
        obtain ⟨Y0, hY0⟩ : ∃ z, 100 + yy = z := ⟨_, rfl⟩
        have Y00 : 100 ≤ Y0 := by omega
        have Y01 : Y0 ≤ 2100 := by omega
        go_upto_region 10 with fail
        try rw [hY0]
        clear hY0 yy0 yy1
        go_wp2_with fail
        refine (below_any 4 HR).mono ?_
        rintro e x6 ⟨kk, q5, rfl, kk0, -, kk2, R_, b_⟩
        have zr_ : r < x5.heap.size := HR.out.1
        replace HL : Hid (Lst bc 33 2 x6 (.slice (some ⟨bc, 0, none⟩) 0 0) 0 (fun _ => 0)) := HL.out.beside b_ (by omega)
        replace HZ : Hid (bc ≤ x6.heap.size) := Nat.le_trans HZ.out b_.2.2.2.1
        replace HS : Hid (Beside r wa x6) := HS.out.trans b_
        replace HR : Hid (Rd x6 r s n c q5) := R_
        clear R_ b_ zr_
        obtain ⟨M, hM⟩ : ∃ M : Int, 2 + kk = M := ⟨_, rfl⟩
        have M1 : 2 ≤ M := by omega
        have M5 : M ≤ 6 := by omega
        go_upto_region 11 with fail
        try rw [hM]
        clear hM kk0 kk2
        go_wp2_with fail
        go_loopw [7, 8, 9, 10] (fun v va vy i wx => ∃ (j p6 : Nat) (a y : Int) (U : Nat → Int), (j : Int) ≤ M ∧ i = .int .i64 (M - j) ∧ va = .int .i64 a ∧ vy = .int .i64 y ∧ (X ≤ a ∧ a ≤ X + 121 * j) ∧ (Y0 - 40 * j ≤ y ∧ y ≤ Y0) ∧ Hid (Rd wx r s n c p6) ∧ Hid (Beside r wa wx) ∧ Hid (Lst bc 33 2 wx v j U) ∧ Hid (bc ≤ wx.heap.size)) (fun _ _ _ i _ => (intOf i).toNat)
        case atStart => exact ⟨0, q5, X, Y0, _, by omega, by simp, rfl, rfl, by omega, by omega, HR, HS, HL, HZ⟩
        case round =>
          clear HR HS HL HZ
          obtain ⟨j, p6, a, y, U, hj, rfl, rfl, rfl, ha, hy, HR, HS, HL, HZ⟩ := hrel
          by_cases hjl : (j : Int) < M
          case pos =>
            have q1 : 0 < M - (j : Int) := by omega
            have hz := HZ.out
            have hzr : r < wr.heap.size := HR.out.1
            go_upto_region 14 with (at_builtin; refine list_Knot bc u7 j U (.tmp 45) (.tmp 49) (by rfl) (by rfl) (by rfl) (by rfl) HL.out (by omega) (by omega) ?_; intro g9 cap9 w9 l9 b9)
            replace HL : Hid (Lst bc 33 2 w9 (.slice (some ⟨g9, 0, none⟩) (j + 1) cap9) (j + 1) (putL U 2 j [a, y])) := l9
            replace HR : Hid (Rd w9 r s n c p6) := Rd.below' HR.out (b9.mono (by omega))
            replace HS : Hid (Beside r wa w9) := HS.out.onB (b9.mono (by have := HBC.out; omega))
            replace HZ : Hid (bc ≤ w9.heap.size) := Nat.le_trans hz b9.size
            clear l9 b9 hz hzr
            go_wp2_with fail
            refine (upto_any 120 (wfi (by omega) (by omega)) HR).mono ?_
            rintro e x7 ⟨ua, q7, rfl, ua0, ua1, R_, b_⟩
            have zr_ : r < w9.heap.size := HR.out.1
            replace HL : Hid (Lst bc 33 2 x7 (.slice (some ⟨g9, 0, none⟩) (j + 1) cap9) (j + 1) (putL U 2 j [a, y])) := HL.out.beside b_ (by omega)
            replace HZ : Hid (bc ≤ x7.heap.size) := Nat.le_trans HZ.out b_.2.2.2.1
            replace HS : Hid (Beside r wa x7) := HS.out.trans b_
            replace HR : Hid (Rd x7 r s n c q7) := R_
            clear R_ b_ zr_
            obtain ⟨a2, ha2⟩ : ∃ z, a + 1 + ua = z := ⟨_, rfl⟩
            have ha3 : X ≤ a2 ∧ a2 ≤ X + 121 * (j + 1 : Nat) := by omega
            go_upto_region 15 with fail
            try rw [ha2]
            clear ha2 ua0 ua1
            go_wp2_with fail
            refine (upto_any 40 (wfi (by omega) (by omega)) HR).mono ?_
            rintro e x8 ⟨uy, q8, rfl, uy0, uy1, R_, b_⟩
            have zr_ : r < x7.heap.size := HR.out.1
            replace HL : Hid (Lst bc 33 2 x8 (.slice (some ⟨g9, 0, none⟩) (j + 1) cap9) (j + 1) (putL U 2 j [a, y])) := HL.out.beside b_ (by omega)
            replace HZ : Hid (bc ≤ x8.heap.size) := Nat.le_trans HZ.out b_.2.2.2.1
            replace HS : Hid (Beside r wa x8) := HS.out.trans b_
            replace HR : Hid (Rd x8 r s n c q8) := R_
            clear R_ b_ zr_
            obtain ⟨y2, hy2⟩ : ∃ z, y - uy = z := ⟨_, rfl⟩
            have hy3 : Y0 - 40 * (j + 1 : Nat) ≤ y2 ∧ y2 ≤ Y0 := by omega
            go_upto_region 12 with fail
            try rw [hy2]
            clear hy2 uy0 uy1
            go_wp2
            go_roundw
            case rel => exact ⟨j + 1, q8, a2, y2, _, by omega, by congr 1; omega, rfl, rfl, ha3, hy3, HR, HS, HL, HZ⟩
            case measure => simp [intOf]; omega
          case neg =>
            obtain rfl : (j : Int) = M := by omega
            rename World => wd
            obtain ⟨t, cap, eu, OW⟩ := HL.out.own
            subst eu
            have hKb := KnB.of HL.out (by omega)
            have HK : Hid (KnB g0 wd t j ∧ j ≤ cap) := ⟨hKb.1.low (by have := HBC.out; have := HG0.out; omega), hKb.2⟩
            replace HM : Hid (MpL g0 wd u3 k) := HM.out.beside HS.out (by omega)
            replace HS : Hid (Beside r w wd) := HSa.out.trans HS.out
            have zw2 : g0 ≤ wd.heap.size := by have := HS.out.2.2.2.1; have := HG0.out; omega
            have j6 : j ≤ 61 := by omega
            have j1 : 1 ≤ j := by omega
            have k6 : k ≤ 6 := by omega
            obtain ⟨tm, cm, em⟩ := HM.out.val
            subst em
            have hrd : r < wd.heap.size := HR.out.1
            clear OW hKb HL HZ HSa hj hjl ha hy
            go_upto_region 17 with (at_builtin; refine list_Line g0 (.slice tm k cm) k (.tmp 60) (.tmp 64) (by rfl) (by rfl) (by rfl) (by rfl) HM.out HK.out.1 j1 HK.out.2 j6 (by omega) zw2 ?_; intro g7 cap7 w7 l7 b7)
            replace HM : Hid (MpL g0 w7 (.slice (some ⟨g7, 0, none⟩) (k + 1) cap7) (k + 1)) := l7
            replace HR : Hid (Rd w7 r s n c p6) := Rd.below' HR.out (b7.mono (by omega))
            replace HS : Hid (Beside r w w7) := HS.out.onB (b7.mono (by have := HG0.out; omega))
            clear l7 b7 zw2 hrd HK
            go_wp2_with fail
            refine (upto_any 4000 (wfi (by omega) (by omega)) HR).mono ?_
            rintro e x9 ⟨us, q9, rfl, us0, us1, R_, b_⟩
            have zr_ : r < w7.heap.size := HR.out.1
            replace HM : Hid (MpL g0 x9 (.slice (some ⟨g7, 0, none⟩) (k + 1) cap7) (k + 1)) := HM.out.beside b_ (by omega)
            replace HS : Hid (Beside r w x9) := HS.out.trans b_
            replace HR : Hid (Rd x9 r s n c q9) := R_
            clear R_ b_ zr_
            obtain ⟨S2, hS2⟩ : ∃ z, S + 1 + us = z := ⟨_, rfl⟩
            have hS3 : 1 ≤ S2 ∧ S2 ≤ 3001 + 4001 * (k + 1 : Nat) := by omega
            go_upto_region 18 with fail
            try rw [hS2]
            clear hS2 us0 us1
            go_wp2_with fail
            refine (upto_any 60 (wfi (by omega) (by omega)) HR).mono ?_
            rintro e x10 ⟨ux, q10, rfl, ux0, ux1, R_, b_⟩
            have zr_ : r < x9.heap.size := HR.out.1
            replace HM : Hid (MpL g0 x10 (.slice (some ⟨g7, 0, none⟩) (k + 1) cap7) (k + 1)) := HM.out.beside b_ (by omega)
            replace HS : Hid (Beside r w x10) := HS.out.trans b_
            replace HR : Hid (Rd x10 r s n c q10) := R_
            clear R_ b_ zr_
            obtain ⟨X2, hX2⟩ : ∃ z, X + ux - 8 = z := ⟨_, rfl⟩
            have hX3 : 1 - 8 * (k + 1 : Nat) ≤ X2 ∧ X2 ≤ 91 + 60 * (k + 1 : Nat) := by omega
            go_upto_region 6 with fail
            try rw [hX2]
            clear hX2 ux0 ux1
            go_wp2
            go_roundw
            case rel => exact ⟨k + 1, q10, S2, X2, by omega, by congr 1; omega, rfl, rfl, hS3, hX3, HR, HS, HM⟩
            case measure => simp [intOf]; omega
      case neg =>
        obtain rfl : (k : Int) = N := by omega
        rename World => wl
        have k1 : 1 ≤ k := by omega
        have k6 : k ≤ 6 := by omega
        obtain ⟨f0, hF0⟩ := HM.out
        obtain ⟨tm, cm, em⟩ := HM.out.val
        subst em
        obtain ⟨g, hg, gB⟩ : ∃ g, tm = some ⟨g, 0, none⟩ ∧ g0 ≤ g := by
          rcases hF0.1.2 with ⟨_, q⟩ | ⟨g, cap, cur, e, hb, _⟩
          · omega
          · cases e; exact ⟨g, rfl, hb⟩
        subst hg
        clear hF0 f0 hk hlt hS hX N1 N6
        go_wp2_with fail
        refine (below_any 24 HR).mono ?_
        rintro e x11 ⟨kk, pk, rfl, kk0, -, -, R_, b_⟩
        have zr_ : r < wl.heap.size := HR.out.1
        replace HM : Hid (MpL g0 x11 (.slice (some ⟨g, 0, none⟩) k cm) k) := HM.out.beside b_ (by omega)
        replace HS : Hid (Beside r w x11) := HS.out.trans b_
        replace HR : Hid (Rd x11 r s n c pk) := R_
        clear R_ b_ zr_
        by_cases e0 : kk = 0
        case pos =>
          subst e0
          obtain ⟨f, hF⟩ := HM.out
          have HF : Hid (MpF g0 x11 (.slice (some ⟨g, 0, none⟩) k cm) k f) := hF
          obtain ⟨s0, t0, k0, c0, e0, e1, hK0, k01, k02, k03⟩ := hF.2 0 (by omega)
          obtain ⟨kl, hkl⟩ : ∃ kl, k = kl + 1 := ⟨k - 1, by omega⟩
          obtain ⟨s1, t1, k1_, c1, e2, e3, -⟩ := hF.2 kl (by omega)
          have cA := hF.cell (i := 0) (by omega)
          have cB := hF.cell (i := 1) (by omega)
          have cL := hF.cell (i := kl * 2) (by omega)
          rw [show f 0 = .int .i64 s0 from e0] at cA
          rw [show f 1 = .slice t0 k0 c0 from e1] at cB
          rw [e2] at cL
          have hki : (k : Int) - 1 = (kl : Int) := by omega
          have kz : (kl : Int) < (k : Int) := by omega
          have kp : (0 : Int) < (k : Int) := by omega
          have c0i : (1 : Int) ≤ (c0 : Int) := by omega
          clear hkl
          have hst := store_sl
          have fz : x11.frozen? ⟨g, 0, none⟩ = false := hF.1.frozenAt _
          have cz := hF.cell (i := 0) (by omega)
          clear hF
          go_upto_region 28 with fail
          obtain ⟨x12, hw_⟩ : ∃ x_, x_ = x11.setCell ⟨g, 0, none⟩ (.int .i64 s1) := ⟨_, rfl⟩
          rw [← hw_]
          have bs_ : Beside g x11 x12 := by rw [hw_]; exact Beside.setCell g _ _ _
          have zr_ : r < x11.heap.size := HR.out.1
          have zs_ : w.heap.size ≤ x11.heap.size := HS.out.2.2.2.1
          replace HM : Hid (MpL g0 x12 (.slice (some ⟨g, 0, none⟩) k cm) k) := by show MpL _ _ _ _; rw [hw_]; exact ⟨_, HF.out.put (0) (.int .i64 s1) (lng_speed HF.out (0) (0) (by omega) _)⟩
          replace HR : Hid (Rd x12 r s n c pk) := Rd.below' HR.out (bs_.below (by omega) (by omega))
          replace HS : Hid (Beside r w x12) := HS.out.onB (bs_.below (by have := HG0.out; omega) zs_)
          clear hw_ bs_ zr_ zs_ fz cz HF
          have BS := HS.out
          have hM := HM.out.low (show w.heap.size ≤ g0 by have := HG0.out; omega)
          go_wp2
          go_ret
          unfold LinPost
          exact ⟨_, k, pk, rfl, k1, k6, hM, HR.out, BS⟩
        have ne0 : (kk == 0) = false := by simpa using e0
        by_cases e1 : kk = 1
        case pos =>
          subst e1
          obtain ⟨f, hF⟩ := HM.out
          have HF : Hid (MpF g0 x11 (.slice (some ⟨g, 0, none⟩) k cm) k f) := hF
          obtain ⟨s0, t0, k0, c0, e0, e1, hK0, k01, k02, k03⟩ := hF.2 0 (by omega)
          obtain ⟨kl, hkl⟩ : ∃ kl, k = kl + 1 := ⟨k - 1, by omega⟩
          obtain ⟨s1, t1, k1_, c1, e2, e3, -⟩ := hF.2 kl (by omega)
          have cA := hF.cell (i := 0) (by omega)
          have cB := hF.cell (i := 1) (by omega)
          have cL := hF.cell (i := kl * 2) (by omega)
          rw [show f 0 = .int .i64 s0 from e0] at cA
          rw [show f 1 = .slice t0 k0 c0 from e1] at cB
          rw [e2] at cL
          have hki : (k : Int) - 1 = (kl : Int) := by omega
          have kz : (kl : Int) < (k : Int) := by omega
          have kp : (0 : Int) < (k : Int) := by omega
          have c0i : (1 : Int) ≤ (c0 : Int) := by omega
          clear hkl
          have hst := store_sl
          have fz : x11.frozen? ⟨g, 1, none⟩ = false := hF.1.frozenAt _
          have cz := hF.cell (i := 1) (by omega)
          clear hF
          go_upto_region 28 with fail
          obtain ⟨x13, hw_⟩ : ∃ x_, x_ = x11.setCell ⟨g, 1, none⟩ (.slice t0 1 c0) := ⟨_, rfl⟩
          rw [← hw_]
          have bs_ : Beside g x11 x13 := by rw [hw_]; exact Beside.setCell g _ _ _
          have zr_ : r < x11.heap.size := HR.out.1
          have zs_ : w.heap.size ≤ x11.heap.size := HS.out.2.2.2.1
          replace HM : Hid (MpL g0 x13 (.slice (some ⟨g, 0, none⟩) k cm) k) := by show MpL _ _ _ _; rw [hw_]; exact ⟨_, HF.out.put (1) (.slice t0 1 c0) (lng_pts HF.out 1 0 (by omega) ⟨hK0.less k01, by omega, by omega, by omega⟩)⟩
          replace HR : Hid (Rd x13 r s n c pk) := Rd.below' HR.out (bs_.below (by omega) (by omega))
          replace HS : Hid (Beside r w x13) := HS.out.onB (bs_.below (by have := HG0.out; omega) zs_)
          clear hw_ bs_ zr_ zs_ fz cz HF
          have BS := HS.out
          have hM := HM.out.low (show w.heap.size ≤ g0 by have := HG0.out; omega)
          go_wp2
          go_ret
          unfold LinPost
          exact ⟨_, k, pk, rfl, k1, k6, hM, HR.out, BS⟩
        have ne1 : (kk == 1) = false := by simpa using e1
        by_cases e2 : kk = 2
        case pos =>
          subst e2
          go_wp2_with fail
          refine (below_any 2 HR).mono ?_
          rintro e x14 ⟨bz, pz, rfl, bz0, -, bz2, R_, b_⟩
          have zr_ : r < x11.heap.size := HR.out.1
          replace HM : Hid (MpL g0 x14 (.slice (some ⟨g, 0, none⟩) k cm) k) := HM.out.beside b_ (by omega)
          replace HS : Hid (Beside r w x14) := HS.out.trans b_
          replace HR : Hid (Rd x14 r s n c pz) := R_
          clear R_ b_ zr_
          obtain ⟨f, hF⟩ := HM.out
          have HF : Hid (MpF g0 x14 (.slice (some ⟨g, 0, none⟩) k cm) k f) := hF
          obtain ⟨s0, t0, k0, c0, e0, e1, hK0, k01, k02, k03⟩ := hF.2 0 (by omega)
          obtain ⟨kl, hkl⟩ : ∃ kl, k = kl + 1 := ⟨k - 1, by omega⟩
          obtain ⟨s1, t1, k1_, c1, e2, e3, -⟩ := hF.2 kl (by omega)
          have cA := hF.cell (i := 0) (by omega)
          have cB := hF.cell (i := 1) (by omega)
          have cL := hF.cell (i := kl * 2) (by omega)
          rw [show f 0 = .int .i64 s0 from e0] at cA
          rw [show f 1 = .slice t0 k0 c0 from e1] at cB
          rw [e2] at cL
          have hki : (k : Int) - 1 = (kl : Int) := by omega
          have kz : (kl : Int) < (k : Int) := by omega
          have kp : (0 : Int) < (k : Int) := by omega
          have c0i : (1 : Int) ≤ (c0 : Int) := by omega
          clear hkl
          have hst := store_sl
          have bz1 : bz ≤ 1 := by omega
          have fz : x14.frozen? ⟨g, kl * 2, none⟩ = false := hF.1.frozenAt _
          have cz := hF.cell (i := kl * 2) (by omega)
          clear hF
          go_upto_region 28 with fail
          obtain ⟨x15, hw_⟩ : ∃ x_, x_ = x14.setCell ⟨g, kl * 2, none⟩ (.int .i64 (100000 + bz)) := ⟨_, rfl⟩
          rw [← hw_]
          have bs_ : Beside g x14 x15 := by rw [hw_]; exact Beside.setCell g _ _ _
          have zr_ : r < x14.heap.size := HR.out.1
          have zs_ : w.heap.size ≤ x14.heap.size := HS.out.2.2.2.1
          replace HM : Hid (MpL g0 x15 (.slice (some ⟨g, 0, none⟩) k cm) k) := by show MpL _ _ _ _; rw [hw_]; exact ⟨_, HF.out.put (kl * 2) (.int .i64 (100000 + bz)) (lng_speed HF.out (kl * 2) (kl) (by omega) _)⟩
          replace HR : Hid (Rd x15 r s n c pz) := Rd.below' HR.out (bs_.below (by omega) (by omega))
          replace HS : Hid (Beside r w x15) := HS.out.onB (bs_.below (by have := HG0.out; omega) zs_)
          clear hw_ bs_ zr_ zs_ fz cz HF
          have BS := HS.out
          have hM := HM.out.low (show w.heap.size ≤ g0 by have := HG0.out; omega)
          go_wp2
          go_ret
          unfold LinPost
          exact ⟨_, k, pz, rfl, k1, k6, hM, HR.out, BS⟩
        have ne2 : (kk == 2) = false := by simpa using e2
        by_cases e3 : kk = 3
        case pos =>
          subst e3
          go_wp2_with fail
          refine (below_any 2 HR).mono ?_
          rintro e x16 ⟨bz, pz, rfl, bz0, -, -, R_, b_⟩
          have zr_ : r < x11.heap.size := HR.out.1
          replace HM : Hid (MpL g0 x16 (.slice (some ⟨g, 0, none⟩) k cm) k) := HM.out.beside b_ (by omega)
          replace HS : Hid (Beside r w x16) := HS.out.trans b_
          replace HR : Hid (Rd x16 r s n c pz) := R_
          clear R_ b_ zr_
          obtain ⟨f, hF⟩ := HM.out
          have HF : Hid (MpF g0 x16 (.slice (some ⟨g, 0, none⟩) k cm) k f) := hF
          obtain ⟨s0, t0, k0, c0, e0, e1, hK0, k01, k02, k03⟩ := hF.2 0 (by omega)
          obtain ⟨kl, hkl⟩ : ∃ kl, k = kl + 1 := ⟨k - 1, by omega⟩
          obtain ⟨s1, t1, k1_, c1, e2, e3, -⟩ := hF.2 kl (by omega)
          have cA := hF.cell (i := 0) (by omega)
          have cB := hF.cell (i := 1) (by omega)
          have cL := hF.cell (i := kl * 2) (by omega)
          rw [show f 0 = .int .i64 s0 from e0] at cA
          rw [show f 1 = .slice t0 k0 c0 from e1] at cB
          rw [e2] at cL
          have hki : (k : Int) - 1 = (kl : Int) := by omega
          have kz : (kl : Int) < (k : Int) := by omega
          have kp : (0 : Int) < (k : Int) := by omega
          have c0i : (1 : Int) ≤ (c0 : Int) := by omega
          clear hkl
          have hst := store_sl
          have fz : x16.frozen? ⟨g, 0, none⟩ = false := hF.1.frozenAt _
          have cz := hF.cell (i := 0) (by omega)
          clear hF
          go_upto_region 28 with fail
          obtain ⟨x17, hw_⟩ : ∃ x_, x_ = x16.setCell ⟨g, 0, none⟩ (.int .i64 bz) := ⟨_, rfl⟩
          rw [← hw_]
          have bs_ : Beside g x16 x17 := by rw [hw_]; exact Beside.setCell g _ _ _
          have zr_ : r < x16.heap.size := HR.out.1
          have zs_ : w.heap.size ≤ x16.heap.size := HS.out.2.2.2.1
          replace HM : Hid (MpL g0 x17 (.slice (some ⟨g, 0, none⟩) k cm) k) := by show MpL _ _ _ _; rw [hw_]; exact ⟨_, HF.out.put (0) (.int .i64 bz) (lng_speed HF.out (0) (0) (by omega) _)⟩
          replace HR : Hid (Rd x17 r s n c pz) := Rd.below' HR.out (bs_.below (by omega) (by omega))
          replace HS : Hid (Beside r w x17) := HS.out.onB (bs_.below (by have := HG0.out; omega) zs_)
          clear hw_ bs_ zr_ zs_ fz cz HF
          have BS := HS.out
          have hM := HM.out.low (show w.heap.size ≤ g0 by have := HG0.out; omega)
          go_wp2
          go_ret
          unfold LinPost
          exact ⟨_, k, pz, rfl, k1, k6, hM, HR.out, BS⟩
        have ne3 : (kk == 3) = false := by simpa using e3
        have BS := HS.out
        have hM := HM.out.low (show w.heap.size ≤ g0 by have := HG0.out; omega)
        go_wp2
        go_ret
        unfold LinPost
        exact ⟨_, k, pk, rfl, k1, k6, hM, HR.out, BS⟩
end Go.Proofs.Ytbabedfbadlhjaa
