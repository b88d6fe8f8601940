/-
What is proved: DrawBoardRun: any board and scans.
-/
import Derived.Test.YtlbbdifmjdpfiaaBdDz
import Derived.Test.YtlbbdifmjdpfiaaScLz
import Derived.Test.YtlbbdifmjdpfiaaSizz
import Derived.Test.YtlbbdifmjdpfiaaRdCz
import Derived.Deep.DeepCutAuto
namespace Go.Proofs.Ytlbbdifmjdpfiaa
set_option maxRecDepth 40000
open Go.ChangeShapes Go.WideShapes Go.ChangeAt Go.RowKit
set_option linter.unusedVariables false
set_option linter.unusedSimpArgs false

def DbPost (w : World) (e : Ending) (w' : World) : Prop := ∃ (x : Int) (t : Option Addr) (na ac : Nat) (V : Nat → Int × Int × Int × Bool × Int) (sl : Option Addr) (m mc : Nat) (Z : Nat → Int × Nat × (Nat → Bool) × Nat × (Nat → Int) × Nat × (Nat → Int × Int)), e = .returned (.tuple #[.agg #[.int .i64 x, .slice t na ac], .slice sl m mc]) ∧ na ≤ 69000 ∧ m ≤ 400 ∧ (∀ i, i < m → ((Z i).2.1 : Int) ≤ 1048576 ∧ ((Z i).2.2.2.1 : Int) ≤ 1048576 ∧ ((Z i).2.2.2.2.2.1 : Int) ≤ 1048576) ∧ RowAlarm w' t na V ∧ RowScs w' sl m Z ∧ Below w.heap.size w w'
structure StopS (p : Prop) : Prop where
  out : p
theorem stopS {p : Prop} (h : StopS p) : p := h.out
def lenS : Value → Nat
  | .slice _ n _ => n
  | _ => 0
set_option maxRecDepth 20000 in
set_option maxHeartbeats 16000000 in
theorem drawBoardRun_any {s : Option Addr} {n c : Nat} {w : World} (h : Hid (Code8 w s n)) :
    Calls Try.prog 10 #[.slice s n c] w fun e w' => DbPost w e w' := by
  go_enter Try.func10, Try.ntmps10
  go_upto_region 1 with fail
  obtain ⟨wa, hwa⟩ : ∃ z, z = w.alloc (.cells #[.int .i64 0, .slice none 0 0] 26) := ⟨_, rfl⟩
  try rw [← hwa]
  obtain ⟨g2, hg2⟩ : ∃ z, z = w.heap.size := ⟨_, rfl⟩
  have ba : Below w.heap.size w wa := by rw [hwa]; exact below0 _ _
  have H2 : Hid (Blk wa g2 [.int .i64 0, .slice none 0 0]) := by show Blk _ _ _; rw [hwa, hg2]; exact Blk.new w #[.int .i64 0, .slice none 0 0] _
  have HC : Hid (Code8 wa s n) := h.out.below ba
  have HS : Hid (Below w.heap.size w wa) := ba
  have zw2 : w.heap.size ≤ g2 := by omega
  try rw [← hg2]
  clear hwa ba hg2 h
  go_wp2_with fail
  refine (open_any HC).mono ?_
  rintro e w1 ⟨rfl, R1, b1⟩
  obtain ⟨r, hr⟩ : ∃ z, z = wa.heap.size := ⟨_, rfl⟩
  have HR : Hid (∃ q, Rd w1 r s n c q) := ⟨0, by rw [hr]; exact R1⟩
  have z2r : g2 < r := by have := H2.out.1; omega
  try rw [← hr]
  replace H2 : Hid (Blk w1 g2 [.int .i64 0, .slice none 0 0]) := H2.out.below b1
  replace HS : Hid (Below w.heap.size w w1) := HS.out.trans (b1.mono HS.out.size)
  clear R1 b1 hr HC
  obtain ⟨q0, R0⟩ := HR.out
  have zr1 : r < w1.heap.size := R0.1
  go_wp2_with fail
  refine (board_any R0).mono ?_
  rintro e w2 hB
  unfold BdPost at hB
  obtain ⟨x, t, na, ac, V, p2, rfl, na1, na6, hA, R2, b2⟩ := hB
  have HA2 : Hid (OwnAlarm (r + 1) w2 t na V) := hA.lowA (by omega)
  replace H2 : Hid (Blk w2 g2 [.int .i64 0, .slice none 0 0]) := H2.out.beside b2 (by omega)
  replace HS : Hid (Below w.heap.size w w2) := HS.out.trans (b2.below (by omega) HS.out.size)
  replace HR : Hid (∃ q, Rd w2 r s n c q) := ⟨_, R2⟩
  clear R0 R2 b2 hA zr1
  go_upto_region 3 with fail
  obtain ⟨w3, hw3⟩ : ∃ z, z = w2.alloc (.cells #[.int .i64 x, .slice t na ac] 26) := ⟨_, rfl⟩
  try rw [← hw3]
  obtain ⟨g5, hg5⟩ : ∃ z, z = w2.heap.size := ⟨_, rfl⟩
  have b3 : Below w2.heap.size w2 w3 := by rw [hw3]; exact below0 _ _
  have H5 : Hid (Blk w3 g5 [.int .i64 x, .slice t na ac]) := by show Blk _ _ _; rw [hw3, hg5]; exact Blk.new w2 #[.int .i64 x, .slice t na ac] _
  have HA : Hid (OwnAlarm (r + 1) w3 t na V) := HA2.out.belowA b3
  have zr5 : r < g5 := by obtain ⟨q_, R_⟩ := HR.out; have := R_.1; omega
  replace H2 : Hid (Blk w3 g2 [.int .i64 0, .slice none 0 0]) := H2.out.below b3
  replace HS : Hid (Below w.heap.size w w3) := HS.out.trans (b3.mono HS.out.size)
  replace HR : Hid (∃ q, Rd w3 r s n c q) := by obtain ⟨q_, R_⟩ := HR.out; exact ⟨q_, R_.below b3⟩
  try rw [← hg5]
  clear hw3 hg5 b3 HA2
  have HK : Hid (KpS r w3 w3) := KpS.refl _ _
  obtain ⟨B, hB⟩ : ∃ B, B = w3.heap.size := ⟨_, rfl⟩
  have z5B : g5 < B := by have := H5.out.1; omega
  have z3B : w3.heap.size ≤ B := by omega
  go_upto_region 4 with fail
  obtain ⟨w4, hw4⟩ : ∃ z, z = w3.alloc (.cells #[] 39) := ⟨_, rfl⟩
  try rw [← hw4]
  have b4 : Below w3.heap.size w3 w4 := by rw [hw4]; exact below0 _ _
  have HL : Hid (ScsL B w4 (.slice (some ⟨B, 0, none⟩) 0 0) 0) := by show ScsL _ _ _ _; rw [hw4, hB]; exact ScsL.lit w3 (Nat.le_refl _)
  have zB : B ≤ w4.heap.size := by rw [hB]; exact b4.size
  try rw [← hB]
  clear hw4 hB
  replace H2 : Hid (Blk w4 g2 [.int .i64 0, .slice none 0 0]) := H2.out.below b4
  replace H5 : Hid (Blk w4 g5 [.int .i64 x, .slice t na ac]) := H5.out.below b4
  replace HK : Hid (KpS r w3 w4) := HK.out.below b4
  replace HS : Hid (Below w.heap.size w w4) := HS.out.trans (b4.mono HS.out.size)
  replace HR : Hid (∃ q, Rd w4 r s n c q) := by obtain ⟨q_, R_⟩ := HR.out; exact ⟨q_, R_.below b4⟩
  clear b4
  obtain ⟨q0, R0⟩ := HR.out
  go_wp2_with fail
  refine (size_any 12 24 (by omega) (by omega) (by omega) (by omega) R0).mono ?_
  rintro e w5 ⟨kk, p9, rfl, k1_, k25_, R9, b9⟩
  replace H2 : Hid (Blk w5 g2 [.int .i64 0, .slice none 0 0]) := H2.out.beside b9 (by omega)
  replace H5 : Hid (Blk w5 g5 [.int .i64 x, .slice t na ac]) := H5.out.beside b9 (by omega)
  replace HK : Hid (KpS r w3 w5) := HK.out.reader b9
  replace HL : Hid (ScsL B w5 (.slice (some ⟨B, 0, none⟩) 0 0) 0) := HL.out.beside b9 (by omega)
  replace zB : B ≤ w5.heap.size := Nat.le_trans zB b9.2.2.2.1
  replace HS : Hid (Below w.heap.size w w5) := HS.out.trans (b9.below (by omega) HS.out.size)
  replace HR : Hid (∃ q, Rd w5 r s n c q) := ⟨_, R9⟩
  clear R0 R9 b9
  obtain ⟨k9, rfl⟩ : ∃ k : Nat, kk = (k : Int) := ⟨kk.toNat, by omega⟩
  have hk1 : 1 ≤ k9 := by omega
  have hk2 : k9 ≤ 25 := by omega
  clear k1_ k25_
  go_wp2_with fail
  go_loopw [6, 7] (fun v6 v7 wx => ∃ (k m mc : Nat) (sl : Option Addr), v6 = .slice sl m mc ∧ v7 = .int .i64 (k : Int) ∧ m + k ≤ 25 ∧ 1 ≤ m + k ∧ Hid (∃ q, Rd wx r s n c q) ∧ Hid (Below w.heap.size w wx) ∧ Hid (Blk wx g2 [.int .i64 0, .slice none 0 0]) ∧ Hid (Blk wx g5 [.int .i64 x, .slice t na ac]) ∧ Hid (KpS r w3 wx) ∧ Hid (ScsL B wx (.slice sl m mc) m) ∧ B ≤ wx.heap.size) (fun v6 v7 _ => (intOf v7).toNat)
  case atStart => exact ⟨k9, 0, 0, some ⟨B, 0, none⟩, rfl, rfl, by omega, by omega, HR, HS, H2, H5, HK, HL, zB⟩
  case round =>
    clear HR HS H2 H5 HK HL zB hk1 hk2
    obtain ⟨k, m, mc, sl, rfl, rfl, hk1, hk2, HR, HS, H2, H5, HK, HL, zB⟩ := hrel
    rename World => wr
    by_cases hk : 0 < k
    case pos =>
      have hki : (0 : Int) < (k : Int) := by omega
      have d1 := H5.out.2.2 1 _ rfl
      have dz := H5.out.1
      obtain ⟨q0, R0⟩ := HR.out
      have zrr : r < wr.heap.size := R0.1
      have HzB : Hid (B ≤ wr.heap.size) := zB
      go_wp2_with fail
      refine (scan_any na (by omega) (by omega) R0).mono ?_
      rintro e w6 hK
      unfold ScPost at hK
      obtain ⟨mo, s1, n1, c1, s2, n2, c2, s3, n3, c3, p9, rfl, q1, q2, q3, hc, R9, b9⟩ := hK
      have HE : Hid (scE B w6 (mo, (s1, n1, c1), (s2, n2, c2), (s3, n3, c3))) := ⟨q1, q2, q3, hc.low HzB.out⟩
      clear d1 dz hc q1 q2 q3
      replace H2 : Hid (Blk w6 g2 [.int .i64 0, .slice none 0 0]) := H2.out.beside b9 (by omega)
      replace H5 : Hid (Blk w6 g5 [.int .i64 x, .slice t na ac]) := H5.out.beside b9 (by omega)
      replace HK : Hid (KpS r w3 w6) := HK.out.reader b9
      replace HL : Hid (ScsL B w6 (.slice sl m mc) m) := HL.out.beside b9 (by omega)
      replace zB : B ≤ w6.heap.size := Nat.le_trans zB b9.2.2.2.1
      replace HS : Hid (Below w.heap.size w w6) := HS.out.trans (b9.below (by omega) HS.out.size)
      replace HR : Hid (∃ q, Rd w6 r s n c q) := ⟨_, R9⟩
      clear R0 R9 b9 zrr HzB
      go_wp2_with (at_builtin; refine stopS ?_)
      refine ⟨?_⟩
      refine list_scs (mo, (s1, n1, c1), (s2, n2, c2), (s3, n3, c3)) HL.out HE.out (.tmp 20) (.tmp 26) (by rfl) (by rfl) (by rfl) (by rfl) (by omega) zB ?_
      intro g9 cap9 w9 l9 b9
      have HL9 : Hid (ScsL B w9 (.slice (some ⟨g9, 0, none⟩) (m + 1) cap9) (m + 1)) := l9
      have Hb9 : Hid (Below B w6 w9) := b9
      clear l9 b9
      go_wp2_with fail
      go_roundw
      case rel =>
        have b9 := Hb9.out
        refine ⟨k - 1, m + 1, cap9, some ⟨g9, 0, none⟩, rfl, by go_num, by omega, by omega, ?_, HS.out.trans (b9.mono (by omega)), H2.out.belowB b9 (by omega), H5.out.belowB b9 (by omega), HK.out.belowB b9 z3B, HL9, Nat.le_trans zB b9.size⟩
        obtain ⟨q_, R_⟩ := HR.out
        exact ⟨q_, Rd.below' R_ (b9.mono (by omega))⟩
      case measure => simp [intOf]; omega
    case neg =>
      obtain rfl : k = 0 := by omega
      have hk0 : ¬ (0 : Int) < ((0 : Nat) : Int) := by omega
      have hm1 : 1 ≤ m := by omega
      have hm2 : m ≤ 25 := by omega
      clear hk hk1 hk2
      obtain ⟨q0, R0⟩ := HR.out
      go_wp2_with fail
      refine (once_any 50 (by omega) (by omega) R0).mono ?_
      rintro e w7 ⟨bo, p9, rfl, R9, b9⟩
      replace H2 : Hid (Blk w7 g2 [.int .i64 0, .slice none 0 0]) := H2.out.beside b9 (by omega)
      replace H5 : Hid (Blk w7 g5 [.int .i64 x, .slice t na ac]) := H5.out.beside b9 (by omega)
      replace HK : Hid (KpS r w3 w7) := HK.out.reader b9
      replace HL : Hid (ScsL B w7 (.slice sl m mc) m) := HL.out.beside b9 (by omega)
      replace zB : B ≤ w7.heap.size := Nat.le_trans zB b9.2.2.2.1
      replace HS : Hid (Below w.heap.size w w7) := HS.out.trans (b9.below (by omega) HS.out.size)
      replace HR : Hid (∃ q, Rd w7 r s n c q) := ⟨_, R9⟩
      clear R0 R9 b9 hk0
      cases bo
      case false =>
        have d0 := H5.out.2.2 0 _ rfl
        have d1 := H5.out.2.2 1 _ rfl
        have dz := H5.out.1
        have t0 := H2.out.2.2 0 _ rfl
        have t1 := H2.out.2.2 1 _ rfl
        have f0 := H2.out.2.1 0
        have f1 := H2.out.2.1 1
        have tz := H2.out.1
        have hst := store_slT
        have n25 : g2 ≠ g5 := by omega
        have HSx := HS.out
        have HLx := HL.out
        have HKx := HK.out
        clear HR
        go_upto_region 12 with fail
        have hrow : ∀ W2, Beside g2 w7 W2 → KpS r w3 W2 ∧ ScsL B W2 (.slice sl m mc) m ∧ Below w.heap.size w W2 := fun W2 hb => ⟨HKx.lower hb (by omega), HLx.beside hb (by omega), HSx.trans (hb.below (by omega) HSx.size)⟩
        go_wp2
        refine bodyPost_ret (v := .tuple #[.agg #[.int .i64 x, .slice t na ac], .slice sl m mc]) (by simp [results, Try.results10, go_sem, d0, d1, t0, t1, n25, n25.symm]) rfl ?_
        obtain ⟨e1, e2, e3⟩ := hrow _ ((Beside.setCell g2 _ 0 _).trans (Beside.setCell g2 _ 1 _))
        obtain ⟨Z, z1, z2⟩ := e2.rows
        exact ⟨x, t, na, ac, V, sl, m, mc, Z, rfl, na6, by omega, z2, (e1.alm HA.out).row, z1, e3⟩
      case true =>
        obtain ⟨q0, R0⟩ := HR.out
        go_wp2_with fail
        refine (below_any 2 R0).mono ?_
        rintro e w8 ⟨yy, p9, rfl, k0_, k6_, km_, R9, b9⟩
        replace H2 : Hid (Blk w8 g2 [.int .i64 0, .slice none 0 0]) := H2.out.beside b9 (by omega)
        replace H5 : Hid (Blk w8 g5 [.int .i64 x, .slice t na ac]) := H5.out.beside b9 (by omega)
        replace HK : Hid (KpS r w3 w8) := HK.out.reader b9
        replace HL : Hid (ScsL B w8 (.slice sl m mc) m) := HL.out.beside b9 (by omega)
        replace zB : B ≤ w8.heap.size := Nat.le_trans zB b9.2.2.2.1
        replace HS : Hid (Below w.heap.size w w8) := HS.out.trans (b9.below (by omega) HS.out.size)
        replace HR : Hid (∃ q, Rd w8 r s n c q) := ⟨_, R9⟩
        clear R0 R9 b9
        obtain ⟨y, rfl⟩ : ∃ y : Nat, yy = (y : Int) := ⟨yy.toNat, by omega⟩
        obtain ⟨M, hM⟩ : ∃ M : Nat, 300 + (y : Int) = (M : Int) := ⟨300 + y, by omega⟩
        have wM : IntKind.i64.wrap (300 + (y : Int)) = (M : Int) := by rw [IntKind.wrap_i64]; omega
        have hM2 : M ≤ 301 := by omega
        have hm3 : m ≤ 301 := by omega
        clear k0_ k6_ km_ hM
        go_wp2_with fail
        clear wM
        go_loopw [6] (fun v6 wx => ∃ (m mc : Nat) (sl : Option Addr), v6 = .slice sl m mc ∧ 1 ≤ m ∧ m ≤ 301 ∧ Hid (∃ q, Rd wx r s n c q) ∧ Hid (Below w.heap.size w wx) ∧ Hid (Blk wx g2 [.int .i64 0, .slice none 0 0]) ∧ Hid (Blk wx g5 [.int .i64 x, .slice t na ac]) ∧ Hid (KpS r w3 wx) ∧ Hid (ScsL B wx (.slice sl m mc) m) ∧ B ≤ wx.heap.size) (fun v6 _ => 400 - lenS v6)
        case atStart => exact ⟨m, mc, sl, rfl, hm1, hm3, HR, HS, H2, H5, HK, HL, zB⟩
        case round =>
          clear HR HS H2 H5 HK HL zB hm1 hm2 hm3
          obtain ⟨m, mc, sl, rfl, hm1, hm3, HR, HS, H2, H5, HK, HL, zB⟩ := hrel
          rename World => wq
          by_cases hk : m < M
          case pos =>
            have hki : (m : Int) < (M : Int) := by omega
            have hm1i : (0 : Int) < (m : Int) := by omega
            obtain ⟨lg, ⟨mo, ⟨s1, n1, c1⟩, ⟨s2, n2, c2⟩, s3, n3, c3⟩, rfl, zlB, zlw, e0_, e1_, e2_, e3_, hE⟩ := HL.out.at0 (by omega)
            have HE : Hid (scE B wq (mo, (s1, n1, c1), (s2, n2, c2), (s3, n3, c3))) := hE
            clear hE
            dsimp only at e0_ e1_ e2_ e3_
            go_wp2_with (at_builtin; refine stopS ?_)
            refine ⟨?_⟩
            refine list_scs (mo, (s1, n1, c1), (s2, n2, c2), (s3, n3, c3)) HL.out HE.out (.tmp 37) (.tmp 41) (by rfl) (by rfl) (by rfl) (by rfl) (by omega) zB ?_
            intro g9 cap9 w9 l9 b9
            have HL9 : Hid (ScsL B w9 (.slice (some ⟨g9, 0, none⟩) (m + 1) cap9) (m + 1)) := l9
            have Hb9 : Hid (Below B wq w9) := b9
            clear l9 b9 e0_ e1_ e2_ e3_
            go_wp2_with fail
            go_roundw
            case rel =>
              have b9 := Hb9.out
              refine ⟨m + 1, cap9, some ⟨g9, 0, none⟩, rfl, by omega, by omega, ?_, HS.out.trans (b9.mono (by omega)), H2.out.belowB b9 (by omega), H5.out.belowB b9 (by omega), HK.out.belowB b9 z3B, HL9, Nat.le_trans zB b9.size⟩
              obtain ⟨q_, R_⟩ := HR.out
              exact ⟨q_, Rd.below' R_ (b9.mono (by omega))⟩
            case measure => simp [lenS]; omega
          case neg =>
            have hkn : ¬ (m : Int) < (M : Int) := by omega
            have d0 := H5.out.2.2 0 _ rfl
            have d1 := H5.out.2.2 1 _ rfl
            have dz := H5.out.1
            have t0 := H2.out.2.2 0 _ rfl
            have t1 := H2.out.2.2 1 _ rfl
            have f0 := H2.out.2.1 0
            have f1 := H2.out.2.1 1
            have tz := H2.out.1
            have hst := store_slT
            have n25 : g2 ≠ g5 := by omega
            have HSx := HS.out
            have HLx := HL.out
            have HKx := HK.out
            clear HR
            go_upto_region 12 with fail
            have hrow : ∀ W2, Beside g2 wq W2 → KpS r w3 W2 ∧ ScsL B W2 (.slice sl m mc) m ∧ Below w.heap.size w W2 := fun W2 hb => ⟨HKx.lower hb (by omega), HLx.beside hb (by omega), HSx.trans (hb.below (by omega) HSx.size)⟩
            go_wp2
            refine bodyPost_ret (v := .tuple #[.agg #[.int .i64 x, .slice t na ac], .slice sl m mc]) (by simp [results, Try.results10, go_sem, d0, d1, t0, t1, n25, n25.symm]) rfl ?_
            obtain ⟨e1, e2, e3⟩ := hrow _ ((Beside.setCell g2 _ 0 _).trans (Beside.setCell g2 _ 1 _))
            obtain ⟨Z, z1, z2⟩ := e2.rows
            exact ⟨x, t, na, ac, V, sl, m, mc, Z, rfl, na6, by omega, z2, (e1.alm HA.out).row, z1, e3⟩
end Go.Proofs.Ytlbbdifmjdpfiaa
