/-
What is proved: FnLinkOnce: what a drawn link has heard it does not take a second time; what it takes is fresh, and what was lost is not less than before; no condition.
-/
import Derived.Test.YtkocbklkiehdiaaZbC
import Derived.Test.YtkocbklkiehdiaaZbB
import Derived.Test.YtkocbklkiehdiaaHeSo
import Derived.Test.YtkocbklkiehdiaaHeIo
import Derived.Test.YtkocbklkiehdiaaZbA
import Derived.Deep.DeepCutAuto

namespace Go.Proofs.Ytkocbklkiehdiaa
set_option maxRecDepth 40000
open Go.ChangeShapes Go.WideShapes Go.ChangeAt Go.RowKit
set_option linter.unusedVariables false
set_option linter.unusedSimpArgs false

set_option maxHeartbeats 400000 in
theorem lonce_far (w : World) (s : Option Addr) (n c : Nat) (h : (1048576 : Int) < n) :
    Calls Try.prog 3 #[.slice s n c] w fun e w' => e = .returned (.bool true) ∧ Below w.heap.size w w' := by
  go_enter Try.func3, Try.ntmps3
  go_wp2_with fail
  refine (big_yes _ _ _ _ h).mono ?_
  rintro e w1 ⟨rfl, rfl⟩
  go_wp2
  go_ret
  exact ⟨rfl, Below.refl _ _⟩
set_option maxRecDepth 20000 in
set_option maxHeartbeats 16000000 in
theorem lonce_near (w : World) (s : Option Addr) (n c : Nat) (h0 : (n : Int) ≤ 1048576) (HC : Hid (Code8 w s n)) :
    Calls Try.prog 3 #[.slice s n c] w fun e w' => e = .returned (.bool true) ∧ Below w.heap.size w w' := by
  go_enter Try.func3, Try.ntmps3
  go_wp2_with fail
  refine (big_no _ _ _ _ h0).mono ?_
  rintro e w1 ⟨rfl, rfl⟩
  rename World => w
  go_wp2_with fail
  refine (drawHear_any HC).mono ?_
  rintro e w2 hK
  unfold DhPost at hK
  obtain ⟨t, hd, q, a, l, tt, m, cc, V, sv, k, cv, D, rfl, m21, O1, SP, SL, SY, b1⟩ := hK
  obtain ⟨kl, kc, kS, OY⟩ := SP
  have HS : Hid (Below w.heap.size w w2) := b1
  have HO : Hid (RowI w2 tt m V) := O1
  have HY : Hid (RowY w2 sv k (nthI D)) := OY.row
  have HV : Hid (∀ j, j < k → 0 ≤ nthI D j ∧ nthI D j < 256) := fun j hj => nth_byt SY j (by omega)
  have HkS : Hid (sv = none ∨ ∃ b, sv = some ⟨b, 0, none⟩) := kS
  have k2 : k ≤ 1002 := by omega
  obtain ⟨x, hx⟩ : ∃ x, heV t hd q a l m V k (nthI D) = x := ⟨_, rfl⟩
  have HX : Hid (heV t hd q a l m V k (nthI D) = x) := hx
  have HNU : Hid (x.C = 0 → x.H = true ∧ x.A = 0 ∧ x.Q = rdQ k (nthI D) ∧ x.m = rdN k (nthI D) ∧ x.U = rdU (nthI D) ∧ l ≤ x.L ∧ linkB x.T true x.Q 0 x.L x.m x.U = true ∧ (heV x.T true x.Q 0 x.L x.m x.U k (nthI D)).C = 7 ∧ frB x.T true x.Q 0 x.L x.m x.U 0 = true ∧ frB x.T true x.Q 4 x.L x.m x.U 3 = false) := fun hC => once_nums HX.out hC HV.out
  clear b1 O1 OY SY kl SL kS hx HC h0
  go_upto_region 4 with fail
  obtain ⟨w3, hx_⟩ : ∃ z, z = w2.alloc (.cells #[.int .i64 t, .bool hd, .int .i64 q, .int .i64 a, .int .i64 l, .slice tt m cc] 26) := ⟨_, rfl⟩
  try rw [← hx_]
  obtain ⟨g3, hg_⟩ : ∃ z, z = w2.heap.size := ⟨_, rfl⟩
  have b_ : Below w2.heap.size w2 w3 := by rw [hx_]; exact below0 _ _
  have H3 : Hid (Blk w3 g3 [.int .i64 t, .bool hd, .int .i64 q, .int .i64 a, .int .i64 l, .slice tt m cc]) := by show Blk _ _ _; rw [hx_, hg_]; exact Blk.new w2 #[.int .i64 t, .bool hd, .int .i64 q, .int .i64 a, .int .i64 l, .slice tt m cc] _
  replace HO : Hid (RowI w3 tt m V) := HO.out.below b_
  replace HY : Hid (RowY w3 sv k (nthI D)) := HY.out.below b_
  replace HS : Hid (Below w.heap.size w w3) := HS.out.trans (b_.mono HS.out.size)
  try rw [← hg_]
  clear hx_ hg_ b_
  have c0 := H3.out.2.2 0 _ rfl
  have c1 := H3.out.2.2 1 _ rfl
  have c2 := H3.out.2.2 2 _ rfl
  have c3 := H3.out.2.2 3 _ rfl
  have c4 := H3.out.2.2 4 _ rfl
  have c5 := H3.out.2.2 5 _ rfl
  go_wp2_with fail
  refine (specHearO t hd q a l tt m cc V sv k cv (nthI D) _ (by omega) (by omega) kc HkS.out HV HO.out HY.out).mono ?_
  rintro e w4 ⟨s4, d4, rfl, -, b4⟩
  rw [HX.out]
  replace H3 : Hid (Blk w4 g3 [.int .i64 t, .bool hd, .int .i64 q, .int .i64 a, .int .i64 l, .slice tt m cc]) := H3.out.below b4
  replace HO : Hid (RowI w4 tt m V) := HO.out.below b4
  replace HY : Hid (RowY w4 sv k (nthI D)) := HY.out.below b4
  replace HS : Hid (Below w.heap.size w w4) := HS.out.trans (b4.mono HS.out.size)
  clear b4 c0 c1 c2 c3 c4 c5
  go_upto_region 5 with fail
  obtain ⟨w5, hx_⟩ : ∃ z, z = w4.alloc (.cells #[.int .i64 x.T, .bool x.H, .int .i64 x.Q, .int .i64 x.A, .int .i64 x.L, .slice s4 x.m d4] 26) := ⟨_, rfl⟩
  try rw [← hx_]
  obtain ⟨g5, hg_⟩ : ∃ z, z = w4.heap.size := ⟨_, rfl⟩
  have b_ : Below w4.heap.size w4 w5 := by rw [hx_]; exact below0 _ _
  have H5 : Hid (Blk w5 g5 [.int .i64 x.T, .bool x.H, .int .i64 x.Q, .int .i64 x.A, .int .i64 x.L, .slice s4 x.m d4]) := by show Blk _ _ _; rw [hx_, hg_]; exact Blk.new w4 #[.int .i64 x.T, .bool x.H, .int .i64 x.Q, .int .i64 x.A, .int .i64 x.L, .slice s4 x.m d4] _
  replace H3 : Hid (Blk w5 g3 [.int .i64 t, .bool hd, .int .i64 q, .int .i64 a, .int .i64 l, .slice tt m cc]) := H3.out.below b_
  replace HO : Hid (RowI w5 tt m V) := HO.out.below b_
  replace HY : Hid (RowY w5 sv k (nthI D)) := HY.out.below b_
  replace HS : Hid (Below w.heap.size w w5) := HS.out.trans (b_.mono HS.out.size)
  try rw [← hg_]
  clear hx_ hg_ b_
  have c0 := H3.out.2.2 0 _ rfl
  have c1 := H3.out.2.2 1 _ rfl
  have c2 := H3.out.2.2 2 _ rfl
  have c3 := H3.out.2.2 3 _ rfl
  have c4 := H3.out.2.2 4 _ rfl
  have c5 := H3.out.2.2 5 _ rfl
  go_wp2_with fail
  refine (implHearO t hd q a l tt m cc V sv k cv (nthI D) _ (by omega) (by omega) kc HkS.out HV HO.out HY.out).mono ?_
  rintro e w6 ⟨s6, d6, rfl, O6, b6⟩
  rw [HX.out]
  rw [HX.out] at O6
  have HM : Hid (RowI w6 s6 x.m x.U) := O6.row
  replace H3 : Hid (Blk w6 g3 [.int .i64 t, .bool hd, .int .i64 q, .int .i64 a, .int .i64 l, .slice tt m cc]) := H3.out.below b6
  replace H5 : Hid (Blk w6 g5 [.int .i64 x.T, .bool x.H, .int .i64 x.Q, .int .i64 x.A, .int .i64 x.L, .slice s4 x.m d4]) := H5.out.below b6
  replace HO : Hid (RowI w6 tt m V) := HO.out.below b6
  replace HY : Hid (RowY w6 sv k (nthI D)) := HY.out.below b6
  replace HS : Hid (Below w.heap.size w w6) := HS.out.trans (b6.mono HS.out.size)
  clear b6 O6 c0 c1 c2 c3 c4 c5
  go_upto_region 6 with fail
  obtain ⟨w7, hx_⟩ : ∃ z, z = w6.alloc (.cells #[.int .i64 x.T, .bool x.H, .int .i64 x.Q, .int .i64 x.A, .int .i64 x.L, .slice s6 x.m d6] 26) := ⟨_, rfl⟩
  try rw [← hx_]
  obtain ⟨g7, hg_⟩ : ∃ z, z = w6.heap.size := ⟨_, rfl⟩
  have b_ : Below w6.heap.size w6 w7 := by rw [hx_]; exact below0 _ _
  have H7 : Hid (Blk w7 g7 [.int .i64 x.T, .bool x.H, .int .i64 x.Q, .int .i64 x.A, .int .i64 x.L, .slice s6 x.m d6]) := by show Blk _ _ _; rw [hx_, hg_]; exact Blk.new w6 #[.int .i64 x.T, .bool x.H, .int .i64 x.Q, .int .i64 x.A, .int .i64 x.L, .slice s6 x.m d6] _
  replace H3 : Hid (Blk w7 g3 [.int .i64 t, .bool hd, .int .i64 q, .int .i64 a, .int .i64 l, .slice tt m cc]) := H3.out.below b_
  replace HO : Hid (RowI w7 tt m V) := HO.out.below b_
  replace HY : Hid (RowY w7 sv k (nthI D)) := HY.out.below b_
  replace HM : Hid (RowI w7 s6 x.m x.U) := HM.out.below b_
  replace HS : Hid (Below w.heap.size w w7) := HS.out.trans (b_.mono HS.out.size)
  try rw [← hg_]
  clear hx_ hg_ b_
  have hnn : (x.C != x.C) = false := by simp
  by_cases hC : x.C = 0
  case neg =>
    have BS := HS.out
    have hC2 : (x.C != 0) = true := by simpa using hC
    go_wp2
    go_ret
    exact ⟨rfl, (by repeat (first | with_reducible exact Below.refl _ _ | with_reducible exact BS | with_reducible refine Below.setCell ?_ (by first | omega | (simp; done) | (simp; omega)) _ | with_reducible refine bDrewN ?_ _ | with_reducible refine Below.drew ?_ | with_reducible refine Below.alloc ?_ (by first | omega | (simp; done) | (simp; omega)) _))⟩
  obtain ⟨uH, uA, uQ, um, uU, ul, uK, u7, uF, uS⟩ := HNU.out hC
  clear HNU HX
  obtain ⟨C, T, H, Q, A, Lo, m2, U⟩ := x
  dsimp only at *
  subst hC
  subst uH
  subst uA
  have HK : Hid (linkB T true Q 0 Lo m2 U = true) := uK
  have H7c : Hid ((heV T true Q 0 Lo m2 U k (nthI D)).C = 7) := u7
  have HF : Hid (frB T true Q 0 Lo m2 U 0 = true) := uF
  have HG : Hid (frB T true Q 4 Lo m2 U 3 = false) := uS
  have HQ : Hid (Q = rdQ k (nthI D)) := uQ
  have HU : Hid (m2 = rdN k (nthI D) ∧ U = rdU (nthI D)) := ⟨um, uU⟩
  have HLo : Hid (l ≤ Lo) := ul
  have m220 : m2 ≤ 20 := (link_parts uK).2.2.2.2
  clear uK u7 uF uS uQ um uU ul hnn
  go_wp2_with fail
  refine (specReadO sv k cv (nthI D) _ (by omega) kc HkS.out HV HY.out).mono ?_
  rintro e w8 ⟨s8, d8, rfl, O8, b8⟩
  have HR8 : Hid (RowI w8 s8 (rdN k (nthI D)) (rdU (nthI D))) := O8.row
  obtain ⟨e1, e2⟩ := HU.out
  rw [← e1, ← e2] at HR8
  rw [← e1]
  rw [← HQ.out]
  clear e1 e2
  replace H3 : Hid (Blk w8 g3 [.int .i64 t, .bool hd, .int .i64 q, .int .i64 a, .int .i64 l, .slice tt m cc]) := H3.out.below b8
  replace H7 : Hid (Blk w8 g7 [.int .i64 T, .bool true, .int .i64 Q, .int .i64 0, .int .i64 Lo, .slice s6 m2 d6]) := H7.out.below b8
  replace HO : Hid (RowI w8 tt m V) := HO.out.below b8
  replace HY : Hid (RowY w8 sv k (nthI D)) := HY.out.below b8
  replace HM : Hid (RowI w8 s6 m2 U) := HM.out.below b8
  replace HS : Hid (Below w.heap.size w w8) := HS.out.trans (b8.mono HS.out.size)
  clear b8 O8
  go_upto_region 11 with fail
  obtain ⟨w9, hx_⟩ : ∃ z, z = w8.alloc (.cells #[.int .i64 (rdT k (nthI D)), .int .i64 Q, .slice s8 m2 d8] 32) := ⟨_, rfl⟩
  try rw [← hx_]
  obtain ⟨g9, hg_⟩ : ∃ z, z = w8.heap.size := ⟨_, rfl⟩
  have b_ : Below w8.heap.size w8 w9 := by rw [hx_]; exact below0 _ _
  have H9 : Hid (Blk w9 g9 [.int .i64 (rdT k (nthI D)), .int .i64 Q, .slice s8 m2 d8]) := by show Blk _ _ _; rw [hx_, hg_]; exact Blk.new w8 #[.int .i64 (rdT k (nthI D)), .int .i64 Q, .slice s8 m2 d8] _
  replace H3 : Hid (Blk w9 g3 [.int .i64 t, .bool hd, .int .i64 q, .int .i64 a, .int .i64 l, .slice tt m cc]) := H3.out.below b_
  replace H7 : Hid (Blk w9 g7 [.int .i64 T, .bool true, .int .i64 Q, .int .i64 0, .int .i64 Lo, .slice s6 m2 d6]) := H7.out.below b_
  replace HO : Hid (RowI w9 tt m V) := HO.out.below b_
  replace HY : Hid (RowY w9 sv k (nthI D)) := HY.out.below b_
  replace HM : Hid (RowI w9 s6 m2 U) := HM.out.below b_
  replace HR8 : Hid (RowI w9 s8 m2 U) := HR8.out.below b_
  replace HS : Hid (Below w.heap.size w w9) := HS.out.trans (b_.mono HS.out.size)
  try rw [← hg_]
  clear hx_ hg_ b_
  have c0 := H7.out.2.2 0 _ rfl
  have c1 := H7.out.2.2 1 _ rfl
  have c2 := H7.out.2.2 2 _ rfl
  have c3 := H7.out.2.2 3 _ rfl
  have c4 := H7.out.2.2 4 _ rfl
  have c5 := H7.out.2.2 5 _ rfl
  go_wp2_with fail
  refine (implHearO T true Q 0 Lo s6 m2 d6 U sv k cv (nthI D) _ (by omega) (by omega) kc HkS.out HV HM.out HY.out).mono ?_
  rintro e w10 ⟨s10, d10, rfl, -, b10⟩
  obtain ⟨y, hy⟩ : ∃ y, heV T true Q 0 Lo m2 U k (nthI D) = y := ⟨_, rfl⟩
  have HyC : Hid (y.C = 7) := by show _ = _; rw [← hy]; exact H7c.out
  rw [hy]
  clear hy
  replace H3 : Hid (Blk w10 g3 [.int .i64 t, .bool hd, .int .i64 q, .int .i64 a, .int .i64 l, .slice tt m cc]) := H3.out.below b10
  replace H7 : Hid (Blk w10 g7 [.int .i64 T, .bool true, .int .i64 Q, .int .i64 0, .int .i64 Lo, .slice s6 m2 d6]) := H7.out.below b10
  replace H9 : Hid (Blk w10 g9 [.int .i64 (rdT k (nthI D)), .int .i64 Q, .slice s8 m2 d8]) := H9.out.below b10
  replace HO : Hid (RowI w10 tt m V) := HO.out.below b10
  replace HY : Hid (RowY w10 sv k (nthI D)) := HY.out.below b10
  replace HM : Hid (RowI w10 s6 m2 U) := HM.out.below b10
  replace HR8 : Hid (RowI w10 s8 m2 U) := HR8.out.below b10
  replace HS : Hid (Below w.heap.size w w10) := HS.out.trans (b10.mono HS.out.size)
  clear b10 c0 c1 c2 c3 c4 c5
  obtain ⟨yC, yT, yH, yQ, yA, yL, ym, yU⟩ := y
  dsimp only at *
  have eyC : yC = 7 := HyC.out
  subst eyC
  clear HyC
  go_upto_region 12 with fail
  obtain ⟨w11, hx_⟩ : ∃ z, z = w10.alloc (.cells #[.int .i64 yT, .bool yH, .int .i64 yQ, .int .i64 yA, .int .i64 yL, .slice s10 ym d10] 26) := ⟨_, rfl⟩
  try rw [← hx_]
  obtain ⟨g11, hg_⟩ : ∃ z, z = w10.heap.size := ⟨_, rfl⟩
  have b_ : Below w10.heap.size w10 w11 := by rw [hx_]; exact below0 _ _
  have H11 : Hid (Blk w11 g11 [.int .i64 yT, .bool yH, .int .i64 yQ, .int .i64 yA, .int .i64 yL, .slice s10 ym d10]) := by show Blk _ _ _; rw [hx_, hg_]; exact Blk.new w10 #[.int .i64 yT, .bool yH, .int .i64 yQ, .int .i64 yA, .int .i64 yL, .slice s10 ym d10] _
  replace H3 : Hid (Blk w11 g3 [.int .i64 t, .bool hd, .int .i64 q, .int .i64 a, .int .i64 l, .slice tt m cc]) := H3.out.below b_
  replace H7 : Hid (Blk w11 g7 [.int .i64 T, .bool true, .int .i64 Q, .int .i64 0, .int .i64 Lo, .slice s6 m2 d6]) := H7.out.below b_
  replace H9 : Hid (Blk w11 g9 [.int .i64 (rdT k (nthI D)), .int .i64 Q, .slice s8 m2 d8]) := H9.out.below b_
  replace HO : Hid (RowI w11 tt m V) := HO.out.below b_
  replace HY : Hid (RowY w11 sv k (nthI D)) := HY.out.below b_
  replace HM : Hid (RowI w11 s6 m2 U) := HM.out.below b_
  replace HR8 : Hid (RowI w11 s8 m2 U) := HR8.out.below b_
  replace HS : Hid (Below w.heap.size w w11) := HS.out.trans (b_.mono HS.out.size)
  try rw [← hg_]
  clear hx_ hg_ b_
  clear H11
  have c0 := H7.out.2.2 0 _ rfl
  have c1 := H7.out.2.2 1 _ rfl
  have c2 := H7.out.2.2 2 _ rfl
  have c3 := H7.out.2.2 3 _ rfl
  have c4 := H7.out.2.2 4 _ rfl
  have c5 := H7.out.2.2 5 _ rfl
  go_wp2_with fail
  refine (implFreshO T true Q 0 Lo s6 m2 d6 U 0 _ (by omega) HM.out).mono ?_
  rintro e w12 ⟨s12, d12, rfl, O12, b12⟩
  rw [HF.out]
  have eN : frN T true Q 0 Lo m2 U 0 = m2 := by unfold frN; rw [HF.out]; rfl
  rw [eN]
  rw [eN] at O12
  have HR12 : Hid (RowI w12 s12 m2 U) := O12.row
  clear eN O12
  replace H3 : Hid (Blk w12 g3 [.int .i64 t, .bool hd, .int .i64 q, .int .i64 a, .int .i64 l, .slice tt m cc]) := H3.out.below b12
  replace H7 : Hid (Blk w12 g7 [.int .i64 T, .bool true, .int .i64 Q, .int .i64 0, .int .i64 Lo, .slice s6 m2 d6]) := H7.out.below b12
  replace H9 : Hid (Blk w12 g9 [.int .i64 (rdT k (nthI D)), .int .i64 Q, .slice s8 m2 d8]) := H9.out.below b12
  replace HO : Hid (RowI w12 tt m V) := HO.out.below b12
  replace HY : Hid (RowY w12 sv k (nthI D)) := HY.out.below b12
  replace HM : Hid (RowI w12 s6 m2 U) := HM.out.below b12
  replace HR8 : Hid (RowI w12 s8 m2 U) := HR8.out.below b12
  replace HS : Hid (Below w.heap.size w w12) := HS.out.trans (b12.mono HS.out.size)
  clear b12 c0 c1 c2 c3 c4 c5
  have c0 := H7.out.2.2 0 _ rfl
  have c1 := H7.out.2.2 1 _ rfl
  have c2 := H7.out.2.2 2 _ rfl
  have c3 := H7.out.2.2 3 _ rfl
  have c4 := H7.out.2.2 4 _ rfl
  have c5 := H7.out.2.2 5 _ rfl
  go_wp2_with fail
  refine (implOlder_any T true Q Lo s6 m2 d6 U _ (by omega) HM.out HK.out).mono ?_
  rintro e w13 ⟨s13, d13, rfl, O13, b13⟩
  have HR13 : Hid (RowI w13 s13 m2 U) := O13.row
  clear O13
  replace H3 : Hid (Blk w13 g3 [.int .i64 t, .bool hd, .int .i64 q, .int .i64 a, .int .i64 l, .slice tt m cc]) := H3.out.below b13
  replace H7 : Hid (Blk w13 g7 [.int .i64 T, .bool true, .int .i64 Q, .int .i64 0, .int .i64 Lo, .slice s6 m2 d6]) := H7.out.below b13
  replace H9 : Hid (Blk w13 g9 [.int .i64 (rdT k (nthI D)), .int .i64 Q, .slice s8 m2 d8]) := H9.out.below b13
  replace HO : Hid (RowI w13 tt m V) := HO.out.below b13
  replace HY : Hid (RowY w13 sv k (nthI D)) := HY.out.below b13
  replace HM : Hid (RowI w13 s6 m2 U) := HM.out.below b13
  replace HR8 : Hid (RowI w13 s8 m2 U) := HR8.out.below b13
  replace HR12 : Hid (RowI w13 s12 m2 U) := HR12.out.below b13
  replace HS : Hid (Below w.heap.size w w13) := HS.out.trans (b13.mono HS.out.size)
  clear b13 c0 c1 c2 c3 c4 c5
  go_upto_region 14 with fail
  obtain ⟨w14, hx_⟩ : ∃ z, z = w13.alloc (.cells #[.int .i64 T, .bool true, .int .i64 Q, .int .i64 4, .int .i64 Lo, .slice s13 m2 d13] 26) := ⟨_, rfl⟩
  try rw [← hx_]
  obtain ⟨g15, hg_⟩ : ∃ z, z = w13.heap.size := ⟨_, rfl⟩
  have b_ : Below w13.heap.size w13 w14 := by rw [hx_]; exact below0 _ _
  have H15 : Hid (Blk w14 g15 [.int .i64 T, .bool true, .int .i64 Q, .int .i64 4, .int .i64 Lo, .slice s13 m2 d13]) := by show Blk _ _ _; rw [hx_, hg_]; exact Blk.new w13 #[.int .i64 T, .bool true, .int .i64 Q, .int .i64 4, .int .i64 Lo, .slice s13 m2 d13] _
  replace H3 : Hid (Blk w14 g3 [.int .i64 t, .bool hd, .int .i64 q, .int .i64 a, .int .i64 l, .slice tt m cc]) := H3.out.below b_
  replace H7 : Hid (Blk w14 g7 [.int .i64 T, .bool true, .int .i64 Q, .int .i64 0, .int .i64 Lo, .slice s6 m2 d6]) := H7.out.below b_
  replace H9 : Hid (Blk w14 g9 [.int .i64 (rdT k (nthI D)), .int .i64 Q, .slice s8 m2 d8]) := H9.out.below b_
  replace HO : Hid (RowI w14 tt m V) := HO.out.below b_
  replace HY : Hid (RowY w14 sv k (nthI D)) := HY.out.below b_
  replace HM : Hid (RowI w14 s6 m2 U) := HM.out.below b_
  replace HR8 : Hid (RowI w14 s8 m2 U) := HR8.out.below b_
  replace HR12 : Hid (RowI w14 s12 m2 U) := HR12.out.below b_
  replace HR13 : Hid (RowI w14 s13 m2 U) := HR13.out.below b_
  replace HS : Hid (Below w.heap.size w w14) := HS.out.trans (b_.mono HS.out.size)
  try rw [← hg_]
  clear hx_ hg_ b_
  have c0 := H15.out.2.2 0 _ rfl
  have c1 := H15.out.2.2 1 _ rfl
  have c2 := H15.out.2.2 2 _ rfl
  have c3 := H15.out.2.2 3 _ rfl
  have c4 := H15.out.2.2 4 _ rfl
  have c5 := H15.out.2.2 5 _ rfl
  go_wp2_with fail
  refine (implFreshO T true Q 4 Lo s13 m2 d13 U 3 _ (by omega) HR13.out).mono ?_
  rintro e w15 ⟨s15, d15, rfl, -, b15⟩
  rw [HG.out]
  replace H3 : Hid (Blk w15 g3 [.int .i64 t, .bool hd, .int .i64 q, .int .i64 a, .int .i64 l, .slice tt m cc]) := H3.out.below b15
  replace H7 : Hid (Blk w15 g7 [.int .i64 T, .bool true, .int .i64 Q, .int .i64 0, .int .i64 Lo, .slice s6 m2 d6]) := H7.out.below b15
  replace H9 : Hid (Blk w15 g9 [.int .i64 (rdT k (nthI D)), .int .i64 Q, .slice s8 m2 d8]) := H9.out.below b15
  replace H15 : Hid (Blk w15 g15 [.int .i64 T, .bool true, .int .i64 Q, .int .i64 4, .int .i64 Lo, .slice s13 m2 d13]) := H15.out.below b15
  replace HO : Hid (RowI w15 tt m V) := HO.out.below b15
  replace HY : Hid (RowY w15 sv k (nthI D)) := HY.out.below b15
  replace HM : Hid (RowI w15 s6 m2 U) := HM.out.below b15
  replace HR8 : Hid (RowI w15 s8 m2 U) := HR8.out.below b15
  replace HR12 : Hid (RowI w15 s12 m2 U) := HR12.out.below b15
  replace HR13 : Hid (RowI w15 s13 m2 U) := HR13.out.below b15
  replace HS : Hid (Below w.heap.size w w15) := HS.out.trans (b15.mono HS.out.size)
  clear b15 c0 c1 c2 c3 c4 c5
  have f2 := H9.out.2.2 2 _ rfl
  go_wp2_with fail
  refine (sameInts_any s12 s8 m2 d12 d8 U _ (by omega) HR12.out HR8.out).mono ?_
  rintro e w16 ⟨rfl, b16⟩
  replace H3 : Hid (Blk w16 g3 [.int .i64 t, .bool hd, .int .i64 q, .int .i64 a, .int .i64 l, .slice tt m cc]) := H3.out.below b16
  replace H7 : Hid (Blk w16 g7 [.int .i64 T, .bool true, .int .i64 Q, .int .i64 0, .int .i64 Lo, .slice s6 m2 d6]) := H7.out.below b16
  replace H9 : Hid (Blk w16 g9 [.int .i64 (rdT k (nthI D)), .int .i64 Q, .slice s8 m2 d8]) := H9.out.below b16
  replace H15 : Hid (Blk w16 g15 [.int .i64 T, .bool true, .int .i64 Q, .int .i64 4, .int .i64 Lo, .slice s13 m2 d13]) := H15.out.below b16
  replace HO : Hid (RowI w16 tt m V) := HO.out.below b16
  replace HY : Hid (RowY w16 sv k (nthI D)) := HY.out.below b16
  replace HM : Hid (RowI w16 s6 m2 U) := HM.out.below b16
  replace HR8 : Hid (RowI w16 s8 m2 U) := HR8.out.below b16
  replace HR12 : Hid (RowI w16 s12 m2 U) := HR12.out.below b16
  replace HR13 : Hid (RowI w16 s13 m2 U) := HR13.out.below b16
  replace HS : Hid (Below w.heap.size w w16) := HS.out.trans (b16.mono HS.out.size)
  clear b16 f2
  have f1 := H9.out.2.2 1 _ rfl
  have p2 := H7.out.2.2 2 _ rfl
  have p4 := H7.out.2.2 4 _ rfl
  have r4 := H3.out.2.2 4 _ rfl
  have hlo : l ≤ Lo := HLo.out
  have BS := HS.out
  go_wp2
  go_ret
  exact ⟨rfl, (by repeat (first | with_reducible exact Below.refl _ _ | with_reducible exact BS | with_reducible refine Below.setCell ?_ (by first | omega | (simp; done) | (simp; omega)) _ | with_reducible refine bDrewN ?_ _ | with_reducible refine Below.drew ?_ | with_reducible refine Below.alloc ?_ (by first | omega | (simp; done) | (simp; omega)) _))⟩
theorem fnLinkOnce_walk (w : World) (s : Option Addr) (n c : Nat) (hn : n ≤ 9223372036854775807) (R : Bytes w s n) :
    Calls Try.prog 3 #[.slice s n c] w fun e w' => e = .returned (.bool true) ∧ Below w.heap.size w w' := by
  by_cases h : n ≤ 1048576
  · exact lonce_near w s n c (by omega) (R.code h)
  · exact lonce_far w s n c (by omega)

set_option maxRecDepth 100000 in
theorem fnLinkOnce_lifted (os : Os) (started : os.Started) (H : Type) (enc : TypeId × Value → H) :
    ReturnsInHanded {} Try.checked os 3 .any (Rows.fnLinkOnceSpec.pre6 enc Try.prog Try.f3 Rows.fnLinkOnceRow.domain false) (Rows.fnLinkOnceSpec.post enc Try.prog Try.f3 false true false false) := by
  refine returnsInHanded_of_change (C := Try.checked) own started (by kernel_rfl) Try.func3
    (ChangeSpec.witness6 (enc := enc) (C := Try.checked) false ⟨#[], #[.slice none 0 0], []⟩ 8 (by kernel_rfl) (by kernel_rfl) (by kernel_rfl) (by kernel_rfl)) ?_
  intro W base args ds gs before hval0 hW hcnd _
  have hval : ∀ (j : Nat) t v, Try.f3.params[j]? = some t → args[j]? = some v → Value.okWide Try.prog W .any base t v := hval0
  have hW' := hW
  obtain ⟨p, q, hA0, hV, rfl, hfz, hnd⟩ := hW
  have hA : DataW.TrodAll enc Try.prog W 0 (fun _ => true) true Try.f3.params.toList args.toList ds p := hA0
  rw [Try.params3] at hA hval
  obtain ⟨v0, vs0, d0, ds0, p0, q0, hargs, rfl, rfl, h0, r0⟩ := trodAll_cons hA
  obtain ⟨rfl, rfl, rfl⟩ := trodAll_nil r0
  obtain rfl : args = #[v0] := by cases args; simp_all
  obtain ⟨rfl, rfl⟩ := trodVars_none hV
  have k0 := h0
  have lt0 : ∀ x ∈ p0, x.block < W.heap.size := by obtain ⟨m, hm⟩ := k0; exact DataW.trod_lt m _ _ _ hm
  obtain ⟨s0, n0, c0, rfl, m0, R0⟩ := open_code Try.underlying22 Try.underlying5 (by kernel_rfl) (hval 0 22 v0 rfl rfl) h0
  clear hA0 hval0
  refine (fnLinkOnce_walk W s0 n0 c0 m0 R0).mono fun e W' ⟨he, bel⟩ => ?_
  subst he
  exact ⟨_, rfl, _, _, _, [], _, [], hW', trodAll_mk1 (shut_bool Try.underlying4 _), (trodAll_cons_mk (Below.trod laidOut (by kernel_rfl) (of_decide_eq_true (by kernel_rfl)) k0 bel lt0) trodAll_mk0), rfl, bel.frame _, fun h => by cases h⟩

theorem fnLinkOnce_holds : Rows.FnLinkOnceSaid :=
  OpenClaim.holds_of_wide 3 Try.f3 rfl rfl rfl rfl rfl rfl rfl ⟨rfl, rfl, rfl, rfl, rfl⟩ rfl rfl rfl rfl rfl (by kernel_rfl) Try.func3 (by kernel_rfl)
    (of_decide_eq_true (by kernel_rfl)) (by unfold Func.isWrapper; first | (rw [if_pos (by decide +kernel)]; kernel_rfl) | (rw [if_neg (by decide +kernel)]; exact ⟨rfl, rfl⟩))
    (fun os started H enc _ => fnLinkOnce_lifted os started H enc)
#print axioms fnLinkOnce_holds
end Go.Proofs.Ytkocbklkiehdiaa
