/-
What is proved: FnPermits: what a drawn permit does to a drawn book: the book is lawful again, tags are counted, what is tagged cuts off, and what is given back comes free; no condition.
-/
import Derived.Test.YtikcfpjfcpbfcaaDgDz
import Derived.Test.YtikcfpjfcpbfcaaPkUz
import Derived.Test.YtikcfpjfcpbfcaaHasAz
import Derived.Test.YtikcfpjfcpbfcaaCuIz
import Derived.Test.YtikcfpjfcpbfcaaZcG
import Derived.Test.YtikcfpjfcpbfcaaOpen8z
import Derived.Deep.DeepCutAuto
import Derived.Deep.RegionHeldLaw
import Derived.BigQuiet
namespace Go.Proofs.Ytikcfpjfcpbfcaa
set_option maxRecDepth 40000
open Go.ChangeShapes Go.WideShapes Go.ChangeAt Go.RowKit
set_option linter.unusedVariables false
set_option linter.unusedSimpArgs false

set_option maxHeartbeats 400000 in
theorem permits_far (w : World) (s : Option Addr) (n c : Nat) (h : (1048576 : Int) < n) :
    Calls Try.prog 8 #[.slice s n c] w fun e w' => e = .returned (.bool true) ∧ Below w.heap.size w w' := by
  go_enter Try.func8, Try.ntmps8
  go_wp2_with fail
  refine (big_yes _ _ _ _ h).mono ?_
  rintro e w1 ⟨rfl, rfl⟩
  go_wp2
  go_ret
  exact ⟨rfl, Below.refl _ _⟩
set_option maxRecDepth 20000 in
set_option maxHeartbeats 16000000 in
theorem permits_near (w : World) (s : Option Addr) (n c : Nat) (h0 : (n : Int) ≤ 1048576) (HC : Hid (Code8 w s n)) :
    Calls Try.prog 8 #[.slice s n c] w fun e w' => e = .returned (.bool true) ∧ Below w.heap.size w w' := by
  go_enter Try.func8, Try.ntmps8
  go_wp2_with fail
  refine (big_no _ _ _ _ h0).mono ?_
  rintro e w1 ⟨rfl, rfl⟩
  rename World => w
  go_wp2_with fail
  refine (drawGrant_any HC).mono ?_
  rintro e w2 hK
  unfold DgPost at hK
  obtain ⟨P, td, nd, kd, ts, ns, ks, D, S, bs, nb, bc, X, Y, K, V, id, pl, vs, kp, vc, vp, rfl, hnd, hns, hnb, hbc, hkp, hKb, rD, rS, rB, rV, b1⟩ := hK
  have HD : Hid (RowDuct w2 td nd D) := rD
  have HL : Hid (RowI w2 ts ns S) := rS
  have HB : Hid (RowPer w2 bs nb X Y K V) := rB
  have HV : Hid (RowI w2 vs kp vp) := rV
  have HKb : Hid (∀ i, i < nb → (K i : Int) ≤ 1048576) := fun i hi => by have := hKb i hi; omega
  have HS : Hid (Below w.heap.size w w2) := b1
  obtain ⟨q, hq⟩ := grant_q P nd D ns S nb X Y K V id pl kp vp
  have HQ : Hid (bokB P nd D ns S nb X Y K V = true → refV P nd D ns S nb X Y id pl kp vp = 0 → InsAt nb X id q) := hq
  obtain ⟨cd, nr, XX, YY, KQ, VV, gu1, gu2, gu3⟩ := gr_use P nd D ns S nb X Y K V id pl kp vp q hq
  have HG1 : Hid (∀ w e w', GrAnsK P nd D ns S nb X Y K V id pl kp vp q w e w' → ∃ s c, e = .returned (.tuple #[.agg #[.slice s nr c], .int .i64 cd]) ∧ Below w.heap.size w w') := gu1
  have HG2 : Hid (∀ w e w', GrAnsC P nd D ns S nb X Y K V id pl kp vp q w e w' → ∃ s c, e = .returned (.tuple #[.agg #[.slice s nr c], .int .i64 cd]) ∧ nr ≤ c ∧ RowPer w' s nr XX YY KQ VV ∧ Below w.heap.size w w') := gu2
  have HG3 : Hid (cd = 1 ∨ (bokB P nd D ns S nr XX YY KQ VV = true ∧ ((cd ≠ 0 ∧ nr = nb) ∨ (cd = 0 ∧ GotIn P nd D ns S nb X Y K V id pl kp vp q nr XX YY KQ VV)))) := gu3
  clear hKb rD rS rB rV b1 hq gu1 gu2 gu3 HC h0
  go_upto_region 4 with fail
  obtain ⟨wa, hwa⟩ : ∃ z, z = w2.alloc (.cells #[.int .i64 P, .slice td nd kd, .slice ts ns ks] 41) := ⟨_, rfl⟩
  try rw [← hwa]
  obtain ⟨wb, hwb⟩ : ∃ z, z = wa.alloc (.cells #[.slice bs nb bc] 36) := ⟨_, rfl⟩
  try rw [← hwb]
  obtain ⟨wc, hwc⟩ : ∃ z, z = wb.alloc (.cells #[.int .i64 id, .int .i64 pl, .slice vs kp vc] 44) := ⟨_, rfl⟩
  try rw [← hwc]
  obtain ⟨g3, hg3⟩ : ∃ z, z = w2.heap.size := ⟨_, rfl⟩
  obtain ⟨g4, hg4⟩ : ∃ z, z = wa.heap.size := ⟨_, rfl⟩
  obtain ⟨g5, hg5⟩ : ∃ z, z = wb.heap.size := ⟨_, rfl⟩
  have ba : Below w2.heap.size w2 wa := by rw [hwa]; exact below0 _ _
  have bb : Below wa.heap.size wa wb := by rw [hwb]; exact below0 _ _
  have bc_ : Below wb.heap.size wb wc := by rw [hwc]; exact below0 _ _
  have H3a : Hid (Blk wa g3 [.int .i64 P, .slice td nd kd, .slice ts ns ks]) := by show Blk _ _ _; rw [hwa, hg3]; exact Blk.new w2 #[.int .i64 P, .slice td nd kd, .slice ts ns ks] _
  have H4b : Hid (Blk wb g4 [.slice bs nb bc]) := by show Blk _ _ _; rw [hwb, hg4]; exact Blk.new wa #[.slice bs nb bc] _
  have H5 : Hid (Blk wc g5 [.int .i64 id, .int .i64 pl, .slice vs kp vc]) := by show Blk _ _ _; rw [hwc, hg5]; exact Blk.new wb #[.int .i64 id, .int .i64 pl, .slice vs kp vc] _
  have H4 : Hid (Blk wc g4 [.slice bs nb bc]) := H4b.out.below bc_
  have H3 : Hid (Blk wc g3 [.int .i64 P, .slice td nd kd, .slice ts ns ks]) := (H3a.out.below bb).below bc_
  have b3 : Below w2.heap.size w2 wc := ba.trans ((bb.mono ba.size).trans (bc_.mono (Nat.le_trans ba.size bb.size)))
  have hq1 : w2.heap.size + 1 = g4 := by rw [hg4, hwa]; simp
  have hq2 : g4 + 1 = g5 := by rw [hg5, hwb, hg4]; simp
  replace HD : Hid (RowDuct wc td nd D) := HD.out.below b3
  replace HL : Hid (RowI wc ts ns S) := HL.out.below b3
  replace HB : Hid (RowPer wc bs nb X Y K V) := HB.out.below b3
  replace HV : Hid (RowI wc vs kp vp) := HV.out.below b3
  replace HS : Hid (Below w.heap.size w wc) := HS.out.trans (b3.mono HS.out.size)
  try rw [hq1]
  try rw [hq2]
  try rw [← hg3]
  clear hwa hwb hwc ba bb bc_ hg3 hg4 hg5 H3a H4b hq1 hq2 b3
  have c0 := H3.out.2.2 0 _ rfl
  have c1 := H3.out.2.2 1 _ rfl
  have c2 := H3.out.2.2 2 _ rfl
  have cz := H3.out.1
  have d0 := H4.out.2.2 0 _ rfl
  have dz := H4.out.1
  have e0 := H5.out.2.2 0 _ rfl
  have e1 := H5.out.2.2 1 _ rfl
  have e2 := H5.out.2.2 2 _ rfl
  have ez := H5.out.1
  go_wp2_with fail
  refine (specGrantK_any P td nd kd D ts ns ks S bs nb bc X Y K V id pl vs kp vc vp q _ (by omega) (by omega) HD HL (by omega) HKb HB (by omega) HV HQ).mono ?_
  rintro e w4 hA
  obtain ⟨s4, c4, rfl, b4⟩ := HG1.out _ _ _ hA
  clear c0 c1 c2 cz
  clear d0 dz
  clear e0 e1 e2 ez
  clear hA HG1
  replace H3 : Hid (Blk w4 g3 [.int .i64 P, .slice td nd kd, .slice ts ns ks]) := H3.out.below b4
  replace H4 : Hid (Blk w4 g4 [.slice bs nb bc]) := H4.out.below b4
  replace H5 : Hid (Blk w4 g5 [.int .i64 id, .int .i64 pl, .slice vs kp vc]) := H5.out.below b4
  replace HD : Hid (RowDuct w4 td nd D) := HD.out.below b4
  replace HL : Hid (RowI w4 ts ns S) := HL.out.below b4
  replace HB : Hid (RowPer w4 bs nb X Y K V) := HB.out.below b4
  replace HV : Hid (RowI w4 vs kp vp) := HV.out.below b4
  replace HS : Hid (Below w.heap.size w w4) := HS.out.trans (b4.mono HS.out.size)
  clear b4
  go_upto_region 5 with fail
  obtain ⟨w5, hx_⟩ : ∃ z, z = w4.alloc (.cells #[.slice s4 nr c4] 36) := ⟨_, rfl⟩
  try rw [← hx_]
  obtain ⟨g6, hg_⟩ : ∃ z, z = w4.heap.size := ⟨_, rfl⟩
  have b_ : Below w4.heap.size w4 w5 := by rw [hx_]; exact below0 _ _
  have H6 : Hid (Blk w5 g6 [.slice s4 nr c4]) := by show Blk _ _ _; rw [hx_, hg_]; exact Blk.new w4 #[.slice s4 nr c4] _
  replace H3 : Hid (Blk w5 g3 [.int .i64 P, .slice td nd kd, .slice ts ns ks]) := H3.out.below b_
  replace H4 : Hid (Blk w5 g4 [.slice bs nb bc]) := H4.out.below b_
  replace H5 : Hid (Blk w5 g5 [.int .i64 id, .int .i64 pl, .slice vs kp vc]) := H5.out.below b_
  replace HD : Hid (RowDuct w5 td nd D) := HD.out.below b_
  replace HL : Hid (RowI w5 ts ns S) := HL.out.below b_
  replace HB : Hid (RowPer w5 bs nb X Y K V) := HB.out.below b_
  replace HV : Hid (RowI w5 vs kp vp) := HV.out.below b_
  replace HS : Hid (Below w.heap.size w w5) := HS.out.trans (b_.mono HS.out.size)
  try rw [← hg_]
  clear hx_ hg_ b_
  clear H6
  have c0 := H3.out.2.2 0 _ rfl
  have c1 := H3.out.2.2 1 _ rfl
  have c2 := H3.out.2.2 2 _ rfl
  have cz := H3.out.1
  have d0 := H4.out.2.2 0 _ rfl
  have dz := H4.out.1
  have e0 := H5.out.2.2 0 _ rfl
  have e1 := H5.out.2.2 1 _ rfl
  have e2 := H5.out.2.2 2 _ rfl
  have ez := H5.out.1
  go_wp2_with fail
  refine (implGrantC_any P td nd kd D ts ns ks S bs nb bc X Y K V id pl vs kp vc vp q _ (by omega) (by omega) HD HL (by omega) hbc HKb HB (by omega) HV HQ).mono ?_
  rintro e w6 hA
  obtain ⟨s8, c8, rfl, hc8, rC, b4⟩ := HG2.out _ _ _ hA
  have HC : Hid (RowPer w6 s8 nr XX YY KQ VV) := rC
  clear c0 c1 c2 cz
  clear d0 dz
  clear e0 e1 e2 ez
  clear hA HG2 rC
  clear HB HV
  replace H3 : Hid (Blk w6 g3 [.int .i64 P, .slice td nd kd, .slice ts ns ks]) := H3.out.below b4
  replace H4 : Hid (Blk w6 g4 [.slice bs nb bc]) := H4.out.below b4
  replace H5 : Hid (Blk w6 g5 [.int .i64 id, .int .i64 pl, .slice vs kp vc]) := H5.out.below b4
  replace HD : Hid (RowDuct w6 td nd D) := HD.out.below b4
  replace HL : Hid (RowI w6 ts ns S) := HL.out.below b4
  replace HS : Hid (Below w.heap.size w w6) := HS.out.trans (b4.mono HS.out.size)
  clear b4 HQ HKb
  go_upto_region 6 with fail
  obtain ⟨w7, hx_⟩ : ∃ z, z = w6.alloc (.cells #[.slice s8 nr c8] 36) := ⟨_, rfl⟩
  try rw [← hx_]
  obtain ⟨g8, hg_⟩ : ∃ z, z = w6.heap.size := ⟨_, rfl⟩
  have b_ : Below w6.heap.size w6 w7 := by rw [hx_]; exact below0 _ _
  have H8 : Hid (Blk w7 g8 [.slice s8 nr c8]) := by show Blk _ _ _; rw [hx_, hg_]; exact Blk.new w6 #[.slice s8 nr c8] _
  replace H3 : Hid (Blk w7 g3 [.int .i64 P, .slice td nd kd, .slice ts ns ks]) := H3.out.below b_
  replace H4 : Hid (Blk w7 g4 [.slice bs nb bc]) := H4.out.below b_
  replace H5 : Hid (Blk w7 g5 [.int .i64 id, .int .i64 pl, .slice vs kp vc]) := H5.out.below b_
  replace HD : Hid (RowDuct w7 td nd D) := HD.out.below b_
  replace HL : Hid (RowI w7 ts ns S) := HL.out.below b_
  replace HC : Hid (RowPer w7 s8 nr XX YY KQ VV) := HC.out.below b_
  replace HS : Hid (Below w.heap.size w w7) := HS.out.trans (b_.mono HS.out.size)
  try rw [← hg_]
  clear hx_ hg_ b_
  have hcc : (cd != cd) = false := by simp
  by_cases h1 : cd = 1
  case pos =>
    subst h1
    have BS := HS.out
    have sBS := BS.size
    go_wp2
    go_ret
    exact ⟨rfl, (by repeat (first | with_reducible exact Below.refl _ _ | with_reducible exact BS | with_reducible refine Below.setCell ?_ (by first | omega | (simp; done) | (simp; omega)) _ | with_reducible refine bDrewN ?_ _ | with_reducible refine Below.drew ?_ | with_reducible refine Below.alloc ?_ (by first | omega | (simp; done) | (simp; omega)) _))⟩
  have h1b : (cd == 1) = false := by simpa using h1
  have HOK2 : Hid (bokB P nd D ns S nr XX YY KQ VV = true ∧ ((cd ≠ 0 ∧ nr = nb) ∨ (cd = 0 ∧ GotIn P nd D ns S nb X Y K V id pl kp vp q nr XX YY KQ VV))) := by
    rcases HG3.out with z | z
    · exact absurd z h1
    · exact z
  have HOK : Hid (bokB P nd D ns S nr XX YY KQ VV = true) := HOK2.out.1
  obtain ⟨u40, u20, uK, uB, uS, uT, uE⟩ := tag_sum HOK.out
  have HUB : Hid (∀ v, 0 ≤ cntP KQ VV nr v ∧ cntP KQ VV nr v ≤ 20) := uB
  have HUS : Hid (∀ k, k ≤ nd → 0 ≤ suI (cntP KQ VV nr) k ∧ suI (cntP KQ VV nr) k ≤ 800) := uS
  have HUT : Hid (∀ k, k ≤ nr → 0 ≤ suI (fun i => (KQ i : Int)) k ∧ suI (fun i => (KQ i : Int)) k ≤ 800) := uT
  have HUE : Hid (suI (cntP KQ VV nr) nd = suI (fun i => (KQ i : Int)) nr) := uE
  have HKK : Hid (∀ i, i < nr → (KQ i : Int) ≤ 1048576) := fun i hi => by have := uK i hi; omega
  have HK40 : Hid (∀ i, i < nr → KQ i ≤ 40) := uK
  clear uK uB uS uT uE h1 HG3
  go_upto_region 10 with fail
  clear hcc h1b
  go_cut [80] (fun v wx => v = .bool false ∧ Hid (Below w.heap.size w wx) ∧ Hid (Blk wx g3 [.int .i64 P, .slice td nd kd, .slice ts ns ks]) ∧ Hid (Blk wx g4 [.slice bs nb bc]) ∧ Hid (Blk wx g5 [.int .i64 id, .int .i64 pl, .slice vs kp vc]) ∧ Hid (Blk wx g8 [.slice s8 nr c8]) ∧ Hid (RowDuct wx td nd D) ∧ Hid (RowI wx ts ns S) ∧ Hid (RowPer wx s8 nr XX YY KQ VV))
  case first =>
    by_cases hc0 : cd = 0
    case pos =>
      have HC0 : Hid (cd = 0) := hc0
      clear hc0
      have c0 := H3.out.2.2 0 _ rfl
      have c1 := H3.out.2.2 1 _ rfl
      have c2 := H3.out.2.2 2 _ rfl
      have cz := H3.out.1
      have d0 := H8.out.2.2 0 _ rfl
      have dz := H8.out.1
      have e0 := H4.out.2.2 0 _ rfl
      have ez := H4.out.1
      go_wp2_with fail
      refine (implBookOk_any P td nd kd D ts ns ks S s8 nr c8 XX YY KQ VV _ (by omega) (by omega) HD HL (by omega) hc8 HKK HC).mono ?_
      rintro e w8 ⟨rfl, b8⟩
      rw [HOK.out]
      clear c0 c1 c2 cz
      clear d0 dz
      clear e0 ez
      replace H3 : Hid (Blk w8 g3 [.int .i64 P, .slice td nd kd, .slice ts ns ks]) := H3.out.below b8
      replace H4 : Hid (Blk w8 g4 [.slice bs nb bc]) := H4.out.below b8
      replace H5 : Hid (Blk w8 g5 [.int .i64 id, .int .i64 pl, .slice vs kp vc]) := H5.out.below b8
      replace H8 : Hid (Blk w8 g8 [.slice s8 nr c8]) := H8.out.below b8
      replace HD : Hid (RowDuct w8 td nd D) := HD.out.below b8
      replace HL : Hid (RowI w8 ts ns S) := HL.out.below b8
      replace HC : Hid (RowPer w8 s8 nr XX YY KQ VV) := HC.out.below b8
      replace HS : Hid (Below w.heap.size w w8) := HS.out.trans (b8.mono HS.out.size)
      clear b8
      have k0 : (cd != 0) = false := by rw [HC0.out]; rfl
      have k1 : (cd == 0) = true := by rw [HC0.out]; rfl
      have HNR : Hid (nr = nb + 1) := by
        rcases HOK2.out.2 with z | z
        · exact absurd HC0.out z.1
        · exact z.2.2.2.2.1
      have wn : IntKind.i64.wrap ((nb : Int) + 1) = (nr : Int) := by have := HNR.out; rw [IntKind.wrap_i64]; omega
      have en : ((nr : Int) != (nr : Int)) = false := by simp
      have d0 := H8.out.2.2 0 _ rfl
      have dz := H8.out.1
      have e0 := H4.out.2.2 0 _ rfl
      have ez := H4.out.1
      go_wp2_with fail
      go_meet
      exact ⟨rfl, HS, H3, H4, H5, H8, HD, HL, HC⟩
    case neg =>
      have HC0 : Hid (¬ cd = 0) := hc0
      clear hc0
      have c0 := H3.out.2.2 0 _ rfl
      have c1 := H3.out.2.2 1 _ rfl
      have c2 := H3.out.2.2 2 _ rfl
      have cz := H3.out.1
      have d0 := H8.out.2.2 0 _ rfl
      have dz := H8.out.1
      have e0 := H4.out.2.2 0 _ rfl
      have ez := H4.out.1
      go_wp2_with fail
      refine (implBookOk_any P td nd kd D ts ns ks S s8 nr c8 XX YY KQ VV _ (by omega) (by omega) HD HL (by omega) hc8 HKK HC).mono ?_
      rintro e w8 ⟨rfl, b8⟩
      rw [HOK.out]
      clear c0 c1 c2 cz
      clear d0 dz
      clear e0 ez
      replace H3 : Hid (Blk w8 g3 [.int .i64 P, .slice td nd kd, .slice ts ns ks]) := H3.out.below b8
      replace H4 : Hid (Blk w8 g4 [.slice bs nb bc]) := H4.out.below b8
      replace H5 : Hid (Blk w8 g5 [.int .i64 id, .int .i64 pl, .slice vs kp vc]) := H5.out.below b8
      replace H8 : Hid (Blk w8 g8 [.slice s8 nr c8]) := H8.out.below b8
      replace HD : Hid (RowDuct w8 td nd D) := HD.out.below b8
      replace HL : Hid (RowI w8 ts ns S) := HL.out.below b8
      replace HC : Hid (RowPer w8 s8 nr XX YY KQ VV) := HC.out.below b8
      replace HS : Hid (Below w.heap.size w w8) := HS.out.trans (b8.mono HS.out.size)
      clear b8
      have k0 : (cd != 0) = true := by simpa using HC0.out
      have k1 : (cd == 0) = false := by simpa using HC0.out
      have HNR : Hid (nr = nb) := by
        rcases HOK2.out.2 with z | z
        · exact z.2
        · exact absurd z.1 HC0.out
      have en : ((nr : Int) != (nb : Int)) = false := by rw [HNR.out]; simp
      have d0 := H8.out.2.2 0 _ rfl
      have dz := H8.out.1
      have e0 := H4.out.2.2 0 _ rfl
      have ez := H4.out.1
      go_wp2_with fail
      go_meet
      exact ⟨rfl, HS, H3, H4, H5, H8, HD, HL, HC⟩
  clear HS H3 H4 H5 H8 HD HL HC
  obtain ⟨rfl, HS, H3, H4, H5, H8, HD, HL, HC⟩ := hcut
  rename World => w9
  have c0 := H3.out.2.2 0 _ rfl
  have c1 := H3.out.2.2 1 _ rfl
  have c2 := H3.out.2.2 2 _ rfl
  have cz := H3.out.1
  have d0 := H8.out.2.2 0 _ rfl
  have dz := H8.out.1
  go_wp2_with fail
  refine (implTags_any P td nd kd D ts ns ks S s8 nr c8 XX YY KQ VV _ (by omega) (by omega) HD HL (by omega) hc8 HKK HC).mono ?_
  rintro e w10 hT
  unfold TagPost at hT
  obtain ⟨ta, ca, rfl, oT, b10⟩ := hT
  have eT : tagN P nd D ns S nr XX YY KQ VV = nd := if_pos HOK.out
  rw [eT] at oT
  rw [eT]
  obtain ⟨U, hU⟩ : ∃ U, U = cntP KQ VV nr := ⟨_, rfl⟩
  rw [← hU] at oT
  have HU : Hid (U = cntP KQ VV nr) := hU
  have HT : Hid (RowI w10 ta nd U) := oT.row
  clear oT eT hU
  clear c0 c1 c2 cz
  clear d0 dz
  replace H3 : Hid (Blk w10 g3 [.int .i64 P, .slice td nd kd, .slice ts ns ks]) := H3.out.below b10
  replace H4 : Hid (Blk w10 g4 [.slice bs nb bc]) := H4.out.below b10
  replace H5 : Hid (Blk w10 g5 [.int .i64 id, .int .i64 pl, .slice vs kp vc]) := H5.out.below b10
  replace H8 : Hid (Blk w10 g8 [.slice s8 nr c8]) := H8.out.below b10
  replace HD : Hid (RowDuct w10 td nd D) := HD.out.below b10
  replace HL : Hid (RowI w10 ts ns S) := HL.out.below b10
  replace HC : Hid (RowPer w10 s8 nr XX YY KQ VV) := HC.out.below b10
  replace HS : Hid (Below w.heap.size w w10) := HS.out.trans (b10.mono HS.out.size)
  clear b10
  replace HUB : Hid (∀ v, 0 ≤ U v ∧ U v ≤ 20) := by rw [HU.out]; exact HUB.out
  replace HUS : Hid (∀ k, k ≤ nd → 0 ≤ suI U k ∧ suI U k ≤ 800) := by rw [HU.out]; exact HUS.out
  replace HUE : Hid (suI U nd = suI (fun i => (KQ i : Int)) nr) := by rw [HU.out]; exact HUE.out
  go_upto_region 14 with fail
  obtain ⟨w11, hw11⟩ : ∃ z, z = w10.alloc (.cells #[] 2) := ⟨_, rfl⟩
  try rw [← hw11]
  have HW : Hid (Below w10.heap.size w10 w11) := by show Below _ _ _; rw [hw11]; exact below0 _ _
  have HOL : Hid (OwL w10.heap.size w11 (.slice (some ⟨w10.heap.size, 0, none⟩) 0 0) []) := by show OwL _ _ _ _; rw [hw11]; exact OwL.lit w10 (Nat.le_refl _)
  clear hw11
  go_wp2_with fail
  go_loopw [11, 12, 13] (fun v11 v12 v13 wx => ∃ (k ml : Nat) (tl : Option Addr) (cl : Nat), v11 = .slice tl ml cl ∧ v12 = .int .i64 (suI U k) ∧ v13 = .int .i64 (k : Int) ∧ k ≤ nd ∧ ml ≤ k ∧ Hid ((tgL U k).length = ml) ∧ Hid (OwL w10.heap.size wx (.slice tl ml cl) (tgL U k)) ∧ Hid (Below w10.heap.size w10 wx)) (fun v11 v12 v13 _ => nd - (intOf v13).toNat)
  case atStart => exact ⟨0, 0, _, _, rfl, rfl, rfl, Nat.zero_le _, Nat.le_refl _, rfl, HOL, HW⟩
  case round =>
    clear HOL HW
    obtain ⟨k, ml, tl, cl, rfl, rfl, rfl, hk0, hml, HML, HOL, HW⟩ := hrel
    rename World => wr
    by_cases hk : k < nd
    case pos =>
      have hki : (k : Int) < (nd : Int) := by omega
      obtain ⟨tb, oo, rfl, tz, tc⟩ := (HT.out.below HW.out) k hk
      have hsum : IntKind.i64.wrap (suI U k + U k) = suI U (k + 1) := by
        show IntKind.i64.wrap (suI U k + U k) = suI U k + U k
        have h1_ : 0 ≤ suI U k + U k ∧ suI U k + U k ≤ 800 := HUS.out (k + 1) hk
        rw [IntKind.wrap_i64]; omega
      go_upto_region 19 with fail
      clear hsum
      go_upto_if 101 with fail
      go_cut [11] (fun v11 wx => ∃ (ml : Nat) (tl : Option Addr) (cl : Nat), v11 = .slice tl ml cl ∧ ml ≤ k + 1 ∧ Hid ((tgL U (k + 1)).length = ml) ∧ Hid (OwL w10.heap.size wx (.slice tl ml cl) (tgL U (k + 1))) ∧ Hid (Below w10.heap.size w10 wx))
      case first =>
        by_cases hp : 0 < U k
        case pos =>
          have HPo : Hid (0 < U k) := hp
          have hsz : w10.heap.size ≤ wr.heap.size := HW.out.size
          go_upto_region 20 with fail
          go_wp2_with (at_builtin; refine list_oneL w10.heap.size (.slice tl ml cl) ml (tgL U k) (.tmp 102) (.tmp 104) (by rfl) (by rfl) (by rfl) (by rfl) HML.out HOL.out (by omega) hsz ?_; intro g9 cap9 w9 l9 b9)
          go_meet
          refine ⟨ml + 1, some ⟨g9, 0, none⟩, cap9, rfl, by omega, ?_, ?_, HW.out.trans b9⟩
          · show (tgL U (k + 1)).length = _
            rw [tgL, if_pos HPo.out, List.length_append, HML.out]; rfl
          · show OwL _ _ _ (tgL U (k + 1))
            rw [tgL, if_pos HPo.out]; exact l9
        case neg =>
          have HPo : Hid (¬ 0 < U k) := hp
          go_wp2_with fail
          go_meet
          have e_ : tgL U (k + 1) = tgL U k := by rw [tgL, if_neg (by have h_ := HPo.out; omega)]
          exact ⟨ml, tl, cl, rfl, by omega, by show (tgL U (k + 1)).length = _; rw [e_]; exact HML.out, by show OwL _ _ _ (tgL U (k + 1)); rw [e_]; exact HOL.out, HW⟩
      clear HML HOL HW tz tc
      obtain ⟨ml, tl, cl, rfl, hml, HML, HOL, HW⟩ := hcut
      rename World => wr2
      go_upto_region 21 with fail
      obtain ⟨tb', oo', te, tz, tc⟩ := (HT.out.below HW.out) k hk
      cases te
      have HTc : Hid (tb < wr2.heap.size ∧ wr2.cell? ⟨tb, oo + k, none⟩ = some (.int .i64 (U k))) := ⟨tz, tc⟩
      clear tz tc
      have H3x : Hid (Blk wr2 g3 [.int .i64 P, .slice td nd kd, .slice ts ns ks]) := H3.out.below HW.out
      have H8x : Hid (Blk wr2 g8 [.slice s8 nr c8]) := H8.out.below HW.out
      refine wp_region_held_drew (S := fun w' => w'.cell? ⟨g3, 0, none⟩ = some (.int .i64 P) ∧ w'.cell? ⟨g3, 1, none⟩ = some (.slice td nd kd) ∧ w'.cell? ⟨g3, 2, none⟩ = some (.slice ts ns ks) ∧ w'.cell? ⟨g8, 0, none⟩ = some (.slice s8 nr c8) ∧ w'.cell? ⟨tb, oo + k, none⟩ = some (.int .i64 (U k)) ∧ g3 < w'.heap.size ∧ g8 < w'.heap.size ∧ tb < w'.heap.size) (by kernel_rfl) ?_ (fun hHeld => ?_)
      · exact ⟨H3x.out.2.2 0 _ rfl, H3x.out.2.2 1 _ rfl, H3x.out.2.2 2 _ rfl, H8x.out.2.2 0 _ rfl, HTc.out.2, H3x.out.1, H8x.out.1, HTc.out.1⟩
      obtain ⟨v0, hv0⟩ : ∃ z, z = wr2.drew := ⟨_, rfl⟩
      try rw [← hv0] at hHeld
      rw [← hv0]
      have bv0 : Below wr2.heap.size wr2 v0 := by rw [hv0]; exact Below.drew (Below.refl _ _)
      clear hv0
      have HB0 : Hid (Below w10.heap.size w10 v0) := HW.out.trans (bv0.mono HW.out.size)
      have H3y : Hid (Blk v0 g3 [.int .i64 P, .slice td nd kd, .slice ts ns ks]) := H3.out.below HB0.out
      have H8y : Hid (Blk v0 g8 [.slice s8 nr c8]) := H8.out.below HB0.out
      have HDy : Hid (RowDuct v0 td nd D) := HD.out.below HB0.out
      have HLy : Hid (RowI v0 ts ns S) := HL.out.below HB0.out
      have HCy : Hid (RowPer v0 s8 nr XX YY KQ VV) := HC.out.below HB0.out
      have HTy : Hid (tb < v0.heap.size ∧ v0.cell? ⟨tb, oo + k, none⟩ = some (.int .i64 (U k))) := ⟨Nat.lt_of_lt_of_le HTc.out.1 bv0.size, (bv0.cell (p := ⟨tb, oo + k, none⟩) HTc.out.1).trans HTc.out.2⟩
      have HOy : Hid (OwL w10.heap.size v0 (.slice tl ml cl) (tgL U (k + 1))) := HOL.out.keep bv0
      clear bv0
      refine wpAnyH_take (i := 0) (v := .agg #[.int .i64 P, .slice td nd kd, .slice ts ns ks]) rfl (by kernel_rfl) (by kernel_rfl) (by kernel_rfl) (fun _ _ _ h => h) (Or.inl ⟨by kernel_rfl, ?_⟩) hHeld ?_
      · intro w' hSw
        obtain ⟨hc0, hc1, hc2, hc3, hc4, hz0, hz1, hz2⟩ := hSw
        first | (go_simp; done) | (go_simp; with_reducible rfl) | (go_simp; rw [IntKind.wrap_i64]; omega) | (go_simp; omega)
      simp only [Act.put, List.setIfInBounds_toArray, List.set_cons_zero, List.set_cons_succ]
      refine wpAnyH_take (i := 1) (v := .agg #[.slice s8 nr c8]) rfl (by kernel_rfl) (by kernel_rfl) (by kernel_rfl) (fun _ _ _ h => h) (Or.inl ⟨by kernel_rfl, ?_⟩) hHeld ?_
      · intro w' hSw
        obtain ⟨hc0, hc1, hc2, hc3, hc4, hz0, hz1, hz2⟩ := hSw
        first | (go_simp; done) | (go_simp; with_reducible rfl) | (go_simp; rw [IntKind.wrap_i64]; omega) | (go_simp; omega)
      simp only [Act.put, List.setIfInBounds_toArray, List.set_cons_zero, List.set_cons_succ]
      refine wpAnyH_take (i := 2) (v := .int .i64 (k : Int)) rfl (by kernel_rfl) (by kernel_rfl) (by kernel_rfl) (fun _ _ _ h => h) (Or.inl ⟨by kernel_rfl, ?_⟩) hHeld ?_
      · intro w' hSw
        obtain ⟨hc0, hc1, hc2, hc3, hc4, hz0, hz1, hz2⟩ := hSw
        first | (go_simp; done) | (go_simp; with_reducible rfl) | (go_simp; rw [IntKind.wrap_i64]; omega) | (go_simp; omega)
      simp only [Act.put, List.setIfInBounds_toArray, List.set_cons_zero, List.set_cons_succ]
      refine wpAnyH_take (i := 4) (v := .slice (some ⟨tb, oo, none⟩) nd ca) rfl (by kernel_rfl) (by kernel_rfl) (by kernel_rfl) (fun _ _ _ h => h) (Or.inl ⟨by kernel_rfl, ?_⟩) hHeld ?_
      · intro w' hSw
        obtain ⟨hc0, hc1, hc2, hc3, hc4, hz0, hz1, hz2⟩ := hSw
        first | (go_simp; done) | (go_simp; with_reducible rfl) | (go_simp; rw [IntKind.wrap_i64]; omega) | (go_simp; omega)
      simp only [Act.put, List.setIfInBounds_toArray, List.set_cons_zero, List.set_cons_succ]
      refine wpAnyH_take (i := 5) (v := .int .i64 (k : Int)) rfl (by kernel_rfl) (by kernel_rfl) (by kernel_rfl) (fun _ _ _ h => h) (Or.inl ⟨by kernel_rfl, ?_⟩) hHeld ?_
      · intro w' hSw
        obtain ⟨hc0, hc1, hc2, hc3, hc4, hz0, hz1, hz2⟩ := hSw
        first | (go_simp; done) | (go_simp; with_reducible rfl) | (go_simp; rw [IntKind.wrap_i64]; omega) | (go_simp; omega)
      simp only [Act.put, List.setIfInBounds_toArray, List.set_cons_zero, List.set_cons_succ]
      refine wpAnyH_take (i := 6) (v := .pointer (some ⟨tb, oo + k, none⟩)) rfl (by kernel_rfl) (by kernel_rfl) (by kernel_rfl) (fun _ _ _ h => h) (Or.inl ⟨by kernel_rfl, ?_⟩) hHeld ?_
      · intro w' hSw
        obtain ⟨hc0, hc1, hc2, hc3, hc4, hz0, hz1, hz2⟩ := hSw
        first | (go_simp; done) | (go_simp; with_reducible rfl) | (go_simp; rw [IntKind.wrap_i64]; omega) | (go_simp; omega)
      simp only [Act.put, List.setIfInBounds_toArray, List.set_cons_zero, List.set_cons_succ]
      refine wpAnyH_take (i := 7) (v := .int .i64 (U k)) rfl (by kernel_rfl) (by kernel_rfl) (by kernel_rfl) (fun _ _ _ h => h) (Or.inl ⟨by kernel_rfl, ?_⟩) hHeld ?_
      · intro w' hSw
        obtain ⟨hc0, hc1, hc2, hc3, hc4, hz0, hz1, hz2⟩ := hSw
        first | (go_simp; done) | (go_simp; with_reducible rfl) | (go_simp; rw [IntKind.wrap_i64]; omega) | (go_simp; omega)
      simp only [Act.put, List.setIfInBounds_toArray, List.set_cons_zero, List.set_cons_succ]
      refine wpAnyH_take (i := 8) (v := .bool (decide (U k = 0))) rfl (by kernel_rfl) (by kernel_rfl) (by kernel_rfl) (fun _ _ _ h => h) (Or.inl ⟨by kernel_rfl, ?_⟩) hHeld ?_
      · intro w' hSw
        obtain ⟨hc0, hc1, hc2, hc3, hc4, hz0, hz1, hz2⟩ := hSw
        first | (go_simp; done) | (go_simp; simp [beq_dec]; done) | (go_simp; rfl) | (go_simp; simp)
      simp only [Act.put, List.setIfInBounds_toArray, List.set_cons_zero, List.set_cons_succ]
      refine wpAnyH_ready (rs := [3]) (by kernel_rfl) (by simp) ?_
      refine (AllReadyH.cons rfl (fun KK hK => ?_) AllReadyH.nil)
      go_simp
      go_wp2_with (first | (go_at_call 39; refine (implMayOpen_any P td nd kd D ts ns ks S s8 nr c8 XX YY KQ VV (k : Int) _ (by omega) (by omega) HDy HLy (by omega) hc8 HKK HCy).mono ?_; rintro e v0_1 ⟨rfl, b9⟩))
      rw [may_is HOK.out hk]
      have HMk : Hid (decide (cntP KQ VV nr k = 0) = decide (U k = 0)) := by rw [HU.out]; rfl
      rw [HMk.out]
      have H3z : Hid (Blk v0_1 g3 [.int .i64 P, .slice td nd kd, .slice ts ns ks]) := H3y.out.below b9
      have H8z : Hid (Blk v0_1 g8 [.slice s8 nr c8]) := H8y.out.below b9
      have HTz : Hid (tb < v0_1.heap.size ∧ v0_1.cell? ⟨tb, oo + k, none⟩ = some (.int .i64 (U k))) := ⟨Nat.lt_of_lt_of_le HTy.out.1 b9.size, (b9.cell (p := ⟨tb, oo + k, none⟩) HTy.out.1).trans HTy.out.2⟩
      have HWz : Hid (Below w10.heap.size w10 v0_1) := HB0.out.trans (b9.mono HB0.out.size)
      have HOz : Hid (OwL w10.heap.size v0_1 (.slice tl ml cl) (tgL U (k + 1))) := HOy.out.keep b9
      clear b9 H3y H8y HTy HDy HLy HCy HB0 HOy HMk
      refine hK.out _ _ (⟨H3z.out.2.2 0 _ rfl, H3z.out.2.2 1 _ rfl, H3z.out.2.2 2 _ rfl, H8z.out.2.2 0 _ rfl, HTz.out.2, H3z.out.1, H8z.out.1, HTz.out.1⟩) (fun hHeld => ?_)
      clear hK KK
      refine wpAnyH_take (i := 9) (v := .bool false) rfl (by kernel_rfl) (by kernel_rfl) (by kernel_rfl) (fun _ _ _ h => h) (Or.inl ⟨by kernel_rfl, ?_⟩) hHeld ?_
      · intro w' hSw
        obtain ⟨hc0, hc1, hc2, hc3, hc4, hz0, hz1, hz2⟩ := hSw
        first | (go_simp; done) | (go_simp; with_reducible rfl) | (go_simp; rw [IntKind.wrap_i64]; omega) | (go_simp; omega)
      simp only [Act.put, List.setIfInBounds_toArray, List.set_cons_zero, List.set_cons_succ]
      refine wpAnyH_done (by kernel_rfl) ?_ _
      clear hHeld
      go_wp2_with fail
      go_roundw
      case rel => exact ⟨k + 1, ml, tl, cl, rfl, rfl, by go_num, by omega, by omega, HML, HOz, HWz⟩
      case measure => first | (simp [intOf]; done) | (simp [intOf]; omega)
    case neg =>
      obtain rfl : nd = k := by omega
      have HTL : Hid (RowI wr tl ml (nthI (tgL U nd))) := by
        obtain ⟨t_, c_, e_, o_⟩ := HOL.out.own
        rw [HML.out] at e_ o_
        cases e_
        exact o_.row
      have HWo : Hid (Below w10.heap.size w10 wr) := HW
      have hop_ := HWo.out
      replace H3 : Hid (Blk wr g3 [.int .i64 P, .slice td nd kd, .slice ts ns ks]) := H3.out.below hop_
      replace H4 : Hid (Blk wr g4 [.slice bs nb bc]) := H4.out.below hop_
      replace H5 : Hid (Blk wr g5 [.int .i64 id, .int .i64 pl, .slice vs kp vc]) := H5.out.below hop_
      replace H8 : Hid (Blk wr g8 [.slice s8 nr c8]) := H8.out.below hop_
      replace HD : Hid (RowDuct wr td nd D) := HD.out.below hop_
      replace HL : Hid (RowI wr ts ns S) := HL.out.below hop_
      replace HC : Hid (RowPer wr s8 nr XX YY KQ VV) := HC.out.below hop_
      replace HT : Hid (RowI wr ta nd U) := HT.out.below hop_
      replace HS : Hid (Below w.heap.size w wr) := HS.out.trans (hop_.mono HS.out.size)
      clear hop_
      clear HW HOL HWo
      have c0 := H3.out.2.2 0 _ rfl
      have c1 := H3.out.2.2 1 _ rfl
      have c2 := H3.out.2.2 2 _ rfl
      have cz := H3.out.1
      have hnn : ((nd : Int) != (nd : Int)) = false := by simp
      go_wp2_with fail
      clear c0 c1 c2 cz hnn
      go_loopw [12, 14] (fun v12 v14 wx => ∃ j : Nat, v12 = .int .i64 (suI U nd - suI (fun i => (KQ i : Int)) j) ∧ v14 = .int .i64 (j : Int) ∧ j ≤ nr ∧ Hid (Below wr.heap.size wr wx)) (fun v12 v14 _ => nr - (intOf v14).toNat)
      case atStart => exact ⟨0, by show Value.int .i64 (suI U nd) = .int .i64 (suI U nd - 0); rw [Int.sub_zero], rfl, Nat.zero_le _, Below.refl _ _⟩
      case round =>
        obtain ⟨j, rfl, rfl, hj0, HW⟩ := hrel
        rename World => wq
        by_cases hj : j < nr
        case pos =>
          have hji : (j : Int) < (nr : Int) := by omega
          obtain ⟨cb, co, pa, pc, rfl, cz_, x0, y0, l0, rI⟩ := (HC.out.below HW.out) j hj
          have HCc : Hid (cb < wq.heap.size ∧ wq.cell? ⟨cb, co + j * 3 + 1, none⟩ = some (.int .i64 (YY j))) := ⟨cz_, y0⟩
          have hsub : IntKind.i64.wrap (suI U nd - suI (fun i => (KQ i : Int)) j - (KQ j : Int)) = suI U nd - suI (fun i => (KQ i : Int)) (j + 1) := by
            show IntKind.i64.wrap (suI U nd - suI (fun i => (KQ i : Int)) j - (KQ j : Int)) = suI U nd - (suI (fun i => (KQ i : Int)) j + (KQ j : Int))
            have h1_ := HUS.out nd (Nat.le_refl _)
            have h2_ := HUT.out j (by omega)
            have h3_ := HK40.out j hj
            rw [IntKind.wrap_i64]; omega
          clear x0 y0 rI
          have H8w : Hid (Blk wq g8 [.slice (some ⟨cb, co, none⟩) nr c8]) := H8.out.below HW.out
          have d0 := H8w.out.2.2 0 _ rfl
          have dz := H8w.out.1
          go_upto_region 29 with fail
          clear hsub l0 cz_ d0 dz
          have HCU : Hid (cutB P nd D ns S ml (nthI (tgL U nd)) (YY j) = true) := by
            have z_ := cut_tags HOK.out hj
            have e_ : tgL (fun v => cntP KQ VV nr v) nd = tgL U nd := by rw [HU.out]
            rw [e_, HML.out] at z_
            exact z_
          have H3x : Hid (Blk wq g3 [.int .i64 P, .slice td nd kd, .slice ts ns ks]) := H3.out.below HW.out
          refine wp_region_held_drew (S := fun w' => w'.cell? ⟨g3, 0, none⟩ = some (.int .i64 P) ∧ w'.cell? ⟨g3, 1, none⟩ = some (.slice td nd kd) ∧ w'.cell? ⟨g3, 2, none⟩ = some (.slice ts ns ks) ∧ w'.cell? ⟨g8, 0, none⟩ = some (.slice (some ⟨cb, co, none⟩) nr c8) ∧ w'.cell? ⟨cb, co + j * 3 + 1, none⟩ = some (.int .i64 (YY j)) ∧ g3 < w'.heap.size ∧ g8 < w'.heap.size ∧ cb < w'.heap.size) (by kernel_rfl) ?_ (fun hHeld => ?_)
          · exact ⟨H3x.out.2.2 0 _ rfl, H3x.out.2.2 1 _ rfl, H3x.out.2.2 2 _ rfl, H8w.out.2.2 0 _ rfl, HCc.out.2, H3x.out.1, H8w.out.1, HCc.out.1⟩
          obtain ⟨v0, hv0⟩ : ∃ z, z = wq.drew := ⟨_, rfl⟩
          try rw [← hv0] at hHeld
          rw [← hv0]
          have bv0 : Below wq.heap.size wq v0 := by rw [hv0]; exact Below.drew (Below.refl _ _)
          clear hv0
          replace H3x : Hid (Blk v0 g3 [.int .i64 P, .slice td nd kd, .slice ts ns ks]) := H3x.out.below bv0
          replace H8w : Hid (Blk v0 g8 [.slice (some ⟨cb, co, none⟩) nr c8]) := H8w.out.below bv0
          replace HCc : Hid (cb < v0.heap.size ∧ v0.cell? ⟨cb, co + j * 3 + 1, none⟩ = some (.int .i64 (YY j))) := ⟨Nat.lt_of_lt_of_le HCc.out.1 bv0.size, (bv0.cell (p := ⟨cb, co + j * 3 + 1, none⟩) HCc.out.1).trans HCc.out.2⟩
          replace HW : Hid (Below wr.heap.size wr v0) := HW.out.trans (bv0.mono HW.out.size)
          clear bv0
          refine wpAnyH_take (i := 0) (v := .agg #[.int .i64 P, .slice td nd kd, .slice ts ns ks]) rfl (by kernel_rfl) (by kernel_rfl) (by kernel_rfl) (fun _ _ _ h => h) (Or.inl ⟨by kernel_rfl, ?_⟩) hHeld ?_
          · intro w' hSw
            obtain ⟨hc0, hc1, hc2, hc3, hc4, hz0, hz1, hz2⟩ := hSw
            first | (go_simp; done) | (go_simp; with_reducible rfl) | (go_simp; rw [IntKind.wrap_i64]; omega) | (go_simp; omega)
          simp only [Act.put, List.setIfInBounds_toArray, List.set_cons_zero, List.set_cons_succ]
          refine wpAnyH_take (i := 2) (v := .slice tl ml cl) rfl (by kernel_rfl) (by kernel_rfl) (by kernel_rfl) (fun _ _ _ h => h) (Or.inl ⟨by kernel_rfl, ?_⟩) hHeld ?_
          · intro w' hSw
            obtain ⟨hc0, hc1, hc2, hc3, hc4, hz0, hz1, hz2⟩ := hSw
            first | (go_simp; done) | (go_simp; with_reducible rfl) | (go_simp; rw [IntKind.wrap_i64]; omega) | (go_simp; omega)
          simp only [Act.put, List.setIfInBounds_toArray, List.set_cons_zero, List.set_cons_succ]
          refine wpAnyH_take (i := 4) (v := .pointer (some ⟨g8, 0, none⟩)) rfl (by kernel_rfl) (by kernel_rfl) (by kernel_rfl) (fun _ _ _ h => h) (Or.inl ⟨by kernel_rfl, ?_⟩) hHeld ?_
          · intro w' hSw
            obtain ⟨hc0, hc1, hc2, hc3, hc4, hz0, hz1, hz2⟩ := hSw
            first | (go_simp; done) | (go_simp; with_reducible rfl) | (go_simp; rw [IntKind.wrap_i64]; omega) | (go_simp; omega)
          simp only [Act.put, List.setIfInBounds_toArray, List.set_cons_zero, List.set_cons_succ]
          refine wpAnyH_take (i := 5) (v := .slice (some ⟨cb, co, none⟩) nr c8) rfl (by kernel_rfl) (by kernel_rfl) (by kernel_rfl) (fun _ _ _ h => h) (Or.inl ⟨by kernel_rfl, ?_⟩) hHeld ?_
          · intro w' hSw
            obtain ⟨hc0, hc1, hc2, hc3, hc4, hz0, hz1, hz2⟩ := hSw
            first | (go_simp; done) | (go_simp; with_reducible rfl) | (go_simp; rw [IntKind.wrap_i64]; omega) | (go_simp; omega)
          simp only [Act.put, List.setIfInBounds_toArray, List.set_cons_zero, List.set_cons_succ]
          refine wpAnyH_take (i := 6) (v := .int .i64 (j : Int)) rfl (by kernel_rfl) (by kernel_rfl) (by kernel_rfl) (fun _ _ _ h => h) (Or.inl ⟨by kernel_rfl, ?_⟩) hHeld ?_
          · intro w' hSw
            obtain ⟨hc0, hc1, hc2, hc3, hc4, hz0, hz1, hz2⟩ := hSw
            first | (go_simp; done) | (go_simp; with_reducible rfl) | (go_simp; rw [IntKind.wrap_i64]; omega) | (go_simp; omega)
          simp only [Act.put, List.setIfInBounds_toArray, List.set_cons_zero, List.set_cons_succ]
          refine wpAnyH_take (i := 7) (v := .pointer (some ⟨cb, co + j * 3, none⟩)) rfl (by kernel_rfl) (by kernel_rfl) (by kernel_rfl) (fun _ _ _ h => h) (Or.inl ⟨by kernel_rfl, ?_⟩) hHeld ?_
          · intro w' hSw
            obtain ⟨hc0, hc1, hc2, hc3, hc4, hz0, hz1, hz2⟩ := hSw
            first | (go_simp; done) | (go_simp; with_reducible rfl) | (go_simp; rw [IntKind.wrap_i64]; omega) | (go_simp; omega)
          simp only [Act.put, List.setIfInBounds_toArray, List.set_cons_zero, List.set_cons_succ]
          refine wpAnyH_take (i := 8) (v := .pointer (some ⟨cb, co + j * 3 + 1, none⟩)) rfl (by kernel_rfl) (by kernel_rfl) (by kernel_rfl) (fun _ _ _ h => h) (Or.inl ⟨by kernel_rfl, ?_⟩) hHeld ?_
          · intro w' hSw
            obtain ⟨hc0, hc1, hc2, hc3, hc4, hz0, hz1, hz2⟩ := hSw
            first | (go_simp; done) | (go_simp; with_reducible rfl) | (go_simp; rw [IntKind.wrap_i64]; omega) | (go_simp; omega)
          simp only [Act.put, List.setIfInBounds_toArray, List.set_cons_zero, List.set_cons_succ]
          refine wpAnyH_take (i := 9) (v := .int .i64 (YY j)) rfl (by kernel_rfl) (by kernel_rfl) (by kernel_rfl) (fun _ _ _ h => h) (Or.inl ⟨by kernel_rfl, ?_⟩) hHeld ?_
          · intro w' hSw
            obtain ⟨hc0, hc1, hc2, hc3, hc4, hz0, hz1, hz2⟩ := hSw
            first | (go_simp; done) | (go_simp; with_reducible rfl) | (go_simp; rw [IntKind.wrap_i64]; omega) | (go_simp; omega)
          simp only [Act.put, List.setIfInBounds_toArray, List.set_cons_zero, List.set_cons_succ]
          refine wpAnyH_ready (rs := [1]) (by kernel_rfl) (by simp) ?_
          refine (AllReadyH.cons rfl (fun KK hK => ?_) AllReadyH.nil)
          go_simp
          obtain ⟨v0_1, hv_⟩ : ∃ z, z = v0.alloc (.cells #[] 2) := ⟨_, rfl⟩
          rw [← hv_]
          obtain ⟨lb, hlb⟩ : ∃ z, z = v0.heap.size := ⟨_, rfl⟩
          have HLt : Hid (OwL lb v0_1 (.slice (some ⟨lb, 0, none⟩) 0 0) []) := by rw [hv_, hlb]; exact OwL.lit v0 (Nat.le_refl _)
          have zlb : lb ≤ v0_1.heap.size := by rw [hv_, hlb]; simp
          have b_ : Below v0.heap.size v0 v0_1 := by rw [hv_]; exact below0 _ _
          have H3L : g3 < lb := by rw [hlb]; exact H3x.out.1
          have H8L : g8 < lb := by rw [hlb]; exact H8w.out.1
          have HCL : cb < lb := by rw [hlb]; exact HCc.out.1
          have HWL : Hid (wr.heap.size ≤ lb) := by show _ ≤ _; rw [hlb]; exact HW.out.size
          replace H3x : Hid (Blk v0_1 g3 [.int .i64 P, .slice td nd kd, .slice ts ns ks]) := H3x.out.below b_
          replace H8w : Hid (Blk v0_1 g8 [.slice (some ⟨cb, co, none⟩) nr c8]) := H8w.out.below b_
          replace HCc : Hid (cb < v0_1.heap.size ∧ v0_1.cell? ⟨cb, co + j * 3 + 1, none⟩ = some (.int .i64 (YY j))) := ⟨Nat.lt_of_lt_of_le HCc.out.1 b_.size, (b_.cell (p := ⟨cb, co + j * 3 + 1, none⟩) HCc.out.1).trans HCc.out.2⟩
          replace HW : Hid (Below wr.heap.size wr v0_1) := HW.out.trans (b_.mono HW.out.size)
          try rw [← hlb]
          clear hv_ hlb b_
          refine hK.out _ _ (⟨H3x.out.2.2 0 _ rfl, H3x.out.2.2 1 _ rfl, H3x.out.2.2 2 _ rfl, H8w.out.2.2 0 _ rfl, HCc.out.2, H3x.out.1, H8w.out.1, HCc.out.1⟩) (fun hHeld => ?_)
          clear hK KK
          refine wpAnyH_ready (rs := [3]) (by kernel_rfl) (by simp) ?_
          refine (AllReadyH.cons rfl (fun KK hK => ?_) AllReadyH.nil)
          have HRI : Hid (RowI v0_1 tl ml (nthI (tgL U nd))) := HTL.out.below HW.out
          refine wp_joinL lb (.slice (some ⟨lb, 0, none⟩) 0 0) [] tl ml cl (tgL U nd) (.tmp 139) (.tmp 140) (by rfl) (by rfl) (by rfl) HML.out (by omega) (by simp) zlb HLt.out HRI.out ?_
          intro s9 cap9 v0_2 l9 b9 _
          simp only [List.length_nil, Nat.zero_add, List.nil_append] at l9 ⊢
          have HR9 : Hid (RowI v0_2 s9 ml (nthI (tgL U nd))) := by
            obtain ⟨t_, c_, e_, o_⟩ := OwL.own l9
            rw [HML.out] at e_ o_
            cases e_
            exact o_.row
          replace H3x : Hid (Blk v0_2 g3 [.int .i64 P, .slice td nd kd, .slice ts ns ks]) := H3x.out.belowB b9 H3L
          replace H8w : Hid (Blk v0_2 g8 [.slice (some ⟨cb, co, none⟩) nr c8]) := H8w.out.belowB b9 H8L
          replace HCc : Hid (cb < v0_2.heap.size ∧ v0_2.cell? ⟨cb, co + j * 3 + 1, none⟩ = some (.int .i64 (YY j))) := ⟨Nat.lt_of_lt_of_le HCc.out.1 b9.size, (b9.cell (p := ⟨cb, co + j * 3 + 1, none⟩) HCL).trans HCc.out.2⟩
          replace HW : Hid (Below wr.heap.size wr v0_2) := HW.out.trans (b9.mono HWL.out)
          clear l9 b9 HRI HLt
          go_simp
          refine hK.out _ _ (⟨H3x.out.2.2 0 _ rfl, H3x.out.2.2 1 _ rfl, H3x.out.2.2 2 _ rfl, H8w.out.2.2 0 _ rfl, HCc.out.2, H3x.out.1, H8w.out.1, HCc.out.1⟩) (fun hHeld => ?_)
          clear hK KK
          refine wpAnyH_ready (rs := [10]) (by kernel_rfl) (by simp) ?_
          refine (AllReadyH.cons rfl (fun KK hK => ?_) AllReadyH.nil)
          have HDx : Hid (RowDuct v0_2 td nd D) := HD.out.below HW.out
          have HLx : Hid (RowI v0_2 ts ns S) := HL.out.below HW.out
          go_simp
          go_wp2_with (first | (go_at_call 36; refine (implCutOff_any P td nd kd D ts ns ks S s9 ml cap9 (nthI (tgL U nd)) (YY j) _ (by omega) (by omega) (by omega) HDx HLx HR9).mono ?_; rintro e v0_3 ⟨rfl, b9⟩))
          rw [HCU.out]
          replace H3x : Hid (Blk v0_3 g3 [.int .i64 P, .slice td nd kd, .slice ts ns ks]) := H3x.out.below b9
          replace H8w : Hid (Blk v0_3 g8 [.slice (some ⟨cb, co, none⟩) nr c8]) := H8w.out.below b9
          replace HCc : Hid (cb < v0_3.heap.size ∧ v0_3.cell? ⟨cb, co + j * 3 + 1, none⟩ = some (.int .i64 (YY j))) := ⟨Nat.lt_of_lt_of_le HCc.out.1 b9.size, (b9.cell (p := ⟨cb, co + j * 3 + 1, none⟩) HCc.out.1).trans HCc.out.2⟩
          replace HW : Hid (Below wr.heap.size wr v0_3) := HW.out.trans (b9.mono HW.out.size)
          clear b9 HDx HLx HR9
          refine hK.out _ _ (⟨H3x.out.2.2 0 _ rfl, H3x.out.2.2 1 _ rfl, H3x.out.2.2 2 _ rfl, H8w.out.2.2 0 _ rfl, HCc.out.2, H3x.out.1, H8w.out.1, HCc.out.1⟩) (fun hHeld => ?_)
          clear hK KK
          refine wpAnyH_take (i := 11) (v := .bool false) rfl (by kernel_rfl) (by kernel_rfl) (by kernel_rfl) (fun _ _ _ h => h) (Or.inl ⟨by kernel_rfl, ?_⟩) hHeld ?_
          · intro w' hSw
            obtain ⟨hc0, hc1, hc2, hc3, hc4, hz0, hz1, hz2⟩ := hSw
            first | (go_simp; done) | (go_simp; with_reducible rfl) | (go_simp; rw [IntKind.wrap_i64]; omega) | (go_simp; omega)
          simp only [Act.put, List.setIfInBounds_toArray, List.set_cons_zero, List.set_cons_succ]
          refine wpAnyH_done (by kernel_rfl) ?_ _
          clear hHeld
          go_wp2_with fail
          go_roundw
          case rel => exact ⟨j + 1, rfl, by go_num, by omega, HW⟩
          case measure => first | (simp [intOf]; done) | (simp [intOf]; omega)
        case neg =>
          obtain rfl : nr = j := by omega
          have HWo : Hid (Below wr.heap.size wr wq) := HW
          have hop_ := HWo.out
          replace H3 : Hid (Blk wq g3 [.int .i64 P, .slice td nd kd, .slice ts ns ks]) := H3.out.below hop_
          replace H4 : Hid (Blk wq g4 [.slice bs nb bc]) := H4.out.below hop_
          replace H5 : Hid (Blk wq g5 [.int .i64 id, .int .i64 pl, .slice vs kp vc]) := H5.out.below hop_
          replace H8 : Hid (Blk wq g8 [.slice s8 nr c8]) := H8.out.below hop_
          replace HD : Hid (RowDuct wq td nd D) := HD.out.below hop_
          replace HL : Hid (RowI wq ts ns S) := HL.out.below hop_
          replace HC : Hid (RowPer wq s8 nr XX YY KQ VV) := HC.out.below hop_
          replace HT : Hid (RowI wq ta nd U) := HT.out.below hop_
          replace HTL : Hid (RowI wq tl ml (nthI (tgL U nd))) := HTL.out.below hop_
          replace HS : Hid (Below w.heap.size w wq) := HS.out.trans (hop_.mono HS.out.size)
          clear hop_
          clear HW HWo
          have hz0 : suI U nd - suI (fun i => (KQ i : Int)) nr = 0 := by rw [HUE.out]; exact Int.sub_self _
          rw [hz0]
          clear hz0
          have hji : ¬ (nr : Int) < (nr : Int) := by omega
          have d0 := H8.out.2.2 0 _ rfl
          have dz := H8.out.1
          by_cases hc0 : cd = 0
          case neg =>
            have k0 : (cd != 0) = true := by simpa using hc0
            have HC0 : Hid (¬ cd = 0) := hc0
            clear hc0
            have BS := HS.out
            have sBS := BS.size
            go_wp2
            go_ret
            exact ⟨rfl, (by repeat (first | with_reducible exact Below.refl _ _ | with_reducible exact BS | with_reducible refine Below.setCell ?_ (by first | omega | (simp; done) | (simp; omega)) _ | with_reducible refine bDrewN ?_ _ | with_reducible refine Below.drew ?_ | with_reducible refine Below.alloc ?_ (by first | omega | (simp; done) | (simp; omega)) _))⟩
          case pos =>
            have HGI : Hid (GotIn P nd D ns S nb X Y K V id pl kp vp q nr XX YY KQ VV) := by
              rcases HOK2.out.2 with z | z
              · exact absurd hc0 z.1
              · exact z.2
            have k0 : (cd != 0) = false := by rw [hc0]; rfl
            clear hc0
            have HHT : Hid (bokB P nd D ns S nr XX YY KQ VV = true → HitAt nr XX id q) := fun _ => by
              obtain ⟨h, hi, hv, e1, e2, e3, e4, e5⟩ := HGI.out
              rw [e1, e2]
              exact hit_ins hi
            have HHT2 : Hid (bokB P nd D ns S nb X Y K V = true → HitAt nb X id nb) := fun _ => hit_out HGI.out.2.1
            have HKb : Hid (∀ i, i < nb → (K i : Int) ≤ 1048576) := fun i hi => by have := ((bok_in HGI.out.1).2.2 i hi).1; omega
            have HKp : Hid (kp ≤ 40) := by
              obtain ⟨h, hi, hv, e1, e2, e3, e4, e5⟩ := HGI.out
              have z_ := HK40.out q (by rw [e1]; have := hi.1; omega)
              rw [e4, inF_eq] at z_
              exact z_
            go_upto_region 33 with fail
            clear k0 hji d0 dz
            have c0 := H3.out.2.2 0 _ rfl
            have c1 := H3.out.2.2 1 _ rfl
            have c2 := H3.out.2.2 2 _ rfl
            have cz := H3.out.1
            have d0 := H8.out.2.2 0 _ rfl
            have dz := H8.out.1
            have e0 := H5.out.2.2 0 _ rfl
            have e1 := H5.out.2.2 1 _ rfl
            have e2 := H5.out.2.2 2 _ rfl
            have ez := H5.out.1
            go_wp2_with fail
            refine (implGiveBackC_any P td nd kd D ts ns ks S s8 nr c8 XX YY KQ VV id q _ (by omega) (by omega) HD HL (by omega) hc8 HKK HC HHT).mono ?_
            rintro e w20 hA
            obtain ⟨s15, c15, t16, d16, rfl, hc15, rC, rF, b4⟩ := gb_use HGI.out HOK.out hA
            obtain ⟨FL, hFL⟩ : ∃ z, z = freL vp (cntP K V nb) kp := ⟨_, rfl⟩
            rw [← hFL] at rF
            rw [← hFL]
            have HFLe : Hid (FL = freL vp (cntP K V nb) kp) := hFL
            obtain ⟨fl, hfl⟩ : ∃ z, FL.length = z := ⟨_, rfl⟩
            rw [hfl] at rF
            rw [hfl]
            have HFl : Hid (FL.length = fl) := hfl
            have HF40 : Hid (fl ≤ 40) := by have h1_ := fre_len vp (cntP K V nb) kp; have h2_ := HKp.out; show fl ≤ 40; rw [← hfl, hFL]; omega
            have HE : Hid (RowPer w20 s15 nb X Y K V) := rC
            have HF : Hid (RowI w20 t16 fl (nthI FL)) := rF
            clear hA rC rF hFL hfl
            clear c0 c1 c2 cz
            clear d0 dz
            clear e0 e1 e2 ez
            replace H3 : Hid (Blk w20 g3 [.int .i64 P, .slice td nd kd, .slice ts ns ks]) := H3.out.below b4
            replace H4 : Hid (Blk w20 g4 [.slice bs nb bc]) := H4.out.below b4
            replace H5 : Hid (Blk w20 g5 [.int .i64 id, .int .i64 pl, .slice vs kp vc]) := H5.out.below b4
            replace H8 : Hid (Blk w20 g8 [.slice s8 nr c8]) := H8.out.below b4
            replace HD : Hid (RowDuct w20 td nd D) := HD.out.below b4
            replace HL : Hid (RowI w20 ts ns S) := HL.out.below b4
            replace HC : Hid (RowPer w20 s8 nr XX YY KQ VV) := HC.out.below b4
            replace HT : Hid (RowI w20 ta nd U) := HT.out.below b4
            replace HTL : Hid (RowI w20 tl ml (nthI (tgL U nd))) := HTL.out.below b4
            replace HS : Hid (Below w.heap.size w w20) := HS.out.trans (b4.mono HS.out.size)
            clear b4
            clear H8 HC HTL
            go_upto_region 34 with fail
            obtain ⟨w21, hx_⟩ : ∃ z, z = w20.alloc (.cells #[.slice s15 nb c15] 36) := ⟨_, rfl⟩
            try rw [← hx_]
            obtain ⟨g15, hg_⟩ : ∃ z, z = w20.heap.size := ⟨_, rfl⟩
            have b_ : Below w20.heap.size w20 w21 := by rw [hx_]; exact below0 _ _
            have H15 : Hid (Blk w21 g15 [.slice s15 nb c15]) := by show Blk _ _ _; rw [hx_, hg_]; exact Blk.new w20 #[.slice s15 nb c15] _
            replace H3 : Hid (Blk w21 g3 [.int .i64 P, .slice td nd kd, .slice ts ns ks]) := H3.out.below b_
            replace H4 : Hid (Blk w21 g4 [.slice bs nb bc]) := H4.out.below b_
            replace H5 : Hid (Blk w21 g5 [.int .i64 id, .int .i64 pl, .slice vs kp vc]) := H5.out.below b_
            replace HD : Hid (RowDuct w21 td nd D) := HD.out.below b_
            replace HL : Hid (RowI w21 ts ns S) := HL.out.below b_
            replace HT : Hid (RowI w21 ta nd U) := HT.out.below b_
            replace HE : Hid (RowPer w21 s15 nb X Y K V) := HE.out.below b_
            replace HF : Hid (RowI w21 t16 fl (nthI FL)) := HF.out.below b_
            replace HS : Hid (Below w.heap.size w w21) := HS.out.trans (b_.mono HS.out.size)
            try rw [← hg_]
            clear hx_ hg_ b_
            have enn : ((nb : Int) != (nb : Int)) = false := by simp
            have f0 := H15.out.2.2 0 _ rfl
            have fz := H15.out.1
            have d0 := H4.out.2.2 0 _ rfl
            have dz := H4.out.1
            have c0 := H3.out.2.2 0 _ rfl
            have c1 := H3.out.2.2 1 _ rfl
            have c2 := H3.out.2.2 2 _ rfl
            have cz := H3.out.1
            go_wp2_with fail
            clear enn
            refine (implTags_any P td nd kd D ts ns ks S s15 nb c15 X Y K V _ (by omega) (by omega) HD HL (by omega) hc15 HKb HE).mono ?_
            rintro e w22 hT
            unfold TagPost at hT
            obtain ⟨tb, cb, rfl, oT, b10⟩ := hT
            have eT : tagN P nd D ns S nb X Y K V = nd := if_pos HGI.out.1
            rw [eT] at oT
            rw [eT]
            obtain ⟨UB, hUB⟩ : ∃ U, U = cntP K V nb := ⟨_, rfl⟩
            rw [← hUB] at oT
            have HUb : Hid (UB = cntP K V nb) := hUB
            have HTB : Hid (RowI w22 tb nd UB) := oT.row
            clear oT eT hUB
            clear c0 c1 c2 cz
            clear d0 dz
            clear f0 fz
            replace H3 : Hid (Blk w22 g3 [.int .i64 P, .slice td nd kd, .slice ts ns ks]) := H3.out.below b10
            replace H4 : Hid (Blk w22 g4 [.slice bs nb bc]) := H4.out.below b10
            replace H5 : Hid (Blk w22 g5 [.int .i64 id, .int .i64 pl, .slice vs kp vc]) := H5.out.below b10
            replace H15 : Hid (Blk w22 g15 [.slice s15 nb c15]) := H15.out.below b10
            replace HD : Hid (RowDuct w22 td nd D) := HD.out.below b10
            replace HL : Hid (RowI w22 ts ns S) := HL.out.below b10
            replace HT : Hid (RowI w22 ta nd U) := HT.out.below b10
            replace HE : Hid (RowPer w22 s15 nb X Y K V) := HE.out.below b10
            replace HF : Hid (RowI w22 t16 fl (nthI FL)) := HF.out.below b10
            replace HS : Hid (Below w.heap.size w w22) := HS.out.trans (b10.mono HS.out.size)
            clear b10
            go_wp2_with fail
            go_loopw [19] (fun v19 wx => ∃ k : Nat, v19 = .int .i64 (k : Int) ∧ k ≤ nd ∧ Hid (Below w22.heap.size w22 wx)) (fun v19 _ => nd - (intOf v19).toNat)
            case atStart => exact ⟨0, rfl, Nat.zero_le _, Below.refl _ _⟩
            case round =>
              obtain ⟨k, rfl, hk0, HW⟩ := hrel
              rename World => wz
              by_cases hk : k < nd
              case pos =>
                have hki : (k : Int) < (nd : Int) := by omega
                obtain ⟨ub, uo, rfl, uz, uc⟩ := (HT.out.below HW.out) k hk
                obtain ⟨vb, vo, rfl, vz, vc⟩ := (HTB.out.below HW.out) k hk
                have HFz : Hid (RowI wz t16 fl (nthI FL)) := HF.out.below HW.out
                have HFM : Hid (decide ((k : Int) ∈ FL) = (decide (UB k = 0) && decide (0 < U k))) := by
                  show _ = _
                  rw [HFLe.out, HUb.out, HU.out]; exact free_mem HGI.out k
                by_cases zA : UB k = 0
                case pos =>
                  by_cases zB : 0 < U k
                  case pos =>
                    have HAQ : Hid (∀ m, Calls Try.prog 40 #[.slice t16 fl d16, .int .i64 (k : Int)] (wz.drewN m) fun e w' => e = .returned (.bool true) ∧ w' = wz.drewN m) := fun m => by
                      have z_ := has_any t16 FL d16 (k : Int) (wz.drewN m) (by rw [HFl.out]; have := HF40.out; omega) (by show RowI _ _ _ _; rw [HFl.out]; exact HFz.out.below (bDrewN (Below.refl _ wz) m))
                      rw [HFl.out] at z_
                      have e_ : decide ((k : Int) ∈ FL) = true := by
                        rw [HFM.out]
                        first | (rw [decide_eq_true zA, decide_eq_true zB]; rfl) | (rw [decide_eq_true zA, decide_eq_false zB]; rfl) | (rw [decide_eq_false zA]; rfl)
                      rw [e_] at z_
                      exact z_
                    have za : (UB k == 0) = true := by rw [beq_iff_eq]; exact zA
                    have zb : (0 : Int) < U k := zB
                    clear zA
                    try clear zB
                    clear HFM HFz
                    go_wp2_with fail
                    go_quiet (first | (go_at_call 40; exact Calls.quiet_of_same (HAQ.out _)))
                    all_goals
                      go_wp2
                      go_roundw
                      case rel => exact ⟨k + 1, by go_num, by omega, (by first | exact HW | exact HW.out | exact bDrewN HW.out _)⟩
                      case measure => first | (simp [intOf]; done) | (simp [intOf]; omega)
                  case neg =>
                    have HAQ : Hid (∀ m, Calls Try.prog 40 #[.slice t16 fl d16, .int .i64 (k : Int)] (wz.drewN m) fun e w' => e = .returned (.bool false) ∧ w' = wz.drewN m) := fun m => by
                      have z_ := has_any t16 FL d16 (k : Int) (wz.drewN m) (by rw [HFl.out]; have := HF40.out; omega) (by show RowI _ _ _ _; rw [HFl.out]; exact HFz.out.below (bDrewN (Below.refl _ wz) m))
                      rw [HFl.out] at z_
                      have e_ : decide ((k : Int) ∈ FL) = false := by
                        rw [HFM.out]
                        first | (rw [decide_eq_true zA, decide_eq_true zB]; rfl) | (rw [decide_eq_true zA, decide_eq_false zB]; rfl) | (rw [decide_eq_false zA]; rfl)
                      rw [e_] at z_
                      exact z_
                    have za : (UB k == 0) = true := by rw [beq_iff_eq]; exact zA
                    have zb : ¬ (0 : Int) < U k := zB
                    clear zA
                    try clear zB
                    clear HFM HFz
                    go_wp2_with fail
                    go_quiet (first | (go_at_call 40; exact Calls.quiet_of_same (HAQ.out _)))
                    all_goals
                      go_wp2
                      go_roundw
                      case rel => exact ⟨k + 1, by go_num, by omega, (by first | exact HW | exact HW.out | exact bDrewN HW.out _)⟩
                      case measure => first | (simp [intOf]; done) | (simp [intOf]; omega)
                case neg =>
                  have HAQ : Hid (∀ m, Calls Try.prog 40 #[.slice t16 fl d16, .int .i64 (k : Int)] (wz.drewN m) fun e w' => e = .returned (.bool false) ∧ w' = wz.drewN m) := fun m => by
                    have z_ := has_any t16 FL d16 (k : Int) (wz.drewN m) (by rw [HFl.out]; have := HF40.out; omega) (by show RowI _ _ _ _; rw [HFl.out]; exact HFz.out.below (bDrewN (Below.refl _ wz) m))
                    rw [HFl.out] at z_
                    have e_ : decide ((k : Int) ∈ FL) = false := by
                      rw [HFM.out]
                      first | (rw [decide_eq_true zA, decide_eq_true zB]; rfl) | (rw [decide_eq_true zA, decide_eq_false zB]; rfl) | (rw [decide_eq_false zA]; rfl)
                    rw [e_] at z_
                    exact z_
                  have za : (UB k == 0) = false := beq_false_of_ne zA
                  clear zA
                  try clear zB
                  clear HFM HFz
                  go_wp2_with fail
                  go_quiet (first | (go_at_call 40; exact Calls.quiet_of_same (HAQ.out _)))
                  all_goals
                    go_wp2
                    go_roundw
                    case rel => exact ⟨k + 1, by go_num, by omega, (by first | exact HW | exact HW.out | exact bDrewN HW.out _)⟩
                    case measure => first | (simp [intOf]; done) | (simp [intOf]; omega)
              case neg =>
                obtain rfl : nd = k := by omega
                have hkn : ¬ (nd : Int) < (nd : Int) := by omega
                have HWo : Hid (Below w22.heap.size w22 wz) := HW
                have hop_ := HWo.out
                replace H3 : Hid (Blk wz g3 [.int .i64 P, .slice td nd kd, .slice ts ns ks]) := H3.out.below hop_
                replace H4 : Hid (Blk wz g4 [.slice bs nb bc]) := H4.out.below hop_
                replace H5 : Hid (Blk wz g5 [.int .i64 id, .int .i64 pl, .slice vs kp vc]) := H5.out.below hop_
                replace H15 : Hid (Blk wz g15 [.slice s15 nb c15]) := H15.out.below hop_
                replace HD : Hid (RowDuct wz td nd D) := HD.out.below hop_
                replace HL : Hid (RowI wz ts ns S) := HL.out.below hop_
                replace HT : Hid (RowI wz ta nd U) := HT.out.below hop_
                replace HE : Hid (RowPer wz s15 nb X Y K V) := HE.out.below hop_
                replace HF : Hid (RowI wz t16 fl (nthI FL)) := HF.out.below hop_
                replace HTB : Hid (RowI wz tb nd UB) := HTB.out.below hop_
                replace HS : Hid (Below w.heap.size w wz) := HS.out.trans (hop_.mono HS.out.size)
                clear hop_
                clear HW HWo
                have c0 := H3.out.2.2 0 _ rfl
                have c1 := H3.out.2.2 1 _ rfl
                have c2 := H3.out.2.2 2 _ rfl
                have cz := H3.out.1
                have d0 := H15.out.2.2 0 _ rfl
                have dz := H15.out.1
                have e0 := H5.out.2.2 0 _ rfl
                have e1 := H5.out.2.2 1 _ rfl
                have e2 := H5.out.2.2 2 _ rfl
                have ez := H5.out.1
                go_wp2_with fail
                refine (implGiveBackC_any P td nd kd D ts ns ks S s15 nb c15 X Y K V id nb _ (by omega) (by omega) HD HL (by omega) hc15 HKb HE HHT2).mono ?_
                rintro e w30 hA
                obtain ⟨s20, c20, t21, d21, rfl, b4⟩ := gb_out HGI.out hA
                clear hA
                clear c0 c1 c2 cz
                clear d0 dz
                clear e0 e1 e2 ez
                replace H3 : Hid (Blk w30 g3 [.int .i64 P, .slice td nd kd, .slice ts ns ks]) := H3.out.below b4
                replace H4 : Hid (Blk w30 g4 [.slice bs nb bc]) := H4.out.below b4
                replace H5 : Hid (Blk w30 g5 [.int .i64 id, .int .i64 pl, .slice vs kp vc]) := H5.out.below b4
                replace H15 : Hid (Blk w30 g15 [.slice s15 nb c15]) := H15.out.below b4
                replace HD : Hid (RowDuct w30 td nd D) := HD.out.below b4
                replace HL : Hid (RowI w30 ts ns S) := HL.out.below b4
                replace HT : Hid (RowI w30 ta nd U) := HT.out.below b4
                replace HE : Hid (RowPer w30 s15 nb X Y K V) := HE.out.below b4
                replace HF : Hid (RowI w30 t16 fl (nthI FL)) := HF.out.below b4
                replace HTB : Hid (RowI w30 tb nd UB) := HTB.out.below b4
                replace HS : Hid (Below w.heap.size w w30) := HS.out.trans (b4.mono HS.out.size)
                clear b4
                go_upto_region 43 with fail
                obtain ⟨w31, hx_⟩ : ∃ z, z = w30.alloc (.cells #[.slice s20 nb c20] 36) := ⟨_, rfl⟩
                try rw [← hx_]
                obtain ⟨g20, hg_⟩ : ∃ z, z = w30.heap.size := ⟨_, rfl⟩
                have b_ : Below w30.heap.size w30 w31 := by rw [hx_]; exact below0 _ _
                have H20 : Hid (Blk w31 g20 [.slice s20 nb c20]) := by show Blk _ _ _; rw [hx_, hg_]; exact Blk.new w30 #[.slice s20 nb c20] _
                replace H3 : Hid (Blk w31 g3 [.int .i64 P, .slice td nd kd, .slice ts ns ks]) := H3.out.below b_
                replace H4 : Hid (Blk w31 g4 [.slice bs nb bc]) := H4.out.below b_
                replace H5 : Hid (Blk w31 g5 [.int .i64 id, .int .i64 pl, .slice vs kp vc]) := H5.out.below b_
                replace H15 : Hid (Blk w31 g15 [.slice s15 nb c15]) := H15.out.below b_
                replace HD : Hid (RowDuct w31 td nd D) := HD.out.below b_
                replace HL : Hid (RowI w31 ts ns S) := HL.out.below b_
                replace HT : Hid (RowI w31 ta nd U) := HT.out.below b_
                replace HE : Hid (RowPer w31 s15 nb X Y K V) := HE.out.below b_
                replace HF : Hid (RowI w31 t16 fl (nthI FL)) := HF.out.below b_
                replace HTB : Hid (RowI w31 tb nd UB) := HTB.out.below b_
                replace HS : Hid (Below w.heap.size w w31) := HS.out.trans (b_.mono HS.out.size)
                try rw [← hg_]
                clear hx_ hg_ b_
                have enn : ((nd : Int) == (nd : Int)) = true := by simp
                have BS := HS.out
                have sBS := BS.size
                go_wp2
                go_ret
                exact ⟨rfl, (by repeat (first | with_reducible exact Below.refl _ _ | with_reducible exact BS | with_reducible refine Below.setCell ?_ (by first | omega | (simp; done) | (simp; omega)) _ | with_reducible refine bDrewN ?_ _ | with_reducible refine Below.drew ?_ | with_reducible refine Below.alloc ?_ (by first | omega | (simp; done) | (simp; omega)) _))⟩
theorem fnPermits_walk (w : World) (s : Option Addr) (n c : Nat) (hn : n ≤ 9223372036854775807) (R : Bytes w s n) :
    Calls Try.prog 8 #[.slice s n c] w fun e w' => e = .returned (.bool true) ∧ Below w.heap.size w w' := by
  by_cases h : n ≤ 1048576
  · exact permits_near w s n c (by omega) (R.code h)
  · exact permits_far w s n c (by omega)

set_option maxRecDepth 100000 in
theorem fnPermits_lifted (os : Os) (started : os.Started) (H : Type) (enc : TypeId × Value → H) :
    ReturnsInHanded {} Try.checked os 8 .any (Rows.fnPermitsSpec.pre6 enc Try.prog Try.f8 Rows.fnPermitsRow.domain false) (Rows.fnPermitsSpec.post enc Try.prog Try.f8 false true false false) := by
  refine returnsInHanded_of_change (C := Try.checked) own started (by kernel_rfl) Try.func8
    (ChangeSpec.witness6 (enc := enc) (C := Try.checked) false ⟨#[], #[.slice none 0 0], []⟩ 8 (by kernel_rfl) (by kernel_rfl) (by kernel_rfl) (by kernel_rfl)) ?_
  intro W base args ds gs before hval0 hW hcnd _
  have hval : ∀ (j : Nat) t v, Try.f8.params[j]? = some t → args[j]? = some v → Value.okWide Try.prog W .any base t v := hval0
  have hW' := hW
  obtain ⟨p, q, hA0, hV, rfl, hfz, hnd⟩ := hW
  have hA : DataW.TrodAll enc Try.prog W 0 (fun _ => true) true Try.f8.params.toList args.toList ds p := hA0
  rw [Try.params8] at hA hval
  obtain ⟨v0, vs0, d0, ds0, p0, q0, hargs, rfl, rfl, h0, r0⟩ := trodAll_cons hA
  obtain ⟨rfl, rfl, rfl⟩ := trodAll_nil r0
  obtain rfl : args = #[v0] := by cases args; simp_all
  obtain ⟨rfl, rfl⟩ := trodVars_none hV
  have k0 := h0
  have lt0 : ∀ x ∈ p0, x.block < W.heap.size := by obtain ⟨m, hm⟩ := k0; exact DataW.trod_lt m _ _ _ hm
  obtain ⟨s0, n0, c0, rfl, m0, R0⟩ := open_code Try.underlying63 Try.underlying5 (by kernel_rfl) (hval 0 63 v0 rfl rfl) h0
  clear hA0 hval0
  refine (fnPermits_walk W s0 n0 c0 m0 R0).mono fun e W' ⟨he, bel⟩ => ?_
  subst he
  exact ⟨_, rfl, _, _, _, [], _, [], hW', trodAll_mk1 (shut_bool Try.underlying4 _), (trodAll_cons_mk (Below.trod laidOut (by kernel_rfl) (of_decide_eq_true (by kernel_rfl)) k0 bel lt0) trodAll_mk0), rfl, bel.frame _, fun h => by cases h⟩

theorem fnPermits_holds : Rows.FnPermitsSaid :=
  OpenClaim.holds_of_wide 8 Try.f8 rfl rfl rfl rfl rfl rfl rfl ⟨rfl, rfl, rfl, rfl, rfl⟩ rfl rfl rfl rfl rfl (by kernel_rfl) Try.func8 (by kernel_rfl)
    (of_decide_eq_true (by kernel_rfl)) (by unfold Func.isWrapper; first | (rw [if_pos (by decide +kernel)]; kernel_rfl) | (rw [if_neg (by decide +kernel)]; exact ⟨rfl, rfl⟩))
    (fun os started H enc _ => fnPermits_lifted os started H enc)
#print axioms fnPermits_holds
end Go.Proofs.Ytikcfpjfcpbfcaa
