/-
What is proved: the valves that impl.Fewest tells for a drawn place cut it off, none of them can be left open, and a permit with them is granted in an empty book, at every code; no condition.
-/
import Derived.Test.YtikcfpjfcpbfcaaFeDz
import Derived.Test.YtikcfpjfcpbfcaaQiF
import Derived.Test.YtikcfpjfcpbfcaaQiC
import Derived.Test.YtikcfpjfcpbfcaaGrIz
import Derived.Test.YtikcfpjfcpbfcaaQiG
import Derived.Deep.RegionHeldLaw
import Derived.Deep.DeepCutAuto
namespace Go.Proofs.Ytikcfpjfcpbfcaa
set_option maxRecDepth 40000
open Go.ChangeShapes Go.WideShapes Go.ChangeAt Go.RowKit
set_option linter.unusedVariables false
set_option linter.unusedSimpArgs false

theorem ga_ok {p : Int} {n : Nat} {D : Nat → Int × Int} {m : Nat} {S : Nat → Int} {nb : Nat} {X Y : Nat → Int} {K : Nat → Nat} {V : Nat → Nat → Int} {id pl : Int} {kp : Nat} {vp : Nat → Int} {q : Nat} {w : World} {e : Ending} {w' : World} (h1 : bokB p n D m S nb X Y K V = true) (h2 : refV p n D m S nb X Y id pl kp vp = 0) (h : GrAns p n D m S nb X Y K V id pl kp vp q w e w') : GrPost w (nb + 1) (inF q id X) (inF q pl Y) (inF q kp K) (inF q vp V) 0 e w' := by unfold GrAns at h; rw [if_pos h1, if_pos h2] at h; exact h
theorem ffew_far (w : World) (s : Option Addr) (n c : Nat) (h : (1048576 : Int) < n) :
    Calls Try.prog 7 #[.slice s n c] w fun e w' => e = .returned (.bool true) ∧ Below w.heap.size w w' := by
  go_enter Try.func7, Try.ntmps7
  go_wp2_with fail
  refine (big_yes _ _ _ _ h).mono ?_
  rintro e w1 ⟨rfl, rfl⟩
  go_wp2
  go_ret
  exact ⟨rfl, Below.refl _ _⟩
set_option maxRecDepth 20000 in
set_option maxHeartbeats 8000000 in
theorem ffew_near (w : World) (s : Option Addr) (n c : Nat) (hn : (n : Int) ≤ 1048576) (HC8 : Hid (Code8 w s n)) :
    Calls Try.prog 7 #[.slice s n c] w fun e w' => e = .returned (.bool true) ∧ Below w.heap.size w w' := by
  go_enter Try.func7, Try.ntmps7
  go_wp2_with fail
  refine (big_no _ _ _ _ hn).mono ?_
  rintro e w1 ⟨rfl, rfl⟩
  rename World => w
  go_wp2_with fail
  refine (drawFewest_any HC8).mono ?_
  rintro e w2 ⟨p, td, nd, kd, ts, ns, ks, x, D, S, rfl, hnd, hns, hD, hS, B2⟩
  have HD2 : Hid (RowDuct w2 td nd D) := hD
  have HS2 : Hid (RowI w2 ts ns S) := hS
  have HB2 : Hid (Below w.heap.size w w2) := B2
  clear hD hS B2 HC8 hn
  go_upto_region 4 with fail
  obtain ⟨w3, hw3⟩ : ∃ z, z = w2.alloc (.cells #[.int .i64 p, .slice td nd kd, .slice ts ns ks] 41) := ⟨_, rfl⟩
  try rw [← hw3]
  have b3 : Below w2.heap.size w2 w3 := by rw [hw3]; exact below0 _ _
  obtain ⟨gn, hgn⟩ : ∃ z, z = w2.heap.size := ⟨_, rfl⟩
  have HN3 : Hid (Blk w3 gn [.int .i64 p, .slice td nd kd, .slice ts ns ks]) := by rw [hw3, hgn]; exact Blk.new w2 #[.int .i64 p, .slice td nd kd, .slice ts ns ks] _
  have HD3 : Hid (RowDuct w3 td nd D) := HD2.out.below b3
  have HS3 : Hid (RowI w3 ts ns S) := HS2.out.below b3
  have HB3 : Hid (Below w.heap.size w w3) := HB2.out.trans (b3.mono HB2.out.size)
  try rw [← hgn]
  clear hw3 b3 hgn HD2 HS2 HB2
  have c0 := HN3.out.2.2 0 _ rfl
  have c1 := HN3.out.2.2 1 _ rfl
  have c2 := HN3.out.2.2 2 _ rfl
  have cz := HN3.out.1
  go_wp2_with fail
  refine (specFewest_any p td nd kd D ts ns ks S x _ (by omega) (by omega) HD3 HS3).mono ?_
  rintro e w4 ⟨s1, c1', L1, rfl, O1, F1, b4⟩
  clear c0 c1 c2 cz
  have HN4 : Hid (Blk w4 gn [.int .i64 p, .slice td nd kd, .slice ts ns ks]) := HN3.out.below b4
  have HD4 : Hid (RowDuct w4 td nd D) := HD3.out.below b4
  have HS4 : Hid (RowI w4 ts ns S) := HS3.out.below b4
  have HB4 : Hid (Below w.heap.size w w4) := HB3.out.trans (b4.mono HB3.out.size)
  have HW4 : Hid (RowI w4 s1 L1.length (nthI L1)) := O1.row
  clear b4 O1 HN3 HD3 HS3 HB3
  have c0 := HN4.out.2.2 0 _ rfl
  have c1 := HN4.out.2.2 1 _ rfl
  have c2 := HN4.out.2.2 2 _ rfl
  have cz := HN4.out.1
  go_wp2_with fail
  refine (implFewestC_any p td nd kd D ts ns ks S x _ (by omega) (by omega) HD4 HS4).mono ?_
  rintro e w5 ⟨s2, c2', L2, rfl, O2, F2, b5, hcap⟩
  clear c0 c1 c2 cz
  obtain ⟨M, hM, HM⟩ := fw_ex p nd D ns S x
  have e1 : L1 = M := HM L1 F1
  have e2 : L2 = M := HM L2 F2
  have hL12 : L2 = L1 := e2.trans e1.symm
  rw [← e2] at hM
  clear HM e1 e2
  subst hL12
  obtain ⟨ml, hml⟩ : ∃ ml, L2.length = ml := ⟨_, rfl⟩
  have HML : Hid (L2.length = ml) := hml
  have ml14 : ml ≤ 14 := by omega
  have hmc : ml ≤ c2' := by omega
  have HF2 : Hid (FwR p nd D ns S x L2) := F2
  have HN : Hid (Blk w5 gn [.int .i64 p, .slice td nd kd, .slice ts ns ks]) := HN4.out.below b5
  have HD : Hid (RowDuct w5 td nd D) := HD4.out.below b5
  have HS : Hid (RowI w5 ts ns S) := HS4.out.below b5
  have HB : Hid (Below w.heap.size w w5) := HB4.out.trans (b5.mono HB4.out.size)
  have HV : Hid (RowI w5 s2 ml (nthI L2)) := by rw [← hml]; exact O2.row
  have HV1 : Hid (RowI w5 s1 ml (nthI L2)) := by have z_ := HW4.out.below b5; rw [hml] at z_; exact z_
  rw [hml]
  clear b5 O2 F1 F2 HN4 HD4 HS4 HB4 HW4 hml hcap hM
  obtain ⟨fb, hfb⟩ : ∃ fb, fewB p nd D ns S x = fb := ⟨_, rfl⟩
  have HFB : Hid (fewB p nd D ns S x = fb) := hfb
  rw [hfb]
  clear hfb
  cases fb
  case false =>
    go_wp2_with fail
    refine (sameInts_any s2 s1 ml c2' c1' (nthI L2) _ (by omega) HV HV1).mono ?_
    rintro e w6 ⟨rfl, b6⟩
    have HB6 : Hid (Below w.heap.size w w6) := HB.out.trans (b6.mono HB.out.size)
    clear b6
    go_wp2
    go_ret
    exact ⟨rfl, HB6.out⟩
  case true =>
    have HFG : Hid (FwG (cutL p nd D ns S x) nd L2) := HF2.out.1 HFB.out
    have HCT : Hid (cutB p nd D ns S ml (nthI L2) x = true) := by have z_ := HFG.out.2.1; unfold cutL at z_; rw [HML.out] at z_; exact z_
    go_wp2_with fail
    refine (sameInts_any s2 s1 ml c2' c1' (nthI L2) _ (by omega) HV HV1).mono ?_
    rintro e w6 ⟨rfl, b6⟩
    replace HN : Hid (Blk w6 gn [.int .i64 p, .slice td nd kd, .slice ts ns ks]) := HN.out.below b6
    replace HD : Hid (RowDuct w6 td nd D) := HD.out.below b6
    replace HS : Hid (RowI w6 ts ns S) := HS.out.below b6
    replace HV : Hid (RowI w6 s2 ml (nthI L2)) := HV.out.below b6
    replace HB : Hid (Below w.heap.size w w6) := HB.out.trans (b6.mono HB.out.size)
    clear b6 HV1
    go_upto_region 10 with fail
    refine wp_region_held_drew (S := fun w' => w'.cell? ⟨gn, 0, none⟩ = some (.int .i64 p) ∧ w'.cell? ⟨gn, 1, none⟩ = some (.slice td nd kd) ∧ w'.cell? ⟨gn, 2, none⟩ = some (.slice ts ns ks) ∧ gn < w'.heap.size) (by kernel_rfl) ?_ (fun hHeld => ?_)
    · exact ⟨HN.out.2.2 0 _ rfl, HN.out.2.2 1 _ rfl, HN.out.2.2 2 _ rfl, HN.out.1⟩
    obtain ⟨v0, hv0⟩ : ∃ z, z = w6.drew := ⟨_, rfl⟩
    try rw [← hv0] at hHeld
    rw [← hv0]
    have bv0 : Below w6.heap.size w6 v0 := by rw [hv0]; exact Below.drew (Below.refl _ _)
    clear hv0
    have HN0 : Hid (Blk v0 gn [.int .i64 p, .slice td nd kd, .slice ts ns ks]) := HN.out.below bv0
    have HD0 : Hid (RowDuct v0 td nd D) := HD.out.below bv0
    have HS0 : Hid (RowI v0 ts ns S) := HS.out.below bv0
    have HV0 : Hid (RowI v0 s2 ml (nthI L2)) := HV.out.below bv0
    have HB0 : Hid (Below w.heap.size w v0) := HB.out.trans (bv0.mono HB.out.size)
    have HW : Hid (Below v0.heap.size v0 v0) := Below.refl _ _
    clear bv0
    refine wpAnyH_take (i := 0) (v := .agg #[.int .i64 p, .slice td nd kd, .slice ts ns ks]) rfl (by kernel_rfl) (by kernel_rfl) (by kernel_rfl) (fun _ _ _ h => h) (Or.inl ⟨by kernel_rfl, ?_⟩) hHeld ?_
    · intro w' hSw
      obtain ⟨hc0, hc1, hc2, hz0⟩ := hSw
      first | (go_simp; done) | (go_simp; with_reducible rfl) | (go_simp; rw [IntKind.wrap_i64]; omega) | (go_simp; omega)
    simp only [Act.put, List.setIfInBounds_toArray, List.set_cons_zero, List.set_cons_succ]
    refine wpAnyH_take (i := 2) (v := .slice s2 ml c2') rfl (by kernel_rfl) (by kernel_rfl) (by kernel_rfl) (fun _ _ _ h => h) (Or.inl ⟨by kernel_rfl, ?_⟩) hHeld ?_
    · intro w' hSw
      obtain ⟨hc0, hc1, hc2, hz0⟩ := hSw
      first | (go_simp; done) | (go_simp; with_reducible rfl) | (go_simp; rw [IntKind.wrap_i64]; omega) | (go_simp; omega)
    simp only [Act.put, List.setIfInBounds_toArray, List.set_cons_zero, List.set_cons_succ]
    refine wpAnyH_take (i := 4) (v := .int .i64 x) rfl (by kernel_rfl) (by kernel_rfl) (by kernel_rfl) (fun _ _ _ h => h) (Or.inl ⟨by kernel_rfl, ?_⟩) hHeld ?_
    · intro w' hSw
      obtain ⟨hc0, hc1, hc2, hz0⟩ := hSw
      first | (go_simp; done) | (go_simp; with_reducible rfl) | (go_simp; rw [IntKind.wrap_i64]; omega) | (go_simp; omega)
    simp only [Act.put, List.setIfInBounds_toArray, List.set_cons_zero, List.set_cons_succ]
    refine wpAnyH_ready (rs := [1]) (by kernel_rfl) (by simp) ?_
    refine (AllReadyH.cons rfl (fun KK hK => ?_) AllReadyH.nil)
    go_simp
    obtain ⟨v0_1, hv_⟩ : ∃ z, z = v0.alloc (.cells #[] 2) := ⟨_, rfl⟩
    rw [← hv_]
    obtain ⟨lb, hlb⟩ : ∃ z, z = v0.heap.size := ⟨_, rfl⟩
    have b_ : Below v0.heap.size v0 v0_1 := by rw [hv_]; exact below0 _ _
    have HLt : Hid (OwL lb v0_1 (.slice (some ⟨lb, 0, none⟩) 0 0) []) := by rw [hv_, hlb]; exact OwL.lit v0 (Nat.le_refl _)
    have zlb : lb ≤ v0_1.heap.size := by rw [hlb]; exact b_.size
    have zvl : v0.heap.size ≤ lb := by rw [hlb]; exact HW.out.size
    replace HW : Hid (Below v0.heap.size v0 v0_1) := HW.out.trans (b_.mono HW.out.size)
    try rw [← hlb]
    clear hv_ b_ hlb
    refine hK.out _ _ (⟨(HN0.out.below HW.out).2.2 0 _ rfl, (HN0.out.below HW.out).2.2 1 _ rfl, (HN0.out.below HW.out).2.2 2 _ rfl, (HN0.out.below HW.out).1⟩) (fun hHeld => ?_)
    clear hK KK
    refine wpAnyH_ready (rs := [3]) (by kernel_rfl) (by simp) ?_
    refine (AllReadyH.cons rfl (fun KK hK => ?_) AllReadyH.nil)
    refine wp_joinL lb (.slice (some ⟨lb, 0, none⟩) 0 0) [] s2 ml c2' L2 (.tmp 44) (.tmp 45) (by rfl) (by rfl) (by rfl) HML.out (by omega) (by simp) zlb HLt.out (HV0.out.below HW.out) ?_
    intro s9 cap9 v0_2 l9 b9 k9
    rw [List.nil_append] at l9
    have hz_ : ([] : List Int).length + ml = ml := by simp
    rw [hz_] at l9 ⊢
    have HL9 : Hid (RowI v0_2 s9 ml (nthI L2)) := by
      obtain ⟨s_, c_, e_, ho⟩ := l9.own
      rw [HML.out] at e_ ho
      simp only [Value.slice.injEq] at e_
      obtain ⟨rfl, -, -⟩ := e_
      exact ho.row
    replace HW : Hid (Below v0.heap.size v0 v0_2) := HW.out.trans (b9.mono zvl)
    clear l9 b9 hz_ HLt zlb zvl
    go_simp
    refine hK.out _ _ (⟨(HN0.out.below HW.out).2.2 0 _ rfl, (HN0.out.below HW.out).2.2 1 _ rfl, (HN0.out.below HW.out).2.2 2 _ rfl, (HN0.out.below HW.out).1⟩) (fun hHeld => ?_)
    clear hK KK
    refine wpAnyH_ready (rs := [5]) (by kernel_rfl) (by simp) ?_
    refine (AllReadyH.cons rfl (fun KK hK => ?_) AllReadyH.nil)
    go_simp
    go_wp2_with (first | (go_at_call 36; refine (implCutOff_any p td nd kd D ts ns ks S s9 ml cap9 (nthI L2) x _ (by omega) (by omega) (by omega) (HD0.out.below HW.out) (HS0.out.below HW.out) HL9).mono ?_; rintro e v0_3 ⟨rfl, b9⟩))
    rw [HCT.out]
    replace HW : Hid (Below v0.heap.size v0 v0_3) := HW.out.trans (b9.mono HW.out.size)
    clear b9 HL9
    refine hK.out _ _ (⟨(HN0.out.below HW.out).2.2 0 _ rfl, (HN0.out.below HW.out).2.2 1 _ rfl, (HN0.out.below HW.out).2.2 2 _ rfl, (HN0.out.below HW.out).1⟩) (fun hHeld => ?_)
    clear hK KK
    refine wpAnyH_take (i := 6) (v := .bool false) rfl (by kernel_rfl) (by kernel_rfl) (by kernel_rfl) (fun _ _ _ h => h) (Or.inl ⟨by kernel_rfl, ?_⟩) hHeld ?_
    · intro w' hSw
      obtain ⟨hc0, hc1, hc2, hz0⟩ := hSw
      first | (go_simp; done) | (go_simp; with_reducible rfl) | (go_simp; rw [IntKind.wrap_i64]; omega) | (go_simp; omega)
    simp only [Act.put, List.setIfInBounds_toArray, List.set_cons_zero, List.set_cons_succ]
    refine wpAnyH_done (by kernel_rfl) ?_ _
    clear hHeld
    have HN7 : Hid (Blk v0_3 gn [.int .i64 p, .slice td nd kd, .slice ts ns ks]) := HN0.out.below HW.out
    have HD7 : Hid (RowDuct v0_3 td nd D) := HD0.out.below HW.out
    have HS7 : Hid (RowI v0_3 ts ns S) := HS0.out.below HW.out
    have HV7 : Hid (RowI v0_3 s2 ml (nthI L2)) := HV0.out.below HW.out
    have HB7 : Hid (Below w.heap.size w v0_3) := HB0.out.trans (HW.out.mono HB0.out.size)
    clear HW HN0 HD0 HS0 HV0 HB0
    go_wp2_with fail
    go_loopw [9] (fun v wr => ∃ k : Nat, k ≤ ml ∧ v = .int .i64 (k : Int) ∧ Hid (Blk wr gn [.int .i64 p, .slice td nd kd, .slice ts ns ks]) ∧ Hid (RowDuct wr td nd D) ∧ Hid (RowI wr ts ns S) ∧ Hid (RowI wr s2 ml (nthI L2)) ∧ Hid (Below w.heap.size w wr)) (fun v _ => ml - (intOf v).toNat)
    case atStart => exact ⟨0, Nat.zero_le _, rfl, HN7, HD7, HS7, HV7, HB7⟩
    case round =>
      clear HN7 HD7 HS7 HV7 HB7
      obtain ⟨k, hk, rfl, HN, HD, HS, HV, HB⟩ := hrel
      rename World => wr
      by_cases h3 : k < ml
      case pos =>
        have k1 : (k : Int) < (ml : Int) := by omega
        obtain ⟨ab, ao, hs2, -, -⟩ := HV.out k h3
        subst hs2
        obtain ⟨K1, hK1⟩ : ∃ K1 : Nat, K1 = k + 1 := ⟨_, rfl⟩
        have HK1 : Hid (K1 = k + 1) := hK1
        have kq0 : (k : Int) ≤ (c2' : Int) := by omega
        have kq : (K1 : Int) ≤ (c2' : Int) := by omega
        have kq2 : (K1 : Int) ≤ (ml : Int) := by omega
        have kq3 : K1 ≤ ml := by omega
        have kq5 : k ≤ c2' := by omega
        obtain ⟨ta, hta⟩ : ∃ ta : Option Addr, (if c2' = K1 then some ⟨ab, ao, none⟩ else some ⟨ab, ao + K1, none⟩) = ta := ⟨_, rfl⟩
        have HTA : Hid ((if c2' = K1 then some ⟨ab, ao, none⟩ else some ⟨ab, ao + K1, none⟩) = ta) := hta
        have HLk : Hid ((L2.take k).length = k) := by show _ = _; rw [List.length_take, HML.out]; omega
        have HLd : Hid ((L2.drop (k + 1)).length = ml - K1) := by show _ = _; rw [List.length_drop, HML.out, hK1]
        have HTR : Hid (∀ w', RowI w' (some ⟨ab, ao, none⟩) ml (nthI L2) → RowI w' ta (ml - K1) (nthI (L2.drop (k + 1)))) := fun w' h j hj => by
          obtain ⟨b_, o_, e_, l_, c_⟩ := h (K1 + j) (by omega)
          cases e_
          have en : nthI (L2.drop (k + 1)) j = nthI L2 (K1 + j) := by unfold nthI; rw [List.getD_eq_getElem?_getD, List.getD_eq_getElem?_getD, List.getElem?_drop, hK1]
          rw [← hta, if_neg (by omega), en]
          exact ⟨ab, ao + K1, rfl, l_, by rw [Nat.add_assoc]; exact c_⟩
        have HTK : Hid (∀ w', RowI w' (some ⟨ab, ao, none⟩) ml (nthI L2) → RowI w' (some ⟨ab, ao, none⟩) k (nthI (L2.take k))) := fun w' h j hj => by
          have t_ := h j (by omega)
          have en : nthI (L2.take k) j = nthI L2 j := by unfold nthI; rw [List.getD_eq_getElem?_getD, List.getD_eq_getElem?_getD, List.getElem?_take, if_pos hj]
          rw [en]
          exact t_
        have HCF : Hid (cutB p nd D ns S (ml - 1) (nthI (L2.take k ++ L2.drop (k + 1))) x = false) := by
          have z_ := few_less HFG.out k (by rw [HML.out]; exact h3)
          unfold cutL at z_
          rw [cut_len _ _ (by rw [HML.out]; exact h3), HML.out] at z_
          exact z_
        clear hta hK1
        go_upto_region 15 with fail
        refine wp_region_held_drew (S := fun w' => w'.cell? ⟨gn, 0, none⟩ = some (.int .i64 p) ∧ w'.cell? ⟨gn, 1, none⟩ = some (.slice td nd kd) ∧ w'.cell? ⟨gn, 2, none⟩ = some (.slice ts ns ks) ∧ gn < w'.heap.size) (by kernel_rfl) ?_ (fun hHeld => ?_)
        · exact ⟨HN.out.2.2 0 _ rfl, HN.out.2.2 1 _ rfl, HN.out.2.2 2 _ rfl, HN.out.1⟩
        obtain ⟨q0, hv0⟩ : ∃ z, z = wr.drew := ⟨_, rfl⟩
        try rw [← hv0] at hHeld
        rw [← hv0]
        have bv0 : Below wr.heap.size wr q0 := by rw [hv0]; exact Below.drew (Below.refl _ _)
        clear hv0
        have HN0 : Hid (Blk q0 gn [.int .i64 p, .slice td nd kd, .slice ts ns ks]) := HN.out.below bv0
        have HD0 : Hid (RowDuct q0 td nd D) := HD.out.below bv0
        have HS0 : Hid (RowI q0 ts ns S) := HS.out.below bv0
        have HV0 : Hid (RowI q0 (some ⟨ab, ao, none⟩) ml (nthI L2)) := HV.out.below bv0
        have HB0 : Hid (Below w.heap.size w q0) := HB.out.trans (bv0.mono HB.out.size)
        have HW : Hid (Below q0.heap.size q0 q0) := Below.refl _ _
        clear bv0
        refine wpAnyH_take (i := 1) (v := .slice (some ⟨ab, ao, none⟩) ml c2') rfl (by kernel_rfl) (by kernel_rfl) (by kernel_rfl) (fun _ _ _ h => h) (Or.inl ⟨by kernel_rfl, ?_⟩) hHeld ?_
        · intro w' hSw
          obtain ⟨hc0, hc1, hc2, hz0⟩ := hSw
          first | (go_simp; done) | (go_simp; with_reducible rfl) | (go_simp; rw [IntKind.wrap_i64]; omega) | (go_simp; omega)
        simp only [Act.put, List.setIfInBounds_toArray, List.set_cons_zero, List.set_cons_succ]
        refine wpAnyH_take (i := 2) (v := .int .i64 (k : Int)) rfl (by kernel_rfl) (by kernel_rfl) (by kernel_rfl) (fun _ _ _ h => h) (Or.inl ⟨by kernel_rfl, ?_⟩) hHeld ?_
        · intro w' hSw
          obtain ⟨hc0, hc1, hc2, hz0⟩ := hSw
          first | (go_simp; done) | (go_simp; with_reducible rfl) | (go_simp; rw [IntKind.wrap_i64]; omega) | (go_simp; omega)
        simp only [Act.put, List.setIfInBounds_toArray, List.set_cons_zero, List.set_cons_succ]
        refine wpAnyH_take (i := 3) (v := .slice (some ⟨ab, ao, none⟩) k c2') rfl (by kernel_rfl) (by kernel_rfl) (by kernel_rfl) (fun _ _ _ h => h) (Or.inl ⟨by kernel_rfl, ?_⟩) hHeld ?_
        · intro w' hSw
          obtain ⟨hc0, hc1, hc2, hz0⟩ := hSw
          first | (go_simp; done) | (go_simp; with_reducible rfl) | (go_simp; exact HTA.out) | (go_simp; intro q_; omega)
        simp only [Act.put, List.setIfInBounds_toArray, List.set_cons_zero, List.set_cons_succ]
        refine wpAnyH_take (i := 5) (v := .slice (some ⟨ab, ao, none⟩) ml c2') rfl (by kernel_rfl) (by kernel_rfl) (by kernel_rfl) (fun _ _ _ h => h) (Or.inl ⟨by kernel_rfl, ?_⟩) hHeld ?_
        · intro w' hSw
          obtain ⟨hc0, hc1, hc2, hz0⟩ := hSw
          first | (go_simp; done) | (go_simp; with_reducible rfl) | (go_simp; rw [IntKind.wrap_i64]; omega) | (go_simp; omega)
        simp only [Act.put, List.setIfInBounds_toArray, List.set_cons_zero, List.set_cons_succ]
        refine wpAnyH_take (i := 6) (v := .int .i64 (k : Int)) rfl (by kernel_rfl) (by kernel_rfl) (by kernel_rfl) (fun _ _ _ h => h) (Or.inl ⟨by kernel_rfl, ?_⟩) hHeld ?_
        · intro w' hSw
          obtain ⟨hc0, hc1, hc2, hz0⟩ := hSw
          first | (go_simp; done) | (go_simp; with_reducible rfl) | (go_simp; rw [IntKind.wrap_i64]; omega) | (go_simp; omega)
        simp only [Act.put, List.setIfInBounds_toArray, List.set_cons_zero, List.set_cons_succ]
        refine wpAnyH_take (i := 7) (v := .int .i64 (K1 : Int)) rfl (by kernel_rfl) (by kernel_rfl) (by kernel_rfl) (fun _ _ _ h => h) (Or.inl ⟨by kernel_rfl, ?_⟩) hHeld ?_
        · intro w' hSw
          obtain ⟨hc0, hc1, hc2, hz0⟩ := hSw
          have a_ := HK1.out; go_simp; first | (rw [IntKind.wrap_i64]; omega) | omega
        simp only [Act.put, List.setIfInBounds_toArray, List.set_cons_zero, List.set_cons_succ]
        refine wpAnyH_take (i := 8) (v := .slice ta (ml - K1) (c2' - K1)) rfl (by kernel_rfl) (by kernel_rfl) (by kernel_rfl) (fun _ _ _ h => h) (Or.inl ⟨by kernel_rfl, ?_⟩) hHeld ?_
        · intro w' hSw
          obtain ⟨hc0, hc1, hc2, hz0⟩ := hSw
          first | (go_simp; done) | (go_simp; with_reducible rfl) | (go_simp; exact HTA.out) | (go_simp; intro q_; omega)
        simp only [Act.put, List.setIfInBounds_toArray, List.set_cons_zero, List.set_cons_succ]
        refine wpAnyH_ready (rs := [0]) (by kernel_rfl) (by simp) ?_
        refine (AllReadyH.cons rfl (fun KK hK => ?_) AllReadyH.nil)
        go_simp
        obtain ⟨q0_1, hv_⟩ : ∃ z, z = q0.alloc (.cells #[] 2) := ⟨_, rfl⟩
        rw [← hv_]
        obtain ⟨lb, hlb⟩ : ∃ z, z = q0.heap.size := ⟨_, rfl⟩
        have b_ : Below q0.heap.size q0 q0_1 := by rw [hv_]; exact below0 _ _
        have HLt : Hid (OwL lb q0_1 (.slice (some ⟨lb, 0, none⟩) 0 0) []) := by rw [hv_, hlb]; exact OwL.lit q0 (Nat.le_refl _)
        have zlb : lb ≤ q0_1.heap.size := by rw [hlb]; exact b_.size
        have zvl : q0.heap.size ≤ lb := by rw [hlb]; exact HW.out.size
        replace HW : Hid (Below q0.heap.size q0 q0_1) := HW.out.trans (b_.mono HW.out.size)
        try rw [← hlb]
        clear hv_ b_ hlb
        refine hK.out _ _ (⟨(HN0.out.below HW.out).2.2 0 _ rfl, (HN0.out.below HW.out).2.2 1 _ rfl, (HN0.out.below HW.out).2.2 2 _ rfl, (HN0.out.below HW.out).1⟩) (fun hHeld => ?_)
        clear hK KK
        refine wpAnyH_ready (rs := [4]) (by kernel_rfl) (by simp) ?_
        refine (AllReadyH.cons rfl (fun KK hK => ?_) AllReadyH.nil)
        refine wp_joinL lb (.slice (some ⟨lb, 0, none⟩) 0 0) [] (some ⟨ab, ao, none⟩) k c2' (L2.take k) (.tmp 56) (.tmp 59) (by rfl) (by rfl) (by rfl) HLk.out (by omega) (by simp) zlb HLt.out (HTK.out _ (HV0.out.below HW.out)) ?_
        intro s9 cap9 q0_2 l9 b9 k9
        rw [List.nil_append] at l9
        have hz_ : ([] : List Int).length + k = k := by simp
        rw [hz_] at l9 ⊢
        have HL9 : Hid (OwL lb q0_2 (.slice s9 k cap9) (L2.take k)) := l9
        replace HW : Hid (Below q0.heap.size q0 q0_2) := HW.out.trans (b9.mono zvl)
        replace zlb : lb ≤ q0_2.heap.size := Nat.le_trans zlb b9.size
        clear l9 b9 hz_ HLt
        go_simp
        refine hK.out _ _ (⟨(HN0.out.below HW.out).2.2 0 _ rfl, (HN0.out.below HW.out).2.2 1 _ rfl, (HN0.out.below HW.out).2.2 2 _ rfl, (HN0.out.below HW.out).1⟩) (fun hHeld => ?_)
        clear hK KK
        refine wpAnyH_ready (rs := [9]) (by kernel_rfl) (by simp) ?_
        refine (AllReadyH.cons rfl (fun KK hK => ?_) AllReadyH.nil)
        refine wp_joinL lb (.slice s9 k cap9) (L2.take k) ta (ml - K1) (c2' - K1) (L2.drop (k + 1)) (.tmp 60) (.tmp 64) (by rfl) (by rfl) (by rfl) HLd.out (by omega) (by rw [HLk.out]; omega) zlb HL9.out (HTR.out _ (HV0.out.below HW.out)) ?_
        intro s8 cap8 q0_3 l8 b8 k8
        obtain ⟨N8, hN8⟩ : ∃ N8, (L2.take k).length + (ml - K1) = N8 := ⟨_, rfl⟩
        have HN8 : Hid (N8 = ml - 1) := by show _ = _; have := HK1.out; have := HLk.out; omega
        rw [hN8] at l8 ⊢
        have HL8 : Hid (RowI q0_3 s8 N8 (nthI (L2.take k ++ L2.drop (k + 1)))) := by
          obtain ⟨s_, c_, e_, ho⟩ := l8.own
          have en : (L2.take k ++ L2.drop (k + 1)).length = N8 := by rw [List.length_append, HLk.out, HLd.out, ← hN8, HLk.out]
          rw [en] at e_ ho
          simp only [Value.slice.injEq] at e_
          obtain ⟨rfl, -, -⟩ := e_
          exact ho.row
        replace HW : Hid (Below q0.heap.size q0 q0_3) := HW.out.trans (b8.mono zvl)
        clear l8 b8 HL9 hN8 zlb zvl
        go_simp
        refine hK.out _ _ (⟨(HN0.out.below HW.out).2.2 0 _ rfl, (HN0.out.below HW.out).2.2 1 _ rfl, (HN0.out.below HW.out).2.2 2 _ rfl, (HN0.out.below HW.out).1⟩) (fun hHeld => ?_)
        clear hK KK
        refine wpAnyH_ready (rs := [10]) (by kernel_rfl) (by simp) ?_
        refine AllReadyH.cons rfl (fun KK hK => ?_) AllReadyH.nil
        go_simp
        refine hK.out _ _ hHeld (fun hHeld => ?_)
        clear hK KK
        refine wpAnyH_done (by kernel_rfl) ?_ _
        clear hHeld
        have HN7 : Hid (Blk q0_3 gn [.int .i64 p, .slice td nd kd, .slice ts ns ks]) := HN0.out.below HW.out
        have HD7 : Hid (RowDuct q0_3 td nd D) := HD0.out.below HW.out
        have HS7 : Hid (RowI q0_3 ts ns S) := HS0.out.below HW.out
        have HV7 : Hid (RowI q0_3 (some ⟨ab, ao, none⟩) ml (nthI L2)) := HV0.out.below HW.out
        have HB7 : Hid (Below w.heap.size w q0_3) := HB0.out.trans (HW.out.mono HB0.out.size)
        have n8 : (N8 : Int) ≤ 1048576 := by have := HN8.out; omega
        clear HW HN0 HD0 HS0 HV0 HB0
        have c0 := HN7.out.2.2 0 _ rfl
        have c1 := HN7.out.2.2 1 _ rfl
        have c2 := HN7.out.2.2 2 _ rfl
        have cz := HN7.out.1
        go_wp2_with fail
        refine (implCutOff_any p td nd kd D ts ns ks S s8 N8 cap8 (nthI (L2.take k ++ L2.drop (k + 1))) x _ (by omega) (by omega) n8 HD7 HS7 HL8).mono ?_
        rintro e w8 ⟨rfl, b8⟩
        rw [HN8.out, HCF.out]
        clear c0 c1 c2 cz HL8 n8
        have HN9 : Hid (Blk w8 gn [.int .i64 p, .slice td nd kd, .slice ts ns ks]) := HN7.out.below b8
        have HD9 : Hid (RowDuct w8 td nd D) := HD7.out.below b8
        have HS9 : Hid (RowI w8 ts ns S) := HS7.out.below b8
        have HV9 : Hid (RowI w8 (some ⟨ab, ao, none⟩) ml (nthI L2)) := HV7.out.below b8
        have HB9 : Hid (Below w.heap.size w w8) := HB7.out.trans (b8.mono HB7.out.size)
        clear b8 HN7 HD7 HS7 HV7 HB7
        go_wp2
        go_roundw
        case rel => exact ⟨k + 1, by omega, by go_num, HN9, HD9, HS9, HV9, HB9⟩
        case measure => first | (simp [intOf]; done) | (simp [intOf]; omega)
      case neg =>
        obtain rfl : ml = k := by omega
        clear hk h3
        go_upto_region 18 with fail
        refine wp_region_held_drew (S := fun w' => w'.cell? ⟨gn, 0, none⟩ = some (.int .i64 p) ∧ w'.cell? ⟨gn, 1, none⟩ = some (.slice td nd kd) ∧ w'.cell? ⟨gn, 2, none⟩ = some (.slice ts ns ks) ∧ gn < w'.heap.size) (by kernel_rfl) ?_ (fun hHeld => ?_)
        · exact ⟨HN.out.2.2 0 _ rfl, HN.out.2.2 1 _ rfl, HN.out.2.2 2 _ rfl, HN.out.1⟩
        obtain ⟨y0, hv0⟩ : ∃ z, z = wr.drew := ⟨_, rfl⟩
        try rw [← hv0] at hHeld
        rw [← hv0]
        have bv0 : Below wr.heap.size wr y0 := by rw [hv0]; exact Below.drew (Below.refl _ _)
        clear hv0
        have HN0 : Hid (Blk y0 gn [.int .i64 p, .slice td nd kd, .slice ts ns ks]) := HN.out.below bv0
        have HD0 : Hid (RowDuct y0 td nd D) := HD.out.below bv0
        have HS0 : Hid (RowI y0 ts ns S) := HS.out.below bv0
        have HV0 : Hid (RowI y0 s2 ml (nthI L2)) := HV.out.below bv0
        have HB0 : Hid (Below w.heap.size w y0) := HB.out.trans (bv0.mono HB.out.size)
        have HW : Hid (Below y0.heap.size y0 y0) := Below.refl _ _
        clear bv0
        refine wpAnyH_take (i := 0) (v := .agg #[.int .i64 p, .slice td nd kd, .slice ts ns ks]) rfl (by kernel_rfl) (by kernel_rfl) (by kernel_rfl) (fun _ _ _ h => h) (Or.inl ⟨by kernel_rfl, ?_⟩) hHeld ?_
        · intro w' hSw
          obtain ⟨hc0, hc1, hc2, hz0⟩ := hSw
          first | (go_simp; done) | (go_simp; with_reducible rfl) | (go_simp; rw [IntKind.wrap_i64]; omega) | (go_simp; omega)
        simp only [Act.put, List.setIfInBounds_toArray, List.set_cons_zero, List.set_cons_succ]
        refine wpAnyH_take (i := 1) (v := .agg #[.slice none 0 0]) rfl (by kernel_rfl) (by kernel_rfl) (by kernel_rfl) (fun _ _ _ h => h) (Or.inl ⟨by kernel_rfl, ?_⟩) hHeld ?_
        · intro w' hSw
          obtain ⟨hc0, hc1, hc2, hz0⟩ := hSw
          first | (go_simp; done) | (go_simp; with_reducible rfl) | (go_simp; rw [IntKind.wrap_i64]; omega) | (go_simp; omega)
        simp only [Act.put, List.setIfInBounds_toArray, List.set_cons_zero, List.set_cons_succ]
        refine wpAnyH_take (i := 2) (v := .int .i64 x) rfl (by kernel_rfl) (by kernel_rfl) (by kernel_rfl) (fun _ _ _ h => h) (Or.inl ⟨by kernel_rfl, ?_⟩) hHeld ?_
        · intro w' hSw
          obtain ⟨hc0, hc1, hc2, hz0⟩ := hSw
          first | (go_simp; done) | (go_simp; with_reducible rfl) | (go_simp; rw [IntKind.wrap_i64]; omega) | (go_simp; omega)
        simp only [Act.put, List.setIfInBounds_toArray, List.set_cons_zero, List.set_cons_succ]
        refine wpAnyH_take (i := 4) (v := .slice s2 ml c2') rfl (by kernel_rfl) (by kernel_rfl) (by kernel_rfl) (fun _ _ _ h => h) (Or.inl ⟨by kernel_rfl, ?_⟩) hHeld ?_
        · intro w' hSw
          obtain ⟨hc0, hc1, hc2, hz0⟩ := hSw
          first | (go_simp; done) | (go_simp; with_reducible rfl) | (go_simp; rw [IntKind.wrap_i64]; omega) | (go_simp; omega)
        simp only [Act.put, List.setIfInBounds_toArray, List.set_cons_zero, List.set_cons_succ]
        refine wpAnyH_ready (rs := [3, 11]) (by kernel_rfl) (by simp) ?_
        refine (AllReadyH.cons rfl (fun KK hK => ?_) (AllReadyH.cons rfl (fun KK hK => ?_) AllReadyH.nil))
        · go_simp
          obtain ⟨y0_1, hv_⟩ : ∃ z, z = y0.alloc (.cells #[] 2) := ⟨_, rfl⟩
          rw [← hv_]
          obtain ⟨lb, hlb⟩ : ∃ z, z = y0.heap.size := ⟨_, rfl⟩
          have b_ : Below y0.heap.size y0 y0_1 := by rw [hv_]; exact below0 _ _
          have HLt : Hid (OwL lb y0_1 (.slice (some ⟨lb, 0, none⟩) 0 0) []) := by rw [hv_, hlb]; exact OwL.lit y0 (Nat.le_refl _)
          have zlb : lb ≤ y0_1.heap.size := by rw [hlb]; exact b_.size
          have zvl : y0.heap.size ≤ lb := by rw [hlb]; exact HW.out.size
          replace HW : Hid (Below y0.heap.size y0 y0_1) := HW.out.trans (b_.mono HW.out.size)
          try rw [← hlb]
          clear hv_ b_ hlb
          refine hK.out _ _ (⟨(HN0.out.below HW.out).2.2 0 _ rfl, (HN0.out.below HW.out).2.2 1 _ rfl, (HN0.out.below HW.out).2.2 2 _ rfl, (HN0.out.below HW.out).1⟩) (fun hHeld => ?_)
          clear hK KK
          refine wpAnyH_ready (rs := [5, 11]) (by kernel_rfl) (by simp) ?_
          refine (AllReadyH.cons rfl (fun KK hK => ?_) (AllReadyH.cons rfl (fun KK hK => ?_) AllReadyH.nil))
          · refine wp_joinL lb (.slice (some ⟨lb, 0, none⟩) 0 0) [] s2 ml c2' L2 (.tmp 74) (.tmp 75) (by rfl) (by rfl) (by rfl) HML.out (by omega) (by simp) zlb HLt.out (HV0.out.below HW.out) ?_
            intro s9 cap9 y0_2 l9 b9 k9
            rw [List.nil_append] at l9
            have hz_ : ([] : List Int).length + ml = ml := by simp
            rw [hz_] at l9 ⊢
            have HL9 : Hid (RowI y0_2 s9 ml (nthI L2)) := by
              obtain ⟨s_, c_, e_, ho⟩ := l9.own
              rw [HML.out] at e_ ho
              simp only [Value.slice.injEq] at e_
              obtain ⟨rfl, -, -⟩ := e_
              exact ho.row
            replace HW : Hid (Below y0.heap.size y0 y0_2) := HW.out.trans (b9.mono zvl)
            clear l9 b9 hz_ HLt zlb zvl
            clear k9
            go_simp
            refine hK.out _ _ (⟨(HN0.out.below HW.out).2.2 0 _ rfl, (HN0.out.below HW.out).2.2 1 _ rfl, (HN0.out.below HW.out).2.2 2 _ rfl, (HN0.out.below HW.out).1⟩) (fun hHeld => ?_)
            clear hK KK
            refine wpAnyH_take (i := 6) (v := .agg #[.int .i64 1, .int .i64 x, .slice s9 ml cap9]) rfl (by kernel_rfl) (by kernel_rfl) (by kernel_rfl) (fun _ _ _ h => h) (Or.inl ⟨by kernel_rfl, ?_⟩) hHeld ?_
            · intro w' hSw
              obtain ⟨hc0, hc1, hc2, hz0⟩ := hSw
              first | (go_simp; done) | (go_simp; with_reducible rfl) | (go_simp; rw [IntKind.wrap_i64]; omega) | (go_simp; omega)
            simp only [Act.put, List.setIfInBounds_toArray, List.set_cons_zero, List.set_cons_succ]
            refine wpAnyH_ready (rs := [7, 11]) (by kernel_rfl) (by simp) ?_
            refine (AllReadyH.cons rfl (fun KK hK => ?_) (AllReadyH.cons rfl (fun KK hK => ?_) AllReadyH.nil))
            · obtain ⟨g1, g2, g3⟩ := few_grant HFG.out (fun _ => 0) (fun _ => 0) (fun _ => 0) (fun _ _ => 0)
              rw [HML.out] at g2
              have HG1 := Hid.of g1
              have HG2 := Hid.of g2
              have HG3 := Hid.of g3
              clear g1 g2 g3
              go_simp
              go_wp2_with (first | (go_at_call 16; refine (implGrant_any p td nd kd D ts ns ks S none 0 0 (fun _ => 0) (fun _ => 0) (fun _ => 0) (fun _ _ => 0) 1 x s9 ml cap9 (nthI L2) 0 _ (by omega) (by omega) (HD0.out.below HW.out) (HS0.out.below HW.out) (by decide) (Nat.le_refl _) (fun i hi => absurd hi (Nat.not_lt_zero _)) (fun i hi => absurd hi (Nat.not_lt_zero _)) (by omega) HL9 (fun _ _ => HG3.out)).mono ?_; rintro e y0_3 hga; obtain ⟨sg, cg, Sg, rfl, -, -, b9⟩ := ga_ok HG1.out HG2.out hga))
              replace HW : Hid (Below y0.heap.size y0 y0_3) := HW.out.trans (b9.mono HW.out.size)
              clear b9 HL9 HG1 HG2 HG3
              refine hK.out _ _ (⟨(HN0.out.below HW.out).2.2 0 _ rfl, (HN0.out.below HW.out).2.2 1 _ rfl, (HN0.out.below HW.out).2.2 2 _ rfl, (HN0.out.below HW.out).1⟩) (fun hHeld => ?_)
              clear hK KK
              refine wpAnyH_take (i := 8) (v := .tuple #[.agg #[.slice sg (0 + 1) cg], .int .i64 0]) rfl (by kernel_rfl) (by kernel_rfl) (by kernel_rfl) (fun _ _ _ h => h) (Or.inl ⟨by kernel_rfl, ?_⟩) hHeld ?_
              · intro w' hSw
                obtain ⟨hc0, hc1, hc2, hz0⟩ := hSw
                first | (go_simp; done) | (go_simp; with_reducible rfl) | (go_simp; rw [IntKind.wrap_i64]; omega) | (go_simp; omega)
              simp only [Act.put, List.setIfInBounds_toArray, List.set_cons_zero, List.set_cons_succ]
              refine wpAnyH_take (i := 9) (v := .agg #[.slice sg (0 + 1) cg]) rfl (by kernel_rfl) (by kernel_rfl) (by kernel_rfl) (fun _ _ _ h => h) (Or.inl ⟨by kernel_rfl, ?_⟩) hHeld ?_
              · intro w' hSw
                obtain ⟨hc0, hc1, hc2, hz0⟩ := hSw
                first | (go_simp; done) | (go_simp; with_reducible rfl) | (go_simp; rw [IntKind.wrap_i64]; omega) | (go_simp; omega)
              simp only [Act.put, List.setIfInBounds_toArray, List.set_cons_zero, List.set_cons_succ]
              refine wpAnyH_take (i := 10) (v := .int .i64 0) rfl (by kernel_rfl) (by kernel_rfl) (by kernel_rfl) (fun _ _ _ h => h) (Or.inl ⟨by kernel_rfl, ?_⟩) hHeld ?_
              · intro w' hSw
                obtain ⟨hc0, hc1, hc2, hz0⟩ := hSw
                first | (go_simp; done) | (go_simp; with_reducible rfl) | (go_simp; rw [IntKind.wrap_i64]; omega) | (go_simp; omega)
              simp only [Act.put, List.setIfInBounds_toArray, List.set_cons_zero, List.set_cons_succ]
              refine wpAnyH_ready (rs := [11]) (by kernel_rfl) (by simp) ?_
              refine (AllReadyH.cons rfl (fun KK hK => ?_) AllReadyH.nil)
              go_simp
              obtain ⟨y0_4, hv_⟩ : ∃ z, z = y0_3.alloc (.cells #[.slice none 0 0] 36) := ⟨_, rfl⟩
              rw [← hv_]
              obtain ⟨gX, hgX⟩ : ∃ z, z = y0_3.heap.size := ⟨_, rfl⟩
              have b_ : Below y0_3.heap.size y0_3 y0_4 := by rw [hv_]; exact below0 _ _
              have HXb : Hid (Blk y0_4 gX [.slice none 0 0]) := by rw [hv_, hgX]; exact Blk.new y0_3 #[.slice none 0 0] _
              have zxw : y0.heap.size ≤ gX := by have := HW.out.size; omega
              replace HW : Hid (Below y0.heap.size y0 y0_4) := HW.out.trans (b_.mono HW.out.size)
              try rw [← hgX]
              clear hv_ b_ hgX
              refine hK.out _ _ (⟨(HN0.out.below HW.out).2.2 0 _ rfl, (HN0.out.below HW.out).2.2 1 _ rfl, (HN0.out.below HW.out).2.2 2 _ rfl, (HN0.out.below HW.out).1⟩) (fun hHeld => ?_)
              clear hK KK
              refine wpAnyH_ready (rs := [12]) (by kernel_rfl) (by simp) ?_
              refine (AllReadyH.cons rfl (fun KK hK => ?_) AllReadyH.nil)
              have hl_ := HXb.out.2.2 0 _ rfl
              have hf_ := HXb.out.2.1 0
              have hg_ := HXb.out.1
              have hst := store_slT
              go_simp
              obtain ⟨y0_5, hv_⟩ : ∃ z, z = y0_4.setCell ⟨gX, 0, none⟩ (.slice sg (0 + 1) cg) := ⟨_, rfl⟩
              try rw [← hv_]
              have bs_ : Beside gX y0_4 y0_5 := by rw [hv_]; exact Beside.setCell gX _ _ _
              have HX9 : Hid (Blk y0_5 gX [.slice sg (0 + 1) cg]) := by rw [hv_]; exact HXb.out.set 0 _
              replace HW : Hid (Below y0.heap.size y0 y0_5) := HW.out.trans (bs_.below zxw HW.out.size)
              clear hv_ bs_ hl_ hf_ hg_ hst HXb
              refine hK.out _ _ (⟨(HN0.out.below HW.out).2.2 0 _ rfl, (HN0.out.below HW.out).2.2 1 _ rfl, (HN0.out.below HW.out).2.2 2 _ rfl, (HN0.out.below HW.out).1⟩) (fun hHeld => ?_)
              clear hK KK
              refine wpAnyH_ready (rs := [13]) (by kernel_rfl) (by simp) ?_
              refine AllReadyH.cons rfl (fun KK hK => ?_) AllReadyH.nil
              go_simp
              refine hK.out _ _ hHeld (fun hHeld => ?_)
              clear hK KK
              refine wpAnyH_done (by kernel_rfl) ?_ _
              clear hHeld
              have HBz : Hid (Below w.heap.size w y0_5) := HB0.out.trans (HW.out.mono HB0.out.size)
              have x0 := HX9.out.2.2 0 _ rfl
              have xz := HX9.out.1
              clear HW
              go_wp2
              go_ret
              exact ⟨rfl, HBz.out⟩
            · go_simp
              obtain ⟨y0_6, hv_⟩ : ∃ z, z = y0_2.alloc (.cells #[.slice none 0 0] 36) := ⟨_, rfl⟩
              rw [← hv_]
              obtain ⟨gX, hgX⟩ : ∃ z, z = y0_2.heap.size := ⟨_, rfl⟩
              have b_ : Below y0_2.heap.size y0_2 y0_6 := by rw [hv_]; exact below0 _ _
              have HXb : Hid (Blk y0_6 gX [.slice none 0 0]) := by rw [hv_, hgX]; exact Blk.new y0_2 #[.slice none 0 0] _
              have zxw : y0.heap.size ≤ gX := by have := HW.out.size; omega
              replace HL9 : Hid (RowI y0_6 s9 ml (nthI L2)) := HL9.out.below b_
              replace HW : Hid (Below y0.heap.size y0 y0_6) := HW.out.trans (b_.mono HW.out.size)
              try rw [← hgX]
              clear hv_ b_ hgX
              refine hK.out _ _ (⟨(HN0.out.below HW.out).2.2 0 _ rfl, (HN0.out.below HW.out).2.2 1 _ rfl, (HN0.out.below HW.out).2.2 2 _ rfl, (HN0.out.below HW.out).1⟩) (fun hHeld => ?_)
              clear hK KK
              refine wpAnyH_ready (rs := [7]) (by kernel_rfl) (by simp) ?_
              refine (AllReadyH.cons rfl (fun KK hK => ?_) AllReadyH.nil)
              obtain ⟨g1, g2, g3⟩ := few_grant HFG.out (fun _ => 0) (fun _ => 0) (fun _ => 0) (fun _ _ => 0)
              rw [HML.out] at g2
              have HG1 := Hid.of g1
              have HG2 := Hid.of g2
              have HG3 := Hid.of g3
              clear g1 g2 g3
              go_simp
              go_wp2_with (first | (go_at_call 16; refine (implGrant_any p td nd kd D ts ns ks S none 0 0 (fun _ => 0) (fun _ => 0) (fun _ => 0) (fun _ _ => 0) 1 x s9 ml cap9 (nthI L2) 0 _ (by omega) (by omega) (HD0.out.below HW.out) (HS0.out.below HW.out) (by decide) (Nat.le_refl _) (fun i hi => absurd hi (Nat.not_lt_zero _)) (fun i hi => absurd hi (Nat.not_lt_zero _)) (by omega) HL9 (fun _ _ => HG3.out)).mono ?_; rintro e y0_7 hga; obtain ⟨sg, cg, Sg, rfl, -, -, b9⟩ := ga_ok HG1.out HG2.out hga))
              replace HXb : Hid (Blk y0_7 gX [.slice none 0 0]) := HXb.out.below b9
              replace HW : Hid (Below y0.heap.size y0 y0_7) := HW.out.trans (b9.mono HW.out.size)
              clear b9 HL9 HG1 HG2 HG3
              refine hK.out _ _ (⟨(HN0.out.below HW.out).2.2 0 _ rfl, (HN0.out.below HW.out).2.2 1 _ rfl, (HN0.out.below HW.out).2.2 2 _ rfl, (HN0.out.below HW.out).1⟩) (fun hHeld => ?_)
              clear hK KK
              refine wpAnyH_take (i := 8) (v := .tuple #[.agg #[.slice sg (0 + 1) cg], .int .i64 0]) rfl (by kernel_rfl) (by kernel_rfl) (by kernel_rfl) (fun _ _ _ h => h) (Or.inl ⟨by kernel_rfl, ?_⟩) hHeld ?_
              · intro w' hSw
                obtain ⟨hc0, hc1, hc2, hz0⟩ := hSw
                first | (go_simp; done) | (go_simp; with_reducible rfl) | (go_simp; rw [IntKind.wrap_i64]; omega) | (go_simp; omega)
              simp only [Act.put, List.setIfInBounds_toArray, List.set_cons_zero, List.set_cons_succ]
              refine wpAnyH_take (i := 9) (v := .agg #[.slice sg (0 + 1) cg]) rfl (by kernel_rfl) (by kernel_rfl) (by kernel_rfl) (fun _ _ _ h => h) (Or.inl ⟨by kernel_rfl, ?_⟩) hHeld ?_
              · intro w' hSw
                obtain ⟨hc0, hc1, hc2, hz0⟩ := hSw
                first | (go_simp; done) | (go_simp; with_reducible rfl) | (go_simp; rw [IntKind.wrap_i64]; omega) | (go_simp; omega)
              simp only [Act.put, List.setIfInBounds_toArray, List.set_cons_zero, List.set_cons_succ]
              refine wpAnyH_take (i := 10) (v := .int .i64 0) rfl (by kernel_rfl) (by kernel_rfl) (by kernel_rfl) (fun _ _ _ h => h) (Or.inl ⟨by kernel_rfl, ?_⟩) hHeld ?_
              · intro w' hSw
                obtain ⟨hc0, hc1, hc2, hz0⟩ := hSw
                first | (go_simp; done) | (go_simp; with_reducible rfl) | (go_simp; rw [IntKind.wrap_i64]; omega) | (go_simp; omega)
              simp only [Act.put, List.setIfInBounds_toArray, List.set_cons_zero, List.set_cons_succ]
              refine wpAnyH_ready (rs := [12]) (by kernel_rfl) (by simp) ?_
              refine (AllReadyH.cons rfl (fun KK hK => ?_) AllReadyH.nil)
              have hl_ := HXb.out.2.2 0 _ rfl
              have hf_ := HXb.out.2.1 0
              have hg_ := HXb.out.1
              have hst := store_slT
              go_simp
              obtain ⟨y0_8, hv_⟩ : ∃ z, z = y0_7.setCell ⟨gX, 0, none⟩ (.slice sg (0 + 1) cg) := ⟨_, rfl⟩
              try rw [← hv_]
              have bs_ : Beside gX y0_7 y0_8 := by rw [hv_]; exact Beside.setCell gX _ _ _
              have HX9 : Hid (Blk y0_8 gX [.slice sg (0 + 1) cg]) := by rw [hv_]; exact HXb.out.set 0 _
              replace HW : Hid (Below y0.heap.size y0 y0_8) := HW.out.trans (bs_.below zxw HW.out.size)
              clear hv_ bs_ hl_ hf_ hg_ hst HXb
              refine hK.out _ _ (⟨(HN0.out.below HW.out).2.2 0 _ rfl, (HN0.out.below HW.out).2.2 1 _ rfl, (HN0.out.below HW.out).2.2 2 _ rfl, (HN0.out.below HW.out).1⟩) (fun hHeld => ?_)
              clear hK KK
              refine wpAnyH_ready (rs := [13]) (by kernel_rfl) (by simp) ?_
              refine AllReadyH.cons rfl (fun KK hK => ?_) AllReadyH.nil
              go_simp
              refine hK.out _ _ hHeld (fun hHeld => ?_)
              clear hK KK
              refine wpAnyH_done (by kernel_rfl) ?_ _
              clear hHeld
              have HBz : Hid (Below w.heap.size w y0_8) := HB0.out.trans (HW.out.mono HB0.out.size)
              have x0 := HX9.out.2.2 0 _ rfl
              have xz := HX9.out.1
              clear HW
              go_wp2
              go_ret
              exact ⟨rfl, HBz.out⟩
          · go_simp
            obtain ⟨y0_9, hv_⟩ : ∃ z, z = y0_1.alloc (.cells #[.slice none 0 0] 36) := ⟨_, rfl⟩
            rw [← hv_]
            obtain ⟨gX, hgX⟩ : ∃ z, z = y0_1.heap.size := ⟨_, rfl⟩
            have b_ : Below y0_1.heap.size y0_1 y0_9 := by rw [hv_]; exact below0 _ _
            have HXb : Hid (Blk y0_9 gX [.slice none 0 0]) := by rw [hv_, hgX]; exact Blk.new y0_1 #[.slice none 0 0] _
            have zxw : y0.heap.size ≤ gX := by have := HW.out.size; omega
            have NXL : gX ≠ lb := by have := (World.ownsRow.lt HLt.out lb rfl).2; omega
            replace HLt : Hid (OwL lb y0_9 (.slice (some ⟨lb, 0, none⟩) 0 0) []) := HLt.out.keep b_
            replace zlb : lb ≤ y0_9.heap.size := Nat.le_trans zlb b_.size
            replace HW : Hid (Below y0.heap.size y0 y0_9) := HW.out.trans (b_.mono HW.out.size)
            try rw [← hgX]
            clear hv_ b_ hgX
            refine hK.out _ _ (⟨(HN0.out.below HW.out).2.2 0 _ rfl, (HN0.out.below HW.out).2.2 1 _ rfl, (HN0.out.below HW.out).2.2 2 _ rfl, (HN0.out.below HW.out).1⟩) (fun hHeld => ?_)
            clear hK KK
            refine wpAnyH_ready (rs := [5]) (by kernel_rfl) (by simp) ?_
            refine (AllReadyH.cons rfl (fun KK hK => ?_) AllReadyH.nil)
            refine wp_joinL lb (.slice (some ⟨lb, 0, none⟩) 0 0) [] s2 ml c2' L2 (.tmp 74) (.tmp 75) (by rfl) (by rfl) (by rfl) HML.out (by omega) (by simp) zlb HLt.out (HV0.out.below HW.out) ?_
            intro s9 cap9 y0_10 l9 b9 k9
            rw [List.nil_append] at l9
            have hz_ : ([] : List Int).length + ml = ml := by simp
            rw [hz_] at l9 ⊢
            have HL9 : Hid (RowI y0_10 s9 ml (nthI L2)) := by
              obtain ⟨s_, c_, e_, ho⟩ := l9.own
              rw [HML.out] at e_ ho
              simp only [Value.slice.injEq] at e_
              obtain ⟨rfl, -, -⟩ := e_
              exact ho.row
            replace HW : Hid (Below y0.heap.size y0 y0_10) := HW.out.trans (b9.mono zvl)
            replace HXb : Hid (Blk y0_10 gX [.slice none 0 0]) := HXb.out.farJ k9 b9.size (fun e => NXL (by cases e; rfl))
            clear l9 b9 hz_ HLt zlb zvl
            clear k9
            go_simp
            refine hK.out _ _ (⟨(HN0.out.below HW.out).2.2 0 _ rfl, (HN0.out.below HW.out).2.2 1 _ rfl, (HN0.out.below HW.out).2.2 2 _ rfl, (HN0.out.below HW.out).1⟩) (fun hHeld => ?_)
            clear hK KK
            refine wpAnyH_take (i := 6) (v := .agg #[.int .i64 1, .int .i64 x, .slice s9 ml cap9]) rfl (by kernel_rfl) (by kernel_rfl) (by kernel_rfl) (fun _ _ _ h => h) (Or.inl ⟨by kernel_rfl, ?_⟩) hHeld ?_
            · intro w' hSw
              obtain ⟨hc0, hc1, hc2, hz0⟩ := hSw
              first | (go_simp; done) | (go_simp; with_reducible rfl) | (go_simp; rw [IntKind.wrap_i64]; omega) | (go_simp; omega)
            simp only [Act.put, List.setIfInBounds_toArray, List.set_cons_zero, List.set_cons_succ]
            refine wpAnyH_ready (rs := [7]) (by kernel_rfl) (by simp) ?_
            refine (AllReadyH.cons rfl (fun KK hK => ?_) AllReadyH.nil)
            obtain ⟨g1, g2, g3⟩ := few_grant HFG.out (fun _ => 0) (fun _ => 0) (fun _ => 0) (fun _ _ => 0)
            rw [HML.out] at g2
            have HG1 := Hid.of g1
            have HG2 := Hid.of g2
            have HG3 := Hid.of g3
            clear g1 g2 g3
            go_simp
            go_wp2_with (first | (go_at_call 16; refine (implGrant_any p td nd kd D ts ns ks S none 0 0 (fun _ => 0) (fun _ => 0) (fun _ => 0) (fun _ _ => 0) 1 x s9 ml cap9 (nthI L2) 0 _ (by omega) (by omega) (HD0.out.below HW.out) (HS0.out.below HW.out) (by decide) (Nat.le_refl _) (fun i hi => absurd hi (Nat.not_lt_zero _)) (fun i hi => absurd hi (Nat.not_lt_zero _)) (by omega) HL9 (fun _ _ => HG3.out)).mono ?_; rintro e y0_11 hga; obtain ⟨sg, cg, Sg, rfl, -, -, b9⟩ := ga_ok HG1.out HG2.out hga))
            replace HXb : Hid (Blk y0_11 gX [.slice none 0 0]) := HXb.out.below b9
            replace HW : Hid (Below y0.heap.size y0 y0_11) := HW.out.trans (b9.mono HW.out.size)
            clear b9 HL9 HG1 HG2 HG3
            refine hK.out _ _ (⟨(HN0.out.below HW.out).2.2 0 _ rfl, (HN0.out.below HW.out).2.2 1 _ rfl, (HN0.out.below HW.out).2.2 2 _ rfl, (HN0.out.below HW.out).1⟩) (fun hHeld => ?_)
            clear hK KK
            refine wpAnyH_take (i := 8) (v := .tuple #[.agg #[.slice sg (0 + 1) cg], .int .i64 0]) rfl (by kernel_rfl) (by kernel_rfl) (by kernel_rfl) (fun _ _ _ h => h) (Or.inl ⟨by kernel_rfl, ?_⟩) hHeld ?_
            · intro w' hSw
              obtain ⟨hc0, hc1, hc2, hz0⟩ := hSw
              first | (go_simp; done) | (go_simp; with_reducible rfl) | (go_simp; rw [IntKind.wrap_i64]; omega) | (go_simp; omega)
            simp only [Act.put, List.setIfInBounds_toArray, List.set_cons_zero, List.set_cons_succ]
            refine wpAnyH_take (i := 9) (v := .agg #[.slice sg (0 + 1) cg]) rfl (by kernel_rfl) (by kernel_rfl) (by kernel_rfl) (fun _ _ _ h => h) (Or.inl ⟨by kernel_rfl, ?_⟩) hHeld ?_
            · intro w' hSw
              obtain ⟨hc0, hc1, hc2, hz0⟩ := hSw
              first | (go_simp; done) | (go_simp; with_reducible rfl) | (go_simp; rw [IntKind.wrap_i64]; omega) | (go_simp; omega)
            simp only [Act.put, List.setIfInBounds_toArray, List.set_cons_zero, List.set_cons_succ]
            refine wpAnyH_take (i := 10) (v := .int .i64 0) rfl (by kernel_rfl) (by kernel_rfl) (by kernel_rfl) (fun _ _ _ h => h) (Or.inl ⟨by kernel_rfl, ?_⟩) hHeld ?_
            · intro w' hSw
              obtain ⟨hc0, hc1, hc2, hz0⟩ := hSw
              first | (go_simp; done) | (go_simp; with_reducible rfl) | (go_simp; rw [IntKind.wrap_i64]; omega) | (go_simp; omega)
            simp only [Act.put, List.setIfInBounds_toArray, List.set_cons_zero, List.set_cons_succ]
            refine wpAnyH_ready (rs := [12]) (by kernel_rfl) (by simp) ?_
            refine (AllReadyH.cons rfl (fun KK hK => ?_) AllReadyH.nil)
            have hl_ := HXb.out.2.2 0 _ rfl
            have hf_ := HXb.out.2.1 0
            have hg_ := HXb.out.1
            have hst := store_slT
            go_simp
            obtain ⟨y0_12, hv_⟩ : ∃ z, z = y0_11.setCell ⟨gX, 0, none⟩ (.slice sg (0 + 1) cg) := ⟨_, rfl⟩
            try rw [← hv_]
            have bs_ : Beside gX y0_11 y0_12 := by rw [hv_]; exact Beside.setCell gX _ _ _
            have HX9 : Hid (Blk y0_12 gX [.slice sg (0 + 1) cg]) := by rw [hv_]; exact HXb.out.set 0 _
            replace HW : Hid (Below y0.heap.size y0 y0_12) := HW.out.trans (bs_.below zxw HW.out.size)
            clear hv_ bs_ hl_ hf_ hg_ hst HXb
            refine hK.out _ _ (⟨(HN0.out.below HW.out).2.2 0 _ rfl, (HN0.out.below HW.out).2.2 1 _ rfl, (HN0.out.below HW.out).2.2 2 _ rfl, (HN0.out.below HW.out).1⟩) (fun hHeld => ?_)
            clear hK KK
            refine wpAnyH_ready (rs := [13]) (by kernel_rfl) (by simp) ?_
            refine AllReadyH.cons rfl (fun KK hK => ?_) AllReadyH.nil
            go_simp
            refine hK.out _ _ hHeld (fun hHeld => ?_)
            clear hK KK
            refine wpAnyH_done (by kernel_rfl) ?_ _
            clear hHeld
            have HBz : Hid (Below w.heap.size w y0_12) := HB0.out.trans (HW.out.mono HB0.out.size)
            have x0 := HX9.out.2.2 0 _ rfl
            have xz := HX9.out.1
            clear HW
            go_wp2
            go_ret
            exact ⟨rfl, HBz.out⟩
        · go_simp
          obtain ⟨y0_13, hv_⟩ : ∃ z, z = y0.alloc (.cells #[.slice none 0 0] 36) := ⟨_, rfl⟩
          rw [← hv_]
          obtain ⟨gX, hgX⟩ : ∃ z, z = y0.heap.size := ⟨_, rfl⟩
          have b_ : Below y0.heap.size y0 y0_13 := by rw [hv_]; exact below0 _ _
          have HXb : Hid (Blk y0_13 gX [.slice none 0 0]) := by rw [hv_, hgX]; exact Blk.new y0 #[.slice none 0 0] _
          have zxw : y0.heap.size ≤ gX := by have := HW.out.size; omega
          replace HW : Hid (Below y0.heap.size y0 y0_13) := HW.out.trans (b_.mono HW.out.size)
          try rw [← hgX]
          clear hv_ b_ hgX
          refine hK.out _ _ (⟨(HN0.out.below HW.out).2.2 0 _ rfl, (HN0.out.below HW.out).2.2 1 _ rfl, (HN0.out.below HW.out).2.2 2 _ rfl, (HN0.out.below HW.out).1⟩) (fun hHeld => ?_)
          clear hK KK
          refine wpAnyH_ready (rs := [3]) (by kernel_rfl) (by simp) ?_
          refine (AllReadyH.cons rfl (fun KK hK => ?_) AllReadyH.nil)
          go_simp
          obtain ⟨y0_14, hv_⟩ : ∃ z, z = y0_13.alloc (.cells #[] 2) := ⟨_, rfl⟩
          rw [← hv_]
          obtain ⟨lb, hlb⟩ : ∃ z, z = y0_13.heap.size := ⟨_, rfl⟩
          have b_ : Below y0_13.heap.size y0_13 y0_14 := by rw [hv_]; exact below0 _ _
          have HLt : Hid (OwL lb y0_14 (.slice (some ⟨lb, 0, none⟩) 0 0) []) := by rw [hv_, hlb]; exact OwL.lit y0_13 (Nat.le_refl _)
          have zlb : lb ≤ y0_14.heap.size := by rw [hlb]; exact b_.size
          have zvl : y0.heap.size ≤ lb := by rw [hlb]; exact HW.out.size
          replace HW : Hid (Below y0.heap.size y0 y0_14) := HW.out.trans (b_.mono HW.out.size)
          have zlt_ : y0_13.heap.size = lb := hlb.symm
          have bx_ := b_
          try rw [← hlb]
          clear hv_ b_ hlb
          have NXL : gX ≠ lb := by have := HXb.out.1; have := zlt_; omega
          replace HXb : Hid (Blk y0_14 gX [.slice none 0 0]) := HXb.out.below bx_
          clear bx_ zlt_
          refine hK.out _ _ (⟨(HN0.out.below HW.out).2.2 0 _ rfl, (HN0.out.below HW.out).2.2 1 _ rfl, (HN0.out.below HW.out).2.2 2 _ rfl, (HN0.out.below HW.out).1⟩) (fun hHeld => ?_)
          clear hK KK
          refine wpAnyH_ready (rs := [5]) (by kernel_rfl) (by simp) ?_
          refine (AllReadyH.cons rfl (fun KK hK => ?_) AllReadyH.nil)
          refine wp_joinL lb (.slice (some ⟨lb, 0, none⟩) 0 0) [] s2 ml c2' L2 (.tmp 74) (.tmp 75) (by rfl) (by rfl) (by rfl) HML.out (by omega) (by simp) zlb HLt.out (HV0.out.below HW.out) ?_
          intro s9 cap9 y0_15 l9 b9 k9
          rw [List.nil_append] at l9
          have hz_ : ([] : List Int).length + ml = ml := by simp
          rw [hz_] at l9 ⊢
          have HL9 : Hid (RowI y0_15 s9 ml (nthI L2)) := by
            obtain ⟨s_, c_, e_, ho⟩ := l9.own
            rw [HML.out] at e_ ho
            simp only [Value.slice.injEq] at e_
            obtain ⟨rfl, -, -⟩ := e_
            exact ho.row
          replace HW : Hid (Below y0.heap.size y0 y0_15) := HW.out.trans (b9.mono zvl)
          replace HXb : Hid (Blk y0_15 gX [.slice none 0 0]) := HXb.out.farJ k9 b9.size (fun e => NXL (by cases e; rfl))
          clear l9 b9 hz_ HLt zlb zvl
          clear k9
          go_simp
          refine hK.out _ _ (⟨(HN0.out.below HW.out).2.2 0 _ rfl, (HN0.out.below HW.out).2.2 1 _ rfl, (HN0.out.below HW.out).2.2 2 _ rfl, (HN0.out.below HW.out).1⟩) (fun hHeld => ?_)
          clear hK KK
          refine wpAnyH_take (i := 6) (v := .agg #[.int .i64 1, .int .i64 x, .slice s9 ml cap9]) rfl (by kernel_rfl) (by kernel_rfl) (by kernel_rfl) (fun _ _ _ h => h) (Or.inl ⟨by kernel_rfl, ?_⟩) hHeld ?_
          · intro w' hSw
            obtain ⟨hc0, hc1, hc2, hz0⟩ := hSw
            first | (go_simp; done) | (go_simp; with_reducible rfl) | (go_simp; rw [IntKind.wrap_i64]; omega) | (go_simp; omega)
          simp only [Act.put, List.setIfInBounds_toArray, List.set_cons_zero, List.set_cons_succ]
          refine wpAnyH_ready (rs := [7]) (by kernel_rfl) (by simp) ?_
          refine (AllReadyH.cons rfl (fun KK hK => ?_) AllReadyH.nil)
          obtain ⟨g1, g2, g3⟩ := few_grant HFG.out (fun _ => 0) (fun _ => 0) (fun _ => 0) (fun _ _ => 0)
          rw [HML.out] at g2
          have HG1 := Hid.of g1
          have HG2 := Hid.of g2
          have HG3 := Hid.of g3
          clear g1 g2 g3
          go_simp
          go_wp2_with (first | (go_at_call 16; refine (implGrant_any p td nd kd D ts ns ks S none 0 0 (fun _ => 0) (fun _ => 0) (fun _ => 0) (fun _ _ => 0) 1 x s9 ml cap9 (nthI L2) 0 _ (by omega) (by omega) (HD0.out.below HW.out) (HS0.out.below HW.out) (by decide) (Nat.le_refl _) (fun i hi => absurd hi (Nat.not_lt_zero _)) (fun i hi => absurd hi (Nat.not_lt_zero _)) (by omega) HL9 (fun _ _ => HG3.out)).mono ?_; rintro e y0_16 hga; obtain ⟨sg, cg, Sg, rfl, -, -, b9⟩ := ga_ok HG1.out HG2.out hga))
          replace HXb : Hid (Blk y0_16 gX [.slice none 0 0]) := HXb.out.below b9
          replace HW : Hid (Below y0.heap.size y0 y0_16) := HW.out.trans (b9.mono HW.out.size)
          clear b9 HL9 HG1 HG2 HG3
          refine hK.out _ _ (⟨(HN0.out.below HW.out).2.2 0 _ rfl, (HN0.out.below HW.out).2.2 1 _ rfl, (HN0.out.below HW.out).2.2 2 _ rfl, (HN0.out.below HW.out).1⟩) (fun hHeld => ?_)
          clear hK KK
          refine wpAnyH_take (i := 8) (v := .tuple #[.agg #[.slice sg (0 + 1) cg], .int .i64 0]) rfl (by kernel_rfl) (by kernel_rfl) (by kernel_rfl) (fun _ _ _ h => h) (Or.inl ⟨by kernel_rfl, ?_⟩) hHeld ?_
          · intro w' hSw
            obtain ⟨hc0, hc1, hc2, hz0⟩ := hSw
            first | (go_simp; done) | (go_simp; with_reducible rfl) | (go_simp; rw [IntKind.wrap_i64]; omega) | (go_simp; omega)
          simp only [Act.put, List.setIfInBounds_toArray, List.set_cons_zero, List.set_cons_succ]
          refine wpAnyH_take (i := 9) (v := .agg #[.slice sg (0 + 1) cg]) rfl (by kernel_rfl) (by kernel_rfl) (by kernel_rfl) (fun _ _ _ h => h) (Or.inl ⟨by kernel_rfl, ?_⟩) hHeld ?_
          · intro w' hSw
            obtain ⟨hc0, hc1, hc2, hz0⟩ := hSw
            first | (go_simp; done) | (go_simp; with_reducible rfl) | (go_simp; rw [IntKind.wrap_i64]; omega) | (go_simp; omega)
          simp only [Act.put, List.setIfInBounds_toArray, List.set_cons_zero, List.set_cons_succ]
          refine wpAnyH_take (i := 10) (v := .int .i64 0) rfl (by kernel_rfl) (by kernel_rfl) (by kernel_rfl) (fun _ _ _ h => h) (Or.inl ⟨by kernel_rfl, ?_⟩) hHeld ?_
          · intro w' hSw
            obtain ⟨hc0, hc1, hc2, hz0⟩ := hSw
            first | (go_simp; done) | (go_simp; with_reducible rfl) | (go_simp; rw [IntKind.wrap_i64]; omega) | (go_simp; omega)
          simp only [Act.put, List.setIfInBounds_toArray, List.set_cons_zero, List.set_cons_succ]
          refine wpAnyH_ready (rs := [12]) (by kernel_rfl) (by simp) ?_
          refine (AllReadyH.cons rfl (fun KK hK => ?_) AllReadyH.nil)
          have hl_ := HXb.out.2.2 0 _ rfl
          have hf_ := HXb.out.2.1 0
          have hg_ := HXb.out.1
          have hst := store_slT
          go_simp
          obtain ⟨y0_17, hv_⟩ : ∃ z, z = y0_16.setCell ⟨gX, 0, none⟩ (.slice sg (0 + 1) cg) := ⟨_, rfl⟩
          try rw [← hv_]
          have bs_ : Beside gX y0_16 y0_17 := by rw [hv_]; exact Beside.setCell gX _ _ _
          have HX9 : Hid (Blk y0_17 gX [.slice sg (0 + 1) cg]) := by rw [hv_]; exact HXb.out.set 0 _
          replace HW : Hid (Below y0.heap.size y0 y0_17) := HW.out.trans (bs_.below zxw HW.out.size)
          clear hv_ bs_ hl_ hf_ hg_ hst HXb
          refine hK.out _ _ (⟨(HN0.out.below HW.out).2.2 0 _ rfl, (HN0.out.below HW.out).2.2 1 _ rfl, (HN0.out.below HW.out).2.2 2 _ rfl, (HN0.out.below HW.out).1⟩) (fun hHeld => ?_)
          clear hK KK
          refine wpAnyH_ready (rs := [13]) (by kernel_rfl) (by simp) ?_
          refine AllReadyH.cons rfl (fun KK hK => ?_) AllReadyH.nil
          go_simp
          refine hK.out _ _ hHeld (fun hHeld => ?_)
          clear hK KK
          refine wpAnyH_done (by kernel_rfl) ?_ _
          clear hHeld
          have HBz : Hid (Below w.heap.size w y0_17) := HB0.out.trans (HW.out.mono HB0.out.size)
          have x0 := HX9.out.2.2 0 _ rfl
          have xz := HX9.out.1
          clear HW
          go_wp2
          go_ret
          exact ⟨rfl, HBz.out⟩
theorem fnFewest_walk (w : World) (s : Option Addr) (n c : Nat) (hn : n ≤ 9223372036854775807) (R : Bytes w s n) :
    Calls Try.prog 7 #[.slice s n c] w fun e w' => e = .returned (.bool true) ∧ Below w.heap.size w w' := by
  by_cases h : n ≤ 1048576
  · exact ffew_near w s n c (by omega) (R.code h)
  · exact ffew_far w s n c (by omega)

set_option maxRecDepth 100000 in
theorem fnFewest_lifted (os : Os) (started : os.Started) (H : Type) (enc : TypeId × Value → H) :
    ReturnsInHanded {} Try.checked os 7 .any (Rows.fnFewestSpec.pre6 enc Try.prog Try.f7 Rows.fnFewestRow.domain false) (Rows.fnFewestSpec.post enc Try.prog Try.f7 false true false false) := by
  refine returnsInHanded_of_change (C := Try.checked) own started (by kernel_rfl) Try.func7
    (ChangeSpec.witness6 (enc := enc) (C := Try.checked) false ⟨#[], #[.slice none 0 0], []⟩ 8 (by kernel_rfl) (by kernel_rfl) (by kernel_rfl) (by kernel_rfl)) ?_
  intro W base args ds gs before hval0 hW hcnd _
  have hval : ∀ (j : Nat) t v, Try.f7.params[j]? = some t → args[j]? = some v → Value.okWide Try.prog W .any base t v := hval0
  have hW' := hW
  obtain ⟨p, q, hA0, hV, rfl, hfz, hnd⟩ := hW
  have hA : DataW.TrodAll enc Try.prog W 0 (fun _ => true) true Try.f7.params.toList args.toList ds p := hA0
  rw [Try.params7] at hA hval
  obtain ⟨v0, vs0, d0, ds0, p0, q0, hargs, rfl, rfl, h0, r0⟩ := trodAll_cons hA
  obtain ⟨rfl, rfl, rfl⟩ := trodAll_nil r0
  obtain rfl : args = #[v0] := by cases args; simp_all
  obtain ⟨rfl, rfl⟩ := trodVars_none hV
  have k0 := h0
  have lt0 : ∀ x ∈ p0, x.block < W.heap.size := by obtain ⟨m, hm⟩ := k0; exact DataW.trod_lt m _ _ _ hm
  obtain ⟨s0, n0, c0, rfl, m0, R0⟩ := open_code Try.underlying63 Try.underlying5 (by kernel_rfl) (hval 0 63 v0 rfl rfl) h0
  clear hA0 hval0
  refine (fnFewest_walk W s0 n0 c0 m0 R0).mono fun e W' ⟨he, bel⟩ => ?_
  subst he
  exact ⟨_, rfl, _, _, _, [], _, [], hW', trodAll_mk1 (shut_bool Try.underlying4 _), (trodAll_cons_mk (Below.trod laidOut (by kernel_rfl) (of_decide_eq_true (by kernel_rfl)) k0 bel lt0) trodAll_mk0), rfl, bel.frame _, fun h => by cases h⟩

theorem fnFewest_holds : Rows.FnFewestSaid :=
  OpenClaim.holds_of_wide 7 Try.f7 rfl rfl rfl rfl rfl rfl rfl ⟨rfl, rfl, rfl, rfl, rfl⟩ rfl rfl rfl rfl rfl (by kernel_rfl) Try.func7 (by kernel_rfl)
    (of_decide_eq_true (by kernel_rfl)) (by unfold Func.isWrapper; first | (rw [if_pos (by decide +kernel)]; kernel_rfl) | (rw [if_neg (by decide +kernel)]; exact ⟨rfl, rfl⟩))
    (fun os started H enc _ => fnFewest_lifted os started H enc)
#print axioms fnFewest_holds
end Go.Proofs.Ytikcfpjfcpbfcaa
