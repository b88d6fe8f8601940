/-
What is proved: FnCommon: of drawn groups just those are told that hold a cut of the drawn tree; with every group put together there is one, too, where there was one; no condition.
-/
import Derived.Test.YtpaiajeigdifcaaTrF
import Derived.Test.YtpaiajeigdifcaaJnI
import Derived.Test.YtpaiajeigdifcaaSaI
import Derived.Test.YtpaiajeigdifcaaOpen8
import Derived.Deep.RegionHeldLaw
import Derived.Deep.DeepCutAuto
namespace Go.Proofs.Ytpaiajeigdifcaa
set_option maxRecDepth 40000
open Go.ChangeShapes Go.WideShapes Go.ChangeAt Go.RowKit
set_option linter.unusedVariables false
set_option linter.unusedSimpArgs false

set_option maxHeartbeats 400000 in
theorem fcommon_far (w : World) (s : Option Addr) (n c : Nat) (h : (1048576 : Int) < n) :
    Calls Try.prog 3 #[.slice s n c] w fun e w' => e = .returned (.bool true) ∧ Below w.heap.size w w' := by
  go_enter Try.func3, Try.ntmps3
  go_wp2_with fail
  refine (big_yes _ _ _ _ h).mono ?_
  rintro e w1 ⟨rfl, rfl⟩
  go_wp2
  go_ret
  exact ⟨rfl, Below.refl _ _⟩
def AllIn2 (K2 : Nat → Nat) (V2 : Nat → Nat → Int) (i l : Nat) (U : Nat → Int) : Prop := ∀ j, j < i → ∀ r, r < K2 j → ∃ q, q < l ∧ U q = V2 j r
theorem AllIn2.on {K2 : Nat → Nat} {V2 : Nat → Nat → Int} {i l : Nat} {U : Nat → Int} (h : AllIn2 K2 V2 i l U) : AllIn2 K2 V2 (i + 1) (l + K2 i) (catU U (l * 1) (V2 i)) := by
  intro j hj r hr
  by_cases e : j = i
  · subst e
    exact ⟨l + r, by omega, by unfold catU; rw [if_neg (by omega), show l + r - l * 1 = r by omega]⟩
  · obtain ⟨q, q1, q2⟩ := h j (by omega) r hr
    exact ⟨q, by omega, by unfold catU; rw [if_pos (by omega)]; exact q2⟩
theorem fy_cat (x : Int) (n : Nat) (X : Nat → Int) (K : Nat → Nat) (V : Nat → Nat → Int) (k : Nat) (U W : Nat → Int) : fyB x n X K V k (catU U (0 * 1) W) = fyB x n X K V k W := by
  have e : ∀ r, catU U (0 * 1) W r = W r := fun r => by unfold catU; rw [if_neg (by omega), show r - 0 * 1 = r by omega]
  apply Bool.eq_iff_iff.2
  constructor
  · exact fy_mono (fun r hr => ⟨r, hr, (e r).symm⟩)
  · exact fy_mono (fun r hr => ⟨r, hr, e r⟩)
set_option maxRecDepth 20000 in
set_option maxHeartbeats 16000000 in
theorem fcommon_near (w : World) (s : Option Addr) (n c : Nat) (hn : (n : Int) ≤ 1048576) (HC8 : Hid (Code8 w s n)) :
    Calls Try.prog 3 #[.slice s n c] w fun e w' => e = .returned (.bool true) ∧ Below w.heap.size w w' := by
  go_enter Try.func3, Try.ntmps3
  go_wp2_with fail
  refine (big_no _ _ _ _ hn).mono ?_
  rintro e w1 ⟨rfl, rfl⟩
  rename World => w
  go_wp2_with fail
  refine (drawCommon_any _ _ _ _ HC8).mono ?_
  rintro e w2 h2
  unfold DcmPost at h2
  obtain ⟨x, t, m, cap, X, K, V, t2, m2, c2, K2, V2, rfl, m2l, K13, hrow, hll, B2⟩ := h2
  have HG2 : Hid (RowGat w2 t m X K V) := hrow
  have HL2 : Hid (RowLL w2 t2 m2 K2 V2) := hll
  have HK13 : Hid (∀ i, i < m2 → K2 i ≤ 13) := K13
  have HKB : Hid (∀ i, i < m2 → (K2 i : Int) ≤ 1048576) := fun i hi => by have := K13 i hi; omega
  have HB2 : Hid (Below w.heap.size w w2) := B2
  clear hrow hll K13 B2 HC8 hn
  go_upto_region 4 with fail
  obtain ⟨w3, hw3⟩ : ∃ z, z = w2.alloc (.cells #[.int .i64 x, .slice t m cap] 26) := ⟨_, rfl⟩
  rw [← hw3]
  have b3 : Below w2.heap.size w2 w3 := by rw [hw3]; exact below0 _ _
  obtain ⟨p, hp⟩ : ∃ z, z = w2.heap.size := ⟨_, rfl⟩
  have HP3 : Hid (Blk w3 p [.int .i64 x, .slice t m cap]) := by show Blk _ _ _; rw [hw3, hp]; exact Blk.new w2 #[.int .i64 x, .slice t m cap] 26
  have HG3 : Hid (RowGat w3 t m X K V) := HG2.out.below b3
  have HL3 : Hid (RowLL w3 t2 m2 K2 V2) := HL2.out.below b3
  have HB3 : Hid (Below w.heap.size w w3) := HB2.out.trans (b3.mono HB2.out.size)
  try rw [← hp]
  clear hw3 b3 hp HG2 HL2 HB2
  have p0 := HP3.out.2.2 0 _ rfl
  have p1 := HP3.out.2.2 1 _ rfl
  have pz := HP3.out.1
  go_wp2_with fail
  refine (specCommon_any x t m cap X K V t2 m2 c2 K2 V2 _ HKB HG3 HL3).mono ?_
  rintro e w4 ⟨s4, c4, rfl, O4, h4⟩
  have HP4 : Hid (Blk w4 p [.int .i64 x, .slice t m cap]) := HP3.out.below h4
  have HG4 : Hid (RowGat w4 t m X K V) := HG3.out.below h4
  have HL4 : Hid (RowLL w4 t2 m2 K2 V2) := HL3.out.below h4
  have HB4 : Hid (Below w.heap.size w w4) := HB3.out.trans (h4.mono HB3.out.size)
  have HS4 : Hid (RowI w4 s4 (commonL x m X K V m2 K2 V2).length (nthI (commonL x m X K V m2 K2 V2))) := O4.row
  clear O4 h4 p0 p1 pz HP3 HG3 HL3 HB3
  have p0 := HP4.out.2.2 0 _ rfl
  have p1 := HP4.out.2.2 1 _ rfl
  have pz := HP4.out.1
  go_wp2_with fail
  refine (implCommon_any x t m cap X K V t2 m2 c2 K2 V2 _ HKB HG4 HL4).mono ?_
  rintro e w5 ⟨s5, c5, rfl, O5, h5⟩
  have HP5 : Hid (Blk w5 p [.int .i64 x, .slice t m cap]) := HP4.out.below h5
  have HG5 : Hid (RowGat w5 t m X K V) := HG4.out.below h5
  have HL5 : Hid (RowLL w5 t2 m2 K2 V2) := HL4.out.below h5
  have HB5 : Hid (Below w.heap.size w w5) := HB4.out.trans (h5.mono HB4.out.size)
  have HS5 : Hid (RowI w5 s4 (commonL x m X K V m2 K2 V2).length (nthI (commonL x m X K V m2 K2 V2))) := HS4.out.below h5
  have HT5 : Hid (RowI w5 s5 (commonL x m X K V m2 K2 V2).length (nthI (commonL x m X K V m2 K2 V2))) := O5.row
  have HCL : Hid ((commonL x m X K V m2 K2 V2).length ≤ 100) := common_len _ _ _ _ _ _ _ _
  have HCH : Hid (∀ i : Nat, i < m2 → hasW (nthI (commonL x m X K V m2 K2 V2)) (commonL x m X K V m2 K2 V2).length (i : Int) = (fyB x m X K V (K2 i) (V2 i) && decide ((m2 : Int) ≤ 100))) := fun i hi => common_has hi
  have HCS : Hid ((commonL x m X K V m2 K2 V2).length ≠ 0 → ∃ i, i < m2 ∧ fyB x m X K V (K2 i) (V2 i) = true) := common_some
  obtain ⟨l, hl⟩ : ∃ l, (commonL x m X K V m2 K2 V2).length = l := ⟨_, rfl⟩
  obtain ⟨F, hF⟩ : ∃ F, nthI (commonL x m X K V m2 K2 V2) = F := ⟨_, rfl⟩
  rw [hl, hF] at HS5 HT5 HCH
  rw [hl] at HCL HCS ⊢
  have l100 : l ≤ 100 := HCL.out
  clear O5 h5 p0 p1 pz HP4 HG4 HL4 HB4 HS4 hl hF
  go_wp2_with fail
  refine (sameInts_any s5 s4 l c5 c4 F _ (by omega) HT5 HS5).mono ?_
  rintro e w6 ⟨rfl, h6⟩
  have HP6 : Hid (Blk w6 p [.int .i64 x, .slice t m cap]) := HP5.out.below h6
  have HG6 : Hid (RowGat w6 t m X K V) := HG5.out.below h6
  have HL6 : Hid (RowLL w6 t2 m2 K2 V2) := HL5.out.below h6
  have HB6 : Hid (Below w.heap.size w w6) := HB5.out.trans (h6.mono HB5.out.size)
  have HT6 : Hid (RowI w6 s5 l F) := HT5.out.below h6
  clear h6 HP5 HG5 HL5 HB5 HS5 HT5
  go_upto_region 9 with fail
  obtain ⟨w7, hw7⟩ : ∃ z, z = w6.alloc (.cells #[] 2) := ⟨_, rfl⟩
  rw [← hw7]
  obtain ⟨B, hB⟩ : ∃ z, z = w6.heap.size := ⟨_, rfl⟩
  have HA7 : Hid (Lst B 2 1 w7 (.slice (some ⟨B, 0, none⟩) 0 0) 0 (fun _ => 0)) := by show Lst _ _ _ _ _ _ _; rw [hw7, hB]; exact Lst.lit w6 _ _ 2 1 _ (Nat.le_refl _)
  have HB7 : Hid (Below B w6 w7) := by show Below _ _ _; rw [hw7, hB]; exact below0 _ _
  have HBB : Hid (B = w6.heap.size) := hB
  have zB : p < B := by rw [hB]; exact HP6.out.1
  try rw [← hB]
  clear hw7 hB
  go_wp2_with fail
  go_loopw [7, 8] (fun v i wx => ∃ (k a : Nat) (U : Nat → Int), k ≤ m2 ∧ i = .int .i64 k ∧ a ≤ 13 * k ∧ Hid (Lst B 2 1 wx v a U) ∧ Hid (Below B w6 wx) ∧ Hid (AllIn2 K2 V2 k a U)) (fun _ i _ => m2 - (intOf i).toNat)
  case atStart => exact ⟨0, 0, _, by omega, rfl, by omega, HA7, HB7, fun j hj => by omega⟩
  case round =>
    clear HA7 HB7
    obtain ⟨k, a, U, hk, rfl, ha, HA, HB, HI⟩ := hrel
    rename World => wa
    have HBw : Hid (Below w6.heap.size w6 wa) := by have := HBB.out; show Below _ _ _; rw [← this]; exact HB.out
    have HP : Hid (Blk wa p [.int .i64 x, .slice t m cap]) := HP6.out.below HBw.out
    have HG : Hid (RowGat wa t m X K V) := HG6.out.below HBw.out
    have HL : Hid (RowLL wa t2 m2 K2 V2) := HL6.out.below HBw.out
    have HT : Hid (RowI wa s5 l F) := HT6.out.below HBw.out
    have zBa : B ≤ wa.heap.size := by have := HBB.out; have := HBw.out.size; omega
    obtain ⟨tv, cv, ev⟩ := HA.out.form
    subst ev
    by_cases h1 : k < m2
    case neg =>
      obtain rfl : k = m2 := by omega
      have HF0 : Hid (l ≠ 0 → fyB x m X K V a U = true) := fun h => by
        obtain ⟨i, i1, i2⟩ := HCS.out h
        exact fy_mono (HI.out i i1) i2
      have HAr : Hid (RowI wa tv a U) := by
        obtain ⟨t', c', e', hO⟩ := HA.out.own
        cases e'
        rw [Nat.mul_one] at hO
        exact hO.row
      have HBF : Hid (Below w.heap.size w wa) := HB6.out.trans (HBw.out.mono HB6.out.size)
      have p0 := HP.out.2.2 0 _ rfl
      have p1 := HP.out.2.2 1 _ rfl
      have pz := HP.out.1
      by_cases e0 : l = 0
      · have e1 : ((l : Int) == 0) = true := by simp [e0]
        clear e0
        go_wp2
        go_ret
        exact ⟨rfl, HBF.out⟩
      · have e1 : ((l : Int) == 0) = false := by simp [e0]
        have HFY : Hid (fyB x m X K V a U = true) := HF0.out e0
        clear e0 HF0
        go_wp2_with fail
        refine (implFailsBy_any x t m cap X K V tv a cv U _ (by omega) HG HAr).mono ?_
        rintro e w8 ⟨rfl, h8⟩
        rw [HFY.out]
        have HBF8 : Hid (Below w.heap.size w w8) := HBF.out.trans (h8.mono HBF.out.size)
        clear h8
        go_wp2
        go_ret
        exact ⟨rfl, HBF8.out⟩
    case pos =>
      have k1 : (k : Int) < (m2 : Int) := by omega
      obtain ⟨gb, go, ga, gc, rfl, hgb6, hgc6, Rk6⟩ := HL6.out k h1
      have Rk := Rk6.below HBw.out
      have hgc := (HBw.out.cell (p := ⟨gb, go + k, none⟩) hgb6).trans hgc6
      have hgb : gb < wa.heap.size := Nat.lt_of_lt_of_le hgb6 HBw.out.size
      have HR6 : Hid (RowI w6 ga (K2 k) (V2 k)) := Rk6
      have HGC6 : Hid (w6.cell? ⟨gb, go + k, none⟩ = some (.slice ga (K2 k) gc) ∧ gb < w6.heap.size) := ⟨hgc6, hgb6⟩
      clear Rk6 hgc6 hgb6
      have kk13 : K2 k ≤ 13 := HK13.out k h1
      have HRk : Hid (RowI wa ga (K2 k) (V2 k)) := Rk
      have HGC : Hid (wa.cell? ⟨gb, go + k, none⟩ = some (.slice ga (K2 k) gc) ∧ gb < wa.heap.size) := ⟨hgc, hgb⟩
      have HIN : Hid (AllIn2 K2 V2 (k + 1) (a + K2 k) (catU U (a * 1) (V2 k))) := HI.out.on
      have HHK : Hid (hasW F l (k : Int) = (fyB x m X K V (K2 k) (V2 k) && decide ((m2 : Int) ≤ 100))) := HCH.out k h1
      obtain ⟨kk, hkk⟩ : ∃ kk, K2 k = kk := ⟨_, rfl⟩
      rw [hkk] at kk13 HRk hgc HGC HIN HHK HR6 HGC6
      obtain ⟨Vk, hVk⟩ : ∃ Vk, V2 k = Vk := ⟨_, rfl⟩
      rw [hVk] at HRk HIN HHK HR6
      clear Rk hkk hVk HI HL
      go_upto_region 13 with (at_builtin; refine join_int B (.slice tv a cv) a U (.tmp 33) (.tmp 37) ga kk gc Vk (by rfl) (by rfl) (by rfl) (by rfl) HA.out (by omega) (by omega) (by omega) HRk.out ?_; intro v9 w9 l9 b9)
      have HA9 : Hid (Lst B 2 1 w9 v9 (a + kk) (catU U (a * 1) Vk)) := l9
      have HB9 : Hid (Below B w6 w9) := HB.out.trans b9
      have HBw9 : Hid (Below w6.heap.size w6 w9) := by have := HBB.out; show Below _ _ _; rw [← this]; exact HB9.out
      have HP9 : Hid (Blk w9 p [.int .i64 x, .slice t m cap]) := HP6.out.below HBw9.out
      have HG9 : Hid (RowGat w9 t m X K V) := HG6.out.below HBw9.out
      have HT9 : Hid (RowI w9 s5 l F) := HT6.out.below HBw9.out
      have zB9 : B ≤ w9.heap.size := Nat.le_trans zBa b9.size
      have HR9 : Hid (RowI w9 ga kk Vk) := HR6.out.below HBw9.out
      have HGC9 : Hid (w9.cell? ⟨gb, go + k, none⟩ = some (.slice ga kk gc) ∧ gb < w9.heap.size) := ⟨(HBw9.out.cell (p := ⟨gb, go + k, none⟩) HGC6.out.2).trans HGC6.out.1, Nat.lt_of_lt_of_le HGC6.out.2 HBw9.out.size⟩
      clear HP HG HT HA HB HBw hgc hgb HGC HRk
      cases qf : fyB x m X K V kk Vk
      case false =>
        have HFB : Hid (fyB x m X K V kk Vk = false) := qf
        have HHB : Hid (hasW F l (k : Int) = false) := by show _ = _; rw [HHK.out, qf]; rfl
        clear qf
        refine wp_region_held_drew (S := fun w' => w'.cell? ⟨p, 0, none⟩ = some (.int .i64 x) ∧ w'.cell? ⟨p, 1, none⟩ = some (.slice t m cap) ∧ p < w'.heap.size ∧ w'.cell? ⟨gb, go + k, none⟩ = some (.slice ga kk gc) ∧ gb < w'.heap.size) (by kernel_rfl) ?_ (fun hHeld => ?_)
        · exact ⟨HP9.out.2.2 0 _ rfl, HP9.out.2.2 1 _ rfl, HP9.out.1, HGC9.out.1, HGC9.out.2⟩
        obtain ⟨v0, hv0⟩ : ∃ z, z = w9.drew := ⟨_, rfl⟩
        try rw [← hv0] at hHeld
        rw [← hv0]
        have bv0 : Below w9.heap.size w9 v0 := by rw [hv0]; exact Below.drew (Below.refl _ _)
        clear hv0
        have HP0 : Hid (Blk v0 p [.int .i64 x, .slice t m cap]) := HP9.out.below bv0
        have HG0 : Hid (RowGat v0 t m X K V) := HG9.out.below bv0
        have HT0 : Hid (RowI v0 s5 l F) := HT9.out.below bv0
        have HR0 : Hid (RowI v0 ga kk Vk) := HR9.out.below bv0
        have HA0 : Hid (Lst B 2 1 v0 v9 (a + kk) (catU U (a * 1) Vk)) := HA9.out.below bv0
        have HB0 : Hid (Below B w6 v0) := HB9.out.trans (bv0.mono zB9)
        have zB0 : B ≤ v0.heap.size := Nat.le_trans zB9 bv0.size
        have HGC0 : Hid (v0.cell? ⟨gb, go + k, none⟩ = some (.slice ga kk gc) ∧ gb < v0.heap.size) := ⟨(bv0.cell (p := ⟨gb, go + k, none⟩) HGC9.out.2).trans HGC9.out.1, Nat.lt_of_lt_of_le HGC9.out.2 bv0.size⟩
        have HV : Hid (Below v0.heap.size v0 v0) := Below.refl _ _
        clear bv0
        refine wpAnyH_take (i := 0) (v := .slice s5 l c5) rfl (by kernel_rfl) (by kernel_rfl) (by kernel_rfl) (fun _ _ _ h => h) (Or.inl ⟨by kernel_rfl, ?_⟩) hHeld ?_
        · intro w' hSw
          obtain ⟨hc0, hc1, hz1, hc2, hz2⟩ := hSw
          first | (go_simp; done) | (go_simp; with_reducible rfl) | (go_simp; rw [IntKind.wrap_i64]; omega) | (go_simp; omega)
        simp only [Act.put, List.setIfInBounds_toArray, List.set_cons_zero, List.set_cons_succ]
        refine wpAnyH_take (i := 1) (v := .int .i64 (k : Int)) rfl (by kernel_rfl) (by kernel_rfl) (by kernel_rfl) (fun _ _ _ h => h) (Or.inl ⟨by kernel_rfl, ?_⟩) hHeld ?_
        · intro w' hSw
          obtain ⟨hc0, hc1, hz1, hc2, hz2⟩ := hSw
          first | (go_simp; done) | (go_simp; with_reducible rfl) | (go_simp; rw [IntKind.wrap_i64]; omega) | (go_simp; omega)
        simp only [Act.put, List.setIfInBounds_toArray, List.set_cons_zero, List.set_cons_succ]
        refine wpAnyH_take (i := 3) (v := .agg #[.int .i64 x, .slice t m cap]) rfl (by kernel_rfl) (by kernel_rfl) (by kernel_rfl) (fun _ _ _ h => h) (Or.inl ⟨by kernel_rfl, ?_⟩) hHeld ?_
        · intro w' hSw
          obtain ⟨hc0, hc1, hz1, hc2, hz2⟩ := hSw
          first | (go_simp; done) | (go_simp; with_reducible rfl) | (go_simp; rw [IntKind.wrap_i64]; omega) | (go_simp; omega)
        simp only [Act.put, List.setIfInBounds_toArray, List.set_cons_zero, List.set_cons_succ]
        refine wpAnyH_take (i := 5) (v := .slice (some ⟨gb, go, none⟩) m2 c2) rfl (by kernel_rfl) (by kernel_rfl) (by kernel_rfl) (fun _ _ _ h => h) (Or.inl ⟨by kernel_rfl, ?_⟩) hHeld ?_
        · intro w' hSw
          obtain ⟨hc0, hc1, hz1, hc2, hz2⟩ := hSw
          first | (go_simp; done) | (go_simp; with_reducible rfl) | (go_simp; rw [IntKind.wrap_i64]; omega) | (go_simp; omega)
        simp only [Act.put, List.setIfInBounds_toArray, List.set_cons_zero, List.set_cons_succ]
        refine wpAnyH_take (i := 6) (v := .int .i64 (k : Int)) rfl (by kernel_rfl) (by kernel_rfl) (by kernel_rfl) (fun _ _ _ h => h) (Or.inl ⟨by kernel_rfl, ?_⟩) hHeld ?_
        · intro w' hSw
          obtain ⟨hc0, hc1, hz1, hc2, hz2⟩ := hSw
          first | (go_simp; done) | (go_simp; with_reducible rfl) | (go_simp; rw [IntKind.wrap_i64]; omega) | (go_simp; omega)
        simp only [Act.put, List.setIfInBounds_toArray, List.set_cons_zero, List.set_cons_succ]
        refine wpAnyH_take (i := 7) (v := .pointer (some ⟨gb, go + k, none⟩)) rfl (by kernel_rfl) (by kernel_rfl) (by kernel_rfl) (fun _ _ _ h => h) (Or.inl ⟨by kernel_rfl, ?_⟩) hHeld ?_
        · intro w' hSw
          obtain ⟨hc0, hc1, hz1, hc2, hz2⟩ := hSw
          first | (go_simp; done) | (go_simp; with_reducible rfl) | (go_simp; rw [IntKind.wrap_i64]; omega) | (go_simp; omega)
        simp only [Act.put, List.setIfInBounds_toArray, List.set_cons_zero, List.set_cons_succ]
        refine wpAnyH_take (i := 8) (v := .slice ga kk gc) rfl (by kernel_rfl) (by kernel_rfl) (by kernel_rfl) (fun _ _ _ h => h) (Or.inl ⟨by kernel_rfl, ?_⟩) hHeld ?_
        · intro w' hSw
          obtain ⟨hc0, hc1, hz1, hc2, hz2⟩ := hSw
          first | (go_simp; done) | (go_simp; with_reducible rfl) | (go_simp; rw [IntKind.wrap_i64]; omega) | (go_simp; omega)
        simp only [Act.put, List.setIfInBounds_toArray, List.set_cons_zero, List.set_cons_succ]
        refine wpAnyH_ready (rs := [2, 4]) (by kernel_rfl) (by simp) ?_
        refine (AllReadyH.cons rfl (fun KK hK => ?_) (AllReadyH.cons rfl (fun KK hK => ?_) AllReadyH.nil))
        · go_simp
          go_wp2_with (first | (go_at_call 14; refine (hasL_any s5 l c5 F (k : Int) _ (by omega) (HT0.out.below HV.out)).mono ?_; rintro e v0 ⟨rfl, rfl⟩; rw [HHB.out]))
          refine hK.out _ _ (⟨(HV.out.cell (p := ⟨p, 0, none⟩) HP0.out.1).trans (HP0.out.2.2 0 _ rfl), (HV.out.cell (p := ⟨p, 1, none⟩) HP0.out.1).trans (HP0.out.2.2 1 _ rfl), Nat.lt_of_lt_of_le HP0.out.1 HV.out.size, (HV.out.cell (p := ⟨gb, go + k, none⟩) HGC0.out.2).trans (HGC0.out.1), Nat.lt_of_lt_of_le HGC0.out.2 HV.out.size⟩) (fun hHeld => ?_)
          clear hK KK
          refine wpAnyH_ready (rs := [4]) (by kernel_rfl) (by simp) ?_
          refine (AllReadyH.cons rfl (fun KK hK => ?_) AllReadyH.nil)
          go_simp
          obtain ⟨v0_2, hv_⟩ : ∃ z, z = v0.alloc (.cells #[] 2) := ⟨_, rfl⟩
          rw [← hv_]
          obtain ⟨lb, hlb⟩ : ∃ z, z = v0.heap.size := ⟨_, rfl⟩
          have b_ : Below v0.heap.size v0 v0_2 := by rw [hv_]; exact below0 _ _
          have HLit : Hid (Lst lb 2 1 v0_2 (.slice (some ⟨lb, 0, none⟩) 0 0) 0 (fun _ => 0)) := by show Lst _ _ _ _ _ _ _; rw [hv_, hlb]; exact Lst.lit v0 _ _ 2 1 _ (Nat.le_refl _)
          have HZl : Hid (lb ≤ v0_2.heap.size) := by show _ ≤ _; rw [hlb]; exact b_.size
          have zlb : v0.heap.size ≤ lb := by rw [hlb]; exact HV.out.size
          replace HV : Hid (Below v0.heap.size v0 v0_2) := HV.out.trans (b_.mono HV.out.size)
          try rw [← hlb]
          clear hv_ hlb b_
          refine hK.out _ _ (⟨(HV.out.cell (p := ⟨p, 0, none⟩) HP0.out.1).trans (HP0.out.2.2 0 _ rfl), (HV.out.cell (p := ⟨p, 1, none⟩) HP0.out.1).trans (HP0.out.2.2 1 _ rfl), Nat.lt_of_lt_of_le HP0.out.1 HV.out.size, (HV.out.cell (p := ⟨gb, go + k, none⟩) HGC0.out.2).trans (HGC0.out.1), Nat.lt_of_lt_of_le HGC0.out.2 HV.out.size⟩) (fun hHeld => ?_)
          clear hK KK
          refine wpAnyH_ready (rs := [9]) (by kernel_rfl) (by simp) ?_
          refine (AllReadyH.cons rfl (fun KK hK => ?_) AllReadyH.nil)
          refine join_op lb (.slice (some ⟨lb, 0, none⟩) 0 0) 0 (fun _ => 0) (.tmp 43) (.tmp 47) ga kk gc Vk (by rfl) (by rfl) (by rfl) HLit.out (by omega) (by omega) HZl.out (HR0.out.below HV.out) ?_
          intro v8 v0_3 l8 b8
          rw [Nat.zero_add] at l8
          obtain ⟨t8, c8, e8⟩ := Lst.form l8
          subst e8
          have HL8 : Hid (RowI v0_3 t8 kk (catU (fun _ => 0) (0 * 1) Vk)) := by
            obtain ⟨t', c', e', hO⟩ := Lst.own l8
            cases e'
            rw [Nat.mul_one] at hO
            exact hO.row
          replace HV : Hid (Below v0.heap.size v0 v0_3) := HV.out.trans (b8.mono zlb)
          clear l8 b8 HLit HZl
          go_simp
          refine hK.out _ _ (⟨(HV.out.cell (p := ⟨p, 0, none⟩) HP0.out.1).trans (HP0.out.2.2 0 _ rfl), (HV.out.cell (p := ⟨p, 1, none⟩) HP0.out.1).trans (HP0.out.2.2 1 _ rfl), Nat.lt_of_lt_of_le HP0.out.1 HV.out.size, (HV.out.cell (p := ⟨gb, go + k, none⟩) HGC0.out.2).trans (HGC0.out.1), Nat.lt_of_lt_of_le HGC0.out.2 HV.out.size⟩) (fun hHeld => ?_)
          clear hK KK
          refine wpAnyH_ready (rs := [10]) (by kernel_rfl) (by simp) ?_
          refine (AllReadyH.cons rfl (fun KK hK => ?_) AllReadyH.nil)
          go_simp
          go_wp2_with (first | (go_at_call 15; refine (implFailsBy_any x t m cap X K V t8 kk c8 (catU (fun _ => 0) (0 * 1) Vk) _ (by omega) (HG0.out.below HV.out) HL8).mono ?_; rintro e v0_4 ⟨rfl, h8⟩; rw [fy_cat, HFB.out]; replace HV : Hid (Below v0.heap.size v0 v0_4) := HV.out.trans (h8.mono HV.out.size); clear h8))
          refine hK.out _ _ (⟨(HV.out.cell (p := ⟨p, 0, none⟩) HP0.out.1).trans (HP0.out.2.2 0 _ rfl), (HV.out.cell (p := ⟨p, 1, none⟩) HP0.out.1).trans (HP0.out.2.2 1 _ rfl), Nat.lt_of_lt_of_le HP0.out.1 HV.out.size, (HV.out.cell (p := ⟨gb, go + k, none⟩) HGC0.out.2).trans (HGC0.out.1), Nat.lt_of_lt_of_le HGC0.out.2 HV.out.size⟩) (fun hHeld => ?_)
          clear hK KK
          refine wpAnyH_take (i := 11) (v := .bool false) rfl (by kernel_rfl) (by kernel_rfl) (by kernel_rfl) (fun _ _ _ h => h) (Or.inl ⟨by kernel_rfl, ?_⟩) hHeld ?_
          · intro w' hSw
            obtain ⟨hc0, hc1, hz1, hc2, hz2⟩ := hSw
            first | (go_simp; done) | (go_simp; with_reducible rfl) | (go_simp; rw [IntKind.wrap_i64]; omega) | (go_simp; omega)
          simp only [Act.put, List.setIfInBounds_toArray, List.set_cons_zero, List.set_cons_succ]
          refine wpAnyH_take (i := 12) (v := undef) rfl (by kernel_rfl) (by kernel_rfl) (by kernel_rfl) (fun _ _ _ h => h) (Or.inr ⟨by kernel_rfl, rfl⟩) hHeld ?_
          simp only [Act.put, List.setIfInBounds_toArray, List.set_cons_zero, List.set_cons_succ]
          refine wpAnyH_take (i := 13) (v := undef) rfl (by kernel_rfl) (by kernel_rfl) (by kernel_rfl) (fun _ _ _ h => h) (Or.inr ⟨by kernel_rfl, rfl⟩) hHeld ?_
          simp only [Act.put, List.setIfInBounds_toArray, List.set_cons_zero, List.set_cons_succ]
          refine wpAnyH_take (i := 14) (v := undef) rfl (by kernel_rfl) (by kernel_rfl) (by kernel_rfl) (fun _ _ _ h => h) (Or.inr ⟨by kernel_rfl, rfl⟩) hHeld ?_
          simp only [Act.put, List.setIfInBounds_toArray, List.set_cons_zero, List.set_cons_succ]
          refine wpAnyH_take (i := 15) (v := .bool false) rfl (by kernel_rfl) (by kernel_rfl) (by kernel_rfl) (fun _ _ _ h => h) (Or.inl ⟨by kernel_rfl, ?_⟩) hHeld ?_
          · intro w' hSw
            obtain ⟨hc0, hc1, hz1, hc2, hz2⟩ := hSw
            first | (go_simp; done) | (go_simp; with_reducible rfl) | (go_simp; rw [IntKind.wrap_i64]; omega) | (go_simp; omega)
          simp only [Act.put, List.setIfInBounds_toArray, List.set_cons_zero, List.set_cons_succ]
          refine wpAnyH_ready (rs := [16]) (by kernel_rfl) (by simp) ?_
          refine AllReadyH.cons rfl (fun KK hK => ?_) AllReadyH.nil
          go_simp
          refine hK.out _ _ hHeld (fun hHeld => ?_)
          clear hK KK
          refine wpAnyH_done (by kernel_rfl) ?_ _
          clear hHeld
          have HA8 : Hid (Lst B 2 1 v0_4 v9 (a + kk) (catU U (a * 1) Vk)) := HA0.out.below HV.out
          have HB8 : Hid (Below B w6 v0_4) := HB0.out.trans (HV.out.mono zB0)
          go_wp2
          go_roundw
          case rel => exact ⟨k + 1, a + kk, _, by omega, by go_num, by omega, HA8, HB8, HIN⟩
          case measure => first | (simp [intOf]; done) | (simp [intOf]; omega)
        · go_simp
          obtain ⟨v0_5, hv_⟩ : ∃ z, z = v0.alloc (.cells #[] 2) := ⟨_, rfl⟩
          rw [← hv_]
          obtain ⟨lb, hlb⟩ : ∃ z, z = v0.heap.size := ⟨_, rfl⟩
          have b_ : Below v0.heap.size v0 v0_5 := by rw [hv_]; exact below0 _ _
          have HLit : Hid (Lst lb 2 1 v0_5 (.slice (some ⟨lb, 0, none⟩) 0 0) 0 (fun _ => 0)) := by show Lst _ _ _ _ _ _ _; rw [hv_, hlb]; exact Lst.lit v0 _ _ 2 1 _ (Nat.le_refl _)
          have HZl : Hid (lb ≤ v0_5.heap.size) := by show _ ≤ _; rw [hlb]; exact b_.size
          have zlb : v0.heap.size ≤ lb := by rw [hlb]; exact HV.out.size
          replace HV : Hid (Below v0.heap.size v0 v0_5) := HV.out.trans (b_.mono HV.out.size)
          try rw [← hlb]
          clear hv_ hlb b_
          refine hK.out _ _ (⟨(HV.out.cell (p := ⟨p, 0, none⟩) HP0.out.1).trans (HP0.out.2.2 0 _ rfl), (HV.out.cell (p := ⟨p, 1, none⟩) HP0.out.1).trans (HP0.out.2.2 1 _ rfl), Nat.lt_of_lt_of_le HP0.out.1 HV.out.size, (HV.out.cell (p := ⟨gb, go + k, none⟩) HGC0.out.2).trans (HGC0.out.1), Nat.lt_of_lt_of_le HGC0.out.2 HV.out.size⟩) (fun hHeld => ?_)
          clear hK KK
          refine wpAnyH_ready (rs := [2]) (by kernel_rfl) (by simp) ?_
          refine (AllReadyH.cons rfl (fun KK hK => ?_) AllReadyH.nil)
          go_simp
          go_wp2_with (first | (go_at_call 14; refine (hasL_any s5 l c5 F (k : Int) _ (by omega) (HT0.out.below HV.out)).mono ?_; rintro e v0_5 ⟨rfl, rfl⟩; rw [HHB.out]))
          refine hK.out _ _ (⟨(HV.out.cell (p := ⟨p, 0, none⟩) HP0.out.1).trans (HP0.out.2.2 0 _ rfl), (HV.out.cell (p := ⟨p, 1, none⟩) HP0.out.1).trans (HP0.out.2.2 1 _ rfl), Nat.lt_of_lt_of_le HP0.out.1 HV.out.size, (HV.out.cell (p := ⟨gb, go + k, none⟩) HGC0.out.2).trans (HGC0.out.1), Nat.lt_of_lt_of_le HGC0.out.2 HV.out.size⟩) (fun hHeld => ?_)
          clear hK KK
          refine wpAnyH_ready (rs := [9]) (by kernel_rfl) (by simp) ?_
          refine (AllReadyH.cons rfl (fun KK hK => ?_) AllReadyH.nil)
          refine join_op lb (.slice (some ⟨lb, 0, none⟩) 0 0) 0 (fun _ => 0) (.tmp 43) (.tmp 47) ga kk gc Vk (by rfl) (by rfl) (by rfl) HLit.out (by omega) (by omega) HZl.out (HR0.out.below HV.out) ?_
          intro v8 v0_7 l8 b8
          rw [Nat.zero_add] at l8
          obtain ⟨t8, c8, e8⟩ := Lst.form l8
          subst e8
          have HL8 : Hid (RowI v0_7 t8 kk (catU (fun _ => 0) (0 * 1) Vk)) := by
            obtain ⟨t', c', e', hO⟩ := Lst.own l8
            cases e'
            rw [Nat.mul_one] at hO
            exact hO.row
          replace HV : Hid (Below v0.heap.size v0 v0_7) := HV.out.trans (b8.mono zlb)
          clear l8 b8 HLit HZl
          go_simp
          refine hK.out _ _ (⟨(HV.out.cell (p := ⟨p, 0, none⟩) HP0.out.1).trans (HP0.out.2.2 0 _ rfl), (HV.out.cell (p := ⟨p, 1, none⟩) HP0.out.1).trans (HP0.out.2.2 1 _ rfl), Nat.lt_of_lt_of_le HP0.out.1 HV.out.size, (HV.out.cell (p := ⟨gb, go + k, none⟩) HGC0.out.2).trans (HGC0.out.1), Nat.lt_of_lt_of_le HGC0.out.2 HV.out.size⟩) (fun hHeld => ?_)
          clear hK KK
          refine wpAnyH_ready (rs := [10]) (by kernel_rfl) (by simp) ?_
          refine (AllReadyH.cons rfl (fun KK hK => ?_) AllReadyH.nil)
          go_simp
          go_wp2_with (first | (go_at_call 15; refine (implFailsBy_any x t m cap X K V t8 kk c8 (catU (fun _ => 0) (0 * 1) Vk) _ (by omega) (HG0.out.below HV.out) HL8).mono ?_; rintro e v0_8 ⟨rfl, h8⟩; rw [fy_cat, HFB.out]; replace HV : Hid (Below v0.heap.size v0 v0_8) := HV.out.trans (h8.mono HV.out.size); clear h8))
          refine hK.out _ _ (⟨(HV.out.cell (p := ⟨p, 0, none⟩) HP0.out.1).trans (HP0.out.2.2 0 _ rfl), (HV.out.cell (p := ⟨p, 1, none⟩) HP0.out.1).trans (HP0.out.2.2 1 _ rfl), Nat.lt_of_lt_of_le HP0.out.1 HV.out.size, (HV.out.cell (p := ⟨gb, go + k, none⟩) HGC0.out.2).trans (HGC0.out.1), Nat.lt_of_lt_of_le HGC0.out.2 HV.out.size⟩) (fun hHeld => ?_)
          clear hK KK
          refine wpAnyH_take (i := 11) (v := .bool false) rfl (by kernel_rfl) (by kernel_rfl) (by kernel_rfl) (fun _ _ _ h => h) (Or.inl ⟨by kernel_rfl, ?_⟩) hHeld ?_
          · intro w' hSw
            obtain ⟨hc0, hc1, hz1, hc2, hz2⟩ := hSw
            first | (go_simp; done) | (go_simp; with_reducible rfl) | (go_simp; rw [IntKind.wrap_i64]; omega) | (go_simp; omega)
          simp only [Act.put, List.setIfInBounds_toArray, List.set_cons_zero, List.set_cons_succ]
          refine wpAnyH_take (i := 12) (v := undef) rfl (by kernel_rfl) (by kernel_rfl) (by kernel_rfl) (fun _ _ _ h => h) (Or.inr ⟨by kernel_rfl, rfl⟩) hHeld ?_
          simp only [Act.put, List.setIfInBounds_toArray, List.set_cons_zero, List.set_cons_succ]
          refine wpAnyH_take (i := 13) (v := undef) rfl (by kernel_rfl) (by kernel_rfl) (by kernel_rfl) (fun _ _ _ h => h) (Or.inr ⟨by kernel_rfl, rfl⟩) hHeld ?_
          simp only [Act.put, List.setIfInBounds_toArray, List.set_cons_zero, List.set_cons_succ]
          refine wpAnyH_take (i := 14) (v := undef) rfl (by kernel_rfl) (by kernel_rfl) (by kernel_rfl) (fun _ _ _ h => h) (Or.inr ⟨by kernel_rfl, rfl⟩) hHeld ?_
          simp only [Act.put, List.setIfInBounds_toArray, List.set_cons_zero, List.set_cons_succ]
          refine wpAnyH_take (i := 15) (v := .bool false) rfl (by kernel_rfl) (by kernel_rfl) (by kernel_rfl) (fun _ _ _ h => h) (Or.inl ⟨by kernel_rfl, ?_⟩) hHeld ?_
          · intro w' hSw
            obtain ⟨hc0, hc1, hz1, hc2, hz2⟩ := hSw
            first | (go_simp; done) | (go_simp; with_reducible rfl) | (go_simp; rw [IntKind.wrap_i64]; omega) | (go_simp; omega)
          simp only [Act.put, List.setIfInBounds_toArray, List.set_cons_zero, List.set_cons_succ]
          refine wpAnyH_ready (rs := [16]) (by kernel_rfl) (by simp) ?_
          refine AllReadyH.cons rfl (fun KK hK => ?_) AllReadyH.nil
          go_simp
          refine hK.out _ _ hHeld (fun hHeld => ?_)
          clear hK KK
          refine wpAnyH_done (by kernel_rfl) ?_ _
          clear hHeld
          have HA8 : Hid (Lst B 2 1 v0_8 v9 (a + kk) (catU U (a * 1) Vk)) := HA0.out.below HV.out
          have HB8 : Hid (Below B w6 v0_8) := HB0.out.trans (HV.out.mono zB0)
          go_wp2
          go_roundw
          case rel => exact ⟨k + 1, a + kk, _, by omega, by go_num, by omega, HA8, HB8, HIN⟩
          case measure => first | (simp [intOf]; done) | (simp [intOf]; omega)
      case true =>
        have HFB : Hid (fyB x m X K V kk Vk = true) := qf
        cases qd : decide ((m2 : Int) ≤ 100)
        case true =>
          have HHB : Hid (hasW F l (k : Int) = true) := by show _ = _; rw [HHK.out, qf, qd]; rfl
          clear qf
          refine wp_region_held_drew (S := fun w' => w'.cell? ⟨p, 0, none⟩ = some (.int .i64 x) ∧ w'.cell? ⟨p, 1, none⟩ = some (.slice t m cap) ∧ p < w'.heap.size ∧ w'.cell? ⟨gb, go + k, none⟩ = some (.slice ga kk gc) ∧ gb < w'.heap.size) (by kernel_rfl) ?_ (fun hHeld => ?_)
          · exact ⟨HP9.out.2.2 0 _ rfl, HP9.out.2.2 1 _ rfl, HP9.out.1, HGC9.out.1, HGC9.out.2⟩
          obtain ⟨v0, hv0⟩ : ∃ z, z = w9.drew := ⟨_, rfl⟩
          try rw [← hv0] at hHeld
          rw [← hv0]
          have bv0 : Below w9.heap.size w9 v0 := by rw [hv0]; exact Below.drew (Below.refl _ _)
          clear hv0
          have HP0 : Hid (Blk v0 p [.int .i64 x, .slice t m cap]) := HP9.out.below bv0
          have HG0 : Hid (RowGat v0 t m X K V) := HG9.out.below bv0
          have HT0 : Hid (RowI v0 s5 l F) := HT9.out.below bv0
          have HR0 : Hid (RowI v0 ga kk Vk) := HR9.out.below bv0
          have HA0 : Hid (Lst B 2 1 v0 v9 (a + kk) (catU U (a * 1) Vk)) := HA9.out.below bv0
          have HB0 : Hid (Below B w6 v0) := HB9.out.trans (bv0.mono zB9)
          have zB0 : B ≤ v0.heap.size := Nat.le_trans zB9 bv0.size
          have HGC0 : Hid (v0.cell? ⟨gb, go + k, none⟩ = some (.slice ga kk gc) ∧ gb < v0.heap.size) := ⟨(bv0.cell (p := ⟨gb, go + k, none⟩) HGC9.out.2).trans HGC9.out.1, Nat.lt_of_lt_of_le HGC9.out.2 bv0.size⟩
          have HV : Hid (Below v0.heap.size v0 v0) := Below.refl _ _
          clear bv0
          refine wpAnyH_take (i := 0) (v := .slice s5 l c5) rfl (by kernel_rfl) (by kernel_rfl) (by kernel_rfl) (fun _ _ _ h => h) (Or.inl ⟨by kernel_rfl, ?_⟩) hHeld ?_
          · intro w' hSw
            obtain ⟨hc0, hc1, hz1, hc2, hz2⟩ := hSw
            first | (go_simp; done) | (go_simp; with_reducible rfl) | (go_simp; rw [IntKind.wrap_i64]; omega) | (go_simp; omega)
          simp only [Act.put, List.setIfInBounds_toArray, List.set_cons_zero, List.set_cons_succ]
          refine wpAnyH_take (i := 1) (v := .int .i64 (k : Int)) rfl (by kernel_rfl) (by kernel_rfl) (by kernel_rfl) (fun _ _ _ h => h) (Or.inl ⟨by kernel_rfl, ?_⟩) hHeld ?_
          · intro w' hSw
            obtain ⟨hc0, hc1, hz1, hc2, hz2⟩ := hSw
            first | (go_simp; done) | (go_simp; with_reducible rfl) | (go_simp; rw [IntKind.wrap_i64]; omega) | (go_simp; omega)
          simp only [Act.put, List.setIfInBounds_toArray, List.set_cons_zero, List.set_cons_succ]
          refine wpAnyH_take (i := 3) (v := .agg #[.int .i64 x, .slice t m cap]) rfl (by kernel_rfl) (by kernel_rfl) (by kernel_rfl) (fun _ _ _ h => h) (Or.inl ⟨by kernel_rfl, ?_⟩) hHeld ?_
          · intro w' hSw
            obtain ⟨hc0, hc1, hz1, hc2, hz2⟩ := hSw
            first | (go_simp; done) | (go_simp; with_reducible rfl) | (go_simp; rw [IntKind.wrap_i64]; omega) | (go_simp; omega)
          simp only [Act.put, List.setIfInBounds_toArray, List.set_cons_zero, List.set_cons_succ]
          refine wpAnyH_take (i := 5) (v := .slice (some ⟨gb, go, none⟩) m2 c2) rfl (by kernel_rfl) (by kernel_rfl) (by kernel_rfl) (fun _ _ _ h => h) (Or.inl ⟨by kernel_rfl, ?_⟩) hHeld ?_
          · intro w' hSw
            obtain ⟨hc0, hc1, hz1, hc2, hz2⟩ := hSw
            first | (go_simp; done) | (go_simp; with_reducible rfl) | (go_simp; rw [IntKind.wrap_i64]; omega) | (go_simp; omega)
          simp only [Act.put, List.setIfInBounds_toArray, List.set_cons_zero, List.set_cons_succ]
          refine wpAnyH_take (i := 6) (v := .int .i64 (k : Int)) rfl (by kernel_rfl) (by kernel_rfl) (by kernel_rfl) (fun _ _ _ h => h) (Or.inl ⟨by kernel_rfl, ?_⟩) hHeld ?_
          · intro w' hSw
            obtain ⟨hc0, hc1, hz1, hc2, hz2⟩ := hSw
            first | (go_simp; done) | (go_simp; with_reducible rfl) | (go_simp; rw [IntKind.wrap_i64]; omega) | (go_simp; omega)
          simp only [Act.put, List.setIfInBounds_toArray, List.set_cons_zero, List.set_cons_succ]
          refine wpAnyH_take (i := 7) (v := .pointer (some ⟨gb, go + k, none⟩)) rfl (by kernel_rfl) (by kernel_rfl) (by kernel_rfl) (fun _ _ _ h => h) (Or.inl ⟨by kernel_rfl, ?_⟩) hHeld ?_
          · intro w' hSw
            obtain ⟨hc0, hc1, hz1, hc2, hz2⟩ := hSw
            first | (go_simp; done) | (go_simp; with_reducible rfl) | (go_simp; rw [IntKind.wrap_i64]; omega) | (go_simp; omega)
          simp only [Act.put, List.setIfInBounds_toArray, List.set_cons_zero, List.set_cons_succ]
          refine wpAnyH_take (i := 8) (v := .slice ga kk gc) rfl (by kernel_rfl) (by kernel_rfl) (by kernel_rfl) (fun _ _ _ h => h) (Or.inl ⟨by kernel_rfl, ?_⟩) hHeld ?_
          · intro w' hSw
            obtain ⟨hc0, hc1, hz1, hc2, hz2⟩ := hSw
            first | (go_simp; done) | (go_simp; with_reducible rfl) | (go_simp; rw [IntKind.wrap_i64]; omega) | (go_simp; omega)
          simp only [Act.put, List.setIfInBounds_toArray, List.set_cons_zero, List.set_cons_succ]
          refine wpAnyH_ready (rs := [2, 4]) (by kernel_rfl) (by simp) ?_
          refine (AllReadyH.cons rfl (fun KK hK => ?_) (AllReadyH.cons rfl (fun KK hK => ?_) AllReadyH.nil))
          · go_simp
            go_wp2_with (first | (go_at_call 14; refine (hasL_any s5 l c5 F (k : Int) _ (by omega) (HT0.out.below HV.out)).mono ?_; rintro e v0 ⟨rfl, rfl⟩; rw [HHB.out]))
            refine hK.out _ _ (⟨(HV.out.cell (p := ⟨p, 0, none⟩) HP0.out.1).trans (HP0.out.2.2 0 _ rfl), (HV.out.cell (p := ⟨p, 1, none⟩) HP0.out.1).trans (HP0.out.2.2 1 _ rfl), Nat.lt_of_lt_of_le HP0.out.1 HV.out.size, (HV.out.cell (p := ⟨gb, go + k, none⟩) HGC0.out.2).trans (HGC0.out.1), Nat.lt_of_lt_of_le HGC0.out.2 HV.out.size⟩) (fun hHeld => ?_)
            clear hK KK
            refine wpAnyH_ready (rs := [4]) (by kernel_rfl) (by simp) ?_
            refine (AllReadyH.cons rfl (fun KK hK => ?_) AllReadyH.nil)
            go_simp
            obtain ⟨v0_2, hv_⟩ : ∃ z, z = v0.alloc (.cells #[] 2) := ⟨_, rfl⟩
            rw [← hv_]
            obtain ⟨lb, hlb⟩ : ∃ z, z = v0.heap.size := ⟨_, rfl⟩
            have b_ : Below v0.heap.size v0 v0_2 := by rw [hv_]; exact below0 _ _
            have HLit : Hid (Lst lb 2 1 v0_2 (.slice (some ⟨lb, 0, none⟩) 0 0) 0 (fun _ => 0)) := by show Lst _ _ _ _ _ _ _; rw [hv_, hlb]; exact Lst.lit v0 _ _ 2 1 _ (Nat.le_refl _)
            have HZl : Hid (lb ≤ v0_2.heap.size) := by show _ ≤ _; rw [hlb]; exact b_.size
            have zlb : v0.heap.size ≤ lb := by rw [hlb]; exact HV.out.size
            replace HV : Hid (Below v0.heap.size v0 v0_2) := HV.out.trans (b_.mono HV.out.size)
            try rw [← hlb]
            clear hv_ hlb b_
            refine hK.out _ _ (⟨(HV.out.cell (p := ⟨p, 0, none⟩) HP0.out.1).trans (HP0.out.2.2 0 _ rfl), (HV.out.cell (p := ⟨p, 1, none⟩) HP0.out.1).trans (HP0.out.2.2 1 _ rfl), Nat.lt_of_lt_of_le HP0.out.1 HV.out.size, (HV.out.cell (p := ⟨gb, go + k, none⟩) HGC0.out.2).trans (HGC0.out.1), Nat.lt_of_lt_of_le HGC0.out.2 HV.out.size⟩) (fun hHeld => ?_)
            clear hK KK
            refine wpAnyH_ready (rs := [9]) (by kernel_rfl) (by simp) ?_
            refine (AllReadyH.cons rfl (fun KK hK => ?_) AllReadyH.nil)
            refine join_op lb (.slice (some ⟨lb, 0, none⟩) 0 0) 0 (fun _ => 0) (.tmp 43) (.tmp 47) ga kk gc Vk (by rfl) (by rfl) (by rfl) HLit.out (by omega) (by omega) HZl.out (HR0.out.below HV.out) ?_
            intro v8 v0_3 l8 b8
            rw [Nat.zero_add] at l8
            obtain ⟨t8, c8, e8⟩ := Lst.form l8
            subst e8
            have HL8 : Hid (RowI v0_3 t8 kk (catU (fun _ => 0) (0 * 1) Vk)) := by
              obtain ⟨t', c', e', hO⟩ := Lst.own l8
              cases e'
              rw [Nat.mul_one] at hO
              exact hO.row
            replace HV : Hid (Below v0.heap.size v0 v0_3) := HV.out.trans (b8.mono zlb)
            clear l8 b8 HLit HZl
            go_simp
            refine hK.out _ _ (⟨(HV.out.cell (p := ⟨p, 0, none⟩) HP0.out.1).trans (HP0.out.2.2 0 _ rfl), (HV.out.cell (p := ⟨p, 1, none⟩) HP0.out.1).trans (HP0.out.2.2 1 _ rfl), Nat.lt_of_lt_of_le HP0.out.1 HV.out.size, (HV.out.cell (p := ⟨gb, go + k, none⟩) HGC0.out.2).trans (HGC0.out.1), Nat.lt_of_lt_of_le HGC0.out.2 HV.out.size⟩) (fun hHeld => ?_)
            clear hK KK
            refine wpAnyH_ready (rs := [10]) (by kernel_rfl) (by simp) ?_
            refine (AllReadyH.cons rfl (fun KK hK => ?_) AllReadyH.nil)
            go_simp
            go_wp2_with (first | (go_at_call 15; refine (implFailsBy_any x t m cap X K V t8 kk c8 (catU (fun _ => 0) (0 * 1) Vk) _ (by omega) (HG0.out.below HV.out) HL8).mono ?_; rintro e v0_4 ⟨rfl, h8⟩; rw [fy_cat, HFB.out]; replace HV : Hid (Below v0.heap.size v0 v0_4) := HV.out.trans (h8.mono HV.out.size); clear h8))
            refine hK.out _ _ (⟨(HV.out.cell (p := ⟨p, 0, none⟩) HP0.out.1).trans (HP0.out.2.2 0 _ rfl), (HV.out.cell (p := ⟨p, 1, none⟩) HP0.out.1).trans (HP0.out.2.2 1 _ rfl), Nat.lt_of_lt_of_le HP0.out.1 HV.out.size, (HV.out.cell (p := ⟨gb, go + k, none⟩) HGC0.out.2).trans (HGC0.out.1), Nat.lt_of_lt_of_le HGC0.out.2 HV.out.size⟩) (fun hHeld => ?_)
            clear hK KK
            refine wpAnyH_take (i := 11) (v := .bool true) rfl (by kernel_rfl) (by kernel_rfl) (by kernel_rfl) (fun _ _ _ h => h) (Or.inl ⟨by kernel_rfl, ?_⟩) hHeld ?_
            · intro w' hSw
              obtain ⟨hc0, hc1, hz1, hc2, hz2⟩ := hSw
              first | (go_simp; done) | (go_simp; with_reducible rfl) | (go_simp; rw [IntKind.wrap_i64]; omega) | (go_simp; omega)
            simp only [Act.put, List.setIfInBounds_toArray, List.set_cons_zero, List.set_cons_succ]
            refine wpAnyH_take (i := 12) (v := .slice (some ⟨gb, go, none⟩) m2 c2) rfl (by kernel_rfl) (by kernel_rfl) (by kernel_rfl) (fun _ _ _ h => h) (Or.inl ⟨by kernel_rfl, ?_⟩) hHeld ?_
            · intro w' hSw
              obtain ⟨hc0, hc1, hz1, hc2, hz2⟩ := hSw
              first | (go_simp; done) | (go_simp; with_reducible rfl) | (go_simp; rw [IntKind.wrap_i64]; omega) | (go_simp; omega)
            simp only [Act.put, List.setIfInBounds_toArray, List.set_cons_zero, List.set_cons_succ]
            refine wpAnyH_take (i := 13) (v := .int .i64 (m2 : Int)) rfl (by kernel_rfl) (by kernel_rfl) (by kernel_rfl) (fun _ _ _ h => h) (Or.inl ⟨by kernel_rfl, ?_⟩) hHeld ?_
            · intro w' hSw
              obtain ⟨hc0, hc1, hz1, hc2, hz2⟩ := hSw
              first | (go_simp; done) | (go_simp; with_reducible rfl) | (go_simp; rw [IntKind.wrap_i64]; omega) | (go_simp; omega)
            simp only [Act.put, List.setIfInBounds_toArray, List.set_cons_zero, List.set_cons_succ]
            refine wpAnyH_take (i := 14) (v := .bool true) rfl (by kernel_rfl) (by kernel_rfl) (by kernel_rfl) (fun _ _ _ h => h) (Or.inl ⟨by kernel_rfl, ?_⟩) hHeld ?_
            · intro w' hSw
              obtain ⟨hc0, hc1, hz1, hc2, hz2⟩ := hSw
              first | (go_simp; done) | (go_simp; with_reducible rfl) | (go_simp; rw [IntKind.wrap_i64]; omega) | (go_simp; omega)
            simp only [Act.put, List.setIfInBounds_toArray, List.set_cons_zero, List.set_cons_succ]
            refine wpAnyH_take (i := 15) (v := .bool true) rfl (by kernel_rfl) (by kernel_rfl) (by kernel_rfl) (fun _ _ _ h => h) (Or.inl ⟨by kernel_rfl, ?_⟩) hHeld ?_
            · intro w' hSw
              obtain ⟨hc0, hc1, hz1, hc2, hz2⟩ := hSw
              first | (go_simp; done) | (go_simp; with_reducible rfl) | (go_simp; rw [IntKind.wrap_i64]; omega) | (go_simp; omega)
            simp only [Act.put, List.setIfInBounds_toArray, List.set_cons_zero, List.set_cons_succ]
            refine wpAnyH_ready (rs := [16]) (by kernel_rfl) (by simp) ?_
            refine AllReadyH.cons rfl (fun KK hK => ?_) AllReadyH.nil
            go_simp
            refine hK.out _ _ hHeld (fun hHeld => ?_)
            clear hK KK
            refine wpAnyH_done (by kernel_rfl) ?_ _
            clear hHeld
            have HA8 : Hid (Lst B 2 1 v0_4 v9 (a + kk) (catU U (a * 1) Vk)) := HA0.out.below HV.out
            have HB8 : Hid (Below B w6 v0_4) := HB0.out.trans (HV.out.mono zB0)
            go_wp2
            go_roundw
            case rel => exact ⟨k + 1, a + kk, _, by omega, by go_num, by omega, HA8, HB8, HIN⟩
            case measure => first | (simp [intOf]; done) | (simp [intOf]; omega)
          · go_simp
            obtain ⟨v0_5, hv_⟩ : ∃ z, z = v0.alloc (.cells #[] 2) := ⟨_, rfl⟩
            rw [← hv_]
            obtain ⟨lb, hlb⟩ : ∃ z, z = v0.heap.size := ⟨_, rfl⟩
            have b_ : Below v0.heap.size v0 v0_5 := by rw [hv_]; exact below0 _ _
            have HLit : Hid (Lst lb 2 1 v0_5 (.slice (some ⟨lb, 0, none⟩) 0 0) 0 (fun _ => 0)) := by show Lst _ _ _ _ _ _ _; rw [hv_, hlb]; exact Lst.lit v0 _ _ 2 1 _ (Nat.le_refl _)
            have HZl : Hid (lb ≤ v0_5.heap.size) := by show _ ≤ _; rw [hlb]; exact b_.size
            have zlb : v0.heap.size ≤ lb := by rw [hlb]; exact HV.out.size
            replace HV : Hid (Below v0.heap.size v0 v0_5) := HV.out.trans (b_.mono HV.out.size)
            try rw [← hlb]
            clear hv_ hlb b_
            refine hK.out _ _ (⟨(HV.out.cell (p := ⟨p, 0, none⟩) HP0.out.1).trans (HP0.out.2.2 0 _ rfl), (HV.out.cell (p := ⟨p, 1, none⟩) HP0.out.1).trans (HP0.out.2.2 1 _ rfl), Nat.lt_of_lt_of_le HP0.out.1 HV.out.size, (HV.out.cell (p := ⟨gb, go + k, none⟩) HGC0.out.2).trans (HGC0.out.1), Nat.lt_of_lt_of_le HGC0.out.2 HV.out.size⟩) (fun hHeld => ?_)
            clear hK KK
            refine wpAnyH_ready (rs := [2]) (by kernel_rfl) (by simp) ?_
            refine (AllReadyH.cons rfl (fun KK hK => ?_) AllReadyH.nil)
            go_simp
            go_wp2_with (first | (go_at_call 14; refine (hasL_any s5 l c5 F (k : Int) _ (by omega) (HT0.out.below HV.out)).mono ?_; rintro e v0_5 ⟨rfl, rfl⟩; rw [HHB.out]))
            refine hK.out _ _ (⟨(HV.out.cell (p := ⟨p, 0, none⟩) HP0.out.1).trans (HP0.out.2.2 0 _ rfl), (HV.out.cell (p := ⟨p, 1, none⟩) HP0.out.1).trans (HP0.out.2.2 1 _ rfl), Nat.lt_of_lt_of_le HP0.out.1 HV.out.size, (HV.out.cell (p := ⟨gb, go + k, none⟩) HGC0.out.2).trans (HGC0.out.1), Nat.lt_of_lt_of_le HGC0.out.2 HV.out.size⟩) (fun hHeld => ?_)
            clear hK KK
            refine wpAnyH_ready (rs := [9]) (by kernel_rfl) (by simp) ?_
            refine (AllReadyH.cons rfl (fun KK hK => ?_) AllReadyH.nil)
            refine join_op lb (.slice (some ⟨lb, 0, none⟩) 0 0) 0 (fun _ => 0) (.tmp 43) (.tmp 47) ga kk gc Vk (by rfl) (by rfl) (by rfl) HLit.out (by omega) (by omega) HZl.out (HR0.out.below HV.out) ?_
            intro v8 v0_7 l8 b8
            rw [Nat.zero_add] at l8
            obtain ⟨t8, c8, e8⟩ := Lst.form l8
            subst e8
            have HL8 : Hid (RowI v0_7 t8 kk (catU (fun _ => 0) (0 * 1) Vk)) := by
              obtain ⟨t', c', e', hO⟩ := Lst.own l8
              cases e'
              rw [Nat.mul_one] at hO
              exact hO.row
            replace HV : Hid (Below v0.heap.size v0 v0_7) := HV.out.trans (b8.mono zlb)
            clear l8 b8 HLit HZl
            go_simp
            refine hK.out _ _ (⟨(HV.out.cell (p := ⟨p, 0, none⟩) HP0.out.1).trans (HP0.out.2.2 0 _ rfl), (HV.out.cell (p := ⟨p, 1, none⟩) HP0.out.1).trans (HP0.out.2.2 1 _ rfl), Nat.lt_of_lt_of_le HP0.out.1 HV.out.size, (HV.out.cell (p := ⟨gb, go + k, none⟩) HGC0.out.2).trans (HGC0.out.1), Nat.lt_of_lt_of_le HGC0.out.2 HV.out.size⟩) (fun hHeld => ?_)
            clear hK KK
            refine wpAnyH_ready (rs := [10]) (by kernel_rfl) (by simp) ?_
            refine (AllReadyH.cons rfl (fun KK hK => ?_) AllReadyH.nil)
            go_simp
            go_wp2_with (first | (go_at_call 15; refine (implFailsBy_any x t m cap X K V t8 kk c8 (catU (fun _ => 0) (0 * 1) Vk) _ (by omega) (HG0.out.below HV.out) HL8).mono ?_; rintro e v0_8 ⟨rfl, h8⟩; rw [fy_cat, HFB.out]; replace HV : Hid (Below v0.heap.size v0 v0_8) := HV.out.trans (h8.mono HV.out.size); clear h8))
            refine hK.out _ _ (⟨(HV.out.cell (p := ⟨p, 0, none⟩) HP0.out.1).trans (HP0.out.2.2 0 _ rfl), (HV.out.cell (p := ⟨p, 1, none⟩) HP0.out.1).trans (HP0.out.2.2 1 _ rfl), Nat.lt_of_lt_of_le HP0.out.1 HV.out.size, (HV.out.cell (p := ⟨gb, go + k, none⟩) HGC0.out.2).trans (HGC0.out.1), Nat.lt_of_lt_of_le HGC0.out.2 HV.out.size⟩) (fun hHeld => ?_)
            clear hK KK
            refine wpAnyH_take (i := 11) (v := .bool true) rfl (by kernel_rfl) (by kernel_rfl) (by kernel_rfl) (fun _ _ _ h => h) (Or.inl ⟨by kernel_rfl, ?_⟩) hHeld ?_
            · intro w' hSw
              obtain ⟨hc0, hc1, hz1, hc2, hz2⟩ := hSw
              first | (go_simp; done) | (go_simp; with_reducible rfl) | (go_simp; rw [IntKind.wrap_i64]; omega) | (go_simp; omega)
            simp only [Act.put, List.setIfInBounds_toArray, List.set_cons_zero, List.set_cons_succ]
            refine wpAnyH_take (i := 12) (v := .slice (some ⟨gb, go, none⟩) m2 c2) rfl (by kernel_rfl) (by kernel_rfl) (by kernel_rfl) (fun _ _ _ h => h) (Or.inl ⟨by kernel_rfl, ?_⟩) hHeld ?_
            · intro w' hSw
              obtain ⟨hc0, hc1, hz1, hc2, hz2⟩ := hSw
              first | (go_simp; done) | (go_simp; with_reducible rfl) | (go_simp; rw [IntKind.wrap_i64]; omega) | (go_simp; omega)
            simp only [Act.put, List.setIfInBounds_toArray, List.set_cons_zero, List.set_cons_succ]
            refine wpAnyH_take (i := 13) (v := .int .i64 (m2 : Int)) rfl (by kernel_rfl) (by kernel_rfl) (by kernel_rfl) (fun _ _ _ h => h) (Or.inl ⟨by kernel_rfl, ?_⟩) hHeld ?_
            · intro w' hSw
              obtain ⟨hc0, hc1, hz1, hc2, hz2⟩ := hSw
              first | (go_simp; done) | (go_simp; with_reducible rfl) | (go_simp; rw [IntKind.wrap_i64]; omega) | (go_simp; omega)
            simp only [Act.put, List.setIfInBounds_toArray, List.set_cons_zero, List.set_cons_succ]
            refine wpAnyH_take (i := 14) (v := .bool true) rfl (by kernel_rfl) (by kernel_rfl) (by kernel_rfl) (fun _ _ _ h => h) (Or.inl ⟨by kernel_rfl, ?_⟩) hHeld ?_
            · intro w' hSw
              obtain ⟨hc0, hc1, hz1, hc2, hz2⟩ := hSw
              first | (go_simp; done) | (go_simp; with_reducible rfl) | (go_simp; rw [IntKind.wrap_i64]; omega) | (go_simp; omega)
            simp only [Act.put, List.setIfInBounds_toArray, List.set_cons_zero, List.set_cons_succ]
            refine wpAnyH_take (i := 15) (v := .bool true) rfl (by kernel_rfl) (by kernel_rfl) (by kernel_rfl) (fun _ _ _ h => h) (Or.inl ⟨by kernel_rfl, ?_⟩) hHeld ?_
            · intro w' hSw
              obtain ⟨hc0, hc1, hz1, hc2, hz2⟩ := hSw
              first | (go_simp; done) | (go_simp; with_reducible rfl) | (go_simp; rw [IntKind.wrap_i64]; omega) | (go_simp; omega)
            simp only [Act.put, List.setIfInBounds_toArray, List.set_cons_zero, List.set_cons_succ]
            refine wpAnyH_ready (rs := [16]) (by kernel_rfl) (by simp) ?_
            refine AllReadyH.cons rfl (fun KK hK => ?_) AllReadyH.nil
            go_simp
            refine hK.out _ _ hHeld (fun hHeld => ?_)
            clear hK KK
            refine wpAnyH_done (by kernel_rfl) ?_ _
            clear hHeld
            have HA8 : Hid (Lst B 2 1 v0_8 v9 (a + kk) (catU U (a * 1) Vk)) := HA0.out.below HV.out
            have HB8 : Hid (Below B w6 v0_8) := HB0.out.trans (HV.out.mono zB0)
            go_wp2
            go_roundw
            case rel => exact ⟨k + 1, a + kk, _, by omega, by go_num, by omega, HA8, HB8, HIN⟩
            case measure => first | (simp [intOf]; done) | (simp [intOf]; omega)
        case false =>
          have HHB : Hid (hasW F l (k : Int) = false) := by show _ = _; rw [HHK.out, qf, qd]; rfl
          clear qf
          refine wp_region_held_drew (S := fun w' => w'.cell? ⟨p, 0, none⟩ = some (.int .i64 x) ∧ w'.cell? ⟨p, 1, none⟩ = some (.slice t m cap) ∧ p < w'.heap.size ∧ w'.cell? ⟨gb, go + k, none⟩ = some (.slice ga kk gc) ∧ gb < w'.heap.size) (by kernel_rfl) ?_ (fun hHeld => ?_)
          · exact ⟨HP9.out.2.2 0 _ rfl, HP9.out.2.2 1 _ rfl, HP9.out.1, HGC9.out.1, HGC9.out.2⟩
          obtain ⟨v0, hv0⟩ : ∃ z, z = w9.drew := ⟨_, rfl⟩
          try rw [← hv0] at hHeld
          rw [← hv0]
          have bv0 : Below w9.heap.size w9 v0 := by rw [hv0]; exact Below.drew (Below.refl _ _)
          clear hv0
          have HP0 : Hid (Blk v0 p [.int .i64 x, .slice t m cap]) := HP9.out.below bv0
          have HG0 : Hid (RowGat v0 t m X K V) := HG9.out.below bv0
          have HT0 : Hid (RowI v0 s5 l F) := HT9.out.below bv0
          have HR0 : Hid (RowI v0 ga kk Vk) := HR9.out.below bv0
          have HA0 : Hid (Lst B 2 1 v0 v9 (a + kk) (catU U (a * 1) Vk)) := HA9.out.below bv0
          have HB0 : Hid (Below B w6 v0) := HB9.out.trans (bv0.mono zB9)
          have zB0 : B ≤ v0.heap.size := Nat.le_trans zB9 bv0.size
          have HGC0 : Hid (v0.cell? ⟨gb, go + k, none⟩ = some (.slice ga kk gc) ∧ gb < v0.heap.size) := ⟨(bv0.cell (p := ⟨gb, go + k, none⟩) HGC9.out.2).trans HGC9.out.1, Nat.lt_of_lt_of_le HGC9.out.2 bv0.size⟩
          have HV : Hid (Below v0.heap.size v0 v0) := Below.refl _ _
          clear bv0
          refine wpAnyH_take (i := 0) (v := .slice s5 l c5) rfl (by kernel_rfl) (by kernel_rfl) (by kernel_rfl) (fun _ _ _ h => h) (Or.inl ⟨by kernel_rfl, ?_⟩) hHeld ?_
          · intro w' hSw
            obtain ⟨hc0, hc1, hz1, hc2, hz2⟩ := hSw
            first | (go_simp; done) | (go_simp; with_reducible rfl) | (go_simp; rw [IntKind.wrap_i64]; omega) | (go_simp; omega)
          simp only [Act.put, List.setIfInBounds_toArray, List.set_cons_zero, List.set_cons_succ]
          refine wpAnyH_take (i := 1) (v := .int .i64 (k : Int)) rfl (by kernel_rfl) (by kernel_rfl) (by kernel_rfl) (fun _ _ _ h => h) (Or.inl ⟨by kernel_rfl, ?_⟩) hHeld ?_
          · intro w' hSw
            obtain ⟨hc0, hc1, hz1, hc2, hz2⟩ := hSw
            first | (go_simp; done) | (go_simp; with_reducible rfl) | (go_simp; rw [IntKind.wrap_i64]; omega) | (go_simp; omega)
          simp only [Act.put, List.setIfInBounds_toArray, List.set_cons_zero, List.set_cons_succ]
          refine wpAnyH_take (i := 3) (v := .agg #[.int .i64 x, .slice t m cap]) rfl (by kernel_rfl) (by kernel_rfl) (by kernel_rfl) (fun _ _ _ h => h) (Or.inl ⟨by kernel_rfl, ?_⟩) hHeld ?_
          · intro w' hSw
            obtain ⟨hc0, hc1, hz1, hc2, hz2⟩ := hSw
            first | (go_simp; done) | (go_simp; with_reducible rfl) | (go_simp; rw [IntKind.wrap_i64]; omega) | (go_simp; omega)
          simp only [Act.put, List.setIfInBounds_toArray, List.set_cons_zero, List.set_cons_succ]
          refine wpAnyH_take (i := 5) (v := .slice (some ⟨gb, go, none⟩) m2 c2) rfl (by kernel_rfl) (by kernel_rfl) (by kernel_rfl) (fun _ _ _ h => h) (Or.inl ⟨by kernel_rfl, ?_⟩) hHeld ?_
          · intro w' hSw
            obtain ⟨hc0, hc1, hz1, hc2, hz2⟩ := hSw
            first | (go_simp; done) | (go_simp; with_reducible rfl) | (go_simp; rw [IntKind.wrap_i64]; omega) | (go_simp; omega)
          simp only [Act.put, List.setIfInBounds_toArray, List.set_cons_zero, List.set_cons_succ]
          refine wpAnyH_take (i := 6) (v := .int .i64 (k : Int)) rfl (by kernel_rfl) (by kernel_rfl) (by kernel_rfl) (fun _ _ _ h => h) (Or.inl ⟨by kernel_rfl, ?_⟩) hHeld ?_
          · intro w' hSw
            obtain ⟨hc0, hc1, hz1, hc2, hz2⟩ := hSw
            first | (go_simp; done) | (go_simp; with_reducible rfl) | (go_simp; rw [IntKind.wrap_i64]; omega) | (go_simp; omega)
          simp only [Act.put, List.setIfInBounds_toArray, List.set_cons_zero, List.set_cons_succ]
          refine wpAnyH_take (i := 7) (v := .pointer (some ⟨gb, go + k, none⟩)) rfl (by kernel_rfl) (by kernel_rfl) (by kernel_rfl) (fun _ _ _ h => h) (Or.inl ⟨by kernel_rfl, ?_⟩) hHeld ?_
          · intro w' hSw
            obtain ⟨hc0, hc1, hz1, hc2, hz2⟩ := hSw
            first | (go_simp; done) | (go_simp; with_reducible rfl) | (go_simp; rw [IntKind.wrap_i64]; omega) | (go_simp; omega)
          simp only [Act.put, List.setIfInBounds_toArray, List.set_cons_zero, List.set_cons_succ]
          refine wpAnyH_take (i := 8) (v := .slice ga kk gc) rfl (by kernel_rfl) (by kernel_rfl) (by kernel_rfl) (fun _ _ _ h => h) (Or.inl ⟨by kernel_rfl, ?_⟩) hHeld ?_
          · intro w' hSw
            obtain ⟨hc0, hc1, hz1, hc2, hz2⟩ := hSw
            first | (go_simp; done) | (go_simp; with_reducible rfl) | (go_simp; rw [IntKind.wrap_i64]; omega) | (go_simp; omega)
          simp only [Act.put, List.setIfInBounds_toArray, List.set_cons_zero, List.set_cons_succ]
          refine wpAnyH_ready (rs := [2, 4]) (by kernel_rfl) (by simp) ?_
          refine (AllReadyH.cons rfl (fun KK hK => ?_) (AllReadyH.cons rfl (fun KK hK => ?_) AllReadyH.nil))
          · go_simp
            go_wp2_with (first | (go_at_call 14; refine (hasL_any s5 l c5 F (k : Int) _ (by omega) (HT0.out.below HV.out)).mono ?_; rintro e v0 ⟨rfl, rfl⟩; rw [HHB.out]))
            refine hK.out _ _ (⟨(HV.out.cell (p := ⟨p, 0, none⟩) HP0.out.1).trans (HP0.out.2.2 0 _ rfl), (HV.out.cell (p := ⟨p, 1, none⟩) HP0.out.1).trans (HP0.out.2.2 1 _ rfl), Nat.lt_of_lt_of_le HP0.out.1 HV.out.size, (HV.out.cell (p := ⟨gb, go + k, none⟩) HGC0.out.2).trans (HGC0.out.1), Nat.lt_of_lt_of_le HGC0.out.2 HV.out.size⟩) (fun hHeld => ?_)
            clear hK KK
            refine wpAnyH_ready (rs := [4]) (by kernel_rfl) (by simp) ?_
            refine (AllReadyH.cons rfl (fun KK hK => ?_) AllReadyH.nil)
            go_simp
            obtain ⟨v0_2, hv_⟩ : ∃ z, z = v0.alloc (.cells #[] 2) := ⟨_, rfl⟩
            rw [← hv_]
            obtain ⟨lb, hlb⟩ : ∃ z, z = v0.heap.size := ⟨_, rfl⟩
            have b_ : Below v0.heap.size v0 v0_2 := by rw [hv_]; exact below0 _ _
            have HLit : Hid (Lst lb 2 1 v0_2 (.slice (some ⟨lb, 0, none⟩) 0 0) 0 (fun _ => 0)) := by show Lst _ _ _ _ _ _ _; rw [hv_, hlb]; exact Lst.lit v0 _ _ 2 1 _ (Nat.le_refl _)
            have HZl : Hid (lb ≤ v0_2.heap.size) := by show _ ≤ _; rw [hlb]; exact b_.size
            have zlb : v0.heap.size ≤ lb := by rw [hlb]; exact HV.out.size
            replace HV : Hid (Below v0.heap.size v0 v0_2) := HV.out.trans (b_.mono HV.out.size)
            try rw [← hlb]
            clear hv_ hlb b_
            refine hK.out _ _ (⟨(HV.out.cell (p := ⟨p, 0, none⟩) HP0.out.1).trans (HP0.out.2.2 0 _ rfl), (HV.out.cell (p := ⟨p, 1, none⟩) HP0.out.1).trans (HP0.out.2.2 1 _ rfl), Nat.lt_of_lt_of_le HP0.out.1 HV.out.size, (HV.out.cell (p := ⟨gb, go + k, none⟩) HGC0.out.2).trans (HGC0.out.1), Nat.lt_of_lt_of_le HGC0.out.2 HV.out.size⟩) (fun hHeld => ?_)
            clear hK KK
            refine wpAnyH_ready (rs := [9]) (by kernel_rfl) (by simp) ?_
            refine (AllReadyH.cons rfl (fun KK hK => ?_) AllReadyH.nil)
            refine join_op lb (.slice (some ⟨lb, 0, none⟩) 0 0) 0 (fun _ => 0) (.tmp 43) (.tmp 47) ga kk gc Vk (by rfl) (by rfl) (by rfl) HLit.out (by omega) (by omega) HZl.out (HR0.out.below HV.out) ?_
            intro v8 v0_3 l8 b8
            rw [Nat.zero_add] at l8
            obtain ⟨t8, c8, e8⟩ := Lst.form l8
            subst e8
            have HL8 : Hid (RowI v0_3 t8 kk (catU (fun _ => 0) (0 * 1) Vk)) := by
              obtain ⟨t', c', e', hO⟩ := Lst.own l8
              cases e'
              rw [Nat.mul_one] at hO
              exact hO.row
            replace HV : Hid (Below v0.heap.size v0 v0_3) := HV.out.trans (b8.mono zlb)
            clear l8 b8 HLit HZl
            go_simp
            refine hK.out _ _ (⟨(HV.out.cell (p := ⟨p, 0, none⟩) HP0.out.1).trans (HP0.out.2.2 0 _ rfl), (HV.out.cell (p := ⟨p, 1, none⟩) HP0.out.1).trans (HP0.out.2.2 1 _ rfl), Nat.lt_of_lt_of_le HP0.out.1 HV.out.size, (HV.out.cell (p := ⟨gb, go + k, none⟩) HGC0.out.2).trans (HGC0.out.1), Nat.lt_of_lt_of_le HGC0.out.2 HV.out.size⟩) (fun hHeld => ?_)
            clear hK KK
            refine wpAnyH_ready (rs := [10]) (by kernel_rfl) (by simp) ?_
            refine (AllReadyH.cons rfl (fun KK hK => ?_) AllReadyH.nil)
            go_simp
            go_wp2_with (first | (go_at_call 15; refine (implFailsBy_any x t m cap X K V t8 kk c8 (catU (fun _ => 0) (0 * 1) Vk) _ (by omega) (HG0.out.below HV.out) HL8).mono ?_; rintro e v0_4 ⟨rfl, h8⟩; rw [fy_cat, HFB.out]; replace HV : Hid (Below v0.heap.size v0 v0_4) := HV.out.trans (h8.mono HV.out.size); clear h8))
            refine hK.out _ _ (⟨(HV.out.cell (p := ⟨p, 0, none⟩) HP0.out.1).trans (HP0.out.2.2 0 _ rfl), (HV.out.cell (p := ⟨p, 1, none⟩) HP0.out.1).trans (HP0.out.2.2 1 _ rfl), Nat.lt_of_lt_of_le HP0.out.1 HV.out.size, (HV.out.cell (p := ⟨gb, go + k, none⟩) HGC0.out.2).trans (HGC0.out.1), Nat.lt_of_lt_of_le HGC0.out.2 HV.out.size⟩) (fun hHeld => ?_)
            clear hK KK
            refine wpAnyH_take (i := 11) (v := .bool true) rfl (by kernel_rfl) (by kernel_rfl) (by kernel_rfl) (fun _ _ _ h => h) (Or.inl ⟨by kernel_rfl, ?_⟩) hHeld ?_
            · intro w' hSw
              obtain ⟨hc0, hc1, hz1, hc2, hz2⟩ := hSw
              first | (go_simp; done) | (go_simp; with_reducible rfl) | (go_simp; rw [IntKind.wrap_i64]; omega) | (go_simp; omega)
            simp only [Act.put, List.setIfInBounds_toArray, List.set_cons_zero, List.set_cons_succ]
            refine wpAnyH_take (i := 12) (v := .slice (some ⟨gb, go, none⟩) m2 c2) rfl (by kernel_rfl) (by kernel_rfl) (by kernel_rfl) (fun _ _ _ h => h) (Or.inl ⟨by kernel_rfl, ?_⟩) hHeld ?_
            · intro w' hSw
              obtain ⟨hc0, hc1, hz1, hc2, hz2⟩ := hSw
              first | (go_simp; done) | (go_simp; with_reducible rfl) | (go_simp; rw [IntKind.wrap_i64]; omega) | (go_simp; omega)
            simp only [Act.put, List.setIfInBounds_toArray, List.set_cons_zero, List.set_cons_succ]
            refine wpAnyH_take (i := 13) (v := .int .i64 (m2 : Int)) rfl (by kernel_rfl) (by kernel_rfl) (by kernel_rfl) (fun _ _ _ h => h) (Or.inl ⟨by kernel_rfl, ?_⟩) hHeld ?_
            · intro w' hSw
              obtain ⟨hc0, hc1, hz1, hc2, hz2⟩ := hSw
              first | (go_simp; done) | (go_simp; with_reducible rfl) | (go_simp; rw [IntKind.wrap_i64]; omega) | (go_simp; omega)
            simp only [Act.put, List.setIfInBounds_toArray, List.set_cons_zero, List.set_cons_succ]
            refine wpAnyH_take (i := 14) (v := .bool false) rfl (by kernel_rfl) (by kernel_rfl) (by kernel_rfl) (fun _ _ _ h => h) (Or.inl ⟨by kernel_rfl, ?_⟩) hHeld ?_
            · intro w' hSw
              obtain ⟨hc0, hc1, hz1, hc2, hz2⟩ := hSw
              first | (go_simp; done) | (go_simp; with_reducible rfl) | (go_simp; rw [IntKind.wrap_i64]; omega) | (go_simp; omega)
            simp only [Act.put, List.setIfInBounds_toArray, List.set_cons_zero, List.set_cons_succ]
            refine wpAnyH_take (i := 15) (v := .bool false) rfl (by kernel_rfl) (by kernel_rfl) (by kernel_rfl) (fun _ _ _ h => h) (Or.inl ⟨by kernel_rfl, ?_⟩) hHeld ?_
            · intro w' hSw
              obtain ⟨hc0, hc1, hz1, hc2, hz2⟩ := hSw
              first | (go_simp; done) | (go_simp; with_reducible rfl) | (go_simp; rw [IntKind.wrap_i64]; omega) | (go_simp; omega)
            simp only [Act.put, List.setIfInBounds_toArray, List.set_cons_zero, List.set_cons_succ]
            refine wpAnyH_ready (rs := [16]) (by kernel_rfl) (by simp) ?_
            refine AllReadyH.cons rfl (fun KK hK => ?_) AllReadyH.nil
            go_simp
            refine hK.out _ _ hHeld (fun hHeld => ?_)
            clear hK KK
            refine wpAnyH_done (by kernel_rfl) ?_ _
            clear hHeld
            have HA8 : Hid (Lst B 2 1 v0_4 v9 (a + kk) (catU U (a * 1) Vk)) := HA0.out.below HV.out
            have HB8 : Hid (Below B w6 v0_4) := HB0.out.trans (HV.out.mono zB0)
            go_wp2
            go_roundw
            case rel => exact ⟨k + 1, a + kk, _, by omega, by go_num, by omega, HA8, HB8, HIN⟩
            case measure => first | (simp [intOf]; done) | (simp [intOf]; omega)
          · go_simp
            obtain ⟨v0_5, hv_⟩ : ∃ z, z = v0.alloc (.cells #[] 2) := ⟨_, rfl⟩
            rw [← hv_]
            obtain ⟨lb, hlb⟩ : ∃ z, z = v0.heap.size := ⟨_, rfl⟩
            have b_ : Below v0.heap.size v0 v0_5 := by rw [hv_]; exact below0 _ _
            have HLit : Hid (Lst lb 2 1 v0_5 (.slice (some ⟨lb, 0, none⟩) 0 0) 0 (fun _ => 0)) := by show Lst _ _ _ _ _ _ _; rw [hv_, hlb]; exact Lst.lit v0 _ _ 2 1 _ (Nat.le_refl _)
            have HZl : Hid (lb ≤ v0_5.heap.size) := by show _ ≤ _; rw [hlb]; exact b_.size
            have zlb : v0.heap.size ≤ lb := by rw [hlb]; exact HV.out.size
            replace HV : Hid (Below v0.heap.size v0 v0_5) := HV.out.trans (b_.mono HV.out.size)
            try rw [← hlb]
            clear hv_ hlb b_
            refine hK.out _ _ (⟨(HV.out.cell (p := ⟨p, 0, none⟩) HP0.out.1).trans (HP0.out.2.2 0 _ rfl), (HV.out.cell (p := ⟨p, 1, none⟩) HP0.out.1).trans (HP0.out.2.2 1 _ rfl), Nat.lt_of_lt_of_le HP0.out.1 HV.out.size, (HV.out.cell (p := ⟨gb, go + k, none⟩) HGC0.out.2).trans (HGC0.out.1), Nat.lt_of_lt_of_le HGC0.out.2 HV.out.size⟩) (fun hHeld => ?_)
            clear hK KK
            refine wpAnyH_ready (rs := [2]) (by kernel_rfl) (by simp) ?_
            refine (AllReadyH.cons rfl (fun KK hK => ?_) AllReadyH.nil)
            go_simp
            go_wp2_with (first | (go_at_call 14; refine (hasL_any s5 l c5 F (k : Int) _ (by omega) (HT0.out.below HV.out)).mono ?_; rintro e v0_5 ⟨rfl, rfl⟩; rw [HHB.out]))
            refine hK.out _ _ (⟨(HV.out.cell (p := ⟨p, 0, none⟩) HP0.out.1).trans (HP0.out.2.2 0 _ rfl), (HV.out.cell (p := ⟨p, 1, none⟩) HP0.out.1).trans (HP0.out.2.2 1 _ rfl), Nat.lt_of_lt_of_le HP0.out.1 HV.out.size, (HV.out.cell (p := ⟨gb, go + k, none⟩) HGC0.out.2).trans (HGC0.out.1), Nat.lt_of_lt_of_le HGC0.out.2 HV.out.size⟩) (fun hHeld => ?_)
            clear hK KK
            refine wpAnyH_ready (rs := [9]) (by kernel_rfl) (by simp) ?_
            refine (AllReadyH.cons rfl (fun KK hK => ?_) AllReadyH.nil)
            refine join_op lb (.slice (some ⟨lb, 0, none⟩) 0 0) 0 (fun _ => 0) (.tmp 43) (.tmp 47) ga kk gc Vk (by rfl) (by rfl) (by rfl) HLit.out (by omega) (by omega) HZl.out (HR0.out.below HV.out) ?_
            intro v8 v0_7 l8 b8
            rw [Nat.zero_add] at l8
            obtain ⟨t8, c8, e8⟩ := Lst.form l8
            subst e8
            have HL8 : Hid (RowI v0_7 t8 kk (catU (fun _ => 0) (0 * 1) Vk)) := by
              obtain ⟨t', c', e', hO⟩ := Lst.own l8
              cases e'
              rw [Nat.mul_one] at hO
              exact hO.row
            replace HV : Hid (Below v0.heap.size v0 v0_7) := HV.out.trans (b8.mono zlb)
            clear l8 b8 HLit HZl
            go_simp
            refine hK.out _ _ (⟨(HV.out.cell (p := ⟨p, 0, none⟩) HP0.out.1).trans (HP0.out.2.2 0 _ rfl), (HV.out.cell (p := ⟨p, 1, none⟩) HP0.out.1).trans (HP0.out.2.2 1 _ rfl), Nat.lt_of_lt_of_le HP0.out.1 HV.out.size, (HV.out.cell (p := ⟨gb, go + k, none⟩) HGC0.out.2).trans (HGC0.out.1), Nat.lt_of_lt_of_le HGC0.out.2 HV.out.size⟩) (fun hHeld => ?_)
            clear hK KK
            refine wpAnyH_ready (rs := [10]) (by kernel_rfl) (by simp) ?_
            refine (AllReadyH.cons rfl (fun KK hK => ?_) AllReadyH.nil)
            go_simp
            go_wp2_with (first | (go_at_call 15; refine (implFailsBy_any x t m cap X K V t8 kk c8 (catU (fun _ => 0) (0 * 1) Vk) _ (by omega) (HG0.out.below HV.out) HL8).mono ?_; rintro e v0_8 ⟨rfl, h8⟩; rw [fy_cat, HFB.out]; replace HV : Hid (Below v0.heap.size v0 v0_8) := HV.out.trans (h8.mono HV.out.size); clear h8))
            refine hK.out _ _ (⟨(HV.out.cell (p := ⟨p, 0, none⟩) HP0.out.1).trans (HP0.out.2.2 0 _ rfl), (HV.out.cell (p := ⟨p, 1, none⟩) HP0.out.1).trans (HP0.out.2.2 1 _ rfl), Nat.lt_of_lt_of_le HP0.out.1 HV.out.size, (HV.out.cell (p := ⟨gb, go + k, none⟩) HGC0.out.2).trans (HGC0.out.1), Nat.lt_of_lt_of_le HGC0.out.2 HV.out.size⟩) (fun hHeld => ?_)
            clear hK KK
            refine wpAnyH_take (i := 11) (v := .bool true) rfl (by kernel_rfl) (by kernel_rfl) (by kernel_rfl) (fun _ _ _ h => h) (Or.inl ⟨by kernel_rfl, ?_⟩) hHeld ?_
            · intro w' hSw
              obtain ⟨hc0, hc1, hz1, hc2, hz2⟩ := hSw
              first | (go_simp; done) | (go_simp; with_reducible rfl) | (go_simp; rw [IntKind.wrap_i64]; omega) | (go_simp; omega)
            simp only [Act.put, List.setIfInBounds_toArray, List.set_cons_zero, List.set_cons_succ]
            refine wpAnyH_take (i := 12) (v := .slice (some ⟨gb, go, none⟩) m2 c2) rfl (by kernel_rfl) (by kernel_rfl) (by kernel_rfl) (fun _ _ _ h => h) (Or.inl ⟨by kernel_rfl, ?_⟩) hHeld ?_
            · intro w' hSw
              obtain ⟨hc0, hc1, hz1, hc2, hz2⟩ := hSw
              first | (go_simp; done) | (go_simp; with_reducible rfl) | (go_simp; rw [IntKind.wrap_i64]; omega) | (go_simp; omega)
            simp only [Act.put, List.setIfInBounds_toArray, List.set_cons_zero, List.set_cons_succ]
            refine wpAnyH_take (i := 13) (v := .int .i64 (m2 : Int)) rfl (by kernel_rfl) (by kernel_rfl) (by kernel_rfl) (fun _ _ _ h => h) (Or.inl ⟨by kernel_rfl, ?_⟩) hHeld ?_
            · intro w' hSw
              obtain ⟨hc0, hc1, hz1, hc2, hz2⟩ := hSw
              first | (go_simp; done) | (go_simp; with_reducible rfl) | (go_simp; rw [IntKind.wrap_i64]; omega) | (go_simp; omega)
            simp only [Act.put, List.setIfInBounds_toArray, List.set_cons_zero, List.set_cons_succ]
            refine wpAnyH_take (i := 14) (v := .bool false) rfl (by kernel_rfl) (by kernel_rfl) (by kernel_rfl) (fun _ _ _ h => h) (Or.inl ⟨by kernel_rfl, ?_⟩) hHeld ?_
            · intro w' hSw
              obtain ⟨hc0, hc1, hz1, hc2, hz2⟩ := hSw
              first | (go_simp; done) | (go_simp; with_reducible rfl) | (go_simp; rw [IntKind.wrap_i64]; omega) | (go_simp; omega)
            simp only [Act.put, List.setIfInBounds_toArray, List.set_cons_zero, List.set_cons_succ]
            refine wpAnyH_take (i := 15) (v := .bool false) rfl (by kernel_rfl) (by kernel_rfl) (by kernel_rfl) (fun _ _ _ h => h) (Or.inl ⟨by kernel_rfl, ?_⟩) hHeld ?_
            · intro w' hSw
              obtain ⟨hc0, hc1, hz1, hc2, hz2⟩ := hSw
              first | (go_simp; done) | (go_simp; with_reducible rfl) | (go_simp; rw [IntKind.wrap_i64]; omega) | (go_simp; omega)
            simp only [Act.put, List.setIfInBounds_toArray, List.set_cons_zero, List.set_cons_succ]
            refine wpAnyH_ready (rs := [16]) (by kernel_rfl) (by simp) ?_
            refine AllReadyH.cons rfl (fun KK hK => ?_) AllReadyH.nil
            go_simp
            refine hK.out _ _ hHeld (fun hHeld => ?_)
            clear hK KK
            refine wpAnyH_done (by kernel_rfl) ?_ _
            clear hHeld
            have HA8 : Hid (Lst B 2 1 v0_8 v9 (a + kk) (catU U (a * 1) Vk)) := HA0.out.below HV.out
            have HB8 : Hid (Below B w6 v0_8) := HB0.out.trans (HV.out.mono zB0)
            go_wp2
            go_roundw
            case rel => exact ⟨k + 1, a + kk, _, by omega, by go_num, by omega, HA8, HB8, HIN⟩
            case measure => first | (simp [intOf]; done) | (simp [intOf]; omega)
theorem fnCommon_walk (w : World) (s : Option Addr) (n c : Nat) (hn : n ≤ 9223372036854775807) (R : Bytes w s n) :
    Calls Try.prog 3 #[.slice s n c] w fun e w' => e = .returned (.bool true) ∧ Below w.heap.size w w' := by
  by_cases h : n ≤ 1048576
  · exact fcommon_near w s n c (by omega) (R.code h)
  · exact fcommon_far w s n c (by omega)

set_option maxRecDepth 100000 in
theorem fnCommon_lifted (os : Os) (started : os.Started) (H : Type) (enc : TypeId × Value → H) :
    ReturnsInHanded {} Try.checked os 3 .any (Rows.fnCommonSpec.pre6 enc Try.prog Try.f3 Rows.fnCommonRow.domain false) (Rows.fnCommonSpec.post enc Try.prog Try.f3 false true false false) := by
  refine returnsInHanded_of_change (C := Try.checked) own started (by kernel_rfl) Try.func3
    (ChangeSpec.witness6 (enc := enc) (C := Try.checked) false ⟨#[], #[.slice none 0 0], []⟩ 8 (by kernel_rfl) (by kernel_rfl) (by kernel_rfl) (by kernel_rfl)) ?_
  intro W base args ds gs before hval0 hW hcnd _
  have hval : ∀ (j : Nat) t v, Try.f3.params[j]? = some t → args[j]? = some v → Value.okWide Try.prog W .any base t v := hval0
  have hW' := hW
  obtain ⟨p, q, hA0, hV, rfl, hfz, hnd⟩ := hW
  have hA : DataW.TrodAll enc Try.prog W 0 (fun _ => true) true Try.f3.params.toList args.toList ds p := hA0
  rw [Try.params3] at hA hval
  obtain ⟨v0, vs0, d0, ds0, p0, q0, hargs, rfl, rfl, h0, r0⟩ := trodAll_cons hA
  obtain ⟨rfl, rfl, rfl⟩ := trodAll_nil r0
  obtain rfl : args = #[v0] := by cases args; simp_all
  obtain ⟨rfl, rfl⟩ := trodVars_none hV
  have k0 := h0
  have lt0 : ∀ x ∈ p0, x.block < W.heap.size := by obtain ⟨m, hm⟩ := k0; exact DataW.trod_lt m _ _ _ hm
  obtain ⟨s0, n0, c0, rfl, m0, R0⟩ := open_code Try.underlying22 Try.underlying5 (by kernel_rfl) (hval 0 22 v0 rfl rfl) h0
  clear hA0 hval0
  refine (fnCommon_walk W s0 n0 c0 m0 R0).mono fun e W' ⟨he, bel⟩ => ?_
  subst he
  exact ⟨_, rfl, _, _, _, [], _, [], hW', trodAll_mk1 (shut_bool Try.underlying4 _), (trodAll_cons_mk (Below.trod laidOut (by kernel_rfl) (of_decide_eq_true (by kernel_rfl)) k0 bel lt0) trodAll_mk0), rfl, bel.frame _, fun h => by cases h⟩

theorem fnCommon_holds : Rows.FnCommonSaid :=
  OpenClaim.holds_of_wide 3 Try.f3 rfl rfl rfl rfl rfl rfl rfl ⟨rfl, rfl, rfl, rfl, rfl⟩ rfl rfl rfl rfl rfl (by kernel_rfl) Try.func3 (by kernel_rfl)
    (of_decide_eq_true (by kernel_rfl)) (by unfold Func.isWrapper; first | (rw [if_pos (by decide +kernel)]; kernel_rfl) | (rw [if_neg (by decide +kernel)]; exact ⟨rfl, rfl⟩))
    (fun os started H enc _ => fnCommon_lifted os started H enc)
#print axioms fnCommon_holds
end Go.Proofs.Ytpaiajeigdifcaa
