/-
What is proved: FnCuts: by each cut that is told of a drawn tree it fails, by none with one basic less; by drawn basics it fails just when some cut is among them; no condition.
-/
import Derived.Test.YtpaiajeigdifcaaCtNz
import Derived.Test.YtpaiajeigdifcaaCxCz
import Derived.Test.YtpaiajeigdifcaaCxSz
import Derived.Test.YtpaiajeigdifcaaQcD
import Derived.Test.YtpaiajeigdifcaaQcE
import Derived.Test.YtpaiajeigdifcaaOpen8z
import Derived.Deep.RegionHeldLaw
import Derived.Deep.DeepCutAuto
namespace Go.Proofs.Ytpaiajeigdifcaa
set_option maxRecDepth 40000
open Go.ChangeShapes Go.WideShapes Go.ChangeAt Go.RowKit
set_option linter.unusedVariables false
set_option linter.unusedSimpArgs false

theorem cut_eq {ok : Bool} {P : Nat → Bool} {N k l : Nat} {W U : Nat → Int} (h : CutR ok P N k W) (g : CutR ok P N l U) : k = l ∧ ∀ i, i < k → W i = U i := by
  cases ok
  · have h1 := h.2 rfl
    have h2 := g.2 rfl
    exact ⟨by omega, fun i hi => by omega⟩
  · have e : k = l := Nat.le_antisymm (cut_len (h.1 rfl) (g.1 rfl)) (cut_len (g.1 rfl) (h.1 rfl))
    exact ⟨e, fun i hi => cut_same (h.1 rfl) (g.1 rfl) i hi (by omega)⟩
theorem cutR_small {x : Int} {n : Nat} {X : Nat → Int} {K : Nat → Nat} {V : Nat → Nat → Int} {k : Nat} {W : Nat → Int} (h : CutR (treeB x n X K V) (mnB x.toNat n X K V) (2 ^ x.toNat) k W) : k ≤ 1024 := by
  cases e : treeB x n X K V
  · have := h.2 e; omega
  · obtain ⟨⟨x0, x1⟩, -, -⟩ := tree_yes e
    have g := h.1 e
    have h1 := cut_le (P := mnB x.toNat n X K V) g.1 (fun i hi => by obtain ⟨j, a, b, _⟩ := g.2.1 i hi; exact ⟨j, a, b⟩)
    exact Nat.le_trans h1 (Nat.pow_le_pow_right (by decide) (by omega) : 2 ^ x.toNat ≤ 2 ^ 10)
theorem kk_le (W : Nat → Int) (i : Nat) : kkW W i ≤ 16 := by
  unfold kkW popS
  have a := popN_le 8 ((W i).toNat / 256)
  have b := popN_le 8 ((W i).toNat % 256)
  omega
theorem rowLL_as {w : World} {s : Option Addr} {n : Nat} {W U : Nat → Int} (h : RowLL w s n (kkW W) (vvW W)) (e : ∀ i, i < n → U i = W i) : RowLL w s n (kkW U) (vvW U) := fun i hi => by
  have := h i hi
  unfold kkW vvW at this ⊢
  rw [e i hi]
  exact this
theorem fy_cat0 (x : Int) (n : Nat) (X : Nat → Int) (K : Nat → Nat) (V : Nat → Nat → Int) (k : Nat) (U W : Nat → Int) : fyB x n X K V k (catU U (0 * 1) W) = fyB x n X K V k W := by
  have e : ∀ r, catU U (0 * 1) W r = W r := fun r => by unfold catU; rw [if_neg (by omega), show r - 0 * 1 = r by omega]
  apply Bool.eq_iff_iff.2
  constructor
  · exact fy_mono (fun r hr => ⟨r, hr, (e r).symm⟩)
  · exact fy_mono (fun r hr => ⟨r, hr, e r⟩)
theorem fy_drop {x : Int} {n : Nat} {X : Nat → Int} {K : Nat → Nat} {V : Nat → Nat → Int} {kk k : Nat} {U W : Nat → Int} (h : k < kk) : fyB x n X K V (kk - 1) (catU (catU U (0 * 1) W) (k * 1) (fun r => W (k + 1 + r))) = fyB x n X K V (kk - 1) (dropU W k) := by
  have e : ∀ r, catU (catU U (0 * 1) W) (k * 1) (fun r => W (k + 1 + r)) r = dropU W k r := fun r => by
    unfold catU dropU
    by_cases q : r < k
    · rw [if_pos (by omega), if_neg (by omega), if_pos q, show r - 0 * 1 = r by omega]
    · rw [if_neg (by omega), if_neg q]; show W (k + 1 + (r - k * 1)) = _; rw [show k + 1 + (r - k * 1) = r + 1 by omega]
  apply Bool.eq_iff_iff.2
  constructor
  · exact fy_mono (fun r hr => ⟨r, hr, (e r).symm⟩)
  · exact fy_mono (fun r hr => ⟨r, hr, e r⟩)
set_option maxHeartbeats 400000 in
theorem fcuts_far (w : World) (s : Option Addr) (n c : Nat) (h : (1048576 : Int) < n) :
    Calls Try.prog 4 #[.slice s n c] w fun e w' => e = .returned (.bool true) ∧ Below w.heap.size w w' := by
  go_enter Try.func4, Try.ntmps4
  go_wp2_with fail
  refine (big_yes _ _ _ _ h).mono ?_
  rintro e w1 ⟨rfl, rfl⟩
  go_wp2
  go_ret
  exact ⟨rfl, Below.refl _ _⟩
set_option maxRecDepth 20000 in
set_option maxHeartbeats 16000000 in
theorem fcuts_near (w : World) (s : Option Addr) (n c : Nat) (hn : (n : Int) ≤ 1048576) (HC8 : Hid (Code8 w s n)) :
    Calls Try.prog 4 #[.slice s n c] w fun e w' => e = .returned (.bool true) ∧ Below w.heap.size w w' := by
  go_enter Try.func4, Try.ntmps4
  go_wp2_with fail
  refine (big_no _ _ _ _ hn).mono ?_
  rintro e w1 ⟨rfl, rfl⟩
  rename World => w
  go_wp2_with fail
  refine (drawFailsBy_any _ _ _ _ HC8).mono ?_
  rintro e w2 h2
  unfold DfbPost at h2
  obtain ⟨x, t, m, cap, X, K, V, t2, l2, c2, U2, rfl, l13, hrow, hset, B2⟩ := h2
  have HG2 : Hid (RowGat w2 t m X K V) := hrow
  have HU2 : Hid (RowI w2 t2 l2 U2) := hset
  have HB2 : Hid (Below w.heap.size w w2) := B2
  clear hrow hset B2 HC8 hn
  go_upto_region 4 with fail
  obtain ⟨w3, hw3⟩ : ∃ z, z = w2.alloc (.cells #[.int .i64 x, .slice t m cap] 26) := ⟨_, rfl⟩
  rw [← hw3]
  have b3 : Below w2.heap.size w2 w3 := by rw [hw3]; exact below0 _ _
  obtain ⟨p, hp⟩ : ∃ z, z = w2.heap.size := ⟨_, rfl⟩
  have HP3 : Hid (Blk w3 p [.int .i64 x, .slice t m cap]) := by show Blk _ _ _; rw [hw3, hp]; exact Blk.new w2 #[.int .i64 x, .slice t m cap] 26
  have HG3 : Hid (RowGat w3 t m X K V) := HG2.out.below b3
  have HU3 : Hid (RowI w3 t2 l2 U2) := HU2.out.below b3
  have HB3 : Hid (Below w.heap.size w w3) := HB2.out.trans (b3.mono HB2.out.size)
  try rw [← hp]
  clear hw3 b3 hp HG2 HU2 HB2
  have p0 := HP3.out.2.2 0 _ rfl
  have p1 := HP3.out.2.2 1 _ rfl
  have pz := HP3.out.1
  go_wp2_with fail
  refine (specMin_any x t m cap X K V _ HG3).mono ?_
  rintro e w4 ⟨s4, c4, M, W, S4, rfl, -, O4, R4, h4⟩
  have HP4 : Hid (Blk w4 p [.int .i64 x, .slice t m cap]) := HP3.out.below h4
  have HG4 : Hid (RowGat w4 t m X K V) := HG3.out.below h4
  have HU4 : Hid (RowI w4 t2 l2 U2) := HU3.out.below h4
  have HB4 : Hid (Below w.heap.size w w4) := HB3.out.trans (h4.mono HB3.out.size)
  have HS4 : Hid (RowLL w4 s4 M (kkW W) (vvW W)) := O4.row
  have HR4 : Hid (CutR (treeB x m X K V) (mnB x.toNat m X K V) (2 ^ x.toNat) M W) := R4
  clear O4 R4 h4 p0 p1 pz HP3 HG3 HU3 HB3
  have p0 := HP4.out.2.2 0 _ rfl
  have p1 := HP4.out.2.2 1 _ rfl
  have pz := HP4.out.1
  go_wp2_with fail
  refine (implMinC_any x t m cap X K V _ HG4).mono ?_
  rintro e w5 ⟨s5, c5, M5, W5, S5, rfl, -, O5, R5, h5, C5⟩
  obtain ⟨rfl, e5⟩ := cut_eq R5 HR4.out
  have HS5 : Hid (RowLL w5 s5 M5 (kkW W5) (vvW W5)) := O5.row
  have HT5 : Hid (RowLL w5 s4 M5 (kkW W5) (vvW W5)) := rowLL_as (HS4.out.below h5) e5
  have HR5 : Hid (CutR (treeB x m X K V) (mnB x.toNat m X K V) (2 ^ x.toNat) M5 W5) := R5
  have HC5 : Hid (∀ i, i < M5 → ∃ gb ga gc, s5 = some ⟨gb, 0, none⟩ ∧ gb < w5.heap.size ∧ w5.cell? ⟨gb, i, none⟩ = some (.slice ga (kkW W5 i) gc) ∧ kkW W5 i ≤ gc ∧ RowI w5 ga (kkW W5 i) (vvW W5 i)) := fun i hi => by
    obtain ⟨b, a, c', e, q1, q2⟩ := C5 i hi
    obtain ⟨b', o', a', c'', e', hb, q3, q4⟩ := HS5.out i hi
    rw [e] at e'
    cases e'
    rw [Nat.zero_add, q1] at q3
    cases q3
    exact ⟨b, a, c', e, hb, q1, q2, q4⟩
  have HP5 : Hid (Blk w5 p [.int .i64 x, .slice t m cap]) := HP4.out.below h5
  have HG5 : Hid (RowGat w5 t m X K V) := HG4.out.below h5
  have HU5 : Hid (RowI w5 t2 l2 U2) := HU4.out.below h5
  have HB5 : Hid (Below w.heap.size w w5) := HB4.out.trans (h5.mono HB4.out.size)
  have M10 : M5 ≤ 1024 := cutR_small R5
  have HKK : Hid (∀ i, i < M5 → (kkW W5 i : Int) ≤ 1048576) := fun i _ => by have := kk_le W5 i; omega
  clear O5 R5 h5 C5 e5 p0 p1 pz HP4 HG4 HU4 HB4 HS4 HR4
  go_wp2_with fail
  refine (sameRows_any s5 s4 M5 c5 c4 (kkW W5) (vvW W5) _ (by omega) HKK HS5 HT5).mono ?_
  rintro e w6 ⟨rfl, h6⟩
  have HP6 : Hid (Blk w6 p [.int .i64 x, .slice t m cap]) := HP5.out.below h6
  have HG6 : Hid (RowGat w6 t m X K V) := HG5.out.below h6
  have HU6 : Hid (RowI w6 t2 l2 U2) := HU5.out.below h6
  have HB6 : Hid (Below w.heap.size w w6) := HB5.out.trans (h6.mono HB5.out.size)
  have HC6 : Hid (∀ i, i < M5 → ∃ gb ga gc, s5 = some ⟨gb, 0, none⟩ ∧ gb < w6.heap.size ∧ w6.cell? ⟨gb, i, none⟩ = some (.slice ga (kkW W5 i) gc) ∧ kkW W5 i ≤ gc ∧ RowI w6 ga (kkW W5 i) (vvW W5 i)) := fun i hi => by
    obtain ⟨gb, ga, gc, q0, q1, q2, q3, q4⟩ := HC5.out i hi
    exact ⟨gb, ga, gc, q0, Nat.lt_of_lt_of_le q1 h6.size, (h6.cell (p := ⟨gb, i, none⟩) q1).trans q2, q3, q4.below h6⟩
  clear h6 HP5 HG5 HU5 HB5 HS5 HT5 HC5 HKK
  go_wp2_with fail
  go_loopw [7, 8] (fun v i wx => ∃ (k : Nat) (sm : Bool), k ≤ M5 ∧ i = .int .i64 k ∧ v = .bool sm ∧ Hid (sm = true ↔ ∃ j, j < k ∧ allW U2 l2 (vvW W5 j) (kkW W5 j)) ∧ Hid (Below w6.heap.size w6 wx)) (fun _ i _ => M5 - (intOf i).toNat)
  case atStart => exact ⟨0, false, by omega, rfl, rfl, ⟨fun q => (by cases q), fun ⟨j, hj, _⟩ => (by omega)⟩, Below.refl _ _⟩
  case round =>
    obtain ⟨i, sm, hi, rfl, rfl, HSM, HAW⟩ := hrel
    rename World => wa
    have HAP : Hid (Blk wa p [.int .i64 x, .slice t m cap]) := HP6.out.below HAW.out
    have HAG : Hid (RowGat wa t m X K V) := HG6.out.below HAW.out
    have HAU : Hid (RowI wa t2 l2 U2) := HU6.out.below HAW.out
    by_cases h1 : i < M5
    case neg =>
      obtain rfl : i = M5 := by omega
      have HFB : Hid (fyB x m X K V l2 U2 = sm) := by
        show _ = _
        apply Bool.eq_iff_iff.2
        exact (cuts_some HR5.out).trans HSM.out.symm
      have HBF : Hid (Below w.heap.size w wa) := HB6.out.trans (HAW.out.mono HB6.out.size)
      have p0 := HAP.out.2.2 0 _ rfl
      have p1 := HAP.out.2.2 1 _ rfl
      have pz := HAP.out.1
      go_wp2_with fail
      refine (implFailsBy_any x t m cap X K V t2 l2 c2 U2 _ (by omega) HAG HAU).mono ?_
      rintro e w8 ⟨rfl, h8⟩
      rw [HFB.out]
      have HBF8 : Hid (Below w.heap.size w w8) := HBF.out.trans (h8.mono HBF.out.size)
      have hbb : (sm == sm) = true := by simp
      clear h8
      go_wp2
      go_ret
      first | exact ⟨rfl, HBF8.out⟩ | exact ⟨ret_bool hbb, HBF8.out⟩ | exact ⟨by simp, HBF8.out⟩
    case pos =>
      have i1 : (i : Int) < (M5 : Int) := by omega
      obtain ⟨gb, ga, gc, rfl, zgb, cgb, kgc, Rga⟩ := HC6.out i h1
      obtain ⟨f1, f2⟩ := cut_fails HR5.out h1
      have HSN : Hid (∀ sm', (sm' = true ↔ (sm = true ∨ allW U2 l2 (vvW W5 i) (kkW W5 i))) → (sm' = true ↔ ∃ j, j < i + 1 ∧ allW U2 l2 (vvW W5 j) (kkW W5 j))) := fun sm' hs => by
        rw [hs, HSM.out]
        constructor
        · rintro (⟨j, j1, j2⟩ | q)
          · exact ⟨j, by omega, j2⟩
          · exact ⟨i, by omega, q⟩
        · rintro ⟨j, j1, j2⟩
          by_cases e : j = i
          · subst e; exact Or.inr j2
          · exact Or.inl ⟨j, by omega, j2⟩
      have k16 := kk_le W5 i
      obtain ⟨kk, hkk⟩ : ∃ kk, kkW W5 i = kk := ⟨_, rfl⟩
      obtain ⟨Vk, hVk⟩ : ∃ Vk, vvW W5 i = Vk := ⟨_, rfl⟩
      rw [hkk] at cgb kgc Rga f1 f2 HSN k16
      rw [hVk] at Rga f1 f2 HSN
      have HF1 : Hid (fyB x m X K V kk Vk = true) := f1
      have HF2 : Hid (∀ k, k < kk → fyB x m X K V (kk - 1) (dropU Vk k) = false) := f2
      have HAR : Hid (RowI wa ga kk Vk) := Rga.below HAW.out
      have HAC : Hid (wa.cell? ⟨gb, i, none⟩ = some (.slice ga kk gc) ∧ gb < wa.heap.size) := ⟨(HAW.out.cell (p := ⟨gb, i, none⟩) zgb).trans cgb, Nat.lt_of_lt_of_le zgb HAW.out.size⟩
      have HR6 : Hid (RowI w6 ga kk Vk) := Rga
      have HC66 : Hid (w6.cell? ⟨gb, i, none⟩ = some (.slice ga kk gc) ∧ gb < w6.heap.size) := ⟨cgb, zgb⟩
      clear f1 f2 Rga cgb zgb hkk hVk HAU
      go_upto_region 12 with fail
      refine wp_region_held_drew (S := fun w' => w'.cell? ⟨p, 0, none⟩ = some (.int .i64 x) ∧ w'.cell? ⟨p, 1, none⟩ = some (.slice t m cap) ∧ p < w'.heap.size ∧ w'.cell? ⟨gb, i, none⟩ = some (.slice ga kk gc) ∧ gb < w'.heap.size) (by kernel_rfl) ?_ (fun hHeld => ?_)
      · exact ⟨HAP.out.2.2 0 _ rfl, HAP.out.2.2 1 _ rfl, HAP.out.1, HAC.out.1, HAC.out.2⟩
      obtain ⟨v0, hv0⟩ : ∃ z, z = wa.drew := ⟨_, rfl⟩
      try rw [← hv0] at hHeld
      rw [← hv0]
      have bv0 : Below wa.heap.size wa v0 := by rw [hv0]; exact Below.drew (Below.refl _ _)
      clear hv0
      have HP0 : Hid (Blk v0 p [.int .i64 x, .slice t m cap]) := HAP.out.below bv0
      have HG0 : Hid (RowGat v0 t m X K V) := HAG.out.below bv0
      have HR0 : Hid (RowI v0 ga kk Vk) := HAR.out.below bv0
      have HC0 : Hid (v0.cell? ⟨gb, i, none⟩ = some (.slice ga kk gc) ∧ gb < v0.heap.size) := ⟨(bv0.cell (p := ⟨gb, i, none⟩) HAC.out.2).trans HAC.out.1, Nat.lt_of_lt_of_le HAC.out.2 bv0.size⟩
      have HW0 : Hid (Below w6.heap.size w6 v0) := HAW.out.trans (bv0.mono HAW.out.size)
      have HV : Hid (Below v0.heap.size v0 v0) := Below.refl _ _
      clear bv0
      refine wpAnyH_take (i := 0) (v := .agg #[.int .i64 x, .slice t m cap]) rfl (by kernel_rfl) (by kernel_rfl) (by kernel_rfl) (fun _ _ _ h => h) (Or.inl ⟨by kernel_rfl, ?_⟩) hHeld ?_
      · intro w' hSw
        obtain ⟨hc0, hc1, hz1, hc2, hz2⟩ := hSw
        first | (go_simp; done) | (go_simp; with_reducible rfl) | (go_simp; rw [IntKind.wrap_i64]; omega) | (go_simp; omega)
      simp only [Act.put, List.setIfInBounds_toArray, List.set_cons_zero, List.set_cons_succ]
      refine wpAnyH_take (i := 2) (v := .slice (some ⟨gb, 0, none⟩) M5 c5) rfl (by kernel_rfl) (by kernel_rfl) (by kernel_rfl) (fun _ _ _ h => h) (Or.inl ⟨by kernel_rfl, ?_⟩) hHeld ?_
      · intro w' hSw
        obtain ⟨hc0, hc1, hz1, hc2, hz2⟩ := hSw
        first | (go_simp; done) | (go_simp; with_reducible rfl) | (go_simp; rw [IntKind.wrap_i64]; omega) | (go_simp; omega)
      simp only [Act.put, List.setIfInBounds_toArray, List.set_cons_zero, List.set_cons_succ]
      refine wpAnyH_take (i := 3) (v := .int .i64 (i : Int)) rfl (by kernel_rfl) (by kernel_rfl) (by kernel_rfl) (fun _ _ _ h => h) (Or.inl ⟨by kernel_rfl, ?_⟩) hHeld ?_
      · intro w' hSw
        obtain ⟨hc0, hc1, hz1, hc2, hz2⟩ := hSw
        first | (go_simp; done) | (go_simp; with_reducible rfl) | (go_simp; rw [IntKind.wrap_i64]; omega) | (go_simp; omega)
      simp only [Act.put, List.setIfInBounds_toArray, List.set_cons_zero, List.set_cons_succ]
      refine wpAnyH_take (i := 4) (v := .pointer (some ⟨gb, i, none⟩)) rfl (by kernel_rfl) (by kernel_rfl) (by kernel_rfl) (fun _ _ _ h => h) (Or.inl ⟨by kernel_rfl, ?_⟩) hHeld ?_
      · intro w' hSw
        obtain ⟨hc0, hc1, hz1, hc2, hz2⟩ := hSw
        first | (go_simp; done) | (go_simp; with_reducible rfl) | (go_simp; rw [IntKind.wrap_i64]; omega) | (go_simp; omega)
      simp only [Act.put, List.setIfInBounds_toArray, List.set_cons_zero, List.set_cons_succ]
      refine wpAnyH_take (i := 5) (v := .slice ga kk gc) rfl (by kernel_rfl) (by kernel_rfl) (by kernel_rfl) (fun _ _ _ h => h) (Or.inl ⟨by kernel_rfl, ?_⟩) hHeld ?_
      · intro w' hSw
        obtain ⟨hc0, hc1, hz1, hc2, hz2⟩ := hSw
        first | (go_simp; done) | (go_simp; with_reducible rfl) | (go_simp; rw [IntKind.wrap_i64]; omega) | (go_simp; omega)
      simp only [Act.put, List.setIfInBounds_toArray, List.set_cons_zero, List.set_cons_succ]
      refine wpAnyH_ready (rs := [1]) (by kernel_rfl) (by simp) ?_
      refine (AllReadyH.cons rfl (fun KK hK => ?_) AllReadyH.nil)
      go_simp
      obtain ⟨v0_1, hv_⟩ : ∃ z, z = v0.alloc (.cells #[] 2) := ⟨_, rfl⟩
      rw [← hv_]
      obtain ⟨lb, hlb⟩ : ∃ z, z = v0.heap.size := ⟨_, rfl⟩
      have b_ : Below v0.heap.size v0 v0_1 := by rw [hv_]; exact below0 _ _
      have HLit : Hid (Lst lb 2 1 v0_1 (.slice (some ⟨lb, 0, none⟩) 0 0) 0 (fun _ => 0)) := by show Lst _ _ _ _ _ _ _; rw [hv_, hlb]; exact Lst.lit v0 _ _ 2 1 _ (Nat.le_refl _)
      have HZl : Hid (lb ≤ v0_1.heap.size) := by show _ ≤ _; rw [hlb]; exact b_.size
      have zlb : v0.heap.size ≤ lb := by rw [hlb]; exact HV.out.size
      replace HV : Hid (Below v0.heap.size v0 v0_1) := HV.out.trans (b_.mono HV.out.size)
      try rw [← hlb]
      clear hv_ hlb b_
      refine hK.out _ _ (⟨(HV.out.cell (p := ⟨p, 0, none⟩) HP0.out.1).trans (HP0.out.2.2 0 _ rfl), (HV.out.cell (p := ⟨p, 1, none⟩) HP0.out.1).trans (HP0.out.2.2 1 _ rfl), Nat.lt_of_lt_of_le HP0.out.1 HV.out.size, (HV.out.cell (p := ⟨gb, i, none⟩) HC0.out.2).trans (HC0.out.1), Nat.lt_of_lt_of_le HC0.out.2 HV.out.size⟩) (fun hHeld => ?_)
      clear hK KK
      refine wpAnyH_ready (rs := [6]) (by kernel_rfl) (by simp) ?_
      refine (AllReadyH.cons rfl (fun KK hK => ?_) AllReadyH.nil)
      refine join_op lb (.slice (some ⟨lb, 0, none⟩) 0 0) 0 (fun _ => 0) (.tmp 34) (.tmp 38) ga kk gc Vk (by rfl) (by rfl) (by rfl) HLit.out (by omega) (by omega) HZl.out (HR0.out.below HV.out) ?_
      intro v8 v0_2 l8 b8
      rw [Nat.zero_add] at l8
      obtain ⟨t8, c8, e8⟩ := Lst.form l8
      subst e8
      have HL8 : Hid (RowI v0_2 t8 kk (catU (fun _ => 0) (0 * 1) Vk)) := by
        obtain ⟨t', c', e', hO⟩ := Lst.own l8
        cases e'
        rw [Nat.mul_one] at hO
        exact hO.row
      replace HV : Hid (Below v0.heap.size v0 v0_2) := HV.out.trans (b8.mono zlb)
      clear l8 b8 HLit HZl
      go_simp
      refine hK.out _ _ (⟨(HV.out.cell (p := ⟨p, 0, none⟩) HP0.out.1).trans (HP0.out.2.2 0 _ rfl), (HV.out.cell (p := ⟨p, 1, none⟩) HP0.out.1).trans (HP0.out.2.2 1 _ rfl), Nat.lt_of_lt_of_le HP0.out.1 HV.out.size, (HV.out.cell (p := ⟨gb, i, none⟩) HC0.out.2).trans (HC0.out.1), Nat.lt_of_lt_of_le HC0.out.2 HV.out.size⟩) (fun hHeld => ?_)
      clear hK KK
      refine wpAnyH_ready (rs := [7]) (by kernel_rfl) (by simp) ?_
      refine (AllReadyH.cons rfl (fun KK hK => ?_) AllReadyH.nil)
      go_simp
      go_wp2_with (first | (go_at_call 15; refine (implFailsBy_any x t m cap X K V t8 kk c8 (catU (fun _ => 0) (0 * 1) Vk) _ (by omega) (HG0.out.below HV.out) HL8).mono ?_; rintro e v0_3 ⟨rfl, h8⟩; rw [fy_cat0, HF1.out]; replace HV : Hid (Below v0.heap.size v0 v0_3) := HV.out.trans (h8.mono HV.out.size); clear h8))
      refine hK.out _ _ (⟨(HV.out.cell (p := ⟨p, 0, none⟩) HP0.out.1).trans (HP0.out.2.2 0 _ rfl), (HV.out.cell (p := ⟨p, 1, none⟩) HP0.out.1).trans (HP0.out.2.2 1 _ rfl), Nat.lt_of_lt_of_le HP0.out.1 HV.out.size, (HV.out.cell (p := ⟨gb, i, none⟩) HC0.out.2).trans (HC0.out.1), Nat.lt_of_lt_of_le HC0.out.2 HV.out.size⟩) (fun hHeld => ?_)
      clear hK KK
      refine wpAnyH_ready (rs := [8]) (by kernel_rfl) (by simp) ?_
      refine AllReadyH.cons rfl (fun KK hK => ?_) AllReadyH.nil
      go_simp
      refine hK.out _ _ hHeld (fun hHeld => ?_)
      clear hK KK
      refine wpAnyH_done (by kernel_rfl) ?_ _
      clear hHeld
      have HWa : Hid (Below w6.heap.size w6 v0_3) := HW0.out.trans (HV.out.mono HW0.out.size)
      clear HV HP0 HG0 HR0 HC0 HW0
      go_wp2_with fail
      go_loopw [9, 10] (fun v j wx => ∃ (k : Nat) (al : Bool), k ≤ kk ∧ j = .int .i64 k ∧ v = .bool al ∧ Hid (al = true ↔ allW U2 l2 Vk k) ∧ Hid (Below w6.heap.size w6 wx)) (fun _ j _ => kk - (intOf j).toNat)
      case atStart => exact ⟨0, true, by omega, rfl, rfl, ⟨fun _ r hr => by omega, fun _ => rfl⟩, HWa⟩
      case round =>
        obtain ⟨k, al, hk, rfl, rfl, HAL, HBW⟩ := hrel
        rename World => wb
        have HBP : Hid (Blk wb p [.int .i64 x, .slice t m cap]) := HP6.out.below HBW.out
        have HBG : Hid (RowGat wb t m X K V) := HG6.out.below HBW.out
        have HBU : Hid (RowI wb t2 l2 U2) := HU6.out.below HBW.out
        have HBR : Hid (RowI wb ga kk Vk) := HR6.out.below HBW.out
        have HBC : Hid (wb.cell? ⟨gb, i, none⟩ = some (.slice ga kk gc) ∧ gb < wb.heap.size) := ⟨(HBW.out.cell (p := ⟨gb, i, none⟩) HC66.out.2).trans HC66.out.1, Nat.lt_of_lt_of_le HC66.out.2 HBW.out.size⟩
        have g0 := HBC.out.1
        have g1 := HBC.out.2
        by_cases h3 : k < kk
        case neg =>
          obtain rfl : k = kk := by omega
          have HS8 : Hid ((sm || al) = true ↔ ∃ j, j < i + 1 ∧ allW U2 l2 (vvW W5 j) (kkW W5 j)) := HSN.out _ (by rw [Bool.or_eq_true, HAL.out])
          cases sm
          · go_wp2
            go_roundw
            case rel => exact ⟨i + 1, al, by omega, by go_num, rfl, HS8, HBW⟩
            case measure => first | (simp [intOf]; done) | (simp [intOf]; omega)
          · go_wp2
            go_roundw
            case rel => exact ⟨i + 1, true, by omega, by go_num, rfl, HS8, HBW⟩
            case measure => first | (simp [intOf]; done) | (simp [intOf]; omega)
        case pos =>
          have k1 : (k : Int) < (kk : Int) := by omega
          obtain ⟨ab, ao, rfl, zab, cab⟩ := HBR.out k h3
          obtain ⟨K1, hK1⟩ : ∃ K1 : Nat, K1 = k + 1 := ⟨_, rfl⟩
          have HK1 : Hid (K1 = k + 1) := hK1
          have kq : (K1 : Int) ≤ (gc : Int) := by omega
          have kq2 : (K1 : Int) ≤ (kk : Int) := by omega
          have kq3 : K1 ≤ kk := by omega
          have kq4 : kk ≤ gc := by omega
          obtain ⟨ta, hta⟩ : ∃ ta : Option Addr, (if gc = K1 then some ⟨ab, ao, none⟩ else some ⟨ab, ao + K1, none⟩) = ta := ⟨_, rfl⟩
          have HTR : ∀ w', RowI w' (some ⟨ab, ao, none⟩) kk Vk → RowI w' ta (kk - K1) (fun r => Vk (K1 + r)) := fun w' h j hj => by
            obtain ⟨b_, o_, e_, l_, c_⟩ := h (K1 + j) (by omega)
            cases e_
            rw [← hta, if_neg (by omega)]
            exact ⟨ab, ao + K1, rfl, l_, by rw [Nat.add_assoc]; exact c_⟩
          have HTR : Hid (∀ w', RowI w' (some ⟨ab, ao, none⟩) kk Vk → RowI w' ta (kk - K1) (fun r => Vk (K1 + r))) := HTR
          have HTA : Hid ((if gc = K1 then some ⟨ab, ao, none⟩ else some ⟨ab, ao + K1, none⟩) = ta) := hta
          have HBX : Hid (wb.cell? ⟨ab, ao + k, none⟩ = some (.int .i64 (Vk k)) ∧ ab < wb.heap.size) := ⟨cab, zab⟩
          clear hta hK1 zab cab
          go_upto_region 18 with fail
          refine wp_region_held_drew (S := fun w' => w'.cell? ⟨p, 0, none⟩ = some (.int .i64 x) ∧ w'.cell? ⟨p, 1, none⟩ = some (.slice t m cap) ∧ p < w'.heap.size ∧ w'.cell? ⟨gb, i, none⟩ = some (.slice (some ⟨ab, ao, none⟩) kk gc) ∧ gb < w'.heap.size) (by kernel_rfl) ?_ (fun hHeld => ?_)
          · exact ⟨HBP.out.2.2 0 _ rfl, HBP.out.2.2 1 _ rfl, HBP.out.1, HBC.out.1, HBC.out.2⟩
          obtain ⟨v0, hv0⟩ : ∃ z, z = wb.drew := ⟨_, rfl⟩
          try rw [← hv0] at hHeld
          rw [← hv0]
          have bv0 : Below wb.heap.size wb v0 := by rw [hv0]; exact Below.drew (Below.refl _ _)
          clear hv0
          have HP0 : Hid (Blk v0 p [.int .i64 x, .slice t m cap]) := HBP.out.below bv0
          have HG0 : Hid (RowGat v0 t m X K V) := HBG.out.below bv0
          have HR0 : Hid (RowI v0 (some ⟨ab, ao, none⟩) kk Vk) := HBR.out.below bv0
          have HC0 : Hid (v0.cell? ⟨gb, i, none⟩ = some (.slice (some ⟨ab, ao, none⟩) kk gc) ∧ gb < v0.heap.size) := ⟨(bv0.cell (p := ⟨gb, i, none⟩) HBC.out.2).trans HBC.out.1, Nat.lt_of_lt_of_le HBC.out.2 bv0.size⟩
          have HW0 : Hid (Below w6.heap.size w6 v0) := HBW.out.trans (bv0.mono HBW.out.size)
          have HV : Hid (Below v0.heap.size v0 v0) := Below.refl _ _
          clear bv0
          refine wpAnyH_take (i := 1) (v := .slice (some ⟨gb, 0, none⟩) M5 c5) rfl (by kernel_rfl) (by kernel_rfl) (by kernel_rfl) (fun _ _ _ h => h) (Or.inl ⟨by kernel_rfl, ?_⟩) hHeld ?_
          · intro w' hSw
            obtain ⟨hc0, hc1, hz1, hc2, hz2⟩ := hSw
            first | (go_simp; done) | (go_simp; with_reducible rfl) | (go_simp; rw [IntKind.wrap_i64]; omega) | (go_simp; omega)
          simp only [Act.put, List.setIfInBounds_toArray, List.set_cons_zero, List.set_cons_succ]
          refine wpAnyH_take (i := 2) (v := .int .i64 (i : Int)) rfl (by kernel_rfl) (by kernel_rfl) (by kernel_rfl) (fun _ _ _ h => h) (Or.inl ⟨by kernel_rfl, ?_⟩) hHeld ?_
          · intro w' hSw
            obtain ⟨hc0, hc1, hz1, hc2, hz2⟩ := hSw
            first | (go_simp; done) | (go_simp; with_reducible rfl) | (go_simp; rw [IntKind.wrap_i64]; omega) | (go_simp; omega)
          simp only [Act.put, List.setIfInBounds_toArray, List.set_cons_zero, List.set_cons_succ]
          refine wpAnyH_take (i := 3) (v := .pointer (some ⟨gb, i, none⟩)) rfl (by kernel_rfl) (by kernel_rfl) (by kernel_rfl) (fun _ _ _ h => h) (Or.inl ⟨by kernel_rfl, ?_⟩) hHeld ?_
          · intro w' hSw
            obtain ⟨hc0, hc1, hz1, hc2, hz2⟩ := hSw
            first | (go_simp; done) | (go_simp; with_reducible rfl) | (go_simp; rw [IntKind.wrap_i64]; omega) | (go_simp; omega)
          simp only [Act.put, List.setIfInBounds_toArray, List.set_cons_zero, List.set_cons_succ]
          refine wpAnyH_take (i := 4) (v := .slice (some ⟨ab, ao, none⟩) kk gc) rfl (by kernel_rfl) (by kernel_rfl) (by kernel_rfl) (fun _ _ _ h => h) (Or.inl ⟨by kernel_rfl, ?_⟩) hHeld ?_
          · intro w' hSw
            obtain ⟨hc0, hc1, hz1, hc2, hz2⟩ := hSw
            first | (go_simp; done) | (go_simp; with_reducible rfl) | (go_simp; rw [IntKind.wrap_i64]; omega) | (go_simp; omega)
          simp only [Act.put, List.setIfInBounds_toArray, List.set_cons_zero, List.set_cons_succ]
          refine wpAnyH_take (i := 5) (v := .int .i64 (k : Int)) rfl (by kernel_rfl) (by kernel_rfl) (by kernel_rfl) (fun _ _ _ h => h) (Or.inl ⟨by kernel_rfl, ?_⟩) hHeld ?_
          · intro w' hSw
            obtain ⟨hc0, hc1, hz1, hc2, hz2⟩ := hSw
            first | (go_simp; done) | (go_simp; with_reducible rfl) | (go_simp; rw [IntKind.wrap_i64]; omega) | (go_simp; omega)
          simp only [Act.put, List.setIfInBounds_toArray, List.set_cons_zero, List.set_cons_succ]
          refine wpAnyH_take (i := 6) (v := .slice (some ⟨ab, ao, none⟩) k gc) rfl (by kernel_rfl) (by kernel_rfl) (by kernel_rfl) (fun _ _ _ h => h) (Or.inl ⟨by kernel_rfl, ?_⟩) hHeld ?_
          · intro w' hSw
            obtain ⟨hc0, hc1, hz1, hc2, hz2⟩ := hSw
            first | (go_simp; done) | (go_simp; with_reducible rfl) | (go_simp; exact HTA.out) | (go_simp; intro q_; omega)
          simp only [Act.put, List.setIfInBounds_toArray, List.set_cons_zero, List.set_cons_succ]
          refine wpAnyH_take (i := 8) (v := .slice (some ⟨gb, 0, none⟩) M5 c5) rfl (by kernel_rfl) (by kernel_rfl) (by kernel_rfl) (fun _ _ _ h => h) (Or.inl ⟨by kernel_rfl, ?_⟩) hHeld ?_
          · intro w' hSw
            obtain ⟨hc0, hc1, hz1, hc2, hz2⟩ := hSw
            first | (go_simp; done) | (go_simp; with_reducible rfl) | (go_simp; rw [IntKind.wrap_i64]; omega) | (go_simp; omega)
          simp only [Act.put, List.setIfInBounds_toArray, List.set_cons_zero, List.set_cons_succ]
          refine wpAnyH_take (i := 9) (v := .int .i64 (i : Int)) rfl (by kernel_rfl) (by kernel_rfl) (by kernel_rfl) (fun _ _ _ h => h) (Or.inl ⟨by kernel_rfl, ?_⟩) hHeld ?_
          · intro w' hSw
            obtain ⟨hc0, hc1, hz1, hc2, hz2⟩ := hSw
            first | (go_simp; done) | (go_simp; with_reducible rfl) | (go_simp; rw [IntKind.wrap_i64]; omega) | (go_simp; omega)
          simp only [Act.put, List.setIfInBounds_toArray, List.set_cons_zero, List.set_cons_succ]
          refine wpAnyH_take (i := 10) (v := .pointer (some ⟨gb, i, none⟩)) rfl (by kernel_rfl) (by kernel_rfl) (by kernel_rfl) (fun _ _ _ h => h) (Or.inl ⟨by kernel_rfl, ?_⟩) hHeld ?_
          · intro w' hSw
            obtain ⟨hc0, hc1, hz1, hc2, hz2⟩ := hSw
            first | (go_simp; done) | (go_simp; with_reducible rfl) | (go_simp; rw [IntKind.wrap_i64]; omega) | (go_simp; omega)
          simp only [Act.put, List.setIfInBounds_toArray, List.set_cons_zero, List.set_cons_succ]
          refine wpAnyH_take (i := 11) (v := .slice (some ⟨ab, ao, none⟩) kk gc) rfl (by kernel_rfl) (by kernel_rfl) (by kernel_rfl) (fun _ _ _ h => h) (Or.inl ⟨by kernel_rfl, ?_⟩) hHeld ?_
          · intro w' hSw
            obtain ⟨hc0, hc1, hz1, hc2, hz2⟩ := hSw
            first | (go_simp; done) | (go_simp; with_reducible rfl) | (go_simp; rw [IntKind.wrap_i64]; omega) | (go_simp; omega)
          simp only [Act.put, List.setIfInBounds_toArray, List.set_cons_zero, List.set_cons_succ]
          refine wpAnyH_take (i := 12) (v := .int .i64 (k : Int)) rfl (by kernel_rfl) (by kernel_rfl) (by kernel_rfl) (fun _ _ _ h => h) (Or.inl ⟨by kernel_rfl, ?_⟩) hHeld ?_
          · intro w' hSw
            obtain ⟨hc0, hc1, hz1, hc2, hz2⟩ := hSw
            first | (go_simp; done) | (go_simp; with_reducible rfl) | (go_simp; rw [IntKind.wrap_i64]; omega) | (go_simp; omega)
          simp only [Act.put, List.setIfInBounds_toArray, List.set_cons_zero, List.set_cons_succ]
          refine wpAnyH_take (i := 13) (v := .int .i64 (K1 : Int)) rfl (by kernel_rfl) (by kernel_rfl) (by kernel_rfl) (fun _ _ _ h => h) (Or.inl ⟨by kernel_rfl, ?_⟩) hHeld ?_
          · intro w' hSw
            obtain ⟨hc0, hc1, hz1, hc2, hz2⟩ := hSw
            have a_ := HK1.out; go_simp; first | (rw [IntKind.wrap_i64]; omega) | omega
          simp only [Act.put, List.setIfInBounds_toArray, List.set_cons_zero, List.set_cons_succ]
          refine wpAnyH_take (i := 14) (v := .slice ta (kk - K1) (gc - K1)) rfl (by kernel_rfl) (by kernel_rfl) (by kernel_rfl) (fun _ _ _ h => h) (Or.inl ⟨by kernel_rfl, ?_⟩) hHeld ?_
          · intro w' hSw
            obtain ⟨hc0, hc1, hz1, hc2, hz2⟩ := hSw
            first | (go_simp; done) | (go_simp; with_reducible rfl) | (go_simp; exact HTA.out) | (go_simp; intro q_; omega)
          simp only [Act.put, List.setIfInBounds_toArray, List.set_cons_zero, List.set_cons_succ]
          refine wpAnyH_ready (rs := [0]) (by kernel_rfl) (by simp) ?_
          refine (AllReadyH.cons rfl (fun KK hK => ?_) AllReadyH.nil)
          go_simp
          obtain ⟨v0_1, hv_⟩ : ∃ z, z = v0.alloc (.cells #[] 2) := ⟨_, rfl⟩
          rw [← hv_]
          obtain ⟨lb, hlb⟩ : ∃ z, z = v0.heap.size := ⟨_, rfl⟩
          have b_ : Below v0.heap.size v0 v0_1 := by rw [hv_]; exact below0 _ _
          have HLit : Hid (Lst lb 2 1 v0_1 (.slice (some ⟨lb, 0, none⟩) 0 0) 0 (fun _ => 0)) := by show Lst _ _ _ _ _ _ _; rw [hv_, hlb]; exact Lst.lit v0 _ _ 2 1 _ (Nat.le_refl _)
          have HZl : Hid (lb ≤ v0_1.heap.size) := by show _ ≤ _; rw [hlb]; exact b_.size
          have zlb : v0.heap.size ≤ lb := by rw [hlb]; exact HV.out.size
          replace HV : Hid (Below v0.heap.size v0 v0_1) := HV.out.trans (b_.mono HV.out.size)
          try rw [← hlb]
          clear hv_ hlb b_
          refine hK.out _ _ (⟨(HV.out.cell (p := ⟨p, 0, none⟩) HP0.out.1).trans (HP0.out.2.2 0 _ rfl), (HV.out.cell (p := ⟨p, 1, none⟩) HP0.out.1).trans (HP0.out.2.2 1 _ rfl), Nat.lt_of_lt_of_le HP0.out.1 HV.out.size, (HV.out.cell (p := ⟨gb, i, none⟩) HC0.out.2).trans (HC0.out.1), Nat.lt_of_lt_of_le HC0.out.2 HV.out.size⟩) (fun hHeld => ?_)
          clear hK KK
          refine wpAnyH_ready (rs := [7]) (by kernel_rfl) (by simp) ?_
          refine (AllReadyH.cons rfl (fun KK hK => ?_) AllReadyH.nil)
          refine join_op lb (.slice (some ⟨lb, 0, none⟩) 0 0) 0 (fun _ => 0) (.tmp 51) (.tmp 57) (some ⟨ab, ao, none⟩) k gc Vk (by rfl) (by rfl) (by rfl) HLit.out (by omega) (by omega) HZl.out (fun j hj => HR0.out.below HV.out j (by omega)) ?_
          intro v7 v0_2 l7 b7
          rw [Nat.zero_add] at l7
          have HL7 : Hid (Lst lb 2 1 v0_2 v7 k (catU (fun _ => 0) (0 * 1) Vk)) := l7
          have HZ7 : Hid (lb ≤ v0_2.heap.size) := Nat.le_trans HZl.out b7.size
          replace HV : Hid (Below v0.heap.size v0 v0_2) := HV.out.trans (b7.mono zlb)
          clear l7 b7 HLit HZl
          go_simp
          refine hK.out _ _ (⟨(HV.out.cell (p := ⟨p, 0, none⟩) HP0.out.1).trans (HP0.out.2.2 0 _ rfl), (HV.out.cell (p := ⟨p, 1, none⟩) HP0.out.1).trans (HP0.out.2.2 1 _ rfl), Nat.lt_of_lt_of_le HP0.out.1 HV.out.size, (HV.out.cell (p := ⟨gb, i, none⟩) HC0.out.2).trans (HC0.out.1), Nat.lt_of_lt_of_le HC0.out.2 HV.out.size⟩) (fun hHeld => ?_)
          clear hK KK
          refine wpAnyH_ready (rs := [15]) (by kernel_rfl) (by simp) ?_
          refine (AllReadyH.cons rfl (fun KK hK => ?_) AllReadyH.nil)
          refine join_op lb v7 k (catU (fun _ => 0) (0 * 1) Vk) (.tmp 58) (.tmp 65) ta (kk - K1) (gc - K1) (fun r => Vk (K1 + r)) (by rfl) (by rfl) (by rfl) HL7.out (by omega) (by omega) HZ7.out (HTR.out _ (HR0.out.below HV.out)) ?_
          intro v8 v0_3 l8 b8
          obtain ⟨t8, c8, e8⟩ := Lst.form l8
          subst e8
          obtain ⟨N8, hN8⟩ : ∃ N8, k + (kk - K1) = N8 := ⟨_, rfl⟩
          rw [hN8] at l8
          have HN8 : Hid (N8 = kk - 1) := by show _ = _; have := HK1.out; omega
          have HL8 : Hid (RowI v0_3 t8 N8 (catU (catU (fun _ => 0) (0 * 1) Vk) (k * 1) (fun r => Vk (K1 + r)))) := by
            obtain ⟨t', c', e', hO⟩ := Lst.own l8
            cases e'
            rw [Nat.mul_one] at hO
            exact hO.row
          try rw [hN8]
          replace HV : Hid (Below v0.heap.size v0 v0_3) := HV.out.trans (b8.mono zlb)
          clear l8 b8 HL7 HZ7 hN8
          go_simp
          refine hK.out _ _ (⟨(HV.out.cell (p := ⟨p, 0, none⟩) HP0.out.1).trans (HP0.out.2.2 0 _ rfl), (HV.out.cell (p := ⟨p, 1, none⟩) HP0.out.1).trans (HP0.out.2.2 1 _ rfl), Nat.lt_of_lt_of_le HP0.out.1 HV.out.size, (HV.out.cell (p := ⟨gb, i, none⟩) HC0.out.2).trans (HC0.out.1), Nat.lt_of_lt_of_le HC0.out.2 HV.out.size⟩) (fun hHeld => ?_)
          clear hK KK
          refine wpAnyH_ready (rs := [16]) (by kernel_rfl) (by simp) ?_
          refine AllReadyH.cons rfl (fun KK hK => ?_) AllReadyH.nil
          go_simp
          refine hK.out _ _ hHeld (fun hHeld => ?_)
          clear hK KK
          refine wpAnyH_done (by kernel_rfl) ?_ _
          clear hHeld
          have HWc : Hid (Below w6.heap.size w6 v0_3) := HW0.out.trans (HV.out.mono HW0.out.size)
          have n8 : (N8 : Int) ≤ 16 := by have := HN8.out; omega
          clear HV HP0 HG0 HR0 HC0 HW0
          have HF3 : Hid (fyB x m X K V N8 (catU (catU (fun _ => 0) (0 * 1) Vk) (k * 1) (fun r => Vk (K1 + r))) = false) := by
            show _ = _
            rw [HN8.out, HK1.out, fy_drop h3]
            exact HF2.out k h3
          have HCP : Hid (Blk v0_3 p [.int .i64 x, .slice t m cap]) := HP6.out.below HWc.out
          have HCG : Hid (RowGat v0_3 t m X K V) := HG6.out.below HWc.out
          have HCU : Hid (RowI v0_3 t2 l2 U2) := HU6.out.below HWc.out
          have p0 := HCP.out.2.2 0 _ rfl
          have p1 := HCP.out.2.2 1 _ rfl
          have pz := HCP.out.1
          go_wp2_with fail
          refine (implFailsBy_any x t m cap X K V t8 N8 c8 _ _ (by omega) HCG HL8).mono ?_
          rintro e wd ⟨rfl, hd⟩
          rw [HF3.out]
          have HDW : Hid (Below w6.heap.size w6 wd) := HWc.out.trans (hd.mono HWc.out.size)
          have HDP : Hid (Blk wd p [.int .i64 x, .slice t m cap]) := HP6.out.below HDW.out
          have HDG : Hid (RowGat wd t m X K V) := HG6.out.below HDW.out
          have HDU : Hid (RowI wd t2 l2 U2) := HU6.out.below HDW.out
          have HDR : Hid (RowI wd (some ⟨ab, ao, none⟩) kk Vk) := HR6.out.below HDW.out
          have HDC : Hid (wd.cell? ⟨gb, i, none⟩ = some (.slice (some ⟨ab, ao, none⟩) kk gc) ∧ gb < wd.heap.size) := ⟨(HDW.out.cell (p := ⟨gb, i, none⟩) HC66.out.2).trans HC66.out.1, Nat.lt_of_lt_of_le HC66.out.2 HDW.out.size⟩
          have HDX : Hid (wd.cell? ⟨ab, ao + k, none⟩ = some (.int .i64 (Vk k)) ∧ ab < wd.heap.size) := by
            obtain ⟨b_, o_, e_, l_, c_⟩ := HDR.out k h3
            cases e_
            exact ⟨c_, l_⟩
          clear hd p0 p1 pz HCP HCG HCU HWc HL8 HF3 HBX HBC HBR HBU HBG HBP HBW g0 g1 HTA HTR
          go_upto_region 21 with fail
          cases al
          · have HAN : Hid (false = true ↔ allW U2 l2 Vk (k + 1)) := ⟨fun q => (by cases q), fun q => HAL.out.2 (fun r hr => q r (by omega))⟩
            go_wp2
            go_roundw
            case rel => exact ⟨k + 1, false, by omega, by go_num, rfl, HAN, HDW⟩
            case measure => first | (simp [intOf]; done) | (simp [intOf]; omega)
          · have HAN : Hid (hasW U2 l2 (Vk k) = true ↔ allW U2 l2 Vk (k + 1)) := by
              have q1 : hasW U2 l2 (Vk k) = true ↔ ∃ j, j < l2 ∧ U2 j = Vk k := decide_eq_true_iff
              refine q1.trans ⟨fun q r hr => ?_, fun q => q k (by omega)⟩
              by_cases e : r = k
              · subst e; exact q
              · exact HAL.out.1 rfl r (by omega)
            have x1 := HDX.out.1
            have x2 := HDX.out.2
            have x3 := HDC.out.1
            have x4 := HDC.out.2
            go_wp2_with fail
            refine (hasL_any t2 l2 c2 U2 (Vk k) _ (by omega) HDU).mono ?_
            rintro e wd ⟨rfl, rfl⟩
            obtain ⟨hb, hhb⟩ : ∃ hb, hasW U2 l2 (Vk k) = hb := ⟨_, rfl⟩
            rw [hhb] at HAN ⊢
            clear hhb x1 x2 x3 x4
            go_wp2
            go_roundw
            case rel => exact ⟨k + 1, hb, by omega, by go_num, rfl, HAN, HDW⟩
            case measure => first | (simp [intOf]; done) | (simp [intOf]; omega)
theorem fnCuts_walk (w : World) (s : Option Addr) (n c : Nat) (hn : n ≤ 9223372036854775807) (R : Bytes w s n) :
    Calls Try.prog 4 #[.slice s n c] w fun e w' => e = .returned (.bool true) ∧ Below w.heap.size w w' := by
  by_cases h : n ≤ 1048576
  · exact fcuts_near w s n c (by omega) (R.code h)
  · exact fcuts_far w s n c (by omega)

set_option maxRecDepth 100000 in
theorem fnCuts_lifted (os : Os) (started : os.Started) (H : Type) (enc : TypeId × Value → H) :
    ReturnsInHanded {} Try.checked os 4 .any (Rows.fnCutsSpec.pre6 enc Try.prog Try.f4 Rows.fnCutsRow.domain false) (Rows.fnCutsSpec.post enc Try.prog Try.f4 false true false false) := by
  refine returnsInHanded_of_change (C := Try.checked) own started (by kernel_rfl) Try.func4
    (ChangeSpec.witness6 (enc := enc) (C := Try.checked) false ⟨#[], #[.slice none 0 0], []⟩ 8 (by kernel_rfl) (by kernel_rfl) (by kernel_rfl) (by kernel_rfl)) ?_
  intro W base args ds gs before hval0 hW hcnd _
  have hval : ∀ (j : Nat) t v, Try.f4.params[j]? = some t → args[j]? = some v → Value.okWide Try.prog W .any base t v := hval0
  have hW' := hW
  obtain ⟨p, q, hA0, hV, rfl, hfz, hnd⟩ := hW
  have hA : DataW.TrodAll enc Try.prog W 0 (fun _ => true) true Try.f4.params.toList args.toList ds p := hA0
  rw [Try.params4] at hA hval
  obtain ⟨v0, vs0, d0, ds0, p0, q0, hargs, rfl, rfl, h0, r0⟩ := trodAll_cons hA
  obtain ⟨rfl, rfl, rfl⟩ := trodAll_nil r0
  obtain rfl : args = #[v0] := by cases args; simp_all
  obtain ⟨rfl, rfl⟩ := trodVars_none hV
  have k0 := h0
  have lt0 : ∀ x ∈ p0, x.block < W.heap.size := by obtain ⟨m, hm⟩ := k0; exact DataW.trod_lt m _ _ _ hm
  obtain ⟨s0, n0, c0, rfl, m0, R0⟩ := open_code Try.underlying22 Try.underlying5 (by kernel_rfl) (hval 0 22 v0 rfl rfl) h0
  clear hA0 hval0
  refine (fnCuts_walk W s0 n0 c0 m0 R0).mono fun e W' ⟨he, bel⟩ => ?_
  subst he
  exact ⟨_, rfl, _, _, _, [], _, [], hW', trodAll_mk1 (shut_bool Try.underlying4 _), (trodAll_cons_mk (Below.trod laidOut (by kernel_rfl) (of_decide_eq_true (by kernel_rfl)) k0 bel lt0) trodAll_mk0), rfl, bel.frame _, fun h => by cases h⟩

theorem fnCuts_holds : Rows.FnCutsSaid :=
  OpenClaim.holds_of_wide 4 Try.f4 rfl rfl rfl rfl rfl rfl rfl ⟨rfl, rfl, rfl, rfl, rfl⟩ rfl rfl rfl rfl rfl (by kernel_rfl) Try.func4 (by kernel_rfl)
    (of_decide_eq_true (by kernel_rfl)) (by unfold Func.isWrapper; first | (rw [if_pos (by decide +kernel)]; kernel_rfl) | (rw [if_neg (by decide +kernel)]; exact ⟨rfl, rfl⟩))
    (fun os started H enc _ => fnCuts_lifted os started H enc)
#print axioms fnCuts_holds
end Go.Proofs.Ytpaiajeigdifcaa
