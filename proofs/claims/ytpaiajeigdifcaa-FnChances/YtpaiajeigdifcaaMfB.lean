/-
What is proved: slices' own merge of two sorted parts, the second of which has a single one.
-/
import Derived.Test.YtpaiajeigdifcaaMfA
import Derived.Deep.RegionHeldLaw
import Derived.Deep.DeepCutAuto
namespace Go.Proofs.Ytpaiajeigdifcaa
set_option maxRecDepth 40000
open Go.ChangeShapes Go.WideShapes Go.ChangeAt Go.RowKit
set_option linter.unusedVariables false
set_option linter.unusedSimpArgs false

set_option maxRecDepth 20000 in
set_option maxHeartbeats 8000000 in
theorem merge_last (B n cp : Nat) (c1 c2 : Value) (Ok : Int → Prop) (Cap : World → Prop) (lt : Int → Int → Prop) (tr : ∀ x y z, lt x y → lt y z → lt x z) (tot : ∀ x y, x < y → ¬ lt y x → lt x y) (hn : n ≤ 1000) (HM : Hid (CmpK Ok Cap lt c1 c2)) (HK : Hid (CapK B Cap)) (a m b : Nat) (Z : Nat → Int) (w : World) (h1 : a < m) (h2 : m < b) (h3 : b ≤ n) (HD : Hid (DatF w B n Z)) (HC : Hid (Cap w)) (HL : Hid (SortS lt Z a m)) (HR : Hid (SortS lt Z m b)) (HX0 : Hid (CrossS Z a m b)) (HO : Hid (∀ k, k < n → Ok (Z k))) (hm : m ≠ a + 1) (hb : b = m + 1) :
    Calls Try.prog 107 #[.slice (some ⟨B, 0, none⟩) n cp, .int .i64 (a : Int), .int .i64 (m : Int), .int .i64 (b : Int), .func (.func 82) #[] #[]] w fun e w' => (e = .returned (.tuple #[])) ∧ (∃ W, Merged lt Z W a b ∧ DatF w' B n W) ∧ Turn (fun q => q = B) w w' := by
  have e0 : ((m : Int) - (a : Int) == 1) = false := by simp; omega
  have e1 : (b : Int) - (m : Int) = 1 := by omega
  have e2 : ¬ (m : Int) - (a : Int) = 1 := by omega
  have Hb : Hid (b = m + 1) := hb
  clear hb
  go_enter Try.func107, Try.ntmps107
  go_wp2_with fail
  go_loopw [14, 15] (fun u v wr => ∃ (i j : Nat), a ≤ i ∧ i ≤ j ∧ j ≤ m ∧ u = .int .i64 i ∧ v = .int .i64 j ∧ Hid ((a < i → lt (Z (i - 1)) (Z m)) ∧ (j < m → lt (Z m) (Z j))) ∧ Hid (DatF wr B n Z) ∧ Hid (Turn (fun q => q = B) w wr)) (fun u v _ => (intOf v).toNat - (intOf u).toNat)
  case atStart => exact ⟨a, m, Nat.le_refl _, by omega, Nat.le_refl _, rfl, rfl, ⟨fun q => by omega, fun q => by omega⟩, HD, Turn.refl _ _⟩
  case round =>
    clear HD
    obtain ⟨i, j, i1, i2, i3, rfl, rfl, HI, HD, HT⟩ := hrel
    rename World => ws
    replace HC : Hid (Cap ws) := HK.out _ _ HC.out HT.out
    by_cases hij : i < j
    case pos =>
      have k1 : (i : Int) < (j : Int) := by omega
      obtain ⟨I, hI⟩ : ∃ z : Nat, z = (i + j) / 2 := ⟨_, rfl⟩
      have hz : ((i : Int) + (j : Int)) / 2 = (I : Int) := by omega
      have b1 : i ≤ I := by omega
      have b2 : I < j := by omega
      have iI : m < n := by omega
      have iJ : I < n := by omega
      have jI : (m : Int) < (n : Int) := by omega
      have jJ : (I : Int) < (n : Int) := by omega
      have okI := HO.out m iI
      have okJ := HO.out I iJ
      have xlt : Z I < Z m := HX0.out I m (by omega) (by omega) (Nat.le_refl _) h2
      have zb : B < ws.heap.size := HD.out.1
      have dI := HD.out.2.2 m iI
      have dJ := HD.out.2.2 I iJ
      clear hI
      by_cases hlt : lt (Z m) (Z I)
      case pos =>
        have HN : Hid ((a < i → lt (Z (i - 1)) (Z m)) ∧ (I < m → lt (Z m) (Z I))) := ⟨HI.out.1, fun _ => hlt⟩
        have HX : Hid (∀ W', Cap W' → Calls Try.prog 82 #[.int .u32 (Z m), .int .u32 (Z I)] W' fun e w'' => ∃ c, (e = .returned (.int .i64 c)) ∧ (decide (c < 0) = true) ∧ Below W'.heap.size W' w'') := fun W' hW => (HM.out W' (Z I) (Z m) hW okJ okI xlt).mono (fun e w'' ⟨c, h1, h2, h3⟩ => ⟨c, h1, decide_eq_true (h2.mpr hlt), h3⟩)
        clear hlt xlt okI okJ HI
        go_upto_region 17 with fail
        refine wp_region_held_drew (S := fun w' => w'.cell? ⟨B, m, none⟩ = some (.int .u32 (Z m)) ∧ w'.cell? ⟨B, I, none⟩ = some (.int .u32 (Z I))) (by kernel_rfl) ?_ (fun hHeld => ?_)
        · exact ⟨((Below.drew (Below.refl _ _) : Below ws.heap.size ws ws.drew).cell (p := ⟨B, m, none⟩) zb).trans dI, ((Below.drew (Below.refl _ _) : Below ws.heap.size ws ws.drew).cell (p := ⟨B, I, none⟩) zb).trans dJ⟩
        obtain ⟨u0, hv0⟩ : ∃ z, z = ws.drew := ⟨_, rfl⟩
        try rw [← hv0] at hHeld
        rw [← hv0]
        have bv0 : Below ws.heap.size ws u0 := by rw [hv0]; exact Below.drew (Below.refl _ _)
        clear hv0
        replace HD : Hid (DatF u0 B n Z) := HD.out.below bv0
        replace HT : Hid (Turn (fun q => q = B) w u0) := HT.out.trans (Turn.grown bv0)
        replace HC : Hid (Cap u0) := HK.out _ _ HC.out (Turn.grown bv0)
        clear bv0 dI dJ zb
        refine wpAnyH_take (i := 0) (v := .func (.func 82) #[] #[]) rfl (by kernel_rfl) (by kernel_rfl) (by kernel_rfl) (fun _ _ _ h => h) (Or.inl ⟨by kernel_rfl, ?_⟩) hHeld ?_
        · intro w' hSw
          obtain ⟨s0, s1⟩ := hSw
          first | (go_simp; done) | (go_simp; with_reducible rfl) | (go_simp; rw [IntKind.wrap_i64]; omega) | (go_simp; omega)
        simp only [Act.put, List.setIfInBounds_toArray, List.set_cons_zero, List.set_cons_succ]
        refine wpAnyH_take (i := 1) (v := .slice (some ⟨B, 0, none⟩) n cp) rfl (by kernel_rfl) (by kernel_rfl) (by kernel_rfl) (fun _ _ _ h => h) (Or.inl ⟨by kernel_rfl, ?_⟩) hHeld ?_
        · intro w' hSw
          obtain ⟨s0, s1⟩ := hSw
          first | (go_simp; done) | (go_simp; with_reducible rfl) | (go_simp; rw [IntKind.wrap_i64]; omega) | (go_simp; omega)
        simp only [Act.put, List.setIfInBounds_toArray, List.set_cons_zero, List.set_cons_succ]
        refine wpAnyH_take (i := 2) (v := .int .i64 (m : Int)) rfl (by kernel_rfl) (by kernel_rfl) (by kernel_rfl) (fun _ _ _ h => h) (Or.inl ⟨by kernel_rfl, ?_⟩) hHeld ?_
        · intro w' hSw
          obtain ⟨s0, s1⟩ := hSw
          first | (go_simp; done) | (go_simp; with_reducible rfl) | (go_simp; rw [IntKind.wrap_i64]; omega) | (go_simp; omega)
        simp only [Act.put, List.setIfInBounds_toArray, List.set_cons_zero, List.set_cons_succ]
        refine wpAnyH_take (i := 3) (v := .pointer (some ⟨B, m, none⟩)) rfl (by kernel_rfl) (by kernel_rfl) (by kernel_rfl) (fun _ _ _ h => h) (Or.inl ⟨by kernel_rfl, ?_⟩) hHeld ?_
        · intro w' hSw
          obtain ⟨s0, s1⟩ := hSw
          first | (go_simp; done) | (go_simp; with_reducible rfl) | (go_simp; rw [IntKind.wrap_i64]; omega) | (go_simp; omega)
        simp only [Act.put, List.setIfInBounds_toArray, List.set_cons_zero, List.set_cons_succ]
        refine wpAnyH_take (i := 4) (v := .int .u32 (Z m)) rfl (by kernel_rfl) (by kernel_rfl) (by kernel_rfl) (fun _ _ _ h => h) (Or.inl ⟨by kernel_rfl, ?_⟩) hHeld ?_
        · intro w' hSw
          obtain ⟨s0, s1⟩ := hSw
          first | (go_simp; done) | (go_simp; with_reducible rfl) | (go_simp; rw [IntKind.wrap_i64]; omega) | (go_simp; omega)
        simp only [Act.put, List.setIfInBounds_toArray, List.set_cons_zero, List.set_cons_succ]
        refine wpAnyH_take (i := 5) (v := .slice (some ⟨B, 0, none⟩) n cp) rfl (by kernel_rfl) (by kernel_rfl) (by kernel_rfl) (fun _ _ _ h => h) (Or.inl ⟨by kernel_rfl, ?_⟩) hHeld ?_
        · intro w' hSw
          obtain ⟨s0, s1⟩ := hSw
          first | (go_simp; done) | (go_simp; with_reducible rfl) | (go_simp; rw [IntKind.wrap_i64]; omega) | (go_simp; omega)
        simp only [Act.put, List.setIfInBounds_toArray, List.set_cons_zero, List.set_cons_succ]
        refine wpAnyH_take (i := 6) (v := .int .i64 (I : Int)) rfl (by kernel_rfl) (by kernel_rfl) (by kernel_rfl) (fun _ _ _ h => h) (Or.inl ⟨by kernel_rfl, ?_⟩) hHeld ?_
        · intro w' hSw
          obtain ⟨s0, s1⟩ := hSw
          first | (go_simp; done) | (go_simp; with_reducible rfl) | (go_simp; rw [IntKind.wrap_i64]; omega) | (go_simp; omega)
        simp only [Act.put, List.setIfInBounds_toArray, List.set_cons_zero, List.set_cons_succ]
        refine wpAnyH_take (i := 7) (v := .pointer (some ⟨B, I, none⟩)) rfl (by kernel_rfl) (by kernel_rfl) (by kernel_rfl) (fun _ _ _ h => h) (Or.inl ⟨by kernel_rfl, ?_⟩) hHeld ?_
        · intro w' hSw
          obtain ⟨s0, s1⟩ := hSw
          first | (go_simp; done) | (go_simp; with_reducible rfl) | (go_simp; rw [IntKind.wrap_i64]; omega) | (go_simp; omega)
        simp only [Act.put, List.setIfInBounds_toArray, List.set_cons_zero, List.set_cons_succ]
        refine wpAnyH_take (i := 8) (v := .int .u32 (Z I)) rfl (by kernel_rfl) (by kernel_rfl) (by kernel_rfl) (fun _ _ _ h => h) (Or.inl ⟨by kernel_rfl, ?_⟩) hHeld ?_
        · intro w' hSw
          obtain ⟨s0, s1⟩ := hSw
          first | (go_simp; done) | (go_simp; with_reducible rfl) | (go_simp; rw [IntKind.wrap_i64]; omega) | (go_simp; omega)
        simp only [Act.put, List.setIfInBounds_toArray, List.set_cons_zero, List.set_cons_succ]
        refine wpAnyH_ready (rs := [9]) (by kernel_rfl) (by simp) ?_
        refine (AllReadyH.cons rfl (fun KK hK => ?_) AllReadyH.nil)
        go_simp
        go_wp2_with fail
        refine (HX.out _ HC.out).mono ?_
        rintro e u0_1 ⟨c, rfl, hc, h6⟩
        replace HD : Hid (DatF u0_1 B n Z) := HD.out.below h6
        replace HT : Hid (Turn (fun q => q = B) w u0_1) := HT.out.trans (Turn.grown h6)
        replace HC : Hid (Cap u0_1) := HK.out _ _ HC.out (Turn.grown h6)
        clear h6
        have dI := HD.out.2.2 m iI
        have dJ := HD.out.2.2 I iJ
        refine hK.out _ _ (⟨dI, dJ⟩) (fun hHeld => ?_)
        clear hK KK
        refine wpAnyH_take (i := 10) (v := .bool true) rfl (by kernel_rfl) (by kernel_rfl) (by kernel_rfl) (fun _ _ _ h => h) (Or.inl ⟨by kernel_rfl, ?_⟩) hHeld ?_
        · intro w' hSw
          obtain ⟨s0, s1⟩ := hSw
          first | (go_simp; done) | (go_simp; with_reducible rfl) | (go_simp; rw [IntKind.wrap_i64]; omega) | (go_simp; omega)
        simp only [Act.put, List.setIfInBounds_toArray, List.set_cons_zero, List.set_cons_succ]
        refine wpAnyH_take (i := 11) (v := .bool false) rfl (by kernel_rfl) (by kernel_rfl) (by kernel_rfl) (fun _ _ _ h => h) (Or.inl ⟨by kernel_rfl, ?_⟩) hHeld ?_
        · intro w' hSw
          obtain ⟨s0, s1⟩ := hSw
          first | (go_simp; done) | (go_simp; with_reducible rfl) | (go_simp; rw [IntKind.wrap_i64]; omega) | (go_simp; omega)
        simp only [Act.put, List.setIfInBounds_toArray, List.set_cons_zero, List.set_cons_succ]
        refine wpAnyH_done (by kernel_rfl) ?_ _
        clear hHeld
        clear hc dI dJ HX
        go_wp2
        go_roundw
        case rel => exact ⟨i, I, i1, b1, by omega, rfl, by go_num, HN, HD, HT⟩
        case measure => first | (simp [intOf]; done) | (simp [intOf]; omega)
      case neg =>
        have HN : Hid ((a < I + 1 → lt (Z (I + 1 - 1)) (Z m)) ∧ (j < m → lt (Z m) (Z j))) := ⟨fun _ => tot _ _ xlt hlt, HI.out.2⟩
        have HX : Hid (∀ W', Cap W' → Calls Try.prog 82 #[.int .u32 (Z m), .int .u32 (Z I)] W' fun e w'' => ∃ c, (e = .returned (.int .i64 c)) ∧ (decide (c < 0) = false) ∧ Below W'.heap.size W' w'') := fun W' hW => (HM.out W' (Z I) (Z m) hW okJ okI xlt).mono (fun e w'' ⟨c, h1, h2, h3⟩ => ⟨c, h1, decide_eq_false (fun q => hlt (h2.mp q)), h3⟩)
        clear hlt xlt okI okJ HI
        go_upto_region 17 with fail
        refine wp_region_held_drew (S := fun w' => w'.cell? ⟨B, m, none⟩ = some (.int .u32 (Z m)) ∧ w'.cell? ⟨B, I, none⟩ = some (.int .u32 (Z I))) (by kernel_rfl) ?_ (fun hHeld => ?_)
        · exact ⟨((Below.drew (Below.refl _ _) : Below ws.heap.size ws ws.drew).cell (p := ⟨B, m, none⟩) zb).trans dI, ((Below.drew (Below.refl _ _) : Below ws.heap.size ws ws.drew).cell (p := ⟨B, I, none⟩) zb).trans dJ⟩
        obtain ⟨u0, hv0⟩ : ∃ z, z = ws.drew := ⟨_, rfl⟩
        try rw [← hv0] at hHeld
        rw [← hv0]
        have bv0 : Below ws.heap.size ws u0 := by rw [hv0]; exact Below.drew (Below.refl _ _)
        clear hv0
        replace HD : Hid (DatF u0 B n Z) := HD.out.below bv0
        replace HT : Hid (Turn (fun q => q = B) w u0) := HT.out.trans (Turn.grown bv0)
        replace HC : Hid (Cap u0) := HK.out _ _ HC.out (Turn.grown bv0)
        clear bv0 dI dJ zb
        refine wpAnyH_take (i := 0) (v := .func (.func 82) #[] #[]) rfl (by kernel_rfl) (by kernel_rfl) (by kernel_rfl) (fun _ _ _ h => h) (Or.inl ⟨by kernel_rfl, ?_⟩) hHeld ?_
        · intro w' hSw
          obtain ⟨s0, s1⟩ := hSw
          first | (go_simp; done) | (go_simp; with_reducible rfl) | (go_simp; rw [IntKind.wrap_i64]; omega) | (go_simp; omega)
        simp only [Act.put, List.setIfInBounds_toArray, List.set_cons_zero, List.set_cons_succ]
        refine wpAnyH_take (i := 1) (v := .slice (some ⟨B, 0, none⟩) n cp) rfl (by kernel_rfl) (by kernel_rfl) (by kernel_rfl) (fun _ _ _ h => h) (Or.inl ⟨by kernel_rfl, ?_⟩) hHeld ?_
        · intro w' hSw
          obtain ⟨s0, s1⟩ := hSw
          first | (go_simp; done) | (go_simp; with_reducible rfl) | (go_simp; rw [IntKind.wrap_i64]; omega) | (go_simp; omega)
        simp only [Act.put, List.setIfInBounds_toArray, List.set_cons_zero, List.set_cons_succ]
        refine wpAnyH_take (i := 2) (v := .int .i64 (m : Int)) rfl (by kernel_rfl) (by kernel_rfl) (by kernel_rfl) (fun _ _ _ h => h) (Or.inl ⟨by kernel_rfl, ?_⟩) hHeld ?_
        · intro w' hSw
          obtain ⟨s0, s1⟩ := hSw
          first | (go_simp; done) | (go_simp; with_reducible rfl) | (go_simp; rw [IntKind.wrap_i64]; omega) | (go_simp; omega)
        simp only [Act.put, List.setIfInBounds_toArray, List.set_cons_zero, List.set_cons_succ]
        refine wpAnyH_take (i := 3) (v := .pointer (some ⟨B, m, none⟩)) rfl (by kernel_rfl) (by kernel_rfl) (by kernel_rfl) (fun _ _ _ h => h) (Or.inl ⟨by kernel_rfl, ?_⟩) hHeld ?_
        · intro w' hSw
          obtain ⟨s0, s1⟩ := hSw
          first | (go_simp; done) | (go_simp; with_reducible rfl) | (go_simp; rw [IntKind.wrap_i64]; omega) | (go_simp; omega)
        simp only [Act.put, List.setIfInBounds_toArray, List.set_cons_zero, List.set_cons_succ]
        refine wpAnyH_take (i := 4) (v := .int .u32 (Z m)) rfl (by kernel_rfl) (by kernel_rfl) (by kernel_rfl) (fun _ _ _ h => h) (Or.inl ⟨by kernel_rfl, ?_⟩) hHeld ?_
        · intro w' hSw
          obtain ⟨s0, s1⟩ := hSw
          first | (go_simp; done) | (go_simp; with_reducible rfl) | (go_simp; rw [IntKind.wrap_i64]; omega) | (go_simp; omega)
        simp only [Act.put, List.setIfInBounds_toArray, List.set_cons_zero, List.set_cons_succ]
        refine wpAnyH_take (i := 5) (v := .slice (some ⟨B, 0, none⟩) n cp) rfl (by kernel_rfl) (by kernel_rfl) (by kernel_rfl) (fun _ _ _ h => h) (Or.inl ⟨by kernel_rfl, ?_⟩) hHeld ?_
        · intro w' hSw
          obtain ⟨s0, s1⟩ := hSw
          first | (go_simp; done) | (go_simp; with_reducible rfl) | (go_simp; rw [IntKind.wrap_i64]; omega) | (go_simp; omega)
        simp only [Act.put, List.setIfInBounds_toArray, List.set_cons_zero, List.set_cons_succ]
        refine wpAnyH_take (i := 6) (v := .int .i64 (I : Int)) rfl (by kernel_rfl) (by kernel_rfl) (by kernel_rfl) (fun _ _ _ h => h) (Or.inl ⟨by kernel_rfl, ?_⟩) hHeld ?_
        · intro w' hSw
          obtain ⟨s0, s1⟩ := hSw
          first | (go_simp; done) | (go_simp; with_reducible rfl) | (go_simp; rw [IntKind.wrap_i64]; omega) | (go_simp; omega)
        simp only [Act.put, List.setIfInBounds_toArray, List.set_cons_zero, List.set_cons_succ]
        refine wpAnyH_take (i := 7) (v := .pointer (some ⟨B, I, none⟩)) rfl (by kernel_rfl) (by kernel_rfl) (by kernel_rfl) (fun _ _ _ h => h) (Or.inl ⟨by kernel_rfl, ?_⟩) hHeld ?_
        · intro w' hSw
          obtain ⟨s0, s1⟩ := hSw
          first | (go_simp; done) | (go_simp; with_reducible rfl) | (go_simp; rw [IntKind.wrap_i64]; omega) | (go_simp; omega)
        simp only [Act.put, List.setIfInBounds_toArray, List.set_cons_zero, List.set_cons_succ]
        refine wpAnyH_take (i := 8) (v := .int .u32 (Z I)) rfl (by kernel_rfl) (by kernel_rfl) (by kernel_rfl) (fun _ _ _ h => h) (Or.inl ⟨by kernel_rfl, ?_⟩) hHeld ?_
        · intro w' hSw
          obtain ⟨s0, s1⟩ := hSw
          first | (go_simp; done) | (go_simp; with_reducible rfl) | (go_simp; rw [IntKind.wrap_i64]; omega) | (go_simp; omega)
        simp only [Act.put, List.setIfInBounds_toArray, List.set_cons_zero, List.set_cons_succ]
        refine wpAnyH_ready (rs := [9]) (by kernel_rfl) (by simp) ?_
        refine (AllReadyH.cons rfl (fun KK hK => ?_) AllReadyH.nil)
        go_simp
        go_wp2_with fail
        refine (HX.out _ HC.out).mono ?_
        rintro e u0_1 ⟨c, rfl, hc, h6⟩
        replace HD : Hid (DatF u0_1 B n Z) := HD.out.below h6
        replace HT : Hid (Turn (fun q => q = B) w u0_1) := HT.out.trans (Turn.grown h6)
        replace HC : Hid (Cap u0_1) := HK.out _ _ HC.out (Turn.grown h6)
        clear h6
        have dI := HD.out.2.2 m iI
        have dJ := HD.out.2.2 I iJ
        refine hK.out _ _ (⟨dI, dJ⟩) (fun hHeld => ?_)
        clear hK KK
        refine wpAnyH_take (i := 10) (v := .bool false) rfl (by kernel_rfl) (by kernel_rfl) (by kernel_rfl) (fun _ _ _ h => h) (Or.inl ⟨by kernel_rfl, ?_⟩) hHeld ?_
        · intro w' hSw
          obtain ⟨s0, s1⟩ := hSw
          first | (go_simp; done) | (go_simp; with_reducible rfl) | (go_simp; rw [IntKind.wrap_i64]; omega) | (go_simp; omega)
        simp only [Act.put, List.setIfInBounds_toArray, List.set_cons_zero, List.set_cons_succ]
        refine wpAnyH_take (i := 11) (v := .bool true) rfl (by kernel_rfl) (by kernel_rfl) (by kernel_rfl) (fun _ _ _ h => h) (Or.inl ⟨by kernel_rfl, ?_⟩) hHeld ?_
        · intro w' hSw
          obtain ⟨s0, s1⟩ := hSw
          first | (go_simp; done) | (go_simp; with_reducible rfl) | (go_simp; rw [IntKind.wrap_i64]; omega) | (go_simp; omega)
        simp only [Act.put, List.setIfInBounds_toArray, List.set_cons_zero, List.set_cons_succ]
        refine wpAnyH_done (by kernel_rfl) ?_ _
        clear hHeld
        clear hc dI dJ HX
        go_wp2
        go_roundw
        case rel => exact ⟨I + 1, j, by omega, by omega, i3, by go_num, rfl, HN, HD, HT⟩
        case measure => first | (simp [intOf]; done) | (simp [intOf]; omega)
    case neg =>
      obtain rfl : i = j := by omega
      have k1 : decide ((i : Int) < (i : Int)) = false := decide_eq_false (by omega)
      have HE : Hid (Merged lt Z (rotF Z i m (m + 1)) a b) := merged_last tr Hb.out i1 i3 HL.out HI.out.1 HI.out.2
      clear HI HR HL HX0 HO HM
      go_wp2_with fail
      go_loopw [17] (fun q wr => ∃ (k : Nat), i ≤ k ∧ k ≤ m ∧ q = .int .i64 k ∧ Hid (DatF wr B n (rotF Z k m (m + 1))) ∧ Hid (Turn (fun q => q = B) w wr)) (fun q _ => (intOf q).toNat)
      case atStart => exact ⟨m, i3, Nat.le_refl _, rfl, by show DatF _ _ _ _; rw [rot_same Z (Nat.le_refl _) (Nat.le_succ _) (Or.inl rfl)]; exact HD.out, HT⟩
      case round =>
        clear HD HT
        obtain ⟨I, ka, kb, rfl, HD, HT⟩ := hrel
        by_cases hk : i < I
        case neg =>
          obtain rfl : I = i := by omega
          go_wp2
          (try simp only [Exit.inBlock, Exit.then])
          refine bodyPost_ret (results_none rfl _ _ _) rfl ?_
          exact ⟨rfl, ⟨_, HE.out, HD.out⟩, HT.out⟩
        have q1 : (i : Int) < (I : Int) := by omega
        obtain ⟨J, hJ⟩ : ∃ J, I = J + 1 := ⟨I - 1, by omega⟩
        have jr : (I : Int) - 1 = (J : Int) := by omega
        have wr1 : IntKind.i64.wrap (J : Int) = (J : Int) := by rw [IntKind.wrap_i64]; omega
        have wr2 : IntKind.i64.wrap ((I : Int) - 1) = (J : Int) := by rw [IntKind.wrap_i64]; omega
        have HN : Hid (∀ k, (if k = J then rotF Z I m (m + 1) I else if k = I then rotF Z I m (m + 1) J else rotF Z I m (m + 1) k) = rotF Z J m (m + 1) k) := by
          show ∀ k, _
          rw [hJ]
          exact rot_down (by omega)
        have HIJ : Hid (i ≤ J ∧ J ≤ m ∧ I = J + 1) := ⟨by omega, by omega, hJ⟩
        have iI : I < n := by omega
        have iJ : J < n := by omega
        have nIJ : I ≠ J := by omega
        have jI : (I : Int) < (n : Int) := by omega
        have jJ : (J : Int) < (n : Int) := by omega
        obtain ⟨U, hU⟩ : ∃ U, rotF Z I m (m + 1) = U := ⟨_, rfl⟩
        rw [hU] at HD HN
        clear hU hJ
        rename World => ws
        go_upto_region 23 with fail
        refine wp_region_held_drew (S := fun w' => True) (by kernel_rfl) ?_ (fun hHeld => ?_)
        · trivial
        obtain ⟨x0, hv0⟩ : ∃ z, z = ws.drew := ⟨_, rfl⟩
        try rw [← hv0] at hHeld
        rw [← hv0]
        have bv0 : Below ws.heap.size ws x0 := by rw [hv0]; exact Below.drew (Below.refl _ _)
        clear hv0
        replace HD : Hid (DatF x0 B n U) := HD.out.below bv0
        replace HT : Hid (Turn (fun q => q = B) w x0) := HT.out.trans (Turn.grown bv0)
        clear bv0
        refine wpAnyH_take (i := 0) (v := .slice (some ⟨B, 0, none⟩) n cp) rfl (by kernel_rfl) (by kernel_rfl) (by kernel_rfl) (fun _ _ _ h => h) (Or.inl ⟨by kernel_rfl, ?_⟩) hHeld ?_
        · intro w' hSw
          first | (go_simp; done) | (go_simp; with_reducible rfl) | (go_simp; rw [IntKind.wrap_i64]; omega) | (go_simp; omega)
        simp only [Act.put, List.setIfInBounds_toArray, List.set_cons_zero, List.set_cons_succ]
        refine wpAnyH_take (i := 1) (v := .int .i64 (I : Int)) rfl (by kernel_rfl) (by kernel_rfl) (by kernel_rfl) (fun _ _ _ h => h) (Or.inl ⟨by kernel_rfl, ?_⟩) hHeld ?_
        · intro w' hSw
          first | (go_simp; done) | (go_simp; with_reducible rfl) | (go_simp; rw [IntKind.wrap_i64]; omega) | (go_simp; omega)
        simp only [Act.put, List.setIfInBounds_toArray, List.set_cons_zero, List.set_cons_succ]
        refine wpAnyH_take (i := 2) (v := .slice (some ⟨B, 0, none⟩) n cp) rfl (by kernel_rfl) (by kernel_rfl) (by kernel_rfl) (fun _ _ _ h => h) (Or.inl ⟨by kernel_rfl, ?_⟩) hHeld ?_
        · intro w' hSw
          first | (go_simp; done) | (go_simp; with_reducible rfl) | (go_simp; rw [IntKind.wrap_i64]; omega) | (go_simp; omega)
        simp only [Act.put, List.setIfInBounds_toArray, List.set_cons_zero, List.set_cons_succ]
        refine wpAnyH_take (i := 3) (v := .int .i64 (I : Int)) rfl (by kernel_rfl) (by kernel_rfl) (by kernel_rfl) (fun _ _ _ h => h) (Or.inl ⟨by kernel_rfl, ?_⟩) hHeld ?_
        · intro w' hSw
          first | (go_simp; done) | (go_simp; with_reducible rfl) | (go_simp; rw [IntKind.wrap_i64]; omega) | (go_simp; omega)
        simp only [Act.put, List.setIfInBounds_toArray, List.set_cons_zero, List.set_cons_succ]
        refine wpAnyH_take (i := 4) (v := .int .i64 (J : Int)) rfl (by kernel_rfl) (by kernel_rfl) (by kernel_rfl) (fun _ _ _ h => h) (Or.inl ⟨by kernel_rfl, ?_⟩) hHeld ?_
        · intro w' hSw
          first | (go_simp; done) | (go_simp; with_reducible rfl) | (go_simp; rw [IntKind.wrap_i64]; omega) | (go_simp; omega)
        simp only [Act.put, List.setIfInBounds_toArray, List.set_cons_zero, List.set_cons_succ]
        refine wpAnyH_take (i := 5) (v := .slice (some ⟨B, 0, none⟩) n cp) rfl (by kernel_rfl) (by kernel_rfl) (by kernel_rfl) (fun _ _ _ h => h) (Or.inl ⟨by kernel_rfl, ?_⟩) hHeld ?_
        · intro w' hSw
          first | (go_simp; done) | (go_simp; with_reducible rfl) | (go_simp; rw [IntKind.wrap_i64]; omega) | (go_simp; omega)
        simp only [Act.put, List.setIfInBounds_toArray, List.set_cons_zero, List.set_cons_succ]
        refine wpAnyH_take (i := 6) (v := .int .i64 (I : Int)) rfl (by kernel_rfl) (by kernel_rfl) (by kernel_rfl) (fun _ _ _ h => h) (Or.inl ⟨by kernel_rfl, ?_⟩) hHeld ?_
        · intro w' hSw
          first | (go_simp; done) | (go_simp; with_reducible rfl) | (go_simp; rw [IntKind.wrap_i64]; omega) | (go_simp; omega)
        simp only [Act.put, List.setIfInBounds_toArray, List.set_cons_zero, List.set_cons_succ]
        refine wpAnyH_take (i := 7) (v := .int .i64 (J : Int)) rfl (by kernel_rfl) (by kernel_rfl) (by kernel_rfl) (fun _ _ _ h => h) (Or.inl ⟨by kernel_rfl, ?_⟩) hHeld ?_
        · intro w' hSw
          first | (go_simp; done) | (go_simp; with_reducible rfl) | (go_simp; rw [IntKind.wrap_i64]; omega) | (go_simp; omega)
        simp only [Act.put, List.setIfInBounds_toArray, List.set_cons_zero, List.set_cons_succ]
        refine wpAnyH_take (i := 8) (v := .pointer (some ⟨B, J, none⟩)) rfl (by kernel_rfl) (by kernel_rfl) (by kernel_rfl) (fun _ _ _ h => h) (Or.inl ⟨by kernel_rfl, ?_⟩) hHeld ?_
        · intro w' hSw
          first | (go_simp; done) | (go_simp; with_reducible rfl) | (go_simp; rw [IntKind.wrap_i64]; omega) | (go_simp; omega)
        simp only [Act.put, List.setIfInBounds_toArray, List.set_cons_zero, List.set_cons_succ]
        refine wpAnyH_take (i := 10) (v := .slice (some ⟨B, 0, none⟩) n cp) rfl (by kernel_rfl) (by kernel_rfl) (by kernel_rfl) (fun _ _ _ h => h) (Or.inl ⟨by kernel_rfl, ?_⟩) hHeld ?_
        · intro w' hSw
          first | (go_simp; done) | (go_simp; with_reducible rfl) | (go_simp; rw [IntKind.wrap_i64]; omega) | (go_simp; omega)
        simp only [Act.put, List.setIfInBounds_toArray, List.set_cons_zero, List.set_cons_succ]
        refine wpAnyH_take (i := 11) (v := .int .i64 (I : Int)) rfl (by kernel_rfl) (by kernel_rfl) (by kernel_rfl) (fun _ _ _ h => h) (Or.inl ⟨by kernel_rfl, ?_⟩) hHeld ?_
        · intro w' hSw
          first | (go_simp; done) | (go_simp; with_reducible rfl) | (go_simp; rw [IntKind.wrap_i64]; omega) | (go_simp; omega)
        simp only [Act.put, List.setIfInBounds_toArray, List.set_cons_zero, List.set_cons_succ]
        refine wpAnyH_take (i := 12) (v := .pointer (some ⟨B, I, none⟩)) rfl (by kernel_rfl) (by kernel_rfl) (by kernel_rfl) (fun _ _ _ h => h) (Or.inl ⟨by kernel_rfl, ?_⟩) hHeld ?_
        · intro w' hSw
          first | (go_simp; done) | (go_simp; with_reducible rfl) | (go_simp; rw [IntKind.wrap_i64]; omega) | (go_simp; omega)
        simp only [Act.put, List.setIfInBounds_toArray, List.set_cons_zero, List.set_cons_succ]
        refine wpAnyH_ready (rs := [9, 13]) (by kernel_rfl) (by simp) ?_
        refine (AllReadyH.cons rfl (fun KK hK => ?_) (AllReadyH.cons rfl (fun KK hK => ?_) AllReadyH.nil))
        · have hl_ : x0.cell? ⟨B, J, none⟩ = some (.int .u32 (U J)) := HD.out.2.2 J iJ
          go_simp
          clear hl_
          refine hK.out _ _ (trivial) (fun hHeld => ?_)
          clear hK KK
          refine wpAnyH_ready (rs := [13]) (by kernel_rfl) (by simp) ?_
          refine (AllReadyH.cons rfl (fun KK hK => ?_) AllReadyH.nil)
          have hl_ : x0.cell? ⟨B, I, none⟩ = some (.int .u32 (U I)) := HD.out.2.2 I iI
          go_simp
          clear hl_
          refine hK.out _ _ (trivial) (fun hHeld => ?_)
          clear hK KK
          refine wpAnyH_take (i := 14) (v := .pointer (some ⟨B, I, none⟩)) rfl (by kernel_rfl) (by kernel_rfl) (by kernel_rfl) (fun _ _ _ h => h) (Or.inl ⟨by kernel_rfl, ?_⟩) hHeld ?_
          · intro w' hSw
            first | (go_simp; done) | (go_simp; with_reducible rfl) | (go_simp; rw [IntKind.wrap_i64]; omega) | (go_simp; omega)
          simp only [Act.put, List.setIfInBounds_toArray, List.set_cons_zero, List.set_cons_succ]
          refine wpAnyH_ready (rs := [15]) (by kernel_rfl) (by simp) ?_
          refine (AllReadyH.cons rfl (fun KK hK => ?_) AllReadyH.nil)
          have hl_ : x0.cell? ⟨B, I, none⟩ = some (.int .u32 (U I)) := HD.out.2.2 I iI
          have hf_ : x0.frozen? ⟨B, I, none⟩ = false := HD.out.2.1 I
          go_simp
          obtain ⟨x0_3, hv_⟩ : ∃ z, x0.setCell ⟨B, I, none⟩ (.int .u32 (U J)) = z := ⟨_, rfl⟩
          rw [hv_]
          have hl2 : x0_3.cell? ⟨B, J, none⟩ = some (.int .u32 (U J)) := by rw [← hv_, World.cell?_setCell_other _ _ _ _ (by intro q; injection q with q1 q2 q3; omega)]; exact HD.out.2.2 J iJ
          have hf2 : x0_3.frozen? ⟨B, J, none⟩ = false := by rw [← hv_]; simp [go_sem, HD.out.2.1]
          clear hl_ hf_
          refine hK.out _ _ (trivial) (fun hHeld => ?_)
          clear hK KK
          refine wpAnyH_take (i := 16) (v := .pointer (some ⟨B, J, none⟩)) rfl (by kernel_rfl) (by kernel_rfl) (by kernel_rfl) (fun _ _ _ h => h) (Or.inl ⟨by kernel_rfl, ?_⟩) hHeld ?_
          · intro w' hSw
            first | (go_simp; done) | (go_simp; with_reducible rfl) | (go_simp; rw [IntKind.wrap_i64]; omega) | (go_simp; omega)
          simp only [Act.put, List.setIfInBounds_toArray, List.set_cons_zero, List.set_cons_succ]
          refine wpAnyH_ready (rs := [17]) (by kernel_rfl) (by simp) ?_
          refine (AllReadyH.cons rfl (fun KK hK => ?_) AllReadyH.nil)
          go_simp
          have HD2 : Hid (DatF (x0_3.setCell ⟨B, J, none⟩ (.int .u32 (U I))) B n (fun k => if k = J then U I else if k = I then U J else U k)) := by show DatF _ _ _ _; rw [← hv_]; exact HD.out.swap iI iJ nIJ
          have HT2 : Hid (Turn (fun q => q = B) w (x0_3.setCell ⟨B, J, none⟩ (.int .u32 (U I)))) := by show Turn _ _ _; rw [← hv_]; exact HT.out.trans ((Turn.of (S := fun q => q = B) (Beside.setCell B _ _ _) rfl).trans (Turn.of (S := fun q => q = B) (Beside.setCell B _ _ _) rfl))
          obtain ⟨x0_4, hv2⟩ : ∃ z, x0_3.setCell ⟨B, J, none⟩ (.int .u32 (U I)) = z := ⟨_, rfl⟩
          rw [hv2] at HD2 HT2 ⊢
          clear hv2 hv_ hl2 hf2 HD HT
          refine hK.out _ _ (trivial) (fun hHeld => ?_)
          clear hK KK
          refine wpAnyH_done (by kernel_rfl) ?_ _
          clear hHeld
          replace HD2 := HD2.out.congr (fun k _ => HN.out k)
          go_wp2
          go_roundw
          case rel => exact ⟨J, HIJ.out.1, HIJ.out.2.1, by go_num, HD2, HT2⟩
          case measure => have := HIJ.out.2.2; first | (simp [intOf]; done) | (simp [intOf]; omega)
        · have hl_ : x0.cell? ⟨B, I, none⟩ = some (.int .u32 (U I)) := HD.out.2.2 I iI
          go_simp
          clear hl_
          refine hK.out _ _ (trivial) (fun hHeld => ?_)
          clear hK KK
          refine wpAnyH_ready (rs := [9]) (by kernel_rfl) (by simp) ?_
          refine (AllReadyH.cons rfl (fun KK hK => ?_) AllReadyH.nil)
          have hl_ : x0.cell? ⟨B, J, none⟩ = some (.int .u32 (U J)) := HD.out.2.2 J iJ
          go_simp
          clear hl_
          refine hK.out _ _ (trivial) (fun hHeld => ?_)
          clear hK KK
          refine wpAnyH_take (i := 14) (v := .pointer (some ⟨B, I, none⟩)) rfl (by kernel_rfl) (by kernel_rfl) (by kernel_rfl) (fun _ _ _ h => h) (Or.inl ⟨by kernel_rfl, ?_⟩) hHeld ?_
          · intro w' hSw
            first | (go_simp; done) | (go_simp; with_reducible rfl) | (go_simp; rw [IntKind.wrap_i64]; omega) | (go_simp; omega)
          simp only [Act.put, List.setIfInBounds_toArray, List.set_cons_zero, List.set_cons_succ]
          refine wpAnyH_ready (rs := [15]) (by kernel_rfl) (by simp) ?_
          refine (AllReadyH.cons rfl (fun KK hK => ?_) AllReadyH.nil)
          have hl_ : x0.cell? ⟨B, I, none⟩ = some (.int .u32 (U I)) := HD.out.2.2 I iI
          have hf_ : x0.frozen? ⟨B, I, none⟩ = false := HD.out.2.1 I
          go_simp
          obtain ⟨x0_7, hv_⟩ : ∃ z, x0.setCell ⟨B, I, none⟩ (.int .u32 (U J)) = z := ⟨_, rfl⟩
          rw [hv_]
          have hl2 : x0_7.cell? ⟨B, J, none⟩ = some (.int .u32 (U J)) := by rw [← hv_, World.cell?_setCell_other _ _ _ _ (by intro q; injection q with q1 q2 q3; omega)]; exact HD.out.2.2 J iJ
          have hf2 : x0_7.frozen? ⟨B, J, none⟩ = false := by rw [← hv_]; simp [go_sem, HD.out.2.1]
          clear hl_ hf_
          refine hK.out _ _ (trivial) (fun hHeld => ?_)
          clear hK KK
          refine wpAnyH_take (i := 16) (v := .pointer (some ⟨B, J, none⟩)) rfl (by kernel_rfl) (by kernel_rfl) (by kernel_rfl) (fun _ _ _ h => h) (Or.inl ⟨by kernel_rfl, ?_⟩) hHeld ?_
          · intro w' hSw
            first | (go_simp; done) | (go_simp; with_reducible rfl) | (go_simp; rw [IntKind.wrap_i64]; omega) | (go_simp; omega)
          simp only [Act.put, List.setIfInBounds_toArray, List.set_cons_zero, List.set_cons_succ]
          refine wpAnyH_ready (rs := [17]) (by kernel_rfl) (by simp) ?_
          refine (AllReadyH.cons rfl (fun KK hK => ?_) AllReadyH.nil)
          go_simp
          have HD2 : Hid (DatF (x0_7.setCell ⟨B, J, none⟩ (.int .u32 (U I))) B n (fun k => if k = J then U I else if k = I then U J else U k)) := by show DatF _ _ _ _; rw [← hv_]; exact HD.out.swap iI iJ nIJ
          have HT2 : Hid (Turn (fun q => q = B) w (x0_7.setCell ⟨B, J, none⟩ (.int .u32 (U I)))) := by show Turn _ _ _; rw [← hv_]; exact HT.out.trans ((Turn.of (S := fun q => q = B) (Beside.setCell B _ _ _) rfl).trans (Turn.of (S := fun q => q = B) (Beside.setCell B _ _ _) rfl))
          obtain ⟨x0_8, hv2⟩ : ∃ z, x0_7.setCell ⟨B, J, none⟩ (.int .u32 (U I)) = z := ⟨_, rfl⟩
          rw [hv2] at HD2 HT2 ⊢
          clear hv2 hv_ hl2 hf2 HD HT
          refine hK.out _ _ (trivial) (fun hHeld => ?_)
          clear hK KK
          refine wpAnyH_done (by kernel_rfl) ?_ _
          clear hHeld
          replace HD2 := HD2.out.congr (fun k _ => HN.out k)
          go_wp2
          go_roundw
          case rel => exact ⟨J, HIJ.out.1, HIJ.out.2.1, by go_num, HD2, HT2⟩
          case measure => have := HIJ.out.2.2; first | (simp [intOf]; done) | (simp [intOf]; omega)
end Go.Proofs.Ytpaiajeigdifcaa
