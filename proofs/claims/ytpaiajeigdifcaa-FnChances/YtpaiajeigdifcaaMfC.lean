/-
What is proved: slices' own merge of two sorted parts, the middle behind the first part.
-/
import Derived.Test.YtpaiajeigdifcaaMfB
import Derived.Deep.RegionHeldLaw
import Derived.Deep.DeepCutAuto
namespace Go.Proofs.Ytpaiajeigdifcaa
set_option maxRecDepth 40000
open Go.ChangeShapes Go.WideShapes Go.ChangeAt Go.RowKit
set_option linter.unusedVariables false
set_option linter.unusedSimpArgs false

/-- What a merge keeps to, of parts that have d or fewer together. -/
def MergeK (B n cp : Nat) (c1 c2 : Value) (Ok : Int → Prop) (Cap : World → Prop) (lt : Int → Int → Prop) (d : Nat) : Prop := ∀ (a m b : Nat) (Z : Nat → Int) (w : World), b - a ≤ d → a < m → m < b → b ≤ n → DatF w B n Z → Cap w → SortS lt Z a m → SortS lt Z m b → CrossS Z a m b → (∀ k, k < n → Ok (Z k)) → Calls Try.prog 107 #[.slice (some ⟨B, 0, none⟩) n cp, .int .i64 (a : Int), .int .i64 (m : Int), .int .i64 (b : Int), .func (.func 82) #[] #[]] w fun e w' => (e = .returned (.tuple #[])) ∧ (∃ W, Merged lt Z W a b ∧ DatF w' B n W) ∧ Turn (fun q => q = B) w w'
set_option maxRecDepth 20000 in
set_option maxHeartbeats 8000000 in
theorem merge_lo (B n cp : Nat) (c1 c2 : Value) (Ok : Int → Prop) (Cap : World → Prop) (lt : Int → Int → Prop) (tr : ∀ x y z, lt x y → lt y z → lt x z) (tot : ∀ x y, x < y → ¬ lt y x → lt x y) (hn : n ≤ 1000) (HM : Hid (CmpK Ok Cap lt c1 c2)) (HK : Hid (CapK B Cap)) (d : Nat) (HI : Hid (MergeK B n cp c1 c2 Ok Cap lt d)) (a m b : Nat) (Z : Nat → Int) (w : World) (h1 : a < m) (h2 : m < b) (h3 : b ≤ n) (HD : Hid (DatF w B n Z)) (HC : Hid (Cap w)) (HL : Hid (SortS lt Z a m)) (HR : Hid (SortS lt Z m b)) (HX0 : Hid (CrossS Z a m b)) (HO : Hid (∀ k, k < n → Ok (Z k))) (hd : b - a ≤ d + 1) (hm : m ≠ a + 1) (hb : b ≠ m + 1) (mid : Nat) (hmid : mid = (a + b) / 2) (hc : m ≤ mid) :
    Calls Try.prog 107 #[.slice (some ⟨B, 0, none⟩) n cp, .int .i64 (a : Int), .int .i64 (m : Int), .int .i64 (b : Int), .func (.func 82) #[] #[]] w fun e w' => (e = .returned (.tuple #[])) ∧ (∃ W, Merged lt Z W a b ∧ DatF w' B n W) ∧ Turn (fun q => q = B) w w' := by
  have e0 : ((m : Int) - (a : Int) == 1) = false := by simp; omega
  have e1 : ((b : Int) - (m : Int) == 1) = false := by simp; omega
  have e2 : ¬ (m : Int) - (a : Int) = 1 := by omega
  have e3 : ¬ (b : Int) - (m : Int) = 1 := by omega
  have hz : ((a : Int) + (b : Int)) / 2 = (mid : Int) := by omega
  have f1 : (m : Int) ≤ (mid : Int) := by omega
  have g1 : 2 * mid ≤ a + b := by omega
  have g2 : a + b ≤ 2 * mid + 1 := by omega
  clear hmid hm hb
  go_enter Try.func107, Try.ntmps107
  go_wp2_with fail
  have f2 : decide (mid < m) = false := decide_eq_false (by omega)
  (try simp only [f2])
  clear f2
  go_loopw [20, 21] (fun u v wr => ∃ (s r : Nat), a ≤ s ∧ s ≤ r ∧ r ≤ m ∧ u = .int .i64 s ∧ v = .int .i64 r ∧ Hid ((a < s → lt (Z (s - 1)) (Z (mid + m - s))) ∧ (r < m → lt (Z (mid + m - 1 - r)) (Z r))) ∧ Hid (DatF wr B n Z) ∧ Hid (Turn (fun q => q = B) w wr)) (fun u v _ => (intOf v).toNat - (intOf u).toNat)
  case atStart => exact ⟨a, m, Nat.le_refl _, by omega, Nat.le_refl _, by first | rfl | go_num | (congr 1; omega), by first | rfl | go_num, ⟨fun q => by omega, fun q => by omega⟩, HD, Turn.refl _ _⟩
  case round =>
    clear HD
    obtain ⟨s, r, i1, i2, i3, rfl, rfl, HV, HD, HT⟩ := hrel
    rename World => ws
    replace HC : Hid (Cap ws) := HK.out _ _ HC.out HT.out
    by_cases hij : s < r
    case pos =>
      have k1 : (s : Int) < (r : Int) := by omega
      obtain ⟨C, hC⟩ : ∃ z : Nat, z = (s + r) / 2 := ⟨_, rfl⟩
      have hz2 : ((s : Int) + (r : Int)) / 2 = (C : Int) := by omega
      have b1 : s ≤ C := by omega
      have b2 : C < r := by omega
      obtain ⟨P, hP⟩ : ∃ z : Nat, z = mid + m - 1 - C := ⟨_, rfl⟩
      have pI : (mid : Int) + (m : Int) - 1 - (C : Int) = (P : Int) := by omega
      have HP : Hid (mid + m - 1 - C = P ∧ mid + m - (C + 1) = P) := ⟨by omega, by omega⟩
      have iI : P < n := by omega
      have iJ : C < n := by omega
      have jI : (P : Int) < (n : Int) := by omega
      have jJ : (C : Int) < (n : Int) := by omega
      have okI := HO.out P iI
      have okJ := HO.out C iJ
      have xlt : Z C < Z P := HX0.out C P (by omega) (by omega) (by omega) (by omega)
      have zb : B < ws.heap.size := HD.out.1
      have dI := HD.out.2.2 P iI
      have dJ := HD.out.2.2 C iJ
      clear hC hP
      by_cases hlt : lt (Z P) (Z C)
      case pos =>
        have HN : Hid ((a < s → lt (Z (s - 1)) (Z (mid + m - s))) ∧ (C < m → lt (Z (mid + m - 1 - C)) (Z C))) := ⟨HV.out.1, fun _ => by rw [HP.out.1]; exact hlt⟩
        have HX : Hid (∀ W', Cap W' → Calls Try.prog 82 #[.int .u32 (Z P), .int .u32 (Z C)] W' fun e w'' => ∃ c, (e = .returned (.int .i64 c)) ∧ (decide (c < 0) = true) ∧ Below W'.heap.size W' w'') := fun W' hW => (HM.out W' (Z C) (Z P) hW okJ okI xlt).mono (fun e w'' ⟨c, h1, h2, h3⟩ => ⟨c, h1, decide_eq_true (h2.mpr hlt), h3⟩)
        clear hlt xlt okI okJ HV
        go_upto_region 35 with fail
        refine wp_region_held_drew (S := fun w' => w'.cell? ⟨B, P, none⟩ = some (.int .u32 (Z P)) ∧ w'.cell? ⟨B, C, none⟩ = some (.int .u32 (Z C))) (by kernel_rfl) ?_ (fun hHeld => ?_)
        · exact ⟨((Below.drew (Below.refl _ _) : Below ws.heap.size ws ws.drew).cell (p := ⟨B, P, none⟩) zb).trans dI, ((Below.drew (Below.refl _ _) : Below ws.heap.size ws ws.drew).cell (p := ⟨B, C, none⟩) zb).trans dJ⟩
        obtain ⟨u0, hv0⟩ : ∃ z, z = ws.drew := ⟨_, rfl⟩
        try rw [← hv0] at hHeld
        rw [← hv0]
        have bv0 : Below ws.heap.size ws u0 := by rw [hv0]; exact Below.drew (Below.refl _ _)
        clear hv0
        replace HD : Hid (DatF u0 B n Z) := HD.out.below bv0
        replace HT : Hid (Turn (fun q => q = B) w u0) := HT.out.trans (Turn.grown bv0)
        replace HC : Hid (Cap u0) := HK.out _ _ HC.out (Turn.grown bv0)
        clear bv0 dI dJ zb
        refine wpAnyH_take (i := 0) (v := .func (.func 82) #[] #[]) rfl (by kernel_rfl) (by kernel_rfl) (by kernel_rfl) (fun _ _ _ h => h) (Or.inl ⟨by kernel_rfl, ?_⟩) hHeld ?_
        · intro w' hSw
          obtain ⟨s0, s1⟩ := hSw
          first | (go_simp; done) | (go_simp; with_reducible rfl) | (go_simp; rw [IntKind.wrap_i64]; omega) | (go_simp; omega)
        simp only [Act.put, List.setIfInBounds_toArray, List.set_cons_zero, List.set_cons_succ]
        refine wpAnyH_take (i := 1) (v := .slice (some ⟨B, 0, none⟩) n cp) rfl (by kernel_rfl) (by kernel_rfl) (by kernel_rfl) (fun _ _ _ h => h) (Or.inl ⟨by kernel_rfl, ?_⟩) hHeld ?_
        · intro w' hSw
          obtain ⟨s0, s1⟩ := hSw
          first | (go_simp; done) | (go_simp; with_reducible rfl) | (go_simp; rw [IntKind.wrap_i64]; omega) | (go_simp; omega)
        simp only [Act.put, List.setIfInBounds_toArray, List.set_cons_zero, List.set_cons_succ]
        refine wpAnyH_take (i := 2) (v := .int .i64 ((mid : Int) + (m : Int) - 1)) rfl (by kernel_rfl) (by kernel_rfl) (by kernel_rfl) (fun _ _ _ h => h) (Or.inl ⟨by kernel_rfl, ?_⟩) hHeld ?_
        · intro w' hSw
          obtain ⟨s0, s1⟩ := hSw
          first | (go_simp; done) | (go_simp; with_reducible rfl) | (go_simp; rw [IntKind.wrap_i64]; omega) | (go_simp; omega)
        simp only [Act.put, List.setIfInBounds_toArray, List.set_cons_zero, List.set_cons_succ]
        refine wpAnyH_take (i := 3) (v := .int .i64 (C : Int)) rfl (by kernel_rfl) (by kernel_rfl) (by kernel_rfl) (fun _ _ _ h => h) (Or.inl ⟨by kernel_rfl, ?_⟩) hHeld ?_
        · intro w' hSw
          obtain ⟨s0, s1⟩ := hSw
          first | (go_simp; done) | (go_simp; with_reducible rfl) | (go_simp; rw [IntKind.wrap_i64]; omega) | (go_simp; omega)
        simp only [Act.put, List.setIfInBounds_toArray, List.set_cons_zero, List.set_cons_succ]
        refine wpAnyH_take (i := 4) (v := .int .i64 (P : Int)) rfl (by kernel_rfl) (by kernel_rfl) (by kernel_rfl) (fun _ _ _ h => h) (Or.inl ⟨by kernel_rfl, ?_⟩) hHeld ?_
        · intro w' hSw
          obtain ⟨s0, s1⟩ := hSw
          first | (go_simp; done) | (go_simp; with_reducible rfl) | (go_simp; rw [IntKind.wrap_i64]; omega) | (go_simp; omega)
        simp only [Act.put, List.setIfInBounds_toArray, List.set_cons_zero, List.set_cons_succ]
        refine wpAnyH_take (i := 5) (v := .pointer (some ⟨B, P, none⟩)) rfl (by kernel_rfl) (by kernel_rfl) (by kernel_rfl) (fun _ _ _ h => h) (Or.inl ⟨by kernel_rfl, ?_⟩) hHeld ?_
        · intro w' hSw
          obtain ⟨s0, s1⟩ := hSw
          first | (go_simp; done) | (go_simp; with_reducible rfl) | (go_simp; rw [IntKind.wrap_i64]; omega) | (go_simp; omega)
        simp only [Act.put, List.setIfInBounds_toArray, List.set_cons_zero, List.set_cons_succ]
        refine wpAnyH_take (i := 6) (v := .int .u32 (Z P)) rfl (by kernel_rfl) (by kernel_rfl) (by kernel_rfl) (fun _ _ _ h => h) (Or.inl ⟨by kernel_rfl, ?_⟩) hHeld ?_
        · intro w' hSw
          obtain ⟨s0, s1⟩ := hSw
          first | (go_simp; done) | (go_simp; with_reducible rfl) | (go_simp; rw [IntKind.wrap_i64]; omega) | (go_simp; omega)
        simp only [Act.put, List.setIfInBounds_toArray, List.set_cons_zero, List.set_cons_succ]
        refine wpAnyH_take (i := 7) (v := .slice (some ⟨B, 0, none⟩) n cp) rfl (by kernel_rfl) (by kernel_rfl) (by kernel_rfl) (fun _ _ _ h => h) (Or.inl ⟨by kernel_rfl, ?_⟩) hHeld ?_
        · intro w' hSw
          obtain ⟨s0, s1⟩ := hSw
          first | (go_simp; done) | (go_simp; with_reducible rfl) | (go_simp; rw [IntKind.wrap_i64]; omega) | (go_simp; omega)
        simp only [Act.put, List.setIfInBounds_toArray, List.set_cons_zero, List.set_cons_succ]
        refine wpAnyH_take (i := 8) (v := .int .i64 (C : Int)) rfl (by kernel_rfl) (by kernel_rfl) (by kernel_rfl) (fun _ _ _ h => h) (Or.inl ⟨by kernel_rfl, ?_⟩) hHeld ?_
        · intro w' hSw
          obtain ⟨s0, s1⟩ := hSw
          first | (go_simp; done) | (go_simp; with_reducible rfl) | (go_simp; rw [IntKind.wrap_i64]; omega) | (go_simp; omega)
        simp only [Act.put, List.setIfInBounds_toArray, List.set_cons_zero, List.set_cons_succ]
        refine wpAnyH_take (i := 9) (v := .pointer (some ⟨B, C, none⟩)) rfl (by kernel_rfl) (by kernel_rfl) (by kernel_rfl) (fun _ _ _ h => h) (Or.inl ⟨by kernel_rfl, ?_⟩) hHeld ?_
        · intro w' hSw
          obtain ⟨s0, s1⟩ := hSw
          first | (go_simp; done) | (go_simp; with_reducible rfl) | (go_simp; rw [IntKind.wrap_i64]; omega) | (go_simp; omega)
        simp only [Act.put, List.setIfInBounds_toArray, List.set_cons_zero, List.set_cons_succ]
        refine wpAnyH_take (i := 10) (v := .int .u32 (Z C)) rfl (by kernel_rfl) (by kernel_rfl) (by kernel_rfl) (fun _ _ _ h => h) (Or.inl ⟨by kernel_rfl, ?_⟩) hHeld ?_
        · intro w' hSw
          obtain ⟨s0, s1⟩ := hSw
          first | (go_simp; done) | (go_simp; with_reducible rfl) | (go_simp; rw [IntKind.wrap_i64]; omega) | (go_simp; omega)
        simp only [Act.put, List.setIfInBounds_toArray, List.set_cons_zero, List.set_cons_succ]
        refine wpAnyH_ready (rs := [11]) (by kernel_rfl) (by simp) ?_
        refine (AllReadyH.cons rfl (fun KK hK => ?_) AllReadyH.nil)
        go_simp
        go_wp2_with fail
        refine (HX.out _ HC.out).mono ?_
        rintro e u0_1 ⟨c, rfl, hc, h6⟩
        replace HD : Hid (DatF u0_1 B n Z) := HD.out.below h6
        replace HT : Hid (Turn (fun q => q = B) w u0_1) := HT.out.trans (Turn.grown h6)
        replace HC : Hid (Cap u0_1) := HK.out _ _ HC.out (Turn.grown h6)
        clear h6
        have dI := HD.out.2.2 P iI
        have dJ := HD.out.2.2 C iJ
        refine hK.out _ _ (⟨dI, dJ⟩) (fun hHeld => ?_)
        clear hK KK
        refine wpAnyH_take (i := 12) (v := .bool true) rfl (by kernel_rfl) (by kernel_rfl) (by kernel_rfl) (fun _ _ _ h => h) (Or.inl ⟨by kernel_rfl, ?_⟩) hHeld ?_
        · intro w' hSw
          obtain ⟨s0, s1⟩ := hSw
          first | (go_simp; done) | (go_simp; with_reducible rfl) | (go_simp; rw [IntKind.wrap_i64]; omega) | (go_simp; omega)
        simp only [Act.put, List.setIfInBounds_toArray, List.set_cons_zero, List.set_cons_succ]
        refine wpAnyH_take (i := 13) (v := .bool false) rfl (by kernel_rfl) (by kernel_rfl) (by kernel_rfl) (fun _ _ _ h => h) (Or.inl ⟨by kernel_rfl, ?_⟩) hHeld ?_
        · intro w' hSw
          obtain ⟨s0, s1⟩ := hSw
          first | (go_simp; done) | (go_simp; with_reducible rfl) | (go_simp; rw [IntKind.wrap_i64]; omega) | (go_simp; omega)
        simp only [Act.put, List.setIfInBounds_toArray, List.set_cons_zero, List.set_cons_succ]
        refine wpAnyH_done (by kernel_rfl) ?_ _
        clear hHeld
        clear hc dI dJ HX
        go_wp2
        go_roundw
        case rel => exact ⟨s, C, i1, b1, by omega, rfl, by go_num, HN, HD, HT⟩
        case measure => first | (simp [intOf]; done) | (simp [intOf]; omega)
      case neg =>
        have HN : Hid ((a < C + 1 → lt (Z (C + 1 - 1)) (Z (mid + m - (C + 1)))) ∧ (r < m → lt (Z (mid + m - 1 - r)) (Z r))) := ⟨fun _ => by rw [HP.out.2]; exact tot _ _ xlt hlt, HV.out.2⟩
        have HX : Hid (∀ W', Cap W' → Calls Try.prog 82 #[.int .u32 (Z P), .int .u32 (Z C)] W' fun e w'' => ∃ c, (e = .returned (.int .i64 c)) ∧ (decide (c < 0) = false) ∧ Below W'.heap.size W' w'') := fun W' hW => (HM.out W' (Z C) (Z P) hW okJ okI xlt).mono (fun e w'' ⟨c, h1, h2, h3⟩ => ⟨c, h1, decide_eq_false (fun q => hlt (h2.mp q)), h3⟩)
        clear hlt xlt okI okJ HV
        go_upto_region 35 with fail
        refine wp_region_held_drew (S := fun w' => w'.cell? ⟨B, P, none⟩ = some (.int .u32 (Z P)) ∧ w'.cell? ⟨B, C, none⟩ = some (.int .u32 (Z C))) (by kernel_rfl) ?_ (fun hHeld => ?_)
        · exact ⟨((Below.drew (Below.refl _ _) : Below ws.heap.size ws ws.drew).cell (p := ⟨B, P, none⟩) zb).trans dI, ((Below.drew (Below.refl _ _) : Below ws.heap.size ws ws.drew).cell (p := ⟨B, C, none⟩) zb).trans dJ⟩
        obtain ⟨u0, hv0⟩ : ∃ z, z = ws.drew := ⟨_, rfl⟩
        try rw [← hv0] at hHeld
        rw [← hv0]
        have bv0 : Below ws.heap.size ws u0 := by rw [hv0]; exact Below.drew (Below.refl _ _)
        clear hv0
        replace HD : Hid (DatF u0 B n Z) := HD.out.below bv0
        replace HT : Hid (Turn (fun q => q = B) w u0) := HT.out.trans (Turn.grown bv0)
        replace HC : Hid (Cap u0) := HK.out _ _ HC.out (Turn.grown bv0)
        clear bv0 dI dJ zb
        refine wpAnyH_take (i := 0) (v := .func (.func 82) #[] #[]) rfl (by kernel_rfl) (by kernel_rfl) (by kernel_rfl) (fun _ _ _ h => h) (Or.inl ⟨by kernel_rfl, ?_⟩) hHeld ?_
        · intro w' hSw
          obtain ⟨s0, s1⟩ := hSw
          first | (go_simp; done) | (go_simp; with_reducible rfl) | (go_simp; rw [IntKind.wrap_i64]; omega) | (go_simp; omega)
        simp only [Act.put, List.setIfInBounds_toArray, List.set_cons_zero, List.set_cons_succ]
        refine wpAnyH_take (i := 1) (v := .slice (some ⟨B, 0, none⟩) n cp) rfl (by kernel_rfl) (by kernel_rfl) (by kernel_rfl) (fun _ _ _ h => h) (Or.inl ⟨by kernel_rfl, ?_⟩) hHeld ?_
        · intro w' hSw
          obtain ⟨s0, s1⟩ := hSw
          first | (go_simp; done) | (go_simp; with_reducible rfl) | (go_simp; rw [IntKind.wrap_i64]; omega) | (go_simp; omega)
        simp only [Act.put, List.setIfInBounds_toArray, List.set_cons_zero, List.set_cons_succ]
        refine wpAnyH_take (i := 2) (v := .int .i64 ((mid : Int) + (m : Int) - 1)) rfl (by kernel_rfl) (by kernel_rfl) (by kernel_rfl) (fun _ _ _ h => h) (Or.inl ⟨by kernel_rfl, ?_⟩) hHeld ?_
        · intro w' hSw
          obtain ⟨s0, s1⟩ := hSw
          first | (go_simp; done) | (go_simp; with_reducible rfl) | (go_simp; rw [IntKind.wrap_i64]; omega) | (go_simp; omega)
        simp only [Act.put, List.setIfInBounds_toArray, List.set_cons_zero, List.set_cons_succ]
        refine wpAnyH_take (i := 3) (v := .int .i64 (C : Int)) rfl (by kernel_rfl) (by kernel_rfl) (by kernel_rfl) (fun _ _ _ h => h) (Or.inl ⟨by kernel_rfl, ?_⟩) hHeld ?_
        · intro w' hSw
          obtain ⟨s0, s1⟩ := hSw
          first | (go_simp; done) | (go_simp; with_reducible rfl) | (go_simp; rw [IntKind.wrap_i64]; omega) | (go_simp; omega)
        simp only [Act.put, List.setIfInBounds_toArray, List.set_cons_zero, List.set_cons_succ]
        refine wpAnyH_take (i := 4) (v := .int .i64 (P : Int)) rfl (by kernel_rfl) (by kernel_rfl) (by kernel_rfl) (fun _ _ _ h => h) (Or.inl ⟨by kernel_rfl, ?_⟩) hHeld ?_
        · intro w' hSw
          obtain ⟨s0, s1⟩ := hSw
          first | (go_simp; done) | (go_simp; with_reducible rfl) | (go_simp; rw [IntKind.wrap_i64]; omega) | (go_simp; omega)
        simp only [Act.put, List.setIfInBounds_toArray, List.set_cons_zero, List.set_cons_succ]
        refine wpAnyH_take (i := 5) (v := .pointer (some ⟨B, P, none⟩)) rfl (by kernel_rfl) (by kernel_rfl) (by kernel_rfl) (fun _ _ _ h => h) (Or.inl ⟨by kernel_rfl, ?_⟩) hHeld ?_
        · intro w' hSw
          obtain ⟨s0, s1⟩ := hSw
          first | (go_simp; done) | (go_simp; with_reducible rfl) | (go_simp; rw [IntKind.wrap_i64]; omega) | (go_simp; omega)
        simp only [Act.put, List.setIfInBounds_toArray, List.set_cons_zero, List.set_cons_succ]
        refine wpAnyH_take (i := 6) (v := .int .u32 (Z P)) rfl (by kernel_rfl) (by kernel_rfl) (by kernel_rfl) (fun _ _ _ h => h) (Or.inl ⟨by kernel_rfl, ?_⟩) hHeld ?_
        · intro w' hSw
          obtain ⟨s0, s1⟩ := hSw
          first | (go_simp; done) | (go_simp; with_reducible rfl) | (go_simp; rw [IntKind.wrap_i64]; omega) | (go_simp; omega)
        simp only [Act.put, List.setIfInBounds_toArray, List.set_cons_zero, List.set_cons_succ]
        refine wpAnyH_take (i := 7) (v := .slice (some ⟨B, 0, none⟩) n cp) rfl (by kernel_rfl) (by kernel_rfl) (by kernel_rfl) (fun _ _ _ h => h) (Or.inl ⟨by kernel_rfl, ?_⟩) hHeld ?_
        · intro w' hSw
          obtain ⟨s0, s1⟩ := hSw
          first | (go_simp; done) | (go_simp; with_reducible rfl) | (go_simp; rw [IntKind.wrap_i64]; omega) | (go_simp; omega)
        simp only [Act.put, List.setIfInBounds_toArray, List.set_cons_zero, List.set_cons_succ]
        refine wpAnyH_take (i := 8) (v := .int .i64 (C : Int)) rfl (by kernel_rfl) (by kernel_rfl) (by kernel_rfl) (fun _ _ _ h => h) (Or.inl ⟨by kernel_rfl, ?_⟩) hHeld ?_
        · intro w' hSw
          obtain ⟨s0, s1⟩ := hSw
          first | (go_simp; done) | (go_simp; with_reducible rfl) | (go_simp; rw [IntKind.wrap_i64]; omega) | (go_simp; omega)
        simp only [Act.put, List.setIfInBounds_toArray, List.set_cons_zero, List.set_cons_succ]
        refine wpAnyH_take (i := 9) (v := .pointer (some ⟨B, C, none⟩)) rfl (by kernel_rfl) (by kernel_rfl) (by kernel_rfl) (fun _ _ _ h => h) (Or.inl ⟨by kernel_rfl, ?_⟩) hHeld ?_
        · intro w' hSw
          obtain ⟨s0, s1⟩ := hSw
          first | (go_simp; done) | (go_simp; with_reducible rfl) | (go_simp; rw [IntKind.wrap_i64]; omega) | (go_simp; omega)
        simp only [Act.put, List.setIfInBounds_toArray, List.set_cons_zero, List.set_cons_succ]
        refine wpAnyH_take (i := 10) (v := .int .u32 (Z C)) rfl (by kernel_rfl) (by kernel_rfl) (by kernel_rfl) (fun _ _ _ h => h) (Or.inl ⟨by kernel_rfl, ?_⟩) hHeld ?_
        · intro w' hSw
          obtain ⟨s0, s1⟩ := hSw
          first | (go_simp; done) | (go_simp; with_reducible rfl) | (go_simp; rw [IntKind.wrap_i64]; omega) | (go_simp; omega)
        simp only [Act.put, List.setIfInBounds_toArray, List.set_cons_zero, List.set_cons_succ]
        refine wpAnyH_ready (rs := [11]) (by kernel_rfl) (by simp) ?_
        refine (AllReadyH.cons rfl (fun KK hK => ?_) AllReadyH.nil)
        go_simp
        go_wp2_with fail
        refine (HX.out _ HC.out).mono ?_
        rintro e u0_1 ⟨c, rfl, hc, h6⟩
        replace HD : Hid (DatF u0_1 B n Z) := HD.out.below h6
        replace HT : Hid (Turn (fun q => q = B) w u0_1) := HT.out.trans (Turn.grown h6)
        replace HC : Hid (Cap u0_1) := HK.out _ _ HC.out (Turn.grown h6)
        clear h6
        have dI := HD.out.2.2 P iI
        have dJ := HD.out.2.2 C iJ
        refine hK.out _ _ (⟨dI, dJ⟩) (fun hHeld => ?_)
        clear hK KK
        refine wpAnyH_take (i := 12) (v := .bool false) rfl (by kernel_rfl) (by kernel_rfl) (by kernel_rfl) (fun _ _ _ h => h) (Or.inl ⟨by kernel_rfl, ?_⟩) hHeld ?_
        · intro w' hSw
          obtain ⟨s0, s1⟩ := hSw
          first | (go_simp; done) | (go_simp; with_reducible rfl) | (go_simp; rw [IntKind.wrap_i64]; omega) | (go_simp; omega)
        simp only [Act.put, List.setIfInBounds_toArray, List.set_cons_zero, List.set_cons_succ]
        refine wpAnyH_take (i := 13) (v := .bool true) rfl (by kernel_rfl) (by kernel_rfl) (by kernel_rfl) (fun _ _ _ h => h) (Or.inl ⟨by kernel_rfl, ?_⟩) hHeld ?_
        · intro w' hSw
          obtain ⟨s0, s1⟩ := hSw
          first | (go_simp; done) | (go_simp; with_reducible rfl) | (go_simp; rw [IntKind.wrap_i64]; omega) | (go_simp; omega)
        simp only [Act.put, List.setIfInBounds_toArray, List.set_cons_zero, List.set_cons_succ]
        refine wpAnyH_done (by kernel_rfl) ?_ _
        clear hHeld
        clear hc dI dJ HX
        go_wp2
        go_roundw
        case rel => exact ⟨C + 1, r, by omega, by omega, i3, by go_num, rfl, HN, HD, HT⟩
        case measure => first | (simp [intOf]; done) | (simp [intOf]; omega)
    case neg =>
      obtain rfl : s = r := by omega
      have k1 : decide ((s : Int) < (s : Int)) = false := decide_eq_false (by omega)
      obtain ⟨E, hE⟩ : ∃ z : Nat, z = mid + m - s := ⟨_, rfl⟩
      have eE : (mid : Int) + (m : Int) - (s : Int) = (E : Int) := by omega
      have r1 : a ≤ s := by omega
      have r2 : s ≤ m := by omega
      have r3 : m ≤ E := by omega
      have r4 : E ≤ b := by omega
      have r5 : s ≤ mid := by omega
      have r6 : mid ≤ E := by omega
      have r7 : s + E = mid + m := by omega
      have HE0 : Hid (CutU Ok lt n Z (rotF Z s m E) a s mid E b) := cutU_of tr (by omega) r1 r2 r3 r4 h3 HL.out HR.out HX0.out HO.out (fun q1 q2 => by rw [hE]; exact HV.out.1 (by omega)) (fun q1 q2 => by rw [show E - 1 = mid + m - 1 - s by omega]; exact HV.out.2 (by omega))
      have wE : IntKind.i64.wrap (E : Int) = (E : Int) := by rw [IntKind.wrap_i64]; omega
      clear hE HV HL HR HX0 HO HM
      by_cases zR1 : s < m
      case pos =>
        have : (s : Int) < (m : Int) := by omega
        have : decide ((s : Int) < (m : Int)) = true := decide_eq_true (by omega)
        by_cases zR2 : m < E
        case pos =>
          have : (m : Int) < (E : Int) := by omega
          have : decide ((m : Int) < (E : Int)) = true := decide_eq_true (by omega)
          by_cases zA1 : a < s
          case pos =>
            have : (a : Int) < (s : Int) := by omega
            have : decide ((a : Int) < (s : Int)) = true := decide_eq_true (by omega)
            by_cases zA2 : s < mid
            case pos =>
              have : (s : Int) < (mid : Int) := by omega
              have : decide ((s : Int) < (mid : Int)) = true := decide_eq_true (by omega)
              by_cases zC1 : mid < E
              case pos =>
                have : (mid : Int) < (E : Int) := by omega
                have : decide ((mid : Int) < (E : Int)) = true := decide_eq_true (by omega)
                by_cases zC2 : E < b
                case pos =>
                  have : (E : Int) < (b : Int) := by omega
                  have : decide ((E : Int) < (b : Int)) = true := decide_eq_true (by omega)
                  go_wp2_with fail
                  refine (rotate_any B n cp s m E (.func (.func 82) #[] #[]) Z _ hn (by omega) (by omega) (by omega) HD).mono ?_
                  rintro e w3 ⟨rfl, D3, T3⟩
                  replace HT : Hid (Turn (fun q => q = B) w w3) := HT.out.trans T3
                  replace HC : Hid (Cap w3) := HK.out _ _ HC.out T3
                  obtain ⟨U, HE, HD⟩ : ∃ U, Hid (CutU Ok lt n Z U a s mid E b) ∧ Hid (DatF w3 B n U) := ⟨_, HE0, D3⟩
                  clear T3 D3 HE0
                  go_wp2_with fail
                  refine (HI.out a s mid U _ (by omega) (by omega) (by omega) (by omega) HD.out HC.out HE.out.2.1.1 HE.out.2.1.2 HE.out.2.2.2.1 HE.out.2.2.2.2.2.2.2).mono ?_
                  rintro e w4 ⟨rfl, ⟨X, M4, D4⟩, T4⟩
                  have HXm : Hid (Merged lt U X a mid) := M4
                  replace HT : Hid (Turn (fun q => q = B) w w4) := HT.out.trans T4
                  replace HC : Hid (Cap w4) := HK.out _ _ HC.out T4
                  replace HD : Hid (DatF w4 B n X) := D4
                  clear M4 D4 T4
                  go_wp2_with fail
                  refine (HI.out mid E b X _ (by omega) (by omega) (by omega) h3 HD.out HC.out (HE.out.2.2.1.1.out HXm.out.2.2 (Or.inr (Nat.le_refl _))) (HE.out.2.2.1.2.out HXm.out.2.2 (Or.inr r6)) (HE.out.2.2.2.2.1.out HXm.out.2.2 (Or.inr (Nat.le_refl _))) (ok_same HE.out.2.2.2.2.2.2.2 HXm.out.2.1 HXm.out.2.2 (by omega))).mono ?_
                  rintro e w5 ⟨rfl, ⟨Y, M5, D5⟩, T5⟩
                  have HYm : Hid (Merged lt X Y mid b) := M5
                  replace HT : Hid (Turn (fun q => q = B) w w5) := HT.out.trans T5
                  replace HD : Hid (DatF w5 B n Y) := D5
                  clear M5 D5 T5
                  go_wp2
                  go_end0
                  exact ⟨rfl, ⟨Y, merged_end (by omega) (by omega) HE.out HXm.out HYm.out, HD.out⟩, HT.out⟩
                case neg =>
                  have : (b : Int) ≤ (E : Int) := by omega
                  have : decide ((E : Int) < (b : Int)) = false := decide_eq_false (by omega)
                  go_wp2_with fail
                  refine (rotate_any B n cp s m E (.func (.func 82) #[] #[]) Z _ hn (by omega) (by omega) (by omega) HD).mono ?_
                  rintro e w3 ⟨rfl, D3, T3⟩
                  replace HT : Hid (Turn (fun q => q = B) w w3) := HT.out.trans T3
                  replace HC : Hid (Cap w3) := HK.out _ _ HC.out T3
                  obtain ⟨U, HE, HD⟩ : ∃ U, Hid (CutU Ok lt n Z U a s mid E b) ∧ Hid (DatF w3 B n U) := ⟨_, HE0, D3⟩
                  clear T3 D3 HE0
                  go_wp2_with fail
                  refine (HI.out a s mid U _ (by omega) (by omega) (by omega) (by omega) HD.out HC.out HE.out.2.1.1 HE.out.2.1.2 HE.out.2.2.2.1 HE.out.2.2.2.2.2.2.2).mono ?_
                  rintro e w4 ⟨rfl, ⟨X, M4, D4⟩, T4⟩
                  have HXm : Hid (Merged lt U X a mid) := M4
                  replace HT : Hid (Turn (fun q => q = B) w w4) := HT.out.trans T4
                  replace HC : Hid (Cap w4) := HK.out _ _ HC.out T4
                  replace HD : Hid (DatF w4 B n X) := D4
                  clear M4 D4 T4
                  have HYm : Hid (Merged lt X X mid b) := merged_refl r6 r4 ⟨HE.out.2.2.1.1.out HXm.out.2.2 (Or.inr (Nat.le_refl _)), HE.out.2.2.1.2.out HXm.out.2.2 (Or.inr r6)⟩ (by omega)
                  go_wp2
                  go_end0
                  exact ⟨rfl, ⟨X, merged_end (by omega) (by omega) HE.out HXm.out HYm.out, HD.out⟩, HT.out⟩
              case neg =>
                have : (E : Int) ≤ (mid : Int) := by omega
                have : decide ((mid : Int) < (E : Int)) = false := decide_eq_false (by omega)
                go_wp2_with fail
                refine (rotate_any B n cp s m E (.func (.func 82) #[] #[]) Z _ hn (by omega) (by omega) (by omega) HD).mono ?_
                rintro e w3 ⟨rfl, D3, T3⟩
                replace HT : Hid (Turn (fun q => q = B) w w3) := HT.out.trans T3
                replace HC : Hid (Cap w3) := HK.out _ _ HC.out T3
                obtain ⟨U, HE, HD⟩ : ∃ U, Hid (CutU Ok lt n Z U a s mid E b) ∧ Hid (DatF w3 B n U) := ⟨_, HE0, D3⟩
                clear T3 D3 HE0
                go_wp2_with fail
                refine (HI.out a s mid U _ (by omega) (by omega) (by omega) (by omega) HD.out HC.out HE.out.2.1.1 HE.out.2.1.2 HE.out.2.2.2.1 HE.out.2.2.2.2.2.2.2).mono ?_
                rintro e w4 ⟨rfl, ⟨X, M4, D4⟩, T4⟩
                have HXm : Hid (Merged lt U X a mid) := M4
                replace HT : Hid (Turn (fun q => q = B) w w4) := HT.out.trans T4
                replace HC : Hid (Cap w4) := HK.out _ _ HC.out T4
                replace HD : Hid (DatF w4 B n X) := D4
                clear M4 D4 T4
                have HYm : Hid (Merged lt X X mid b) := merged_refl r6 r4 ⟨HE.out.2.2.1.1.out HXm.out.2.2 (Or.inr (Nat.le_refl _)), HE.out.2.2.1.2.out HXm.out.2.2 (Or.inr r6)⟩ (by omega)
                go_wp2
                go_end0
                exact ⟨rfl, ⟨X, merged_end (by omega) (by omega) HE.out HXm.out HYm.out, HD.out⟩, HT.out⟩
            case neg =>
              have : (mid : Int) ≤ (s : Int) := by omega
              have : decide ((s : Int) < (mid : Int)) = false := decide_eq_false (by omega)
              by_cases zC1 : mid < E
              case pos =>
                have : (mid : Int) < (E : Int) := by omega
                have : decide ((mid : Int) < (E : Int)) = true := decide_eq_true (by omega)
                by_cases zC2 : E < b
                case pos =>
                  have : (E : Int) < (b : Int) := by omega
                  have : decide ((E : Int) < (b : Int)) = true := decide_eq_true (by omega)
                  go_wp2_with fail
                  refine (rotate_any B n cp s m E (.func (.func 82) #[] #[]) Z _ hn (by omega) (by omega) (by omega) HD).mono ?_
                  rintro e w3 ⟨rfl, D3, T3⟩
                  replace HT : Hid (Turn (fun q => q = B) w w3) := HT.out.trans T3
                  replace HC : Hid (Cap w3) := HK.out _ _ HC.out T3
                  obtain ⟨U, HE, HD⟩ : ∃ U, Hid (CutU Ok lt n Z U a s mid E b) ∧ Hid (DatF w3 B n U) := ⟨_, HE0, D3⟩
                  clear T3 D3 HE0
                  go_wp2_with fail
                  have HXm : Hid (Merged lt U U a mid) := merged_refl r1 r5 HE.out.2.1 (by omega)
                  refine (HI.out mid E b U _ (by omega) (by omega) (by omega) h3 HD.out HC.out (HE.out.2.2.1.1.out HXm.out.2.2 (Or.inr (Nat.le_refl _))) (HE.out.2.2.1.2.out HXm.out.2.2 (Or.inr r6)) (HE.out.2.2.2.2.1.out HXm.out.2.2 (Or.inr (Nat.le_refl _))) (ok_same HE.out.2.2.2.2.2.2.2 HXm.out.2.1 HXm.out.2.2 (by omega))).mono ?_
                  rintro e w5 ⟨rfl, ⟨Y, M5, D5⟩, T5⟩
                  have HYm : Hid (Merged lt U Y mid b) := M5
                  replace HT : Hid (Turn (fun q => q = B) w w5) := HT.out.trans T5
                  replace HD : Hid (DatF w5 B n Y) := D5
                  clear M5 D5 T5
                  go_wp2
                  go_end0
                  exact ⟨rfl, ⟨Y, merged_end (by omega) (by omega) HE.out HXm.out HYm.out, HD.out⟩, HT.out⟩
                case neg =>
                  have : (b : Int) ≤ (E : Int) := by omega
                  have : decide ((E : Int) < (b : Int)) = false := decide_eq_false (by omega)
                  go_wp2_with fail
                  refine (rotate_any B n cp s m E (.func (.func 82) #[] #[]) Z _ hn (by omega) (by omega) (by omega) HD).mono ?_
                  rintro e w3 ⟨rfl, D3, T3⟩
                  replace HT : Hid (Turn (fun q => q = B) w w3) := HT.out.trans T3
                  replace HC : Hid (Cap w3) := HK.out _ _ HC.out T3
                  obtain ⟨U, HE, HD⟩ : ∃ U, Hid (CutU Ok lt n Z U a s mid E b) ∧ Hid (DatF w3 B n U) := ⟨_, HE0, D3⟩
                  clear T3 D3 HE0
                  have HXm : Hid (Merged lt U U a mid) := merged_refl r1 r5 HE.out.2.1 (by omega)
                  have HYm : Hid (Merged lt U U mid b) := merged_refl r6 r4 ⟨HE.out.2.2.1.1.out HXm.out.2.2 (Or.inr (Nat.le_refl _)), HE.out.2.2.1.2.out HXm.out.2.2 (Or.inr r6)⟩ (by omega)
                  go_wp2
                  go_end0
                  exact ⟨rfl, ⟨U, merged_end (by omega) (by omega) HE.out HXm.out HYm.out, HD.out⟩, HT.out⟩
              case neg =>
                have : (E : Int) ≤ (mid : Int) := by omega
                have : decide ((mid : Int) < (E : Int)) = false := decide_eq_false (by omega)
                go_wp2_with fail
                refine (rotate_any B n cp s m E (.func (.func 82) #[] #[]) Z _ hn (by omega) (by omega) (by omega) HD).mono ?_
                rintro e w3 ⟨rfl, D3, T3⟩
                replace HT : Hid (Turn (fun q => q = B) w w3) := HT.out.trans T3
                replace HC : Hid (Cap w3) := HK.out _ _ HC.out T3
                obtain ⟨U, HE, HD⟩ : ∃ U, Hid (CutU Ok lt n Z U a s mid E b) ∧ Hid (DatF w3 B n U) := ⟨_, HE0, D3⟩
                clear T3 D3 HE0
                have HXm : Hid (Merged lt U U a mid) := merged_refl r1 r5 HE.out.2.1 (by omega)
                have HYm : Hid (Merged lt U U mid b) := merged_refl r6 r4 ⟨HE.out.2.2.1.1.out HXm.out.2.2 (Or.inr (Nat.le_refl _)), HE.out.2.2.1.2.out HXm.out.2.2 (Or.inr r6)⟩ (by omega)
                go_wp2
                go_end0
                exact ⟨rfl, ⟨U, merged_end (by omega) (by omega) HE.out HXm.out HYm.out, HD.out⟩, HT.out⟩
          case neg =>
            have : (s : Int) ≤ (a : Int) := by omega
            have : decide ((a : Int) < (s : Int)) = false := decide_eq_false (by omega)
            by_cases zC1 : mid < E
            case pos =>
              have : (mid : Int) < (E : Int) := by omega
              have : decide ((mid : Int) < (E : Int)) = true := decide_eq_true (by omega)
              by_cases zC2 : E < b
              case pos =>
                have : (E : Int) < (b : Int) := by omega
                have : decide ((E : Int) < (b : Int)) = true := decide_eq_true (by omega)
                go_wp2_with fail
                refine (rotate_any B n cp s m E (.func (.func 82) #[] #[]) Z _ hn (by omega) (by omega) (by omega) HD).mono ?_
                rintro e w3 ⟨rfl, D3, T3⟩
                replace HT : Hid (Turn (fun q => q = B) w w3) := HT.out.trans T3
                replace HC : Hid (Cap w3) := HK.out _ _ HC.out T3
                obtain ⟨U, HE, HD⟩ : ∃ U, Hid (CutU Ok lt n Z U a s mid E b) ∧ Hid (DatF w3 B n U) := ⟨_, HE0, D3⟩
                clear T3 D3 HE0
                go_wp2_with fail
                have HXm : Hid (Merged lt U U a mid) := merged_refl r1 r5 HE.out.2.1 (by omega)
                refine (HI.out mid E b U _ (by omega) (by omega) (by omega) h3 HD.out HC.out (HE.out.2.2.1.1.out HXm.out.2.2 (Or.inr (Nat.le_refl _))) (HE.out.2.2.1.2.out HXm.out.2.2 (Or.inr r6)) (HE.out.2.2.2.2.1.out HXm.out.2.2 (Or.inr (Nat.le_refl _))) (ok_same HE.out.2.2.2.2.2.2.2 HXm.out.2.1 HXm.out.2.2 (by omega))).mono ?_
                rintro e w5 ⟨rfl, ⟨Y, M5, D5⟩, T5⟩
                have HYm : Hid (Merged lt U Y mid b) := M5
                replace HT : Hid (Turn (fun q => q = B) w w5) := HT.out.trans T5
                replace HD : Hid (DatF w5 B n Y) := D5
                clear M5 D5 T5
                go_wp2
                go_end0
                exact ⟨rfl, ⟨Y, merged_end (by omega) (by omega) HE.out HXm.out HYm.out, HD.out⟩, HT.out⟩
              case neg =>
                have : (b : Int) ≤ (E : Int) := by omega
                have : decide ((E : Int) < (b : Int)) = false := decide_eq_false (by omega)
                go_wp2_with fail
                refine (rotate_any B n cp s m E (.func (.func 82) #[] #[]) Z _ hn (by omega) (by omega) (by omega) HD).mono ?_
                rintro e w3 ⟨rfl, D3, T3⟩
                replace HT : Hid (Turn (fun q => q = B) w w3) := HT.out.trans T3
                replace HC : Hid (Cap w3) := HK.out _ _ HC.out T3
                obtain ⟨U, HE, HD⟩ : ∃ U, Hid (CutU Ok lt n Z U a s mid E b) ∧ Hid (DatF w3 B n U) := ⟨_, HE0, D3⟩
                clear T3 D3 HE0
                have HXm : Hid (Merged lt U U a mid) := merged_refl r1 r5 HE.out.2.1 (by omega)
                have HYm : Hid (Merged lt U U mid b) := merged_refl r6 r4 ⟨HE.out.2.2.1.1.out HXm.out.2.2 (Or.inr (Nat.le_refl _)), HE.out.2.2.1.2.out HXm.out.2.2 (Or.inr r6)⟩ (by omega)
                go_wp2
                go_end0
                exact ⟨rfl, ⟨U, merged_end (by omega) (by omega) HE.out HXm.out HYm.out, HD.out⟩, HT.out⟩
            case neg =>
              have : (E : Int) ≤ (mid : Int) := by omega
              have : decide ((mid : Int) < (E : Int)) = false := decide_eq_false (by omega)
              go_wp2_with fail
              refine (rotate_any B n cp s m E (.func (.func 82) #[] #[]) Z _ hn (by omega) (by omega) (by omega) HD).mono ?_
              rintro e w3 ⟨rfl, D3, T3⟩
              replace HT : Hid (Turn (fun q => q = B) w w3) := HT.out.trans T3
              replace HC : Hid (Cap w3) := HK.out _ _ HC.out T3
              obtain ⟨U, HE, HD⟩ : ∃ U, Hid (CutU Ok lt n Z U a s mid E b) ∧ Hid (DatF w3 B n U) := ⟨_, HE0, D3⟩
              clear T3 D3 HE0
              have HXm : Hid (Merged lt U U a mid) := merged_refl r1 r5 HE.out.2.1 (by omega)
              have HYm : Hid (Merged lt U U mid b) := merged_refl r6 r4 ⟨HE.out.2.2.1.1.out HXm.out.2.2 (Or.inr (Nat.le_refl _)), HE.out.2.2.1.2.out HXm.out.2.2 (Or.inr r6)⟩ (by omega)
              go_wp2
              go_end0
              exact ⟨rfl, ⟨U, merged_end (by omega) (by omega) HE.out HXm.out HYm.out, HD.out⟩, HT.out⟩
        case neg =>
          exfalso; omega
      case neg =>
        have : (m : Int) ≤ (s : Int) := by omega
        have : decide ((s : Int) < (m : Int)) = false := decide_eq_false (by omega)
        by_cases zA1 : a < s
        case pos =>
          have : (a : Int) < (s : Int) := by omega
          have : decide ((a : Int) < (s : Int)) = true := decide_eq_true (by omega)
          by_cases zA2 : s < mid
          case pos =>
            have : (s : Int) < (mid : Int) := by omega
            have : decide ((s : Int) < (mid : Int)) = true := decide_eq_true (by omega)
            by_cases zC1 : mid < E
            case pos =>
              have : (mid : Int) < (E : Int) := by omega
              have : decide ((mid : Int) < (E : Int)) = true := decide_eq_true (by omega)
              by_cases zC2 : E < b
              case pos =>
                have : (E : Int) < (b : Int) := by omega
                have : decide ((E : Int) < (b : Int)) = true := decide_eq_true (by omega)
                go_wp2_with fail
                have hq : rotF Z s m E = Z := rot_same Z r2 r3 (by omega)
                rw [hq] at HE0
                clear hq
                obtain ⟨U, HE, HD⟩ : ∃ U, Hid (CutU Ok lt n Z U a s mid E b) ∧ Hid (DatF ws B n U) := ⟨_, HE0, HD⟩
                clear HE0
                refine (HI.out a s mid U _ (by omega) (by omega) (by omega) (by omega) HD.out HC.out HE.out.2.1.1 HE.out.2.1.2 HE.out.2.2.2.1 HE.out.2.2.2.2.2.2.2).mono ?_
                rintro e w4 ⟨rfl, ⟨X, M4, D4⟩, T4⟩
                have HXm : Hid (Merged lt U X a mid) := M4
                replace HT : Hid (Turn (fun q => q = B) w w4) := HT.out.trans T4
                replace HC : Hid (Cap w4) := HK.out _ _ HC.out T4
                replace HD : Hid (DatF w4 B n X) := D4
                clear M4 D4 T4
                go_wp2_with fail
                refine (HI.out mid E b X _ (by omega) (by omega) (by omega) h3 HD.out HC.out (HE.out.2.2.1.1.out HXm.out.2.2 (Or.inr (Nat.le_refl _))) (HE.out.2.2.1.2.out HXm.out.2.2 (Or.inr r6)) (HE.out.2.2.2.2.1.out HXm.out.2.2 (Or.inr (Nat.le_refl _))) (ok_same HE.out.2.2.2.2.2.2.2 HXm.out.2.1 HXm.out.2.2 (by omega))).mono ?_
                rintro e w5 ⟨rfl, ⟨Y, M5, D5⟩, T5⟩
                have HYm : Hid (Merged lt X Y mid b) := M5
                replace HT : Hid (Turn (fun q => q = B) w w5) := HT.out.trans T5
                replace HD : Hid (DatF w5 B n Y) := D5
                clear M5 D5 T5
                go_wp2
                go_end0
                exact ⟨rfl, ⟨Y, merged_end (by omega) (by omega) HE.out HXm.out HYm.out, HD.out⟩, HT.out⟩
              case neg =>
                have : (b : Int) ≤ (E : Int) := by omega
                have : decide ((E : Int) < (b : Int)) = false := decide_eq_false (by omega)
                go_wp2_with fail
                have hq : rotF Z s m E = Z := rot_same Z r2 r3 (by omega)
                rw [hq] at HE0
                clear hq
                obtain ⟨U, HE, HD⟩ : ∃ U, Hid (CutU Ok lt n Z U a s mid E b) ∧ Hid (DatF ws B n U) := ⟨_, HE0, HD⟩
                clear HE0
                refine (HI.out a s mid U _ (by omega) (by omega) (by omega) (by omega) HD.out HC.out HE.out.2.1.1 HE.out.2.1.2 HE.out.2.2.2.1 HE.out.2.2.2.2.2.2.2).mono ?_
                rintro e w4 ⟨rfl, ⟨X, M4, D4⟩, T4⟩
                have HXm : Hid (Merged lt U X a mid) := M4
                replace HT : Hid (Turn (fun q => q = B) w w4) := HT.out.trans T4
                replace HC : Hid (Cap w4) := HK.out _ _ HC.out T4
                replace HD : Hid (DatF w4 B n X) := D4
                clear M4 D4 T4
                have HYm : Hid (Merged lt X X mid b) := merged_refl r6 r4 ⟨HE.out.2.2.1.1.out HXm.out.2.2 (Or.inr (Nat.le_refl _)), HE.out.2.2.1.2.out HXm.out.2.2 (Or.inr r6)⟩ (by omega)
                go_wp2
                go_end0
                exact ⟨rfl, ⟨X, merged_end (by omega) (by omega) HE.out HXm.out HYm.out, HD.out⟩, HT.out⟩
            case neg =>
              have : (E : Int) ≤ (mid : Int) := by omega
              have : decide ((mid : Int) < (E : Int)) = false := decide_eq_false (by omega)
              go_wp2_with fail
              have hq : rotF Z s m E = Z := rot_same Z r2 r3 (by omega)
              rw [hq] at HE0
              clear hq
              obtain ⟨U, HE, HD⟩ : ∃ U, Hid (CutU Ok lt n Z U a s mid E b) ∧ Hid (DatF ws B n U) := ⟨_, HE0, HD⟩
              clear HE0
              refine (HI.out a s mid U _ (by omega) (by omega) (by omega) (by omega) HD.out HC.out HE.out.2.1.1 HE.out.2.1.2 HE.out.2.2.2.1 HE.out.2.2.2.2.2.2.2).mono ?_
              rintro e w4 ⟨rfl, ⟨X, M4, D4⟩, T4⟩
              have HXm : Hid (Merged lt U X a mid) := M4
              replace HT : Hid (Turn (fun q => q = B) w w4) := HT.out.trans T4
              replace HC : Hid (Cap w4) := HK.out _ _ HC.out T4
              replace HD : Hid (DatF w4 B n X) := D4
              clear M4 D4 T4
              have HYm : Hid (Merged lt X X mid b) := merged_refl r6 r4 ⟨HE.out.2.2.1.1.out HXm.out.2.2 (Or.inr (Nat.le_refl _)), HE.out.2.2.1.2.out HXm.out.2.2 (Or.inr r6)⟩ (by omega)
              go_wp2
              go_end0
              exact ⟨rfl, ⟨X, merged_end (by omega) (by omega) HE.out HXm.out HYm.out, HD.out⟩, HT.out⟩
          case neg =>
            have : (mid : Int) ≤ (s : Int) := by omega
            have : decide ((s : Int) < (mid : Int)) = false := decide_eq_false (by omega)
            by_cases zC1 : mid < E
            case pos =>
              have : (mid : Int) < (E : Int) := by omega
              have : decide ((mid : Int) < (E : Int)) = true := decide_eq_true (by omega)
              by_cases zC2 : E < b
              case pos =>
                have : (E : Int) < (b : Int) := by omega
                have : decide ((E : Int) < (b : Int)) = true := decide_eq_true (by omega)
                go_wp2_with fail
                have hq : rotF Z s m E = Z := rot_same Z r2 r3 (by omega)
                rw [hq] at HE0
                clear hq
                obtain ⟨U, HE, HD⟩ : ∃ U, Hid (CutU Ok lt n Z U a s mid E b) ∧ Hid (DatF ws B n U) := ⟨_, HE0, HD⟩
                clear HE0
                have HXm : Hid (Merged lt U U a mid) := merged_refl r1 r5 HE.out.2.1 (by omega)
                refine (HI.out mid E b U _ (by omega) (by omega) (by omega) h3 HD.out HC.out (HE.out.2.2.1.1.out HXm.out.2.2 (Or.inr (Nat.le_refl _))) (HE.out.2.2.1.2.out HXm.out.2.2 (Or.inr r6)) (HE.out.2.2.2.2.1.out HXm.out.2.2 (Or.inr (Nat.le_refl _))) (ok_same HE.out.2.2.2.2.2.2.2 HXm.out.2.1 HXm.out.2.2 (by omega))).mono ?_
                rintro e w5 ⟨rfl, ⟨Y, M5, D5⟩, T5⟩
                have HYm : Hid (Merged lt U Y mid b) := M5
                replace HT : Hid (Turn (fun q => q = B) w w5) := HT.out.trans T5
                replace HD : Hid (DatF w5 B n Y) := D5
                clear M5 D5 T5
                go_wp2
                go_end0
                exact ⟨rfl, ⟨Y, merged_end (by omega) (by omega) HE.out HXm.out HYm.out, HD.out⟩, HT.out⟩
              case neg =>
                have : (b : Int) ≤ (E : Int) := by omega
                have : decide ((E : Int) < (b : Int)) = false := decide_eq_false (by omega)
                have hq : rotF Z s m E = Z := rot_same Z r2 r3 (by omega)
                rw [hq] at HE0
                clear hq
                obtain ⟨U, HE, HD⟩ : ∃ U, Hid (CutU Ok lt n Z U a s mid E b) ∧ Hid (DatF ws B n U) := ⟨_, HE0, HD⟩
                clear HE0
                have HXm : Hid (Merged lt U U a mid) := merged_refl r1 r5 HE.out.2.1 (by omega)
                have HYm : Hid (Merged lt U U mid b) := merged_refl r6 r4 ⟨HE.out.2.2.1.1.out HXm.out.2.2 (Or.inr (Nat.le_refl _)), HE.out.2.2.1.2.out HXm.out.2.2 (Or.inr r6)⟩ (by omega)
                go_wp2
                go_end0
                exact ⟨rfl, ⟨U, merged_end (by omega) (by omega) HE.out HXm.out HYm.out, HD.out⟩, HT.out⟩
            case neg =>
              have : (E : Int) ≤ (mid : Int) := by omega
              have : decide ((mid : Int) < (E : Int)) = false := decide_eq_false (by omega)
              have hq : rotF Z s m E = Z := rot_same Z r2 r3 (by omega)
              rw [hq] at HE0
              clear hq
              obtain ⟨U, HE, HD⟩ : ∃ U, Hid (CutU Ok lt n Z U a s mid E b) ∧ Hid (DatF ws B n U) := ⟨_, HE0, HD⟩
              clear HE0
              have HXm : Hid (Merged lt U U a mid) := merged_refl r1 r5 HE.out.2.1 (by omega)
              have HYm : Hid (Merged lt U U mid b) := merged_refl r6 r4 ⟨HE.out.2.2.1.1.out HXm.out.2.2 (Or.inr (Nat.le_refl _)), HE.out.2.2.1.2.out HXm.out.2.2 (Or.inr r6)⟩ (by omega)
              go_wp2
              go_end0
              exact ⟨rfl, ⟨U, merged_end (by omega) (by omega) HE.out HXm.out HYm.out, HD.out⟩, HT.out⟩
        case neg =>
          have : (s : Int) ≤ (a : Int) := by omega
          have : decide ((a : Int) < (s : Int)) = false := decide_eq_false (by omega)
          by_cases zC1 : mid < E
          case pos =>
            have : (mid : Int) < (E : Int) := by omega
            have : decide ((mid : Int) < (E : Int)) = true := decide_eq_true (by omega)
            by_cases zC2 : E < b
            case pos =>
              have : (E : Int) < (b : Int) := by omega
              have : decide ((E : Int) < (b : Int)) = true := decide_eq_true (by omega)
              go_wp2_with fail
              have hq : rotF Z s m E = Z := rot_same Z r2 r3 (by omega)
              rw [hq] at HE0
              clear hq
              obtain ⟨U, HE, HD⟩ : ∃ U, Hid (CutU Ok lt n Z U a s mid E b) ∧ Hid (DatF ws B n U) := ⟨_, HE0, HD⟩
              clear HE0
              have HXm : Hid (Merged lt U U a mid) := merged_refl r1 r5 HE.out.2.1 (by omega)
              refine (HI.out mid E b U _ (by omega) (by omega) (by omega) h3 HD.out HC.out (HE.out.2.2.1.1.out HXm.out.2.2 (Or.inr (Nat.le_refl _))) (HE.out.2.2.1.2.out HXm.out.2.2 (Or.inr r6)) (HE.out.2.2.2.2.1.out HXm.out.2.2 (Or.inr (Nat.le_refl _))) (ok_same HE.out.2.2.2.2.2.2.2 HXm.out.2.1 HXm.out.2.2 (by omega))).mono ?_
              rintro e w5 ⟨rfl, ⟨Y, M5, D5⟩, T5⟩
              have HYm : Hid (Merged lt U Y mid b) := M5
              replace HT : Hid (Turn (fun q => q = B) w w5) := HT.out.trans T5
              replace HD : Hid (DatF w5 B n Y) := D5
              clear M5 D5 T5
              go_wp2
              go_end0
              exact ⟨rfl, ⟨Y, merged_end (by omega) (by omega) HE.out HXm.out HYm.out, HD.out⟩, HT.out⟩
            case neg =>
              have : (b : Int) ≤ (E : Int) := by omega
              have : decide ((E : Int) < (b : Int)) = false := decide_eq_false (by omega)
              have hq : rotF Z s m E = Z := rot_same Z r2 r3 (by omega)
              rw [hq] at HE0
              clear hq
              obtain ⟨U, HE, HD⟩ : ∃ U, Hid (CutU Ok lt n Z U a s mid E b) ∧ Hid (DatF ws B n U) := ⟨_, HE0, HD⟩
              clear HE0
              have HXm : Hid (Merged lt U U a mid) := merged_refl r1 r5 HE.out.2.1 (by omega)
              have HYm : Hid (Merged lt U U mid b) := merged_refl r6 r4 ⟨HE.out.2.2.1.1.out HXm.out.2.2 (Or.inr (Nat.le_refl _)), HE.out.2.2.1.2.out HXm.out.2.2 (Or.inr r6)⟩ (by omega)
              go_wp2
              go_end0
              exact ⟨rfl, ⟨U, merged_end (by omega) (by omega) HE.out HXm.out HYm.out, HD.out⟩, HT.out⟩
          case neg =>
            have : (E : Int) ≤ (mid : Int) := by omega
            have : decide ((mid : Int) < (E : Int)) = false := decide_eq_false (by omega)
            have hq : rotF Z s m E = Z := rot_same Z r2 r3 (by omega)
            rw [hq] at HE0
            clear hq
            obtain ⟨U, HE, HD⟩ : ∃ U, Hid (CutU Ok lt n Z U a s mid E b) ∧ Hid (DatF ws B n U) := ⟨_, HE0, HD⟩
            clear HE0
            have HXm : Hid (Merged lt U U a mid) := merged_refl r1 r5 HE.out.2.1 (by omega)
            have HYm : Hid (Merged lt U U mid b) := merged_refl r6 r4 ⟨HE.out.2.2.1.1.out HXm.out.2.2 (Or.inr (Nat.le_refl _)), HE.out.2.2.1.2.out HXm.out.2.2 (Or.inr r6)⟩ (by omega)
            go_wp2
            go_end0
            exact ⟨rfl, ⟨U, merged_end (by omega) (by omega) HE.out HXm.out HYm.out, HD.out⟩, HT.out⟩
end Go.Proofs.Ytpaiajeigdifcaa
