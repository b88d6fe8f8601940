/-
What is proved: slices' own swapRange and rotate at sets.
-/
import Derived.Test.YtpaiajeigdifcaaMfN
import Derived.Deep.RegionHeldLaw
import Derived.Deep.DeepCutAuto
namespace Go.Proofs.Ytpaiajeigdifcaa
set_option maxRecDepth 40000
open Go.ChangeShapes Go.WideShapes Go.ChangeAt Go.RowKit
set_option linter.unusedVariables false
set_option linter.unusedSimpArgs false

set_option maxRecDepth 20000 in
set_option maxHeartbeats 4000000 in
theorem swapRange_any (B n cp x y l : Nat) (fv : Value) (V : Nat → Int) (w : World) (hn : n ≤ 1000) (h1 : x + l ≤ y) (h2 : y + l ≤ n) (HD : Hid (DatF w B n V)) :
    Calls Try.prog 109 #[.slice (some ⟨B, 0, none⟩) n cp, .int .i64 (x : Int), .int .i64 (y : Int), .int .i64 (l : Int), fv] w fun e w' => e = .returned (.tuple #[]) ∧ DatF w' B n (swrF V x y l) ∧ Turn (fun q => q = B) w w' := by
  go_enter Try.func109, Try.ntmps109
  go_wp2_with fail
  go_loopw [10] (fun i wr => ∃ j : Nat, j ≤ l ∧ i = .int .i64 j ∧ Hid (DatF wr B n (swrF V x y j)) ∧ Hid (Turn (fun q => q = B) w wr)) (fun i _ => l - (intOf i).toNat)
  case atStart => exact ⟨0, Nat.zero_le _, rfl, by show DatF _ _ _ _; rw [swr_zero]; exact HD.out, Turn.refl _ _⟩
  case round =>
    clear HD
    obtain ⟨j, hj, rfl, HD, HT⟩ := hrel
    by_cases hl : j < l
    case neg =>
      obtain rfl : j = l := by omega
      go_wp2
      go_end0
      exact ⟨rfl, HD.out, HT.out⟩
    have k1 : (j : Int) < (l : Int) := by omega
    obtain ⟨I, hI⟩ : ∃ z : Nat, z = x + j := ⟨_, rfl⟩
    obtain ⟨J, hJ⟩ : ∃ z : Nat, z = y + j := ⟨_, rfl⟩
    have HN : Hid (∀ k, (if k = J then swrF V x y j I else if k = I then swrF V x y j J else swrF V x y j k) = swrF V x y (j + 1) k) := by
      show ∀ k, _
      rw [hI, hJ]
      exact swr_on (by omega)
    have eI1 : (x : Int) + (j : Int) ≤ (I : Int) := by omega
    have eI2 : (I : Int) ≤ (x : Int) + (j : Int) := by omega
    have eJ1 : (y : Int) + (j : Int) ≤ (J : Int) := by omega
    have eJ2 : (J : Int) ≤ (y : Int) + (j : Int) := by omega
    have iI : I < n := by omega
    have iJ : J < n := by omega
    have nIJ : I ≠ J := by omega
    have jI : (I : Int) < (n : Int) := by omega
    have jJ : (J : Int) < (n : Int) := by omega
    clear hI hJ
    obtain ⟨Z, hZ⟩ : ∃ Z, swrF V x y j = Z := ⟨_, rfl⟩
    rw [hZ] at HD HN
    clear hZ
    go_upto_region 3 with fail
    refine wp_region_held_drew (S := fun w' => True) (by kernel_rfl) ?_ (fun hHeld => ?_)
    · trivial
    obtain ⟨v0, hv0⟩ : ∃ z, z = wr.drew := ⟨_, rfl⟩
    try rw [← hv0] at hHeld
    rw [← hv0]
    have bv0 : Below wr.heap.size wr v0 := by rw [hv0]; exact Below.drew (Below.refl _ _)
    clear hv0
    replace HD : Hid (DatF v0 B n Z) := HD.out.below bv0
    replace HT : Hid (Turn (fun q => q = B) w v0) := HT.out.trans (Turn.grown bv0)
    clear bv0
    refine wpAnyH_take (i := 0) (v := .slice (some ⟨B, 0, none⟩) n cp) rfl (by kernel_rfl) (by kernel_rfl) (by kernel_rfl) (fun _ _ _ h => h) (Or.inl ⟨by kernel_rfl, ?_⟩) hHeld ?_
    · intro w' hSw
      first | (go_simp; done) | (go_simp; with_reducible rfl) | (go_simp; rw [IntKind.wrap_i64]; omega) | (go_simp; omega)
    simp only [Act.put, List.setIfInBounds_toArray, List.set_cons_zero, List.set_cons_succ]
    refine wpAnyH_take (i := 1) (v := .int .i64 (x : Int)) rfl (by kernel_rfl) (by kernel_rfl) (by kernel_rfl) (fun _ _ _ h => h) (Or.inl ⟨by kernel_rfl, ?_⟩) hHeld ?_
    · intro w' hSw
      first | (go_simp; done) | (go_simp; with_reducible rfl) | (go_simp; rw [IntKind.wrap_i64]; omega) | (go_simp; omega)
    simp only [Act.put, List.setIfInBounds_toArray, List.set_cons_zero, List.set_cons_succ]
    refine wpAnyH_take (i := 2) (v := .int .i64 (j : Int)) rfl (by kernel_rfl) (by kernel_rfl) (by kernel_rfl) (fun _ _ _ h => h) (Or.inl ⟨by kernel_rfl, ?_⟩) hHeld ?_
    · intro w' hSw
      first | (go_simp; done) | (go_simp; with_reducible rfl) | (go_simp; rw [IntKind.wrap_i64]; omega) | (go_simp; omega)
    simp only [Act.put, List.setIfInBounds_toArray, List.set_cons_zero, List.set_cons_succ]
    refine wpAnyH_take (i := 3) (v := .int .i64 (I : Int)) rfl (by kernel_rfl) (by kernel_rfl) (by kernel_rfl) (fun _ _ _ h => h) (Or.inl ⟨by kernel_rfl, ?_⟩) hHeld ?_
    · intro w' hSw
      first | (go_simp; done) | (go_simp; with_reducible rfl) | (go_simp; rw [IntKind.wrap_i64]; omega) | (go_simp; omega)
    simp only [Act.put, List.setIfInBounds_toArray, List.set_cons_zero, List.set_cons_succ]
    refine wpAnyH_take (i := 4) (v := .slice (some ⟨B, 0, none⟩) n cp) rfl (by kernel_rfl) (by kernel_rfl) (by kernel_rfl) (fun _ _ _ h => h) (Or.inl ⟨by kernel_rfl, ?_⟩) hHeld ?_
    · intro w' hSw
      first | (go_simp; done) | (go_simp; with_reducible rfl) | (go_simp; rw [IntKind.wrap_i64]; omega) | (go_simp; omega)
    simp only [Act.put, List.setIfInBounds_toArray, List.set_cons_zero, List.set_cons_succ]
    refine wpAnyH_take (i := 5) (v := .int .i64 (y : Int)) rfl (by kernel_rfl) (by kernel_rfl) (by kernel_rfl) (fun _ _ _ h => h) (Or.inl ⟨by kernel_rfl, ?_⟩) hHeld ?_
    · intro w' hSw
      first | (go_simp; done) | (go_simp; with_reducible rfl) | (go_simp; rw [IntKind.wrap_i64]; omega) | (go_simp; omega)
    simp only [Act.put, List.setIfInBounds_toArray, List.set_cons_zero, List.set_cons_succ]
    refine wpAnyH_take (i := 6) (v := .int .i64 (j : Int)) rfl (by kernel_rfl) (by kernel_rfl) (by kernel_rfl) (fun _ _ _ h => h) (Or.inl ⟨by kernel_rfl, ?_⟩) hHeld ?_
    · intro w' hSw
      first | (go_simp; done) | (go_simp; with_reducible rfl) | (go_simp; rw [IntKind.wrap_i64]; omega) | (go_simp; omega)
    simp only [Act.put, List.setIfInBounds_toArray, List.set_cons_zero, List.set_cons_succ]
    refine wpAnyH_take (i := 7) (v := .int .i64 (J : Int)) rfl (by kernel_rfl) (by kernel_rfl) (by kernel_rfl) (fun _ _ _ h => h) (Or.inl ⟨by kernel_rfl, ?_⟩) hHeld ?_
    · intro w' hSw
      first | (go_simp; done) | (go_simp; with_reducible rfl) | (go_simp; rw [IntKind.wrap_i64]; omega) | (go_simp; omega)
    simp only [Act.put, List.setIfInBounds_toArray, List.set_cons_zero, List.set_cons_succ]
    refine wpAnyH_take (i := 8) (v := .slice (some ⟨B, 0, none⟩) n cp) rfl (by kernel_rfl) (by kernel_rfl) (by kernel_rfl) (fun _ _ _ h => h) (Or.inl ⟨by kernel_rfl, ?_⟩) hHeld ?_
    · intro w' hSw
      first | (go_simp; done) | (go_simp; with_reducible rfl) | (go_simp; rw [IntKind.wrap_i64]; omega) | (go_simp; omega)
    simp only [Act.put, List.setIfInBounds_toArray, List.set_cons_zero, List.set_cons_succ]
    refine wpAnyH_take (i := 9) (v := .int .i64 (y : Int)) rfl (by kernel_rfl) (by kernel_rfl) (by kernel_rfl) (fun _ _ _ h => h) (Or.inl ⟨by kernel_rfl, ?_⟩) hHeld ?_
    · intro w' hSw
      first | (go_simp; done) | (go_simp; with_reducible rfl) | (go_simp; rw [IntKind.wrap_i64]; omega) | (go_simp; omega)
    simp only [Act.put, List.setIfInBounds_toArray, List.set_cons_zero, List.set_cons_succ]
    refine wpAnyH_take (i := 10) (v := .int .i64 (j : Int)) rfl (by kernel_rfl) (by kernel_rfl) (by kernel_rfl) (fun _ _ _ h => h) (Or.inl ⟨by kernel_rfl, ?_⟩) hHeld ?_
    · intro w' hSw
      first | (go_simp; done) | (go_simp; with_reducible rfl) | (go_simp; rw [IntKind.wrap_i64]; omega) | (go_simp; omega)
    simp only [Act.put, List.setIfInBounds_toArray, List.set_cons_zero, List.set_cons_succ]
    refine wpAnyH_take (i := 11) (v := .int .i64 (J : Int)) rfl (by kernel_rfl) (by kernel_rfl) (by kernel_rfl) (fun _ _ _ h => h) (Or.inl ⟨by kernel_rfl, ?_⟩) hHeld ?_
    · intro w' hSw
      first | (go_simp; done) | (go_simp; with_reducible rfl) | (go_simp; rw [IntKind.wrap_i64]; omega) | (go_simp; omega)
    simp only [Act.put, List.setIfInBounds_toArray, List.set_cons_zero, List.set_cons_succ]
    refine wpAnyH_take (i := 12) (v := .pointer (some ⟨B, J, none⟩)) rfl (by kernel_rfl) (by kernel_rfl) (by kernel_rfl) (fun _ _ _ h => h) (Or.inl ⟨by kernel_rfl, ?_⟩) hHeld ?_
    · intro w' hSw
      first | (go_simp; done) | (go_simp; with_reducible rfl) | (go_simp; rw [IntKind.wrap_i64]; omega) | (go_simp; omega)
    simp only [Act.put, List.setIfInBounds_toArray, List.set_cons_zero, List.set_cons_succ]
    refine wpAnyH_take (i := 14) (v := .slice (some ⟨B, 0, none⟩) n cp) rfl (by kernel_rfl) (by kernel_rfl) (by kernel_rfl) (fun _ _ _ h => h) (Or.inl ⟨by kernel_rfl, ?_⟩) hHeld ?_
    · intro w' hSw
      first | (go_simp; done) | (go_simp; with_reducible rfl) | (go_simp; rw [IntKind.wrap_i64]; omega) | (go_simp; omega)
    simp only [Act.put, List.setIfInBounds_toArray, List.set_cons_zero, List.set_cons_succ]
    refine wpAnyH_take (i := 15) (v := .int .i64 (x : Int)) rfl (by kernel_rfl) (by kernel_rfl) (by kernel_rfl) (fun _ _ _ h => h) (Or.inl ⟨by kernel_rfl, ?_⟩) hHeld ?_
    · intro w' hSw
      first | (go_simp; done) | (go_simp; with_reducible rfl) | (go_simp; rw [IntKind.wrap_i64]; omega) | (go_simp; omega)
    simp only [Act.put, List.setIfInBounds_toArray, List.set_cons_zero, List.set_cons_succ]
    refine wpAnyH_take (i := 16) (v := .int .i64 (j : Int)) rfl (by kernel_rfl) (by kernel_rfl) (by kernel_rfl) (fun _ _ _ h => h) (Or.inl ⟨by kernel_rfl, ?_⟩) hHeld ?_
    · intro w' hSw
      first | (go_simp; done) | (go_simp; with_reducible rfl) | (go_simp; rw [IntKind.wrap_i64]; omega) | (go_simp; omega)
    simp only [Act.put, List.setIfInBounds_toArray, List.set_cons_zero, List.set_cons_succ]
    refine wpAnyH_take (i := 17) (v := .int .i64 (I : Int)) rfl (by kernel_rfl) (by kernel_rfl) (by kernel_rfl) (fun _ _ _ h => h) (Or.inl ⟨by kernel_rfl, ?_⟩) hHeld ?_
    · intro w' hSw
      first | (go_simp; done) | (go_simp; with_reducible rfl) | (go_simp; rw [IntKind.wrap_i64]; omega) | (go_simp; omega)
    simp only [Act.put, List.setIfInBounds_toArray, List.set_cons_zero, List.set_cons_succ]
    refine wpAnyH_take (i := 18) (v := .pointer (some ⟨B, I, none⟩)) rfl (by kernel_rfl) (by kernel_rfl) (by kernel_rfl) (fun _ _ _ h => h) (Or.inl ⟨by kernel_rfl, ?_⟩) hHeld ?_
    · intro w' hSw
      first | (go_simp; done) | (go_simp; with_reducible rfl) | (go_simp; rw [IntKind.wrap_i64]; omega) | (go_simp; omega)
    simp only [Act.put, List.setIfInBounds_toArray, List.set_cons_zero, List.set_cons_succ]
    refine wpAnyH_ready (rs := [13, 19]) (by kernel_rfl) (by simp) ?_
    refine (AllReadyH.cons rfl (fun KK hK => ?_) (AllReadyH.cons rfl (fun KK hK => ?_) AllReadyH.nil))
    · have hl_ : v0.cell? ⟨B, J, none⟩ = some (.int .u32 (Z J)) := HD.out.2.2 J iJ
      go_simp
      clear hl_
      refine hK.out _ _ (trivial) (fun hHeld => ?_)
      clear hK KK
      refine wpAnyH_ready (rs := [19]) (by kernel_rfl) (by simp) ?_
      refine (AllReadyH.cons rfl (fun KK hK => ?_) AllReadyH.nil)
      have hl_ : v0.cell? ⟨B, I, none⟩ = some (.int .u32 (Z I)) := HD.out.2.2 I iI
      go_simp
      clear hl_
      refine hK.out _ _ (trivial) (fun hHeld => ?_)
      clear hK KK
      refine wpAnyH_take (i := 20) (v := .pointer (some ⟨B, I, none⟩)) rfl (by kernel_rfl) (by kernel_rfl) (by kernel_rfl) (fun _ _ _ h => h) (Or.inl ⟨by kernel_rfl, ?_⟩) hHeld ?_
      · intro w' hSw
        first | (go_simp; done) | (go_simp; with_reducible rfl) | (go_simp; rw [IntKind.wrap_i64]; omega) | (go_simp; omega)
      simp only [Act.put, List.setIfInBounds_toArray, List.set_cons_zero, List.set_cons_succ]
      refine wpAnyH_ready (rs := [21]) (by kernel_rfl) (by simp) ?_
      refine (AllReadyH.cons rfl (fun KK hK => ?_) AllReadyH.nil)
      have hl_ : v0.cell? ⟨B, I, none⟩ = some (.int .u32 (Z I)) := HD.out.2.2 I iI
      have hf_ : v0.frozen? ⟨B, I, none⟩ = false := HD.out.2.1 I
      go_simp
      obtain ⟨v0_3, hv_⟩ : ∃ z, v0.setCell ⟨B, I, none⟩ (.int .u32 (Z J)) = z := ⟨_, rfl⟩
      rw [hv_]
      have hl2 : v0_3.cell? ⟨B, J, none⟩ = some (.int .u32 (Z J)) := by rw [← hv_, World.cell?_setCell_other _ _ _ _ (by intro q; injection q with q1 q2 q3; omega)]; exact HD.out.2.2 J iJ
      have hf2 : v0_3.frozen? ⟨B, J, none⟩ = false := by rw [← hv_]; simp [go_sem, HD.out.2.1]
      clear hl_ hf_
      refine hK.out _ _ (trivial) (fun hHeld => ?_)
      clear hK KK
      refine wpAnyH_take (i := 22) (v := .pointer (some ⟨B, J, none⟩)) rfl (by kernel_rfl) (by kernel_rfl) (by kernel_rfl) (fun _ _ _ h => h) (Or.inl ⟨by kernel_rfl, ?_⟩) hHeld ?_
      · intro w' hSw
        first | (go_simp; done) | (go_simp; with_reducible rfl) | (go_simp; rw [IntKind.wrap_i64]; omega) | (go_simp; omega)
      simp only [Act.put, List.setIfInBounds_toArray, List.set_cons_zero, List.set_cons_succ]
      refine wpAnyH_ready (rs := [23]) (by kernel_rfl) (by simp) ?_
      refine (AllReadyH.cons rfl (fun KK hK => ?_) AllReadyH.nil)
      go_simp
      have HD2 : Hid (DatF (v0_3.setCell ⟨B, J, none⟩ (.int .u32 (Z I))) B n (fun k => if k = J then Z I else if k = I then Z J else Z k)) := by show DatF _ _ _ _; rw [← hv_]; exact HD.out.swap iI iJ nIJ
      have HT2 : Hid (Turn (fun q => q = B) w (v0_3.setCell ⟨B, J, none⟩ (.int .u32 (Z I)))) := by show Turn _ _ _; rw [← hv_]; exact HT.out.trans ((Turn.of (S := fun q => q = B) (Beside.setCell B _ _ _) rfl).trans (Turn.of (S := fun q => q = B) (Beside.setCell B _ _ _) rfl))
      obtain ⟨v0_4, hv2⟩ : ∃ z, v0_3.setCell ⟨B, J, none⟩ (.int .u32 (Z I)) = z := ⟨_, rfl⟩
      rw [hv2] at HD2 HT2 ⊢
      clear hv2 hv_ hl2 hf2 HD HT
      refine hK.out _ _ (trivial) (fun hHeld => ?_)
      clear hK KK
      refine wpAnyH_done (by kernel_rfl) ?_ _
      clear hHeld
      replace HD2 := HD2.out.congr (fun k _ => HN.out k)
      go_wp2
      go_roundw
      case rel => exact ⟨j + 1, by omega, by go_num, HD2, HT2⟩
      case measure => simp [intOf]; omega
    · have hl_ : v0.cell? ⟨B, I, none⟩ = some (.int .u32 (Z I)) := HD.out.2.2 I iI
      go_simp
      clear hl_
      refine hK.out _ _ (trivial) (fun hHeld => ?_)
      clear hK KK
      refine wpAnyH_ready (rs := [13]) (by kernel_rfl) (by simp) ?_
      refine (AllReadyH.cons rfl (fun KK hK => ?_) AllReadyH.nil)
      have hl_ : v0.cell? ⟨B, J, none⟩ = some (.int .u32 (Z J)) := HD.out.2.2 J iJ
      go_simp
      clear hl_
      refine hK.out _ _ (trivial) (fun hHeld => ?_)
      clear hK KK
      refine wpAnyH_take (i := 20) (v := .pointer (some ⟨B, I, none⟩)) rfl (by kernel_rfl) (by kernel_rfl) (by kernel_rfl) (fun _ _ _ h => h) (Or.inl ⟨by kernel_rfl, ?_⟩) hHeld ?_
      · intro w' hSw
        first | (go_simp; done) | (go_simp; with_reducible rfl) | (go_simp; rw [IntKind.wrap_i64]; omega) | (go_simp; omega)
      simp only [Act.put, List.setIfInBounds_toArray, List.set_cons_zero, List.set_cons_succ]
      refine wpAnyH_ready (rs := [21]) (by kernel_rfl) (by simp) ?_
      refine (AllReadyH.cons rfl (fun KK hK => ?_) AllReadyH.nil)
      have hl_ : v0.cell? ⟨B, I, none⟩ = some (.int .u32 (Z I)) := HD.out.2.2 I iI
      have hf_ : v0.frozen? ⟨B, I, none⟩ = false := HD.out.2.1 I
      go_simp
      obtain ⟨v0_7, hv_⟩ : ∃ z, v0.setCell ⟨B, I, none⟩ (.int .u32 (Z J)) = z := ⟨_, rfl⟩
      rw [hv_]
      have hl2 : v0_7.cell? ⟨B, J, none⟩ = some (.int .u32 (Z J)) := by rw [← hv_, World.cell?_setCell_other _ _ _ _ (by intro q; injection q with q1 q2 q3; omega)]; exact HD.out.2.2 J iJ
      have hf2 : v0_7.frozen? ⟨B, J, none⟩ = false := by rw [← hv_]; simp [go_sem, HD.out.2.1]
      clear hl_ hf_
      refine hK.out _ _ (trivial) (fun hHeld => ?_)
      clear hK KK
      refine wpAnyH_take (i := 22) (v := .pointer (some ⟨B, J, none⟩)) rfl (by kernel_rfl) (by kernel_rfl) (by kernel_rfl) (fun _ _ _ h => h) (Or.inl ⟨by kernel_rfl, ?_⟩) hHeld ?_
      · intro w' hSw
        first | (go_simp; done) | (go_simp; with_reducible rfl) | (go_simp; rw [IntKind.wrap_i64]; omega) | (go_simp; omega)
      simp only [Act.put, List.setIfInBounds_toArray, List.set_cons_zero, List.set_cons_succ]
      refine wpAnyH_ready (rs := [23]) (by kernel_rfl) (by simp) ?_
      refine (AllReadyH.cons rfl (fun KK hK => ?_) AllReadyH.nil)
      go_simp
      have HD2 : Hid (DatF (v0_7.setCell ⟨B, J, none⟩ (.int .u32 (Z I))) B n (fun k => if k = J then Z I else if k = I then Z J else Z k)) := by show DatF _ _ _ _; rw [← hv_]; exact HD.out.swap iI iJ nIJ
      have HT2 : Hid (Turn (fun q => q = B) w (v0_7.setCell ⟨B, J, none⟩ (.int .u32 (Z I)))) := by show Turn _ _ _; rw [← hv_]; exact HT.out.trans ((Turn.of (S := fun q => q = B) (Beside.setCell B _ _ _) rfl).trans (Turn.of (S := fun q => q = B) (Beside.setCell B _ _ _) rfl))
      obtain ⟨v0_8, hv2⟩ : ∃ z, v0_7.setCell ⟨B, J, none⟩ (.int .u32 (Z I)) = z := ⟨_, rfl⟩
      rw [hv2] at HD2 HT2 ⊢
      clear hv2 hv_ hl2 hf2 HD HT
      refine hK.out _ _ (trivial) (fun hHeld => ?_)
      clear hK KK
      refine wpAnyH_done (by kernel_rfl) ?_ _
      clear hHeld
      replace HD2 := HD2.out.congr (fun k _ => HN.out k)
      go_wp2
      go_roundw
      case rel => exact ⟨j + 1, by omega, by go_num, HD2, HT2⟩
      case measure => simp [intOf]; omega
set_option maxRecDepth 20000 in
set_option maxHeartbeats 4000000 in
theorem rotate_any (B n cp a m e : Nat) (fv : Value) (V : Nat → Int) (w : World) (hn : n ≤ 1000) (h1 : a < m) (h2 : m < e) (h3 : e ≤ n) (HD : Hid (DatF w B n V)) :
    Calls Try.prog 108 #[.slice (some ⟨B, 0, none⟩) n cp, .int .i64 (a : Int), .int .i64 (m : Int), .int .i64 (e : Int), fv] w fun r w' => r = .returned (.tuple #[]) ∧ DatF w' B n (rotF V a m e) ∧ Turn (fun q => q = B) w w' := by
  go_enter Try.func108, Try.ntmps108
  go_wp2_with fail
  go_loopw [10, 11] (fun u v wr => ∃ (i j : Nat) (W : Nat → Int), 0 < i ∧ 0 < j ∧ i ≤ m ∧ m + j ≤ n ∧ u = .int .i64 i ∧ v = .int .i64 j ∧ Hid (rotF W (m - i) m (m + j) = rotF V a m e) ∧ Hid (DatF wr B n W) ∧ Hid (Turn (fun q => q = B) w wr)) (fun u v _ => (intOf u).toNat + (intOf v).toNat)
  case atStart => exact ⟨m - a, e - m, V, by omega, by omega, by omega, by omega, by congr 1; omega, by congr 1; omega, by show _ = _; rw [show m - (m - a) = a by omega, show m + (e - m) = e by omega], HD, Turn.refl _ _⟩
  case round =>
    clear HD
    obtain ⟨i, j, W, i0, j0, hi, hj, rfl, rfl, HE, HD, HT⟩ := hrel
    rcases Nat.lt_trichotomy i j with h | h | h
    case inl =>
      have q1 : ((i : Int) != (j : Int)) = true := by simp; omega
      have q2 : decide ((j : Int) < (i : Int)) = false := decide_eq_false (by omega)
      have c1 : (m : Int) - (i : Int) = ((m - i : Nat) : Int) := by omega
      have c2 : (m : Int) + (j : Int) - (i : Int) = ((m + j - i : Nat) : Int) := by omega
      have HN : Hid (rotF (swrF W (m - i) (m + j - i) i) (m - i) m (m + (j - i)) = rotF V a m e) := (rot_right W hi h i0).trans HE.out
      go_wp2_with fail
      refine (swapRange_any B n cp (m - i) (m + j - i) i fv W _ hn (by omega) (by omega) HD).mono ?_
      rintro r w3 ⟨rfl, D3, T3⟩
      have HT3 : Hid (Turn (fun q => q = B) w w3) := HT.out.trans T3
      have HD3 : Hid (DatF w3 B n (swrF W (m - i) (m + j - i) i)) := D3
      clear D3 T3 c1 c2 HD HT
      go_wp2
      go_roundw
      case rel => exact ⟨i, j - i, _, i0, by omega, hi, by omega, rfl, by congr 1; omega, HN, HD3, HT3⟩
      case measure => simp [intOf]; omega
    case inr.inl =>
      subst h
      have q1 : ((i : Int) != (i : Int)) = false := by simp
      have c1 : (m : Int) - (i : Int) = ((m - i : Nat) : Int) := by omega
      have HN : Hid (swrF W (m - i) m i = rotF V a m e) := (rot_end W hi).trans HE.out
      go_wp2_with fail
      refine (swapRange_any B n cp (m - i) m i fv W _ hn (by omega) (by omega) HD).mono ?_
      rintro r w3 ⟨rfl, D3, T3⟩
      rw [HN.out] at D3
      have HT3 : Hid (Turn (fun q => q = B) w w3) := HT.out.trans T3
      clear T3 c1 HD HT
      go_wp2
      go_end0
      exact ⟨rfl, D3, HT3.out⟩
    case inr.inr =>
      have q1 : ((i : Int) != (j : Int)) = true := by simp; omega
      have q2 : (j : Int) < (i : Int) := by omega
      have c1 : (m : Int) - (i : Int) = ((m - i : Nat) : Int) := by omega
      have HN : Hid (rotF (swrF W (m - i) m j) (m - (i - j)) m (m + j) = rotF V a m e) := (rot_left W hi h j0).trans HE.out
      go_wp2_with fail
      refine (swapRange_any B n cp (m - i) m j fv W _ hn (by omega) (by omega) HD).mono ?_
      rintro r w3 ⟨rfl, D3, T3⟩
      have HT3 : Hid (Turn (fun q => q = B) w w3) := HT.out.trans T3
      have HD3 : Hid (DatF w3 B n (swrF W (m - i) m j)) := D3
      clear D3 T3 c1 HD HT
      go_wp2
      go_roundw
      case rel => exact ⟨i - j, j, _, by omega, j0, by omega, hj, by congr 1; omega, rfl, HN, HD3, HT3⟩
      case measure => simp [intOf]; omega
end Go.Proofs.Ytpaiajeigdifcaa
