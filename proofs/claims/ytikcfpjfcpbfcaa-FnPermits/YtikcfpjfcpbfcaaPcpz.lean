/-
What is proved: a permit that is copied: its valves lie in new memory.
-/
import Derived.Test.YtikcfpjfcpbfcaaZcC
import Derived.Test.YtikcfpjfcpbfcaaFwLz
import Derived.Test.YtikcfpjfcpbfcaaZcA
import Derived.Test.YtikcfpjfcpbfcaaI64z
import Derived.Deep.DeepCutAuto
import Derived.Deep.RegionHeldLaw
namespace Go.Proofs.Ytikcfpjfcpbfcaa
set_option maxRecDepth 40000
open Go.ChangeShapes Go.WideShapes Go.ChangeAt Go.RowKit
set_option linter.unusedVariables false
set_option linter.unusedSimpArgs false

theorem clone_row (s : Option Addr) (n c : Nat) (V : Nat → Int) (w : World) (hn : (n : Int) ≤ 1048576) (HR : Hid (RowI w s n V)) :
    Calls Try.prog 95 #[.slice s n c] w fun e w' => ∃ s' c', e = .returned (.slice s' n c') ∧ OwnI w.heap.size w' s' n V ∧ Below w.heap.size w w' := by
  refine (cloneC s n c V w hn HR).mono ?_
  rintro e w' ⟨v, rfl, h1, h2⟩
  rw [← vals_nth] at h1
  obtain ⟨s', c', e1, ho⟩ := own_OwnI (size := 1) (U := nthI (lsOf V n)) (by rw [Nat.mul_one]; exact h1)
  rw [ls_len] at e1 ho
  rw [Nat.mul_one] at ho
  exact ⟨s', c', by rw [e1], ho.congr (fun j hj => ls_nth V hj), h2⟩
set_option maxRecDepth 20000 in
set_option maxHeartbeats 4000000 in
theorem permitCopied_any (x y : Int) (s : Option Addr) (k c : Nat) (V : Nat → Int) (w : World) (hk : (k : Int) ≤ 1048576) (HR : Hid (RowI w s k V)) :
    Calls Try.prog 56 #[.agg #[.int .i64 x, .int .i64 y, .slice s k c]] w fun e w' => ∃ s' c', e = .returned (.agg #[.int .i64 x, .int .i64 y, .slice s' k c']) ∧ OwnI w.heap.size w' s' k V ∧ Below w.heap.size w w' := by
  go_enter Try.func56, Try.ntmps56
  go_upto_region 1 with fail
  obtain ⟨wa, hwa⟩ : ∃ z, z = w.alloc (.cells #[.int .i64 x, .int .i64 y, .slice s k c] 44) := ⟨_, rfl⟩
  obtain ⟨wb, hwb⟩ : ∃ z, z = wa.alloc (.cells #[.int .i64 0, .int .i64 0, .slice none 0 0] 44) := ⟨_, rfl⟩
  have ba : Below w.heap.size w wa := by rw [hwa]; exact below0 _ _
  have bb : Below wa.heap.size wa wb := by rw [hwb]; exact below0 _ _
  obtain ⟨p, hp⟩ : ∃ z, z = w.heap.size := ⟨_, rfl⟩
  obtain ⟨q, hq⟩ : ∃ z, z = wa.heap.size := ⟨_, rfl⟩
  have hq1 : w.heap.size + 1 = q := by rw [hq, hwa]; simp
  have HPc : Hid (wb.cell? ⟨p, 0, none⟩ = some (.int .i64 x) ∧ wb.cell? ⟨p, 1, none⟩ = some (.int .i64 y) ∧ wb.cell? ⟨p, 2, none⟩ = some (.slice s k c) ∧ p < wb.heap.size) := by
    have z : p < wa.heap.size := by rw [hwa, hp]; simp
    refine ⟨(bb.cell (p := ⟨p, 0, none⟩) z).trans ?_, (bb.cell (p := ⟨p, 1, none⟩) z).trans ?_, (bb.cell (p := ⟨p, 2, none⟩) z).trans ?_, Nat.lt_of_lt_of_le z bb.size⟩
    all_goals rw [hwa, hp]; simp [go_sem]
  have HQc : Hid (wb.cell? ⟨q, 0, none⟩ = some (.int .i64 0) ∧ wb.cell? ⟨q, 1, none⟩ = some (.int .i64 0) ∧ wb.cell? ⟨q, 2, none⟩ = some (.slice none 0 0) ∧ (∀ o, wb.frozen? ⟨q, o, none⟩ = false) ∧ q < wb.heap.size) := by
    rw [hwb, hq]
    exact ⟨by simp [go_sem], by simp [go_sem], by simp [go_sem], fun o => by simp [go_sem], by simp⟩
  have HB : Hid (Below w.heap.size w wb) := ba.trans (bb.mono ba.size)
  have HRb : Hid (RowI wb s k V) := HR.out.below HB.out
  have npq : p ≠ q := by omega
  have zpw : w.heap.size ≤ p := by omega
  have zqw : w.heap.size ≤ q := by omega
  try rw [← hwa]
  try rw [← hwb]
  try rw [hq1]
  try rw [← hq]
  try rw [← hp]
  clear hwa hwb ba bb hp hq hq1
  refine wp_region_held_drew (S := fun w' => w'.cell? ⟨p, 0, none⟩ = some (.int .i64 x) ∧ w'.cell? ⟨p, 1, none⟩ = some (.int .i64 y) ∧ w'.cell? ⟨p, 2, none⟩ = some (.slice s k c) ∧ p < w'.heap.size) (by kernel_rfl) ?_ (fun hHeld => ?_)
  · exact HPc.out
  obtain ⟨v0, hv0⟩ : ∃ z, z = wb.drew := ⟨_, rfl⟩
  try rw [← hv0] at hHeld
  rw [← hv0]
  have bv0 : Below wb.heap.size wb v0 := by rw [hv0]; exact Below.drew (Below.refl _ _)
  clear hv0
  have HPc0 : Hid (v0.cell? ⟨p, 0, none⟩ = some (.int .i64 x) ∧ v0.cell? ⟨p, 1, none⟩ = some (.int .i64 y) ∧ v0.cell? ⟨p, 2, none⟩ = some (.slice s k c) ∧ p < v0.heap.size) := ⟨(bv0.cell (p := ⟨p, 0, none⟩) HPc.out.2.2.2).trans HPc.out.1, (bv0.cell (p := ⟨p, 1, none⟩) HPc.out.2.2.2).trans HPc.out.2.1, (bv0.cell (p := ⟨p, 2, none⟩) HPc.out.2.2.2).trans HPc.out.2.2.1, Nat.lt_of_lt_of_le HPc.out.2.2.2 bv0.size⟩
  have HQc0 : Hid (v0.cell? ⟨q, 0, none⟩ = some (.int .i64 0) ∧ v0.cell? ⟨q, 1, none⟩ = some (.int .i64 0) ∧ v0.cell? ⟨q, 2, none⟩ = some (.slice none 0 0) ∧ (∀ o, v0.frozen? ⟨q, o, none⟩ = false) ∧ q < v0.heap.size) := ⟨(bv0.cell (p := ⟨q, 0, none⟩) HQc.out.2.2.2.2).trans HQc.out.1, (bv0.cell (p := ⟨q, 1, none⟩) HQc.out.2.2.2.2).trans HQc.out.2.1, (bv0.cell (p := ⟨q, 2, none⟩) HQc.out.2.2.2.2).trans HQc.out.2.2.1, fun o => (bv0.frozen (p := ⟨q, o, none⟩) HQc.out.2.2.2.2).trans (HQc.out.2.2.2.1 o), Nat.lt_of_lt_of_le HQc.out.2.2.2.2 bv0.size⟩
  have HB0 : Hid (Below w.heap.size w v0) := HB.out.trans (bv0.mono HB.out.size)
  have HR0 : Hid (RowI v0 s k V) := HRb.out.below bv0
  clear bv0 HPc HQc HB HRb
  refine wpAnyH_take (i := 0) (v := .pointer (some ⟨p, 0, none⟩)) rfl (by kernel_rfl) (by kernel_rfl) (by kernel_rfl) (fun _ _ _ h => h) (Or.inl ⟨by kernel_rfl, ?_⟩) hHeld ?_
  · intro w' hSw
    obtain ⟨hc0, hc1, hc2, hz0⟩ := hSw
    first | (go_simp; done) | (go_simp; with_reducible rfl) | (go_simp; rw [IntKind.wrap_i64]; omega) | (go_simp; omega)
  simp only [Act.put, List.setIfInBounds_toArray, List.set_cons_zero, List.set_cons_succ]
  refine wpAnyH_take (i := 1) (v := .int .i64 x) rfl (by kernel_rfl) (by kernel_rfl) (by kernel_rfl) (fun _ _ _ h => h) (Or.inl ⟨by kernel_rfl, ?_⟩) hHeld ?_
  · intro w' hSw
    obtain ⟨hc0, hc1, hc2, hz0⟩ := hSw
    first | (go_simp; done) | (go_simp; with_reducible rfl) | (go_simp; rw [IntKind.wrap_i64]; omega) | (go_simp; omega)
  simp only [Act.put, List.setIfInBounds_toArray, List.set_cons_zero, List.set_cons_succ]
  refine wpAnyH_take (i := 2) (v := .pointer (some ⟨p, 1, none⟩)) rfl (by kernel_rfl) (by kernel_rfl) (by kernel_rfl) (fun _ _ _ h => h) (Or.inl ⟨by kernel_rfl, ?_⟩) hHeld ?_
  · intro w' hSw
    obtain ⟨hc0, hc1, hc2, hz0⟩ := hSw
    first | (go_simp; done) | (go_simp; with_reducible rfl) | (go_simp; rw [IntKind.wrap_i64]; omega) | (go_simp; omega)
  simp only [Act.put, List.setIfInBounds_toArray, List.set_cons_zero, List.set_cons_succ]
  refine wpAnyH_take (i := 3) (v := .int .i64 y) rfl (by kernel_rfl) (by kernel_rfl) (by kernel_rfl) (fun _ _ _ h => h) (Or.inl ⟨by kernel_rfl, ?_⟩) hHeld ?_
  · intro w' hSw
    obtain ⟨hc0, hc1, hc2, hz0⟩ := hSw
    first | (go_simp; done) | (go_simp; with_reducible rfl) | (go_simp; rw [IntKind.wrap_i64]; omega) | (go_simp; omega)
  simp only [Act.put, List.setIfInBounds_toArray, List.set_cons_zero, List.set_cons_succ]
  refine wpAnyH_take (i := 4) (v := .pointer (some ⟨p, 2, none⟩)) rfl (by kernel_rfl) (by kernel_rfl) (by kernel_rfl) (fun _ _ _ h => h) (Or.inl ⟨by kernel_rfl, ?_⟩) hHeld ?_
  · intro w' hSw
    obtain ⟨hc0, hc1, hc2, hz0⟩ := hSw
    first | (go_simp; done) | (go_simp; with_reducible rfl) | (go_simp; rw [IntKind.wrap_i64]; omega) | (go_simp; omega)
  simp only [Act.put, List.setIfInBounds_toArray, List.set_cons_zero, List.set_cons_succ]
  refine wpAnyH_take (i := 5) (v := .slice s k c) rfl (by kernel_rfl) (by kernel_rfl) (by kernel_rfl) (fun _ _ _ h => h) (Or.inl ⟨by kernel_rfl, ?_⟩) hHeld ?_
  · intro w' hSw
    obtain ⟨hc0, hc1, hc2, hz0⟩ := hSw
    first | (go_simp; done) | (go_simp; with_reducible rfl) | (go_simp; rw [IntKind.wrap_i64]; omega) | (go_simp; omega)
  simp only [Act.put, List.setIfInBounds_toArray, List.set_cons_zero, List.set_cons_succ]
  refine wpAnyH_ready (rs := [6]) (by kernel_rfl) (by simp) ?_
  refine (AllReadyH.cons rfl (fun KK hK => ?_) AllReadyH.nil)
  go_simp
  go_wp2_with (first | (go_at_call 95; refine (clone_row s k c V _ hk HR0).mono ?_; rintro e v0_1 ⟨s', c', rfl, O_, b_⟩))
  have HO1 : Hid (OwnI v0.heap.size v0_1 s' k V) := O_
  have HPc1 : Hid (v0_1.cell? ⟨p, 0, none⟩ = some (.int .i64 x) ∧ v0_1.cell? ⟨p, 1, none⟩ = some (.int .i64 y) ∧ v0_1.cell? ⟨p, 2, none⟩ = some (.slice s k c) ∧ p < v0_1.heap.size) := ⟨(b_.cell (p := ⟨p, 0, none⟩) HPc0.out.2.2.2).trans HPc0.out.1, (b_.cell (p := ⟨p, 1, none⟩) HPc0.out.2.2.2).trans HPc0.out.2.1, (b_.cell (p := ⟨p, 2, none⟩) HPc0.out.2.2.2).trans HPc0.out.2.2.1, Nat.lt_of_lt_of_le HPc0.out.2.2.2 b_.size⟩
  have HQc1 : Hid (v0_1.cell? ⟨q, 0, none⟩ = some (.int .i64 0) ∧ v0_1.cell? ⟨q, 1, none⟩ = some (.int .i64 0) ∧ v0_1.cell? ⟨q, 2, none⟩ = some (.slice none 0 0) ∧ (∀ o, v0_1.frozen? ⟨q, o, none⟩ = false) ∧ q < v0_1.heap.size) := ⟨(b_.cell (p := ⟨q, 0, none⟩) HQc0.out.2.2.2.2).trans HQc0.out.1, (b_.cell (p := ⟨q, 1, none⟩) HQc0.out.2.2.2.2).trans HQc0.out.2.1, (b_.cell (p := ⟨q, 2, none⟩) HQc0.out.2.2.2.2).trans HQc0.out.2.2.1, fun o => (b_.frozen (p := ⟨q, o, none⟩) HQc0.out.2.2.2.2).trans (HQc0.out.2.2.2.1 o), Nat.lt_of_lt_of_le HQc0.out.2.2.2.2 b_.size⟩
  have HB1 : Hid (Below w.heap.size w v0_1) := HB0.out.trans (b_.mono HB0.out.size)
  have zv : q < v0.heap.size := HQc0.out.2.2.2.2
  have zwv : w.heap.size ≤ v0.heap.size := HB0.out.size
  clear O_ b_
  refine hK.out _ _ (HPc1.out) (fun hHeld => ?_)
  clear hK KK
  refine wpAnyH_take (i := 7) (v := .agg #[.int .i64 x, .int .i64 y, .slice s' k c']) rfl (by kernel_rfl) (by kernel_rfl) (by kernel_rfl) (fun _ _ _ h => h) (Or.inl ⟨by kernel_rfl, ?_⟩) hHeld ?_
  · intro w' hSw
    obtain ⟨hc0, hc1, hc2, hz0⟩ := hSw
    first | (go_simp; done) | (go_simp; with_reducible rfl) | (go_simp; rw [IntKind.wrap_i64]; omega) | (go_simp; omega)
  simp only [Act.put, List.setIfInBounds_toArray, List.set_cons_zero, List.set_cons_succ]
  refine wpAnyH_ready (rs := [8]) (by kernel_rfl) (by simp) ?_
  refine (AllReadyH.cons rfl (fun KK hK => ?_) AllReadyH.nil)
  have e0 := HQc1.out.1
  have e1 := HQc1.out.2.1
  have e2 := HQc1.out.2.2.1
  have f0 := HQc1.out.2.2.2.1 0
  have f1 := HQc1.out.2.2.2.1 1
  have f2 := HQc1.out.2.2.2.1 2
  have ez := HQc1.out.2.2.2.2
  have hst := store_slT
  go_simp
  clear hst
  obtain ⟨v0_2, hv_⟩ : ∃ z, z = ((v0_1.setCell ⟨q, 0, none⟩ (.int .i64 x)).setCell ⟨q, 1, none⟩ (.int .i64 y)).setCell ⟨q, 2, none⟩ (.slice s' k c') := ⟨_, rfl⟩
  rw [← hv_]
  have bs_ : Beside q v0_1 v0_2 := by rw [hv_]; exact ((Beside.setCell q _ 0 _).trans (Beside.setCell q _ 1 _)).trans (Beside.setCell q _ 2 _)
  have HQ9 : Hid (v0_2.cell? ⟨q, 0, none⟩ = some (.int .i64 x) ∧ v0_2.cell? ⟨q, 1, none⟩ = some (.int .i64 y) ∧ v0_2.cell? ⟨q, 2, none⟩ = some (.slice s' k c')) := by
    rw [hv_]
    exact ⟨by simp [go_sem, e0], by simp [go_sem, e1], by simp [go_sem, e2]⟩
  have HP9 : Hid (v0_2.cell? ⟨p, 0, none⟩ = some (.int .i64 x) ∧ v0_2.cell? ⟨p, 1, none⟩ = some (.int .i64 y) ∧ v0_2.cell? ⟨p, 2, none⟩ = some (.slice s k c) ∧ p < v0_2.heap.size) := ⟨(bs_.cell (p := ⟨p, 0, none⟩) HPc1.out.2.2.2 npq).trans HPc1.out.1, (bs_.cell (p := ⟨p, 1, none⟩) HPc1.out.2.2.2 npq).trans HPc1.out.2.1, (bs_.cell (p := ⟨p, 2, none⟩) HPc1.out.2.2.2 npq).trans HPc1.out.2.2.1, Nat.lt_of_lt_of_le HPc1.out.2.2.2 bs_.2.2.2.1⟩
  have HO9 : Hid (OwnI w.heap.size v0_2 s' k V) := (HO1.out.beside bs_ zv).mono zwv
  have HB9 : Hid (Below w.heap.size w v0_2) := HB1.out.trans (bs_.below zqw HB1.out.size)
  clear hv_ bs_ e0 e1 e2 f0 f1 f2 ez HQc1 HPc1 HB1 HO1
  refine hK.out _ _ (HP9.out) (fun hHeld => ?_)
  clear hK KK
  refine wpAnyH_done (by kernel_rfl) ?_ _
  clear hHeld
  have d0 := HQ9.out.1
  have d1 := HQ9.out.2.1
  have d2 := HQ9.out.2.2
  go_wp2
  refine bodyPost_ret (v := .agg #[.int .i64 x, .int .i64 y, .slice s' k c']) (by simp [results, Try.results56, go_sem, d0, d1, d2]) rfl ?_
  exact ⟨s', c', rfl, HO9.out, HB9.out⟩
end Go.Proofs.Ytikcfpjfcpbfcaa
