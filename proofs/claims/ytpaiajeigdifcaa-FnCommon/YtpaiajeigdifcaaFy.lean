/-
What is proved: whether a tree fails by a set, as both packages say it.
-/
import Derived.Test.YtpaiajeigdifcaaFlI
import Derived.Test.YtpaiajeigdifcaaFlS
import Derived.Deep.RegionHeld3
namespace Go.Proofs.Ytpaiajeigdifcaa
set_option maxRecDepth 40000
open Go.ChangeShapes Go.WideShapes Go.ChangeAt Go.RowKit
set_option linter.unusedVariables false
set_option linter.unusedSimpArgs false

def fyB (x : Int) (n : Nat) (X : Nat → Int) (K : Nat → Nat) (V : Nat → Nat → Int) (m : Nat) (U : Nat → Int) : Bool := treeB x n X K V && faB (setN x.toNat U m) x.toNat n X K V
set_option maxRecDepth 20000 in
set_option maxHeartbeats 4000000 in
theorem specFailsBy_any (x : Int) (s : Option Addr) (n c : Nat) (X : Nat → Int) (K : Nat → Nat) (V : Nat → Nat → Int) (t : Option Addr) (m d : Nat) (U : Nat → Int) (w : World) (hm : (m : Int) ≤ 1048576) (HR : Hid (RowGat w s n X K V)) (HU : Hid (RowI w t m U)) :
    Calls Try.prog 45 #[.agg #[.int .i64 x, .slice s n c], .slice t m d] w fun e w' => e = .returned (.bool (fyB x n X K V m U)) ∧ Below w.heap.size w w' := by
  have HT : Hid (∀ w', Below w.heap.size w w' → Calls Try.prog 49 #[.agg #[.int .i64 x, .slice s n c]] w' fun e w'' => e = .returned (.bool (treeB x n X K V)) ∧ Below w'.heap.size w' w'') := fun w' hb => specTreeOk_any x s n c X K V w' (HR.out.below hb)
  cases q : treeB x n X K V
  · have HO : Hid (fyB x n X K V m U = false) := by show _ = _; unfold fyB; rw [q]; rfl
    rw [q] at HT
    clear q
    go_enter Try.func45, Try.ntmps45
    go_upto_region 1 with fail
    obtain ⟨wd, hwd⟩ : ∃ wd, wd = w.alloc (.cells #[.int .i64 x, .slice s n c] 26) := ⟨_, rfl⟩
    rw [← hwd]
    have B0 : Below w.heap.size w wd := by rw [hwd]; exact (by repeat (first | with_reducible exact Below.refl _ _ | with_reducible refine Below.setCell ?_ (by first | omega | (simp; done) | (simp; omega)) _ | with_reducible refine bDrewN ?_ _ | with_reducible refine Below.drew ?_ | with_reducible refine Below.alloc ?_ (by first | omega | (simp; done) | (simp; omega)) _))
    have p0 : wd.cell? ⟨w.heap.size, 0, none⟩ = some (.int .i64 x) := by rw [hwd]; simp [go_sem]
    have p1 : wd.cell? ⟨w.heap.size, 1, none⟩ = some (.slice s n c) := by rw [hwd]; simp [go_sem]
    have zd : w.heap.size < wd.heap.size := by rw [hwd]; simp
    have HB : Hid (Below w.heap.size w wd) := B0
    clear hwd B0
    refine wp_region_held_drew (S := fun w' => w'.cell? ⟨w.heap.size, 0, none⟩ = some (.int .i64 x) ∧ w'.cell? ⟨w.heap.size, 1, none⟩ = some (.slice s n c)) (by kernel_rfl) ?_ (fun hHeld => ?_)
    · exact keepT p0 p1 zd (by repeat (first | with_reducible exact Below.refl _ _ | with_reducible refine Below.setCell ?_ (by first | omega | (simp; done) | (simp; omega)) _ | with_reducible refine bDrewN ?_ _ | with_reducible refine Below.drew ?_ | with_reducible refine Below.alloc ?_ (by first | omega | (simp; done) | (simp; omega)) _))
    refine wpAnyH_take (i := 0) (v := .agg #[.int .i64 x, .slice s n c]) rfl (by kernel_rfl) (by kernel_rfl) (by kernel_rfl) (fun _ _ _ h => h) (Or.inl ⟨by kernel_rfl, ?_⟩) hHeld ?_
    · intro w' hSw
      obtain ⟨s0, s1⟩ := hSw
      first | (go_simp; done) | (go_simp; with_reducible rfl)
    simp only [Act.put, List.setIfInBounds_toArray, List.set_cons_zero, List.set_cons_succ]
    refine wpAnyH_ready (rs := [1]) (by kernel_rfl) (by simp) ?_
    refine AllReadyH.cons rfl (fun KK hK => ?_) AllReadyH.nil
    go_simp
    go_wp2_with (first | (go_at_call 49; refine (HT.out _ (HB.out.trans (Below.mono (by repeat (first | with_reducible exact Below.refl _ _ | with_reducible refine Below.setCell ?_ (by first | omega | (simp; done) | (simp; omega)) _ | with_reducible refine bDrewN ?_ _ | with_reducible refine Below.drew ?_ | with_reducible refine Below.alloc ?_ (by first | omega | (simp; done) | (simp; omega)) _)) HB.out.size))).mono ?_; rintro e w7 ⟨rfl, h7⟩; have B7 : Below wd.heap.size wd w7 := Below.trans (by repeat (first | with_reducible exact Below.refl _ _ | with_reducible refine Below.setCell ?_ (by first | omega | (simp; done) | (simp; omega)) _ | with_reducible refine bDrewN ?_ _ | with_reducible refine Below.drew ?_ | with_reducible refine Below.alloc ?_ (by first | omega | (simp; done) | (simp; omega)) _)) (h7.mono (by first | omega | (simp; done) | (simp; omega))); have s7 := B7.size; clear h7))
    refine hK.out _ _ (keepT p0 p1 zd B7) (fun hHeld => ?_)
    clear hK KK
    refine wpAnyH_take (i := 2) (v := .bool false) rfl (by kernel_rfl) (by kernel_rfl) (by kernel_rfl) (fun _ _ _ h => h) (Or.inl ⟨by kernel_rfl, ?_⟩) hHeld ?_
    · intro w' hSw
      obtain ⟨s0, s1⟩ := hSw
      first | (go_simp; done) | (go_simp; with_reducible rfl)
    simp only [Act.put, List.setIfInBounds_toArray, List.set_cons_zero, List.set_cons_succ]
    refine wpAnyH_take (i := 3) (v := undef) rfl (by kernel_rfl) (by kernel_rfl) (by kernel_rfl) (fun _ _ _ h => h) (Or.inr ⟨by kernel_rfl, rfl⟩) hHeld ?_
    simp only [Act.put, List.setIfInBounds_toArray, List.set_cons_zero, List.set_cons_succ]
    refine wpAnyH_take (i := 4) (v := undef) rfl (by kernel_rfl) (by kernel_rfl) (by kernel_rfl) (fun _ _ _ h => h) (Or.inr ⟨by kernel_rfl, rfl⟩) hHeld ?_
    simp only [Act.put, List.setIfInBounds_toArray, List.set_cons_zero, List.set_cons_succ]
    refine wpAnyH_take (i := 5) (v := undef) rfl (by kernel_rfl) (by kernel_rfl) (by kernel_rfl) (fun _ _ _ h => h) (Or.inr ⟨by kernel_rfl, rfl⟩) hHeld ?_
    simp only [Act.put, List.setIfInBounds_toArray, List.set_cons_zero, List.set_cons_succ]
    refine wpAnyH_take (i := 6) (v := undef) rfl (by kernel_rfl) (by kernel_rfl) (by kernel_rfl) (fun _ _ _ h => h) (Or.inr ⟨by kernel_rfl, rfl⟩) hHeld ?_
    simp only [Act.put, List.setIfInBounds_toArray, List.set_cons_zero, List.set_cons_succ]
    refine wpAnyH_take (i := 7) (v := undef) rfl (by kernel_rfl) (by kernel_rfl) (by kernel_rfl) (fun _ _ _ h => h) (Or.inr ⟨by kernel_rfl, rfl⟩) hHeld ?_
    simp only [Act.put, List.setIfInBounds_toArray, List.set_cons_zero, List.set_cons_succ]
    refine wpAnyH_take (i := 8) (v := .bool false) rfl (by kernel_rfl) (by kernel_rfl) (by kernel_rfl) (fun _ _ _ h => h) (Or.inl ⟨by kernel_rfl, ?_⟩) hHeld ?_
    · intro w' hSw
      obtain ⟨s0, s1⟩ := hSw
      first | (go_simp; done) | (go_simp; with_reducible rfl)
    simp only [Act.put, List.setIfInBounds_toArray, List.set_cons_zero, List.set_cons_succ]
    refine wpAnyH_ready (rs := [9]) (by kernel_rfl) (by simp) ?_
    refine AllReadyH.cons rfl (fun KK hK => ?_) AllReadyH.nil
    go_simp
    refine hK.out _ _ hHeld (fun hHeld => ?_)
    clear hK KK
    refine wpAnyH_done (by kernel_rfl) ?_ _
    have B9 : Below w.heap.size w w7 := HB.out.trans (B7.mono HB.out.size)
    go_wp2
    go_ret
    exact ⟨ret_bool HO.out.symm, (by repeat (first | with_reducible exact Below.refl _ _ | with_reducible exact B9 | with_reducible refine Below.setCell ?_ (by first | omega | (simp; done) | (simp; omega)) _ | with_reducible refine bDrewN ?_ _ | with_reducible refine Below.drew ?_ | with_reducible refine Below.alloc ?_ (by first | omega | (simp; done) | (simp; omega)) _))⟩
  · obtain ⟨⟨x0, x1⟩, -, -⟩ := tree_yes q
    obtain ⟨x, rfl⟩ : ∃ y : Nat, x = (y : Int) := ⟨x.toNat, by omega⟩
    have HO : Hid (fyB (x : Int) n X K V m U = faB (setN x U m) x n X K V) := by show _ = _; unfold fyB; rw [q, Int.toNat_natCast]; rfl
    have HQ : Hid (treeB (x : Int) n X K V = true) := q
    rw [q] at HT
    clear q
    go_enter Try.func45, Try.ntmps45
    go_upto_region 1 with fail
    obtain ⟨wd, hwd⟩ : ∃ wd, wd = w.alloc (.cells #[.int .i64 (x : Int), .slice s n c] 26) := ⟨_, rfl⟩
    rw [← hwd]
    have B0 : Below w.heap.size w wd := by rw [hwd]; exact (by repeat (first | with_reducible exact Below.refl _ _ | with_reducible refine Below.setCell ?_ (by first | omega | (simp; done) | (simp; omega)) _ | with_reducible refine bDrewN ?_ _ | with_reducible refine Below.drew ?_ | with_reducible refine Below.alloc ?_ (by first | omega | (simp; done) | (simp; omega)) _))
    have p0 : wd.cell? ⟨w.heap.size, 0, none⟩ = some (.int .i64 (x : Int)) := by rw [hwd]; simp [go_sem]
    have p1 : wd.cell? ⟨w.heap.size, 1, none⟩ = some (.slice s n c) := by rw [hwd]; simp [go_sem]
    have zd : w.heap.size < wd.heap.size := by rw [hwd]; simp
    have HB : Hid (Below w.heap.size w wd) := B0
    clear hwd B0
    refine wp_region_held_drew (S := fun w' => w'.cell? ⟨w.heap.size, 0, none⟩ = some (.int .i64 (x : Int)) ∧ w'.cell? ⟨w.heap.size, 1, none⟩ = some (.slice s n c)) (by kernel_rfl) ?_ (fun hHeld => ?_)
    · exact keepT p0 p1 zd (by repeat (first | with_reducible exact Below.refl _ _ | with_reducible refine Below.setCell ?_ (by first | omega | (simp; done) | (simp; omega)) _ | with_reducible refine bDrewN ?_ _ | with_reducible refine Below.drew ?_ | with_reducible refine Below.alloc ?_ (by first | omega | (simp; done) | (simp; omega)) _))
    refine wpAnyH_take (i := 0) (v := .agg #[.int .i64 (x : Int), .slice s n c]) rfl (by kernel_rfl) (by kernel_rfl) (by kernel_rfl) (fun _ _ _ h => h) (Or.inl ⟨by kernel_rfl, ?_⟩) hHeld ?_
    · intro w' hSw
      obtain ⟨s0, s1⟩ := hSw
      first | (go_simp; done) | (go_simp; with_reducible rfl)
    simp only [Act.put, List.setIfInBounds_toArray, List.set_cons_zero, List.set_cons_succ]
    refine wpAnyH_ready (rs := [1]) (by kernel_rfl) (by simp) ?_
    refine AllReadyH.cons rfl (fun KK hK => ?_) AllReadyH.nil
    go_simp
    go_wp2_with (first | (go_at_call 49; refine (HT.out _ (HB.out.trans (Below.mono (by repeat (first | with_reducible exact Below.refl _ _ | with_reducible refine Below.setCell ?_ (by first | omega | (simp; done) | (simp; omega)) _ | with_reducible refine bDrewN ?_ _ | with_reducible refine Below.drew ?_ | with_reducible refine Below.alloc ?_ (by first | omega | (simp; done) | (simp; omega)) _)) HB.out.size))).mono ?_; rintro e w7 ⟨rfl, h7⟩; have B7 : Below wd.heap.size wd w7 := Below.trans (by repeat (first | with_reducible exact Below.refl _ _ | with_reducible refine Below.setCell ?_ (by first | omega | (simp; done) | (simp; omega)) _ | with_reducible refine bDrewN ?_ _ | with_reducible refine Below.drew ?_ | with_reducible refine Below.alloc ?_ (by first | omega | (simp; done) | (simp; omega)) _)) (h7.mono (by first | omega | (simp; done) | (simp; omega))); have s7 := B7.size; clear h7))
    refine hK.out _ _ (keepT p0 p1 zd B7) (fun hHeld => ?_)
    clear hK KK
    refine wpAnyH_take (i := 2) (v := .bool true) rfl (by kernel_rfl) (by kernel_rfl) (by kernel_rfl) (fun _ _ _ h => h) (Or.inl ⟨by kernel_rfl, ?_⟩) hHeld ?_
    · intro w' hSw
      obtain ⟨s0, s1⟩ := hSw
      first | (go_simp; done) | (go_simp; with_reducible rfl)
    simp only [Act.put, List.setIfInBounds_toArray, List.set_cons_zero, List.set_cons_succ]
    refine wpAnyH_take (i := 3) (v := .agg #[.int .i64 (x : Int), .slice s n c]) rfl (by kernel_rfl) (by kernel_rfl) (by kernel_rfl) (fun _ _ _ h => h) (Or.inl ⟨by kernel_rfl, ?_⟩) hHeld ?_
    · intro w' hSw
      obtain ⟨s0, s1⟩ := hSw
      first | (go_simp; done) | (go_simp; with_reducible rfl)
    simp only [Act.put, List.setIfInBounds_toArray, List.set_cons_zero, List.set_cons_succ]
    refine wpAnyH_take (i := 4) (v := .agg #[.int .i64 (x : Int), .slice s n c]) rfl (by kernel_rfl) (by kernel_rfl) (by kernel_rfl) (fun _ _ _ h => h) (Or.inl ⟨by kernel_rfl, ?_⟩) hHeld ?_
    · intro w' hSw
      obtain ⟨s0, s1⟩ := hSw
      first | (go_simp; done) | (go_simp; with_reducible rfl)
    simp only [Act.put, List.setIfInBounds_toArray, List.set_cons_zero, List.set_cons_succ]
    refine wpAnyH_take (i := 5) (v := .slice t m d) rfl (by kernel_rfl) (by kernel_rfl) (by kernel_rfl) (fun _ _ _ h => h) (Or.inl ⟨by kernel_rfl, ?_⟩) hHeld ?_
    · intro w' hSw
      obtain ⟨s0, s1⟩ := hSw
      first | (go_simp; done) | (go_simp; with_reducible rfl)
    simp only [Act.put, List.setIfInBounds_toArray, List.set_cons_zero, List.set_cons_succ]
    refine wpAnyH_ready (rs := [6]) (by kernel_rfl) (by simp) ?_
    refine AllReadyH.cons rfl (fun KK hK => ?_) AllReadyH.nil
    go_simp
    go_wp2_with (first | (go_at_call 73; refine (l23Bits_any x s n c t m d U _ x1 hm (HU.out.below (HB.out.trans (Below.mono B7 HB.out.size)))).mono ?_; rintro e w8 ⟨rfl, h8⟩; have B8 : Below wd.heap.size wd w8 := B7.trans (h8.mono s7); have s8 := B8.size; clear h8))
    refine hK.out _ _ (keepT p0 p1 zd B8) (fun hHeld => ?_)
    clear hK KK
    refine wpAnyH_ready (rs := [7]) (by kernel_rfl) (by simp) ?_
    refine AllReadyH.cons rfl (fun KK hK => ?_) AllReadyH.nil
    go_simp
    go_wp2_with (first | (go_at_call 60; refine (l23Fails_any (setN x U m) x s n c X K V _ HQ (set_lt x U m) (HR.out.below (HB.out.trans (Below.mono B8 HB.out.size)))).mono ?_; rintro e w9 ⟨rfl, h9⟩; have B9 : Below wd.heap.size wd w9 := B8.trans (h9.mono s8); clear h9))
    refine hK.out _ _ (keepT p0 p1 zd B9) (fun hHeld => ?_)
    clear hK KK
    refine wpAnyH_take (i := 8) (v := .bool (faB (setN x U m) x n X K V)) rfl (by kernel_rfl) (by kernel_rfl) (by kernel_rfl) (fun _ _ _ h => h) (Or.inl ⟨by kernel_rfl, ?_⟩) hHeld ?_
    · intro w' hSw
      obtain ⟨s0, s1⟩ := hSw
      first | (go_simp; done) | (go_simp; with_reducible rfl)
    simp only [Act.put, List.setIfInBounds_toArray, List.set_cons_zero, List.set_cons_succ]
    refine wpAnyH_ready (rs := [9]) (by kernel_rfl) (by simp) ?_
    refine AllReadyH.cons rfl (fun KK hK => ?_) AllReadyH.nil
    go_simp
    refine hK.out _ _ hHeld (fun hHeld => ?_)
    clear hK KK
    refine wpAnyH_done (by kernel_rfl) ?_ _
    have B10 : Below w.heap.size w w9 := HB.out.trans (B9.mono HB.out.size)
    go_wp2
    go_ret
    exact ⟨ret_bool HO.out.symm, (by repeat (first | with_reducible exact Below.refl _ _ | with_reducible exact B10 | with_reducible refine Below.setCell ?_ (by first | omega | (simp; done) | (simp; omega)) _ | with_reducible refine bDrewN ?_ _ | with_reducible refine Below.drew ?_ | with_reducible refine Below.alloc ?_ (by first | omega | (simp; done) | (simp; omega)) _))⟩
set_option maxRecDepth 20000 in
set_option maxHeartbeats 4000000 in
theorem implFailsBy_any (x : Int) (s : Option Addr) (n c : Nat) (X : Nat → Int) (K : Nat → Nat) (V : Nat → Nat → Int) (t : Option Addr) (m d : Nat) (U : Nat → Int) (w : World) (hm : (m : Int) ≤ 1048576) (HR : Hid (RowGat w s n X K V)) (HU : Hid (RowI w t m U)) :
    Calls Try.prog 15 #[.agg #[.int .i64 x, .slice s n c], .slice t m d] w fun e w' => e = .returned (.bool (fyB x n X K V m U)) ∧ Below w.heap.size w w' := by
  have HT : Hid (∀ w', Below w.heap.size w w' → Calls Try.prog 46 #[.agg #[.int .i64 x, .slice s n c]] w' fun e w'' => e = .returned (.bool (treeB x n X K V)) ∧ Below w'.heap.size w' w'') := fun w' hb => implTreeOk_any x s n c X K V w' (HR.out.below hb)
  cases q : treeB x n X K V
  · have HO : Hid (fyB x n X K V m U = false) := by show _ = _; unfold fyB; rw [q]; rfl
    rw [q] at HT
    clear q
    go_enter Try.func15, Try.ntmps15
    go_upto_region 1 with fail
    obtain ⟨wd, hwd⟩ : ∃ wd, wd = w.alloc (.cells #[.int .i64 x, .slice s n c] 26) := ⟨_, rfl⟩
    rw [← hwd]
    have B0 : Below w.heap.size w wd := by rw [hwd]; exact (by repeat (first | with_reducible exact Below.refl _ _ | with_reducible refine Below.setCell ?_ (by first | omega | (simp; done) | (simp; omega)) _ | with_reducible refine bDrewN ?_ _ | with_reducible refine Below.drew ?_ | with_reducible refine Below.alloc ?_ (by first | omega | (simp; done) | (simp; omega)) _))
    have p0 : wd.cell? ⟨w.heap.size, 0, none⟩ = some (.int .i64 x) := by rw [hwd]; simp [go_sem]
    have p1 : wd.cell? ⟨w.heap.size, 1, none⟩ = some (.slice s n c) := by rw [hwd]; simp [go_sem]
    have zd : w.heap.size < wd.heap.size := by rw [hwd]; simp
    have HB : Hid (Below w.heap.size w wd) := B0
    clear hwd B0
    refine wp_region_held_drew (S := fun w' => w'.cell? ⟨w.heap.size, 0, none⟩ = some (.int .i64 x) ∧ w'.cell? ⟨w.heap.size, 1, none⟩ = some (.slice s n c)) (by kernel_rfl) ?_ (fun hHeld => ?_)
    · exact keepT p0 p1 zd (by repeat (first | with_reducible exact Below.refl _ _ | with_reducible refine Below.setCell ?_ (by first | omega | (simp; done) | (simp; omega)) _ | with_reducible refine bDrewN ?_ _ | with_reducible refine Below.drew ?_ | with_reducible refine Below.alloc ?_ (by first | omega | (simp; done) | (simp; omega)) _))
    refine wpAnyH_take (i := 0) (v := .agg #[.int .i64 x, .slice s n c]) rfl (by kernel_rfl) (by kernel_rfl) (by kernel_rfl) (fun _ _ _ h => h) (Or.inl ⟨by kernel_rfl, ?_⟩) hHeld ?_
    · intro w' hSw
      obtain ⟨s0, s1⟩ := hSw
      first | (go_simp; done) | (go_simp; with_reducible rfl)
    simp only [Act.put, List.setIfInBounds_toArray, List.set_cons_zero, List.set_cons_succ]
    refine wpAnyH_ready (rs := [1]) (by kernel_rfl) (by simp) ?_
    refine AllReadyH.cons rfl (fun KK hK => ?_) AllReadyH.nil
    go_simp
    go_wp2_with (first | (go_at_call 46; refine (HT.out _ (HB.out.trans (Below.mono (by repeat (first | with_reducible exact Below.refl _ _ | with_reducible refine Below.setCell ?_ (by first | omega | (simp; done) | (simp; omega)) _ | with_reducible refine bDrewN ?_ _ | with_reducible refine Below.drew ?_ | with_reducible refine Below.alloc ?_ (by first | omega | (simp; done) | (simp; omega)) _)) HB.out.size))).mono ?_; rintro e w7 ⟨rfl, h7⟩; have B7 : Below wd.heap.size wd w7 := Below.trans (by repeat (first | with_reducible exact Below.refl _ _ | with_reducible refine Below.setCell ?_ (by first | omega | (simp; done) | (simp; omega)) _ | with_reducible refine bDrewN ?_ _ | with_reducible refine Below.drew ?_ | with_reducible refine Below.alloc ?_ (by first | omega | (simp; done) | (simp; omega)) _)) (h7.mono (by first | omega | (simp; done) | (simp; omega))); have s7 := B7.size; clear h7))
    refine hK.out _ _ (keepT p0 p1 zd B7) (fun hHeld => ?_)
    clear hK KK
    refine wpAnyH_take (i := 2) (v := .bool false) rfl (by kernel_rfl) (by kernel_rfl) (by kernel_rfl) (fun _ _ _ h => h) (Or.inl ⟨by kernel_rfl, ?_⟩) hHeld ?_
    · intro w' hSw
      obtain ⟨s0, s1⟩ := hSw
      first | (go_simp; done) | (go_simp; with_reducible rfl)
    simp only [Act.put, List.setIfInBounds_toArray, List.set_cons_zero, List.set_cons_succ]
    refine wpAnyH_take (i := 3) (v := undef) rfl (by kernel_rfl) (by kernel_rfl) (by kernel_rfl) (fun _ _ _ h => h) (Or.inr ⟨by kernel_rfl, rfl⟩) hHeld ?_
    simp only [Act.put, List.setIfInBounds_toArray, List.set_cons_zero, List.set_cons_succ]
    refine wpAnyH_take (i := 4) (v := undef) rfl (by kernel_rfl) (by kernel_rfl) (by kernel_rfl) (fun _ _ _ h => h) (Or.inr ⟨by kernel_rfl, rfl⟩) hHeld ?_
    simp only [Act.put, List.setIfInBounds_toArray, List.set_cons_zero, List.set_cons_succ]
    refine wpAnyH_take (i := 5) (v := undef) rfl (by kernel_rfl) (by kernel_rfl) (by kernel_rfl) (fun _ _ _ h => h) (Or.inr ⟨by kernel_rfl, rfl⟩) hHeld ?_
    simp only [Act.put, List.setIfInBounds_toArray, List.set_cons_zero, List.set_cons_succ]
    refine wpAnyH_take (i := 6) (v := undef) rfl (by kernel_rfl) (by kernel_rfl) (by kernel_rfl) (fun _ _ _ h => h) (Or.inr ⟨by kernel_rfl, rfl⟩) hHeld ?_
    simp only [Act.put, List.setIfInBounds_toArray, List.set_cons_zero, List.set_cons_succ]
    refine wpAnyH_take (i := 7) (v := undef) rfl (by kernel_rfl) (by kernel_rfl) (by kernel_rfl) (fun _ _ _ h => h) (Or.inr ⟨by kernel_rfl, rfl⟩) hHeld ?_
    simp only [Act.put, List.setIfInBounds_toArray, List.set_cons_zero, List.set_cons_succ]
    refine wpAnyH_take (i := 8) (v := .bool false) rfl (by kernel_rfl) (by kernel_rfl) (by kernel_rfl) (fun _ _ _ h => h) (Or.inl ⟨by kernel_rfl, ?_⟩) hHeld ?_
    · intro w' hSw
      obtain ⟨s0, s1⟩ := hSw
      first | (go_simp; done) | (go_simp; with_reducible rfl)
    simp only [Act.put, List.setIfInBounds_toArray, List.set_cons_zero, List.set_cons_succ]
    refine wpAnyH_ready (rs := [9]) (by kernel_rfl) (by simp) ?_
    refine AllReadyH.cons rfl (fun KK hK => ?_) AllReadyH.nil
    go_simp
    refine hK.out _ _ hHeld (fun hHeld => ?_)
    clear hK KK
    refine wpAnyH_done (by kernel_rfl) ?_ _
    have B9 : Below w.heap.size w w7 := HB.out.trans (B7.mono HB.out.size)
    go_wp2
    go_ret
    exact ⟨ret_bool HO.out.symm, (by repeat (first | with_reducible exact Below.refl _ _ | with_reducible exact B9 | with_reducible refine Below.setCell ?_ (by first | omega | (simp; done) | (simp; omega)) _ | with_reducible refine bDrewN ?_ _ | with_reducible refine Below.drew ?_ | with_reducible refine Below.alloc ?_ (by first | omega | (simp; done) | (simp; omega)) _))⟩
  · obtain ⟨⟨x0, x1⟩, -, -⟩ := tree_yes q
    obtain ⟨x, rfl⟩ : ∃ y : Nat, x = (y : Int) := ⟨x.toNat, by omega⟩
    have HO : Hid (fyB (x : Int) n X K V m U = faB (setN x U m) x n X K V) := by show _ = _; unfold fyB; rw [q, Int.toNat_natCast]; rfl
    have HQ : Hid (treeB (x : Int) n X K V = true) := q
    rw [q] at HT
    clear q
    go_enter Try.func15, Try.ntmps15
    go_upto_region 1 with fail
    obtain ⟨wd, hwd⟩ : ∃ wd, wd = w.alloc (.cells #[.int .i64 (x : Int), .slice s n c] 26) := ⟨_, rfl⟩
    rw [← hwd]
    have B0 : Below w.heap.size w wd := by rw [hwd]; exact (by repeat (first | with_reducible exact Below.refl _ _ | with_reducible refine Below.setCell ?_ (by first | omega | (simp; done) | (simp; omega)) _ | with_reducible refine bDrewN ?_ _ | with_reducible refine Below.drew ?_ | with_reducible refine Below.alloc ?_ (by first | omega | (simp; done) | (simp; omega)) _))
    have p0 : wd.cell? ⟨w.heap.size, 0, none⟩ = some (.int .i64 (x : Int)) := by rw [hwd]; simp [go_sem]
    have p1 : wd.cell? ⟨w.heap.size, 1, none⟩ = some (.slice s n c) := by rw [hwd]; simp [go_sem]
    have zd : w.heap.size < wd.heap.size := by rw [hwd]; simp
    have HB : Hid (Below w.heap.size w wd) := B0
    clear hwd B0
    refine wp_region_held_drew (S := fun w' => w'.cell? ⟨w.heap.size, 0, none⟩ = some (.int .i64 (x : Int)) ∧ w'.cell? ⟨w.heap.size, 1, none⟩ = some (.slice s n c)) (by kernel_rfl) ?_ (fun hHeld => ?_)
    · exact keepT p0 p1 zd (by repeat (first | with_reducible exact Below.refl _ _ | with_reducible refine Below.setCell ?_ (by first | omega | (simp; done) | (simp; omega)) _ | with_reducible refine bDrewN ?_ _ | with_reducible refine Below.drew ?_ | with_reducible refine Below.alloc ?_ (by first | omega | (simp; done) | (simp; omega)) _))
    refine wpAnyH_take (i := 0) (v := .agg #[.int .i64 (x : Int), .slice s n c]) rfl (by kernel_rfl) (by kernel_rfl) (by kernel_rfl) (fun _ _ _ h => h) (Or.inl ⟨by kernel_rfl, ?_⟩) hHeld ?_
    · intro w' hSw
      obtain ⟨s0, s1⟩ := hSw
      first | (go_simp; done) | (go_simp; with_reducible rfl)
    simp only [Act.put, List.setIfInBounds_toArray, List.set_cons_zero, List.set_cons_succ]
    refine wpAnyH_ready (rs := [1]) (by kernel_rfl) (by simp) ?_
    refine AllReadyH.cons rfl (fun KK hK => ?_) AllReadyH.nil
    go_simp
    go_wp2_with (first | (go_at_call 46; refine (HT.out _ (HB.out.trans (Below.mono (by repeat (first | with_reducible exact Below.refl _ _ | with_reducible refine Below.setCell ?_ (by first | omega | (simp; done) | (simp; omega)) _ | with_reducible refine bDrewN ?_ _ | with_reducible refine Below.drew ?_ | with_reducible refine Below.alloc ?_ (by first | omega | (simp; done) | (simp; omega)) _)) HB.out.size))).mono ?_; rintro e w7 ⟨rfl, h7⟩; have B7 : Below wd.heap.size wd w7 := Below.trans (by repeat (first | with_reducible exact Below.refl _ _ | with_reducible refine Below.setCell ?_ (by first | omega | (simp; done) | (simp; omega)) _ | with_reducible refine bDrewN ?_ _ | with_reducible refine Below.drew ?_ | with_reducible refine Below.alloc ?_ (by first | omega | (simp; done) | (simp; omega)) _)) (h7.mono (by first | omega | (simp; done) | (simp; omega))); have s7 := B7.size; clear h7))
    refine hK.out _ _ (keepT p0 p1 zd B7) (fun hHeld => ?_)
    clear hK KK
    refine wpAnyH_take (i := 2) (v := .bool true) rfl (by kernel_rfl) (by kernel_rfl) (by kernel_rfl) (fun _ _ _ h => h) (Or.inl ⟨by kernel_rfl, ?_⟩) hHeld ?_
    · intro w' hSw
      obtain ⟨s0, s1⟩ := hSw
      first | (go_simp; done) | (go_simp; with_reducible rfl)
    simp only [Act.put, List.setIfInBounds_toArray, List.set_cons_zero, List.set_cons_succ]
    refine wpAnyH_take (i := 3) (v := .agg #[.int .i64 (x : Int), .slice s n c]) rfl (by kernel_rfl) (by kernel_rfl) (by kernel_rfl) (fun _ _ _ h => h) (Or.inl ⟨by kernel_rfl, ?_⟩) hHeld ?_
    · intro w' hSw
      obtain ⟨s0, s1⟩ := hSw
      first | (go_simp; done) | (go_simp; with_reducible rfl)
    simp only [Act.put, List.setIfInBounds_toArray, List.set_cons_zero, List.set_cons_succ]
    refine wpAnyH_take (i := 4) (v := .agg #[.int .i64 (x : Int), .slice s n c]) rfl (by kernel_rfl) (by kernel_rfl) (by kernel_rfl) (fun _ _ _ h => h) (Or.inl ⟨by kernel_rfl, ?_⟩) hHeld ?_
    · intro w' hSw
      obtain ⟨s0, s1⟩ := hSw
      first | (go_simp; done) | (go_simp; with_reducible rfl)
    simp only [Act.put, List.setIfInBounds_toArray, List.set_cons_zero, List.set_cons_succ]
    refine wpAnyH_take (i := 5) (v := .slice t m d) rfl (by kernel_rfl) (by kernel_rfl) (by kernel_rfl) (fun _ _ _ h => h) (Or.inl ⟨by kernel_rfl, ?_⟩) hHeld ?_
    · intro w' hSw
      obtain ⟨s0, s1⟩ := hSw
      first | (go_simp; done) | (go_simp; with_reducible rfl)
    simp only [Act.put, List.setIfInBounds_toArray, List.set_cons_zero, List.set_cons_succ]
    refine wpAnyH_ready (rs := [6]) (by kernel_rfl) (by simp) ?_
    refine AllReadyH.cons rfl (fun KK hK => ?_) AllReadyH.nil
    go_simp
    go_wp2_with (first | (go_at_call 48; refine (basicsAmong_any x s n c t m d U _ x1 hm (HU.out.below (HB.out.trans (Below.mono B7 HB.out.size)))).mono ?_; rintro e w8 ⟨rfl, h8⟩; have B8 : Below wd.heap.size wd w8 := B7.trans (h8.mono s7); have s8 := B8.size; clear h8))
    refine hK.out _ _ (keepT p0 p1 zd B8) (fun hHeld => ?_)
    clear hK KK
    refine wpAnyH_ready (rs := [7]) (by kernel_rfl) (by simp) ?_
    refine AllReadyH.cons rfl (fun KK hK => ?_) AllReadyH.nil
    go_simp
    go_wp2_with (first | (go_at_call 47; refine (fails_any (setN x U m) x s n c X K V _ HQ (set_lt x U m) (HR.out.below (HB.out.trans (Below.mono B8 HB.out.size)))).mono ?_; rintro e w9 ⟨rfl, h9⟩; have B9 : Below wd.heap.size wd w9 := B8.trans (h9.mono s8); clear h9))
    refine hK.out _ _ (keepT p0 p1 zd B9) (fun hHeld => ?_)
    clear hK KK
    refine wpAnyH_take (i := 8) (v := .bool (faB (setN x U m) x n X K V)) rfl (by kernel_rfl) (by kernel_rfl) (by kernel_rfl) (fun _ _ _ h => h) (Or.inl ⟨by kernel_rfl, ?_⟩) hHeld ?_
    · intro w' hSw
      obtain ⟨s0, s1⟩ := hSw
      first | (go_simp; done) | (go_simp; with_reducible rfl)
    simp only [Act.put, List.setIfInBounds_toArray, List.set_cons_zero, List.set_cons_succ]
    refine wpAnyH_ready (rs := [9]) (by kernel_rfl) (by simp) ?_
    refine AllReadyH.cons rfl (fun KK hK => ?_) AllReadyH.nil
    go_simp
    refine hK.out _ _ hHeld (fun hHeld => ?_)
    clear hK KK
    refine wpAnyH_done (by kernel_rfl) ?_ _
    have B10 : Below w.heap.size w w9 := HB.out.trans (B9.mono HB.out.size)
    go_wp2
    go_ret
    exact ⟨ret_bool HO.out.symm, (by repeat (first | with_reducible exact Below.refl _ _ | with_reducible exact B10 | with_reducible refine Below.setCell ?_ (by first | omega | (simp; done) | (simp; omega)) _ | with_reducible refine bDrewN ?_ _ | with_reducible refine Below.drew ?_ | with_reducible refine Below.alloc ?_ (by first | omega | (simp; done) | (simp; omega)) _))⟩
end Go.Proofs.Ytpaiajeigdifcaa
