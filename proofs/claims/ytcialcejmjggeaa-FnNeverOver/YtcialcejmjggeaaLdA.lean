/-
What is proved: whether a machine is starting, as the program tells it.
-/
import Derived.Test.YtcialcejmjggeaaLdP
import Derived.Test.YtcialcejmjggeaaPwI
import Derived.Test.YtcialcejmjggeaaAnr
import Derived.Deep.RegionHeldLaw
import Derived.Deep.DeepCutAuto

namespace Go.Proofs.Ytcialcejmjggeaa
set_option maxRecDepth 40000
open Go.ChangeShapes Go.WideShapes Go.ChangeAt Go.RowKit
set_option linter.unusedVariables false
set_option linter.unusedSimpArgs false

set_option maxRecDepth 20000 in
set_option maxHeartbeats 4000000 in
theorem anyStarts_any (s : Option Addr) (n c : Nat) (V : Nat → Int) (u : Option Addr) (m e : Nat) (U : Nat → Int) (t : Int) (w : World) (hm : m = n) (hn : n ≤ 60) (HM : Hid (∀ j, j < n → machB V j = true)) (HT : Hid (∀ j, j < n → -1 ≤ U j ∧ U j ≤ 1000000)) (HR : Hid (RowI w s (n * 4) V)) (HU : Hid (RowI w u m U)) :
    Calls Try.prog 41 #[.slice s n c, .slice u m e, .int .i64 t] w fun e w' => e = .returned (.bool (anS V U t n)) ∧ Below w.heap.size w w' := by
  subst hm
  go_enter Try.func41, Try.ntmps41
  go_wp2_with fail
  go_loopw [11] (fun i wr => ∃ k : Nat, k ≤ m ∧ i = .int .i64 k ∧ Hid (anS V U t k = false) ∧ Hid (Below w.heap.size w wr)) (fun i _ => m - (intOf i).toNat)
  case atStart => exact ⟨0, Nat.zero_le _, rfl, rfl, Below.refl _ _⟩
  case round =>
    obtain ⟨k, hk, rfl, HN, HB⟩ := hrel
    have hB := HB.out
    by_cases h1 : k < m
    case neg =>
      obtain rfl : k = m := by omega
      go_wp2
      go_ret
      exact ⟨ret_bool HN.out.symm, (by repeat (first | with_reducible exact Below.refl _ _ | with_reducible exact hB | with_reducible refine Below.setCell ?_ (by first | omega | (simp; done) | (simp; omega)) _ | with_reducible refine bDrewN ?_ _ | with_reducible refine Below.drew ?_ | with_reducible refine Below.alloc ?_ (by first | omega | (simp; done) | (simp; omega)) _))⟩
    have k1 : (k : Int) < (m : Int) := by omega
    obtain ⟨g, o, rfl, hg, c0⟩ := HR.out (k * 4) (by omega)
    obtain ⟨g', o', e', -, c1⟩ := HR.out (k * 4 + 1) (by omega)
    cases e'
    obtain ⟨g', o', e', -, c2⟩ := HR.out (k * 4 + 2) (by omega)
    cases e'
    obtain ⟨g', o', e', -, c3⟩ := HR.out (k * 4 + 3) (by omega)
    cases e'
    obtain ⟨gu, ou, rfl, hgu, cu⟩ := HU.out k h1
    have d0 : wr.cell? ⟨g, o + k * 4, none⟩ = some (.int .i64 (V (k * 4))) := (hB.cell (p := ⟨g, o + k * 4, none⟩) hg).trans c0
    have d1 : wr.cell? ⟨g, o + k * 4 + 1, none⟩ = some (.int .i64 (V (k * 4 + 1))) := (hB.cell (p := ⟨g, o + (k * 4 + 1), none⟩) hg).trans c1
    have d2 : wr.cell? ⟨g, o + k * 4 + 2, none⟩ = some (.int .i64 (V (k * 4 + 2))) := (hB.cell (p := ⟨g, o + (k * 4 + 2), none⟩) hg).trans c2
    have d3 : wr.cell? ⟨g, o + k * 4 + 3, none⟩ = some (.int .i64 (V (k * 4 + 3))) := (hB.cell (p := ⟨g, o + (k * 4 + 3), none⟩) hg).trans c3
    have du : wr.cell? ⟨gu, ou + k, none⟩ = some (.int .i64 (U k)) := (hB.cell (p := ⟨gu, ou + k, none⟩) hgu).trans cu
    have zu : gu < wr.heap.size := Nat.lt_of_lt_of_le hgu hB.size
    obtain ⟨t0, t1⟩ := HT.out k h1
    obtain ⟨-, -, ⟨v0, v1⟩, -⟩ := machV_yes (HM.out k h1)
    have HS : Hid (∀ w, Calls Try.prog 53 #[.agg #[.int .i64 (V (k * 4)), .int .i64 (V (k * 4 + 1)), .int .i64 (V (k * 4 + 2)), .int .i64 (V (k * 4 + 3))], .int .i64 (U k), .int .i64 t] w fun e w' => e = .returned (.bool (startB (U k) t (V (k * 4 + 2)))) ∧ Below w.heap.size w w') := fun w => starts_any _ _ _ _ _ _ w t0 t1 v0 v1
    have HX : Hid (∀ b, startB (U k) t (V (k * 4 + 2)) = b → (if b then anS V U t m = true else anS V U t (k + 1) = false)) := fun b hb => by
      cases b
      · exact anS_no HN.out hb
      · exact anS_yes hb m h1
    clear hB c0 c1 c2 c3 cu hg hgu
    go_upto_region 4 with fail
    obtain ⟨wm, hwm⟩ : ∃ z, z = wr.alloc (.cells #[.int .i64 (V (k * 4)), .int .i64 (V (k * 4 + 1)), .int .i64 (V (k * 4 + 2)), .int .i64 (V (k * 4 + 3))] 41) := ⟨_, rfl⟩
    obtain ⟨mv, hmv⟩ : ∃ z, wr.heap.size = z := ⟨_, rfl⟩
    rw [← hwm, hmv]
    have bm : Below wr.heap.size wr wm := by rw [hwm]; exact (by repeat (first | with_reducible exact Below.refl _ _ | with_reducible refine Below.setCell ?_ (by first | omega | (simp; done) | (simp; omega)) _ | with_reducible refine bDrewN ?_ _ | with_reducible refine Below.drew ?_ | with_reducible refine Below.alloc ?_ (by first | omega | (simp; done) | (simp; omega)) _))
    have zm : mv < wm.heap.size := by rw [hwm, ← hmv]; simp
    have m0 : wm.cell? ⟨mv, 0, none⟩ = some (.int .i64 (V (k * 4))) := by rw [hwm, ← hmv]; simp [go_sem]
    have m1 : wm.cell? ⟨mv, 1, none⟩ = some (.int .i64 (V (k * 4 + 1))) := by rw [hwm, ← hmv]; simp [go_sem]
    have m2 : wm.cell? ⟨mv, 2, none⟩ = some (.int .i64 (V (k * 4 + 2))) := by rw [hwm, ← hmv]; simp [go_sem]
    have m3 : wm.cell? ⟨mv, 3, none⟩ = some (.int .i64 (V (k * 4 + 3))) := by rw [hwm, ← hmv]; simp [go_sem]
    have eu : wm.cell? ⟨gu, ou + k, none⟩ = some (.int .i64 (U k)) := (bm.cell (p := ⟨gu, ou + k, none⟩) zu).trans du
    have HBw : Hid (Below w.heap.size w wm) := HB.out.trans (bm.mono HB.out.size)
    have zuw : gu < wm.heap.size := Nat.lt_of_lt_of_le zu bm.size
    clear hwm bm HB hmv d0 d1 d2 d3 du zu
    refine wp_region_held_drew (S := fun w' => w'.cell? ⟨mv, 0, none⟩ = some (.int .i64 (V (k * 4))) ∧ w'.cell? ⟨mv, 1, none⟩ = some (.int .i64 (V (k * 4 + 1))) ∧ w'.cell? ⟨mv, 2, none⟩ = some (.int .i64 (V (k * 4 + 2))) ∧ w'.cell? ⟨mv, 3, none⟩ = some (.int .i64 (V (k * 4 + 3))) ∧ w'.cell? ⟨gu, ou + k, none⟩ = some (.int .i64 (U k))) (by kernel_rfl) ?_ (fun hHeld => ?_)
    · exact ⟨by simpa [go_sem] using m0, by simpa [go_sem] using m1, by simpa [go_sem] using m2, by simpa [go_sem] using m3, by simpa [go_sem] using eu⟩
    obtain ⟨v0_, hv0⟩ : ∃ z, z = wm.drew := ⟨_, rfl⟩
    try rw [← hv0] at hHeld
    rw [← hv0]
    have bv0 : Below wm.heap.size wm v0_ := by rw [hv0]; exact Below.drew (Below.refl _ _)
    clear hv0
    have BV : Hid (Below w.heap.size w v0_) := HBw.out.trans (bv0.mono HBw.out.size)
    have n0 := (bv0.cell (p := ⟨mv, 0, none⟩) zm).trans m0
    have n1 := (bv0.cell (p := ⟨mv, 1, none⟩) zm).trans m1
    have n2 := (bv0.cell (p := ⟨mv, 2, none⟩) zm).trans m2
    have n3 := (bv0.cell (p := ⟨mv, 3, none⟩) zm).trans m3
    have n4 := (bv0.cell (p := ⟨gu, ou + k, none⟩) zuw).trans eu
    have zmv : mv < v0_.heap.size := Nat.lt_of_lt_of_le zm bv0.size
    have zuv : gu < v0_.heap.size := Nat.lt_of_lt_of_le zuw bv0.size
    clear bv0 HBw m0 m1 m2 m3 eu zm zuw
    refine wpAnyH_take (i := 0) (v := .agg #[.int .i64 (V (k * 4)), .int .i64 (V (k * 4 + 1)), .int .i64 (V (k * 4 + 2)), .int .i64 (V (k * 4 + 3))]) rfl (by kernel_rfl) (by kernel_rfl) (by kernel_rfl) (fun _ _ _ h => h) (Or.inl ⟨by kernel_rfl, ?_⟩) hHeld ?_
    · intro w' hSw
      obtain ⟨s0, s1, s2, s3, s4⟩ := hSw
      first | (go_simp; done) | (go_simp; with_reducible rfl) | (go_simp; rw [IntKind.wrap_i64]; omega) | (go_simp; omega)
    simp only [Act.put, List.setIfInBounds_toArray, List.set_cons_zero, List.set_cons_succ]
    refine wpAnyH_take (i := 1) (v := .slice (some ⟨gu, ou, none⟩) m e) rfl (by kernel_rfl) (by kernel_rfl) (by kernel_rfl) (fun _ _ _ h => h) (Or.inl ⟨by kernel_rfl, ?_⟩) hHeld ?_
    · intro w' hSw
      obtain ⟨s0, s1, s2, s3, s4⟩ := hSw
      first | (go_simp; done) | (go_simp; with_reducible rfl) | (go_simp; rw [IntKind.wrap_i64]; omega) | (go_simp; omega)
    simp only [Act.put, List.setIfInBounds_toArray, List.set_cons_zero, List.set_cons_succ]
    refine wpAnyH_take (i := 2) (v := .int .i64 (k : Int)) rfl (by kernel_rfl) (by kernel_rfl) (by kernel_rfl) (fun _ _ _ h => h) (Or.inl ⟨by kernel_rfl, ?_⟩) hHeld ?_
    · intro w' hSw
      obtain ⟨s0, s1, s2, s3, s4⟩ := hSw
      first | (go_simp; done) | (go_simp; with_reducible rfl) | (go_simp; rw [IntKind.wrap_i64]; omega) | (go_simp; omega)
    simp only [Act.put, List.setIfInBounds_toArray, List.set_cons_zero, List.set_cons_succ]
    refine wpAnyH_take (i := 3) (v := .pointer (some ⟨gu, ou + k, none⟩)) rfl (by kernel_rfl) (by kernel_rfl) (by kernel_rfl) (fun _ _ _ h => h) (Or.inl ⟨by kernel_rfl, ?_⟩) hHeld ?_
    · intro w' hSw
      obtain ⟨s0, s1, s2, s3, s4⟩ := hSw
      first | (go_simp; done) | (go_simp; with_reducible rfl) | (go_simp; rw [IntKind.wrap_i64]; omega) | (go_simp; omega)
    simp only [Act.put, List.setIfInBounds_toArray, List.set_cons_zero, List.set_cons_succ]
    refine wpAnyH_take (i := 4) (v := .int .i64 (U k)) rfl (by kernel_rfl) (by kernel_rfl) (by kernel_rfl) (fun _ _ _ h => h) (Or.inl ⟨by kernel_rfl, ?_⟩) hHeld ?_
    · intro w' hSw
      obtain ⟨s0, s1, s2, s3, s4⟩ := hSw
      first | (go_simp; done) | (go_simp; with_reducible rfl) | (go_simp; rw [IntKind.wrap_i64]; omega) | (go_simp; omega)
    simp only [Act.put, List.setIfInBounds_toArray, List.set_cons_zero, List.set_cons_succ]
    refine wpAnyH_take (i := 5) (v := .int .i64 t) rfl (by kernel_rfl) (by kernel_rfl) (by kernel_rfl) (fun _ _ _ h => h) (Or.inl ⟨by kernel_rfl, ?_⟩) hHeld ?_
    · intro w' hSw
      obtain ⟨s0, s1, s2, s3, s4⟩ := hSw
      first | (go_simp; done) | (go_simp; with_reducible rfl) | (go_simp; rw [IntKind.wrap_i64]; omega) | (go_simp; omega)
    simp only [Act.put, List.setIfInBounds_toArray, List.set_cons_zero, List.set_cons_succ]
    refine wpAnyH_ready (rs := [6]) (by kernel_rfl) (by simp) ?_
    refine AllReadyH.cons rfl (fun KK hK => ?_) AllReadyH.nil
    go_simp
    go_wp2_with fail
    refine (HS.out _).mono ?_
    rintro e_ w1 ⟨rfl, B1⟩
    have HB1 : Hid (Below w.heap.size w w1) := BV.out.trans (B1.mono BV.out.size)
    have y0 := (B1.cell (p := ⟨mv, 0, none⟩) zmv).trans n0
    have y1 := (B1.cell (p := ⟨mv, 1, none⟩) zmv).trans n1
    have y2 := (B1.cell (p := ⟨mv, 2, none⟩) zmv).trans n2
    have y3 := (B1.cell (p := ⟨mv, 3, none⟩) zmv).trans n3
    have y4 := (B1.cell (p := ⟨gu, ou + k, none⟩) zuv).trans n4
    clear B1
    refine hK.out _ _ (⟨y0, y1, y2, y3, y4⟩) (fun hHeld => ?_)
    clear hK KK
    refine wpAnyH_done (by kernel_rfl) ?_ _
    clear hHeld
    cases hs : startB (U k) t (V (k * 4 + 2))
    · have NO : Hid (anS V U t (k + 1) = false) := HX.out false hs
      clear hs HX HS
      go_wp2
      go_roundw
      case rel => exact ⟨k + 1, by omega, by go_num, NO, HB1⟩
      case measure => simp [intOf]; omega
    · have YES : Hid (anS V U t m = true) := HX.out true hs
      clear hs HX HS
      go_wp2
      go_ret
      exact ⟨ret_bool YES.out.symm, HB1.out⟩
end Go.Proofs.Ytcialcejmjggeaa
