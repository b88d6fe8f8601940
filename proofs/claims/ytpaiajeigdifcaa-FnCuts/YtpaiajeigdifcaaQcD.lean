/-
What is proved: two lists of int64s that are the same are told to be.
-/
import Derived.Test.YtpaiajeigdifcaaRowI
import Derived.Test.YtpaiajeigdifcaaOwn
import Derived.Deep.DeepCutAuto
import Derived.RegionTactic
import Derived.Deep.RegionHeld3
import Derived.BigQuiet
import Derived.Test.YtpaiajeigdifcaaQcB
import Derived.Deep.RegionHeldLaw
import Derived.Test.YtpaiajeigdifcaaBeside
import Derived.Deep.AppendLies
namespace Go.Proofs.Ytpaiajeigdifcaa
set_option maxRecDepth 40000
open Go.ChangeShapes Go.WideShapes Go.ChangeAt Go.RowKit
set_option linter.unusedVariables false
set_option linter.unusedSimpArgs false

set_option maxRecDepth 20000 in
set_option maxHeartbeats 2000000 in
theorem sameInts_any (s t : Option Addr) (n c d : Nat) (V : Nat → Int) (w : World) (hn : (n : Int) ≤ 1048576) (HR : Hid (RowI w s n V)) (HT : Hid (RowI w t n V)) :
    Calls Try.prog 13 #[.slice s n c, .slice t n d] w fun e w' => e = .returned (.bool true) ∧ Below w.heap.size w w' := by
  go_enter Try.func13, Try.ntmps13
  go_wp2_with fail
  go_loopw [5] (fun i wx => ∃ k : Nat, k ≤ n ∧ i = .int .i64 k ∧ Below w.heap.size w wx) (fun i _ => n - (intOf i).toNat)
  case atStart => exact ⟨0, Nat.zero_le _, rfl, Below.refl _ _⟩
  case round =>
    obtain ⟨k, hk, rfl, hB⟩ := hrel
    have HB : Hid (Below w.heap.size w wr) := hB
    by_cases h1 : k < n
    · obtain ⟨g, o, rfl, hg, c0⟩ := HR.out k h1
      obtain ⟨g2, o2, rfl, hg2, c1⟩ := HT.out k h1
      replace c0 := (hB.cell (p := ⟨g, o + k, none⟩) hg).trans c0
      replace c1 := (hB.cell (p := ⟨g2, o2 + k, none⟩) hg2).trans c1
      have kn : (k : Int) < (n : Int) := by omega
      have nv : (V k != V k) = false := by simp
      clear hB
      go_upto_region 6 with fail
      go_quiet (fail)
      go_wp2
      go_roundw
      case rel => exact ⟨k + 1, by omega, by go_num, HB.out.trans ((bDrewN (Below.refl _ _) _).mono HB.out.size)⟩
      case measure => simp [intOf]; omega
    · obtain rfl : k = n := by omega
      go_wp2
      go_ret
      exact ⟨rfl, hB⟩

open Go.ChangeShapes Go.WideShapes Go.ChangeAt Go.RowKit
set_option linter.unusedVariables false
set_option linter.unusedSimpArgs false

set_option maxRecDepth 20000 in
set_option maxHeartbeats 4000000 in
theorem sameRows_any (s t : Option Addr) (n c d : Nat) (K : Nat → Nat) (V : Nat → Nat → Int) (w : World) (hn : (n : Int) ≤ 1048576) (HK : Hid (∀ i, i < n → (K i : Int) ≤ 1048576)) (HR : Hid (RowLL w s n K V)) (HT : Hid (RowLL w t n K V)) :
    Calls Try.prog 19 #[.slice s n c, .slice t n d] w fun e w' => e = .returned (.bool true) ∧ Below w.heap.size w w' := by
  go_enter Try.func19, Try.ntmps19
  go_wp2_with fail
  go_loopw [5] (fun i wr => ∃ k : Nat, k ≤ n ∧ i = .int .i64 k ∧ Hid (Below w.heap.size w wr)) (fun i _ => n - (intOf i).toNat)
  case atStart => exact ⟨0, Nat.zero_le _, rfl, Below.refl _ _⟩
  case round =>
    obtain ⟨k, hk, rfl, HB⟩ := hrel
    rename World => wa
    by_cases h1 : k < n
    · have k1 : (k : Int) < (n : Int) := by omega
      obtain ⟨ba, oa, xa, ca, rfl, ha, ca0, Ra⟩ := HR.out.below HB.out k h1
      obtain ⟨bb, ob, xb, cb, rfl, hb, cb0, Rb⟩ := HT.out.below HB.out k h1
      have HA : Hid (wa.cell? ⟨ba, oa + k, none⟩ = some (.slice xa (K k) ca) ∧ ba < wa.heap.size ∧ wa.cell? ⟨bb, ob + k, none⟩ = some (.slice xb (K k) cb) ∧ bb < wa.heap.size) := ⟨ca0, ha, cb0, hb⟩
      have HRa : Hid (RowI wa xa (K k) (V k)) := Ra
      have HRb : Hid (RowI wa xb (K k) (V k)) := Rb
      have kK := HK.out k h1
      clear ca0 cb0 ha hb Ra Rb
      go_upto_region 6 with fail
      refine wp_region_held_drew (S := fun w' => w'.cell? ⟨ba, oa + k, none⟩ = some (.slice xa (K k) ca) ∧ ba < w'.heap.size ∧ w'.cell? ⟨bb, ob + k, none⟩ = some (.slice xb (K k) cb) ∧ bb < w'.heap.size) (by kernel_rfl) ?_ (fun hHeld => ?_)
      · exact HA.out
      obtain ⟨v0, hv0⟩ : ∃ z, z = wa.drew := ⟨_, rfl⟩
      try rw [← hv0] at hHeld
      rw [← hv0]
      have bv0 : Below wa.heap.size wa v0 := by rw [hv0]; exact Below.drew (Below.refl _ _)
      clear hv0
      have HV : Hid (Below wa.heap.size wa v0) := bv0
      clear bv0
      refine wpAnyH_take (i := 0) (v := .slice (some ⟨ba, oa, none⟩) n c) rfl (by kernel_rfl) (by kernel_rfl) (by kernel_rfl) (fun _ _ _ h => h) (Or.inl ⟨by kernel_rfl, ?_⟩) hHeld ?_
      · intro w' hSw
        obtain ⟨hc0, hz0, hc1, hz1⟩ := hSw
        first | (go_simp; done) | (go_simp; with_reducible rfl) | (go_simp; rw [IntKind.wrap_i64]; omega) | (go_simp; omega)
      simp only [Act.put, List.setIfInBounds_toArray, List.set_cons_zero, List.set_cons_succ]
      refine wpAnyH_take (i := 1) (v := .int .i64 (k : Int)) rfl (by kernel_rfl) (by kernel_rfl) (by kernel_rfl) (fun _ _ _ h => h) (Or.inl ⟨by kernel_rfl, ?_⟩) hHeld ?_
      · intro w' hSw
        obtain ⟨hc0, hz0, hc1, hz1⟩ := hSw
        first | (go_simp; done) | (go_simp; with_reducible rfl) | (go_simp; rw [IntKind.wrap_i64]; omega) | (go_simp; omega)
      simp only [Act.put, List.setIfInBounds_toArray, List.set_cons_zero, List.set_cons_succ]
      refine wpAnyH_take (i := 2) (v := .pointer (some ⟨ba, oa + k, none⟩)) rfl (by kernel_rfl) (by kernel_rfl) (by kernel_rfl) (fun _ _ _ h => h) (Or.inl ⟨by kernel_rfl, ?_⟩) hHeld ?_
      · intro w' hSw
        obtain ⟨hc0, hz0, hc1, hz1⟩ := hSw
        first | (go_simp; done) | (go_simp; with_reducible rfl) | (go_simp; rw [IntKind.wrap_i64]; omega) | (go_simp; omega)
      simp only [Act.put, List.setIfInBounds_toArray, List.set_cons_zero, List.set_cons_succ]
      refine wpAnyH_take (i := 3) (v := .slice xa (K k) ca) rfl (by kernel_rfl) (by kernel_rfl) (by kernel_rfl) (fun _ _ _ h => h) (Or.inl ⟨by kernel_rfl, ?_⟩) hHeld ?_
      · intro w' hSw
        obtain ⟨hc0, hz0, hc1, hz1⟩ := hSw
        first | (go_simp; done) | (go_simp; with_reducible rfl) | (go_simp; rw [IntKind.wrap_i64]; omega) | (go_simp; omega)
      simp only [Act.put, List.setIfInBounds_toArray, List.set_cons_zero, List.set_cons_succ]
      refine wpAnyH_take (i := 4) (v := .slice (some ⟨bb, ob, none⟩) n d) rfl (by kernel_rfl) (by kernel_rfl) (by kernel_rfl) (fun _ _ _ h => h) (Or.inl ⟨by kernel_rfl, ?_⟩) hHeld ?_
      · intro w' hSw
        obtain ⟨hc0, hz0, hc1, hz1⟩ := hSw
        first | (go_simp; done) | (go_simp; with_reducible rfl) | (go_simp; rw [IntKind.wrap_i64]; omega) | (go_simp; omega)
      simp only [Act.put, List.setIfInBounds_toArray, List.set_cons_zero, List.set_cons_succ]
      refine wpAnyH_take (i := 5) (v := .int .i64 (k : Int)) rfl (by kernel_rfl) (by kernel_rfl) (by kernel_rfl) (fun _ _ _ h => h) (Or.inl ⟨by kernel_rfl, ?_⟩) hHeld ?_
      · intro w' hSw
        obtain ⟨hc0, hz0, hc1, hz1⟩ := hSw
        first | (go_simp; done) | (go_simp; with_reducible rfl) | (go_simp; rw [IntKind.wrap_i64]; omega) | (go_simp; omega)
      simp only [Act.put, List.setIfInBounds_toArray, List.set_cons_zero, List.set_cons_succ]
      refine wpAnyH_take (i := 6) (v := .pointer (some ⟨bb, ob + k, none⟩)) rfl (by kernel_rfl) (by kernel_rfl) (by kernel_rfl) (fun _ _ _ h => h) (Or.inl ⟨by kernel_rfl, ?_⟩) hHeld ?_
      · intro w' hSw
        obtain ⟨hc0, hz0, hc1, hz1⟩ := hSw
        first | (go_simp; done) | (go_simp; with_reducible rfl) | (go_simp; rw [IntKind.wrap_i64]; omega) | (go_simp; omega)
      simp only [Act.put, List.setIfInBounds_toArray, List.set_cons_zero, List.set_cons_succ]
      refine wpAnyH_take (i := 7) (v := .slice xb (K k) cb) rfl (by kernel_rfl) (by kernel_rfl) (by kernel_rfl) (fun _ _ _ h => h) (Or.inl ⟨by kernel_rfl, ?_⟩) hHeld ?_
      · intro w' hSw
        obtain ⟨hc0, hz0, hc1, hz1⟩ := hSw
        first | (go_simp; done) | (go_simp; with_reducible rfl) | (go_simp; rw [IntKind.wrap_i64]; omega) | (go_simp; omega)
      simp only [Act.put, List.setIfInBounds_toArray, List.set_cons_zero, List.set_cons_succ]
      refine wpAnyH_ready (rs := [8]) (by kernel_rfl) (by simp) ?_
      refine (AllReadyH.cons rfl (fun KK hK => ?_) AllReadyH.nil)
      go_simp
      go_wp2_with (first | (go_at_call 13; refine (sameInts_any xa xb (K k) ca cb (V k) _ kK (HRa.out.below HV.out) (HRb.out.below HV.out)).mono ?_; rintro e v0_1 ⟨rfl, h8⟩; replace HV : Hid (Below wa.heap.size wa v0_1) := HV.out.trans (h8.mono HV.out.size); clear h8))
      refine hK.out _ _ (⟨(HV.out.cell (p := ⟨ba, oa + k, none⟩) HA.out.2.1).trans HA.out.1, Nat.lt_of_lt_of_le HA.out.2.1 HV.out.size, (HV.out.cell (p := ⟨bb, ob + k, none⟩) HA.out.2.2.2).trans HA.out.2.2.1, Nat.lt_of_lt_of_le HA.out.2.2.2 HV.out.size⟩) (fun hHeld => ?_)
      clear hK KK
      refine wpAnyH_ready (rs := [9]) (by kernel_rfl) (by simp) ?_
      refine AllReadyH.cons rfl (fun KK hK => ?_) AllReadyH.nil
      go_simp
      refine hK.out _ _ hHeld (fun hHeld => ?_)
      clear hK KK
      refine wpAnyH_done (by kernel_rfl) ?_ _
      clear hHeld
      have HB8 : Hid (Below w.heap.size w v0_1) := HB.out.trans (HV.out.mono HB.out.size)
      go_wp2
      go_roundw
      case rel => exact ⟨k + 1, by omega, by go_num, HB8⟩
      case measure => first | (simp [intOf]; done) | (simp [intOf]; omega)
    · obtain rfl : k = n := by omega
      go_wp2
      go_ret
      exact ⟨rfl, HB.out⟩

open Go.RowKit
set_option linter.unusedVariables false

/-- A READER of n bytes in block r, at the place p; its bytes lie in elder blocks. -/
def Rd (w : World) (r : Nat) (s : Option Addr) (n c : Nat) (p : Nat) : Prop :=
  r < w.heap.size ∧ (∀ o, w.frozen? ⟨r, o, none⟩ = false) ∧ w.cell? ⟨r, 0, none⟩ = some (.slice s n c) ∧ w.cell? ⟨r, 1, none⟩ = some (.int .i64 p) ∧ p ≤ n ∧ n ≤ 1048576 ∧
    ∀ i, i < n → ∃ g o k, s = some ⟨g, o, none⟩ ∧ g < r ∧ w.cell? ⟨g, o + i, none⟩ = some (.int .u8 k) ∧ 0 ≤ k ∧ k < 256
theorem Rd.below {w w' : World} {r : Nat} {s : Option Addr} {n c p : Nat} (h : Rd w r s n c p) (hb : Below w.heap.size w w') : Rd w' r s n c p := by
  obtain ⟨h1, h2, h3, h4, h5, h6, h7⟩ := h
  refine ⟨Nat.lt_of_lt_of_le h1 hb.size, fun o => (hb.frozen (p := ⟨r, o, none⟩) h1).trans (h2 o), (hb.cell (p := ⟨r, 0, none⟩) h1).trans h3, (hb.cell (p := ⟨r, 1, none⟩) h1).trans h4, h5, h6, fun i hi => ?_⟩
  obtain ⟨g, o, k, e, hg, hc, hk⟩ := h7 i hi
  exact ⟨g, o, k, e, hg, (hb.cell (p := ⟨g, o + i, none⟩) (Nat.lt_trans hg h1)).trans hc, hk⟩

set_option maxRecDepth 20000 in
set_option maxHeartbeats 1000000 in
theorem next_end (r n c : Nat) (s : Option Addr) (w : World) (h1 : r < w.heap.size) (h3 : w.cell? ⟨r, 0, none⟩ = some (.slice s n c)) (h4 : w.cell? ⟨r, 1, none⟩ = some (.int .i64 n)) :
    Calls Try.prog 71 #[.pointer (some ⟨r, 0, none⟩)] w fun e w' => e = .returned (.int .i64 0) ∧ Below w.heap.size w w' := by
  go_enter Try.func71, Try.ntmps71
  go_wp2
  go_quiet (fail)
  go_wp2
  go_ret
  exact ⟨rfl, (by repeat (first | with_reducible exact Below.refl _ _ | with_reducible refine Below.setCell ?_ (by first | omega | (simp; done) | (simp; omega)) _ | with_reducible refine bDrewN ?_ _ | with_reducible refine Below.drew ?_ | with_reducible refine Below.alloc ?_ (by first | omega | (simp; done) | (simp; omega)) _))⟩

set_option maxRecDepth 20000 in
set_option maxHeartbeats 1000000 in
theorem next_on (r n c g o p : Nat) (k : Int) (w : World) (h1 : r < w.heap.size) (hg : g < r) (hf : ∀ o, w.frozen? ⟨r, o, none⟩ = false) (h3 : w.cell? ⟨r, 0, none⟩ = some (.slice (some ⟨g, o, none⟩) n c)) (h4 : w.cell? ⟨r, 1, none⟩ = some (.int .i64 p))
    (hp0 : (0 : Int) ≤ (p : Int)) (hp : (p : Int) < (n : Int)) (hn : (n : Int) ≤ 1048576) (hc : w.cell? ⟨g, o + p, none⟩ = some (.int .u8 k)) (hk0 : 0 ≤ k) (hk : k < 256) :
    Calls Try.prog 71 #[.pointer (some ⟨r, 0, none⟩)] w fun e w' => e = .returned (.int .i64 k) ∧ ∃ d1 d2, w' = ((w.drewN d1).setCell ⟨r, 1, none⟩ (.int .i64 (p + 1))).drewN d2 := by
  go_enter Try.func71, Try.ntmps71
  go_wp2
  go_quiet (fail)
  go_wp2
  go_quiet (fail)
  go_wp2
  go_ret
  exact ⟨rfl, _, _, rfl⟩

/-- ONE BYTE READ: a number below 256; the reader stands as a reader, nothing else has turned. -/
theorem next_any {r : Nat} {s : Option Addr} {n c p : Nat} {w : World} (h : Rd w r s n c p) :
    Calls Try.prog 71 #[.pointer (some ⟨r, 0, none⟩)] w fun e w' => ∃ k p', e = .returned (.int .i64 k) ∧ 0 ≤ k ∧ k < 256 ∧ Rd w' r s n c p' ∧ Beside r w w' := by
  obtain ⟨h1, h2, h3, h4, h5, h6, h7⟩ := h
  rcases Nat.lt_or_ge p n with hp | hp
  · obtain ⟨g, o, k, rfl, hg, hc, hk0, hk⟩ := h7 p hp
    refine (next_on r n c g o p k w h1 hg h2 h3 h4 (by omega) (by omega) (by omega) hc hk0 hk).mono ?_
    rintro e w' ⟨rfl, d1, d2, rfl⟩
    have b1 : Below w.heap.size w (w.drewN d1) := bDrewN (Below.refl _ _) _
    have b2 : Beside r (w.drewN d1) ((w.drewN d1).setCell ⟨r, 1, none⟩ (.int .i64 (p + 1))) := Beside.setCell _ _ _ _
    have bb : Beside r w (((w.drewN d1).setCell ⟨r, 1, none⟩ (.int .i64 (p + 1))).drewN d2) := ((Beside.of b1).trans b2).trans (Beside.of (bDrewN (Below.refl _ _) _))
    have z : r < (((w.drewN d1).setCell ⟨r, 1, none⟩ (.int .i64 (p + 1))).drewN d2).heap.size := Nat.lt_of_lt_of_le h1 bb.2.2.2.1
    refine ⟨k, p + 1, rfl, hk0, hk, ⟨z, fun o => ?_, ?_, ?_, by omega, h6, fun i hi => ?_⟩, bb⟩
    · simp [go_sem, h2]
    · simp [go_sem, h3]
    · simp [go_sem, h4]
    · obtain ⟨g', o', k', e', hg', hc', hk'⟩ := h7 i hi
      exact ⟨g', o', k', e', hg', (bb.cell (p := ⟨g', o' + i, none⟩) (Nat.lt_trans hg' h1) (Nat.ne_of_lt hg')).trans hc', hk'⟩
  · obtain rfl : p = n := by omega
    refine (next_end r p c s w h1 h3 h4).mono ?_
    rintro e w' ⟨rfl, hb⟩
    exact ⟨0, p, rfl, by omega, by omega, Rd.below ⟨h1, h2, h3, h4, h5, h6, h7⟩ hb, Beside.of hb⟩

theorem emod_le_self {x m : Int} (hx : 0 ≤ x) (hm : 0 ≤ m) : x % m ≤ x := by
  have d := Int.mul_ediv_add_emod x m
  have e := Int.mul_nonneg hm (Int.ediv_nonneg hx hm)
  generalize m * (x / m) = q at d e
  omega

set_option maxHeartbeats 1000000 in
theorem below_any {r : Nat} {s : Option Addr} {n c p : Nat} {w : World} (m : Int) (h : Hid (Rd w r s n c p)) :
    Calls Try.prog 42 #[.pointer (some ⟨r, 0, none⟩), .int .i64 m] w fun e w' => ∃ k p', e = .returned (.int .i64 k) ∧ 0 ≤ k ∧ k < 65536 ∧ (k < m ∨ k = 0) ∧ Rd w' r s n c p' ∧ Beside r w w' := by
  by_cases hm : m ≤ 1
  · go_enter Try.func42, Try.ntmps42
    go_wp2
    go_ret
    have b : Below w.heap.size w w := Below.refl _ _
    exact ⟨0, p, rfl, by omega, by omega, .inr rfl, h.out, Beside.of b⟩
  · by_cases hm2 : m ≤ 256
    · have hm0 : 1 < m := by omega
      clear hm
      go_enter Try.func42, Try.ntmps42
      go_wp2_with fail
      refine (next_any h.out).mono ?_
      rintro e w1 ⟨k, p1, rfl, k0, k1, R1, b1⟩
      go_wp2
      go_ret
      have q1 := Int.emod_nonneg k (show m ≠ 0 by omega)
      have q2 := Int.emod_lt_of_pos k (show 0 < m by omega)
      exact ⟨k % m, p1, rfl, q1, by omega, .inl q2, R1, b1⟩
    · have hm0 : 256 < m := by omega
      clear hm hm2
      go_enter Try.func42, Try.ntmps42
      go_wp2_with fail
      refine (next_any h.out).mono ?_
      rintro e w1 ⟨k, p1, rfl, k0, k1, R1, b1⟩
      go_wp2_with fail
      refine (next_any R1).mono ?_
      rintro e w2 ⟨l, p2, rfl, l0, l1, R2, b2⟩
      go_wp2
      go_ret
      have q1 := Int.emod_nonneg (k * 256 + l) (show m ≠ 0 by omega)
      have q2 := Int.emod_lt_of_pos (k * 256 + l) (show 0 < m by omega)
      have q3 : (k * 256 + l) % m ≤ k * 256 + l := emod_le_self (by omega) (by omega)
      exact ⟨(k * 256 + l) % m, p2, rfl, q1, by omega, .inl q2, R2, b1.trans b2⟩

set_option maxHeartbeats 1000000 in
theorem once_any {r : Nat} {s : Option Addr} {n c p : Nat} {w : World} (m : Int) (hm : 0 ≤ m) (hm' : m ≤ 1000000) (h : Hid (Rd w r s n c p)) :
    Calls Try.prog 44 #[.pointer (some ⟨r, 0, none⟩), .int .i64 m] w fun e w' => ∃ b p', e = .returned (.bool b) ∧ Rd w' r s n c p' ∧ Beside r w w' := by
  go_enter Try.func44, Try.ntmps44
  go_wp2_with fail
  refine (below_any m h).mono ?_
  rintro e w1 ⟨k, p1, rfl, k0, k1, k2, R1, b1⟩
  go_wp2
  go_ret
  exact ⟨_, p1, rfl, R1, b1⟩

open Go.RowKit
set_option linter.unusedVariables false

theorem wrap64_id {n : Int} (h : -9223372036854775808 ≤ n) (h' : n ≤ 9223372036854775807) : wrap64 n = n := by unfold wrap64; omega
theorem wf_i64 {m : Int} (h : (Lit.int .i64 m).wf = true) : -9223372036854775808 ≤ m ∧ m ≤ 9223372036854775807 := by
  simp only [Lit.wf, Bool.and_eq_true, decide_eq_true_eq] at h
  exact h
theorem wf_u64 {m : Int} (h : (Lit.int .u64 m).wf = true) : 0 ≤ m ∧ m ≤ 18446744073709551615 := by
  simp only [Lit.wf, Bool.and_eq_true, decide_eq_true_eq] at h
  exact h

set_option maxHeartbeats 1000000 in
theorem word_any {r : Nat} {s : Option Addr} {n c p : Nat} {w : World} (h : Hid (Rd w r s n c p)) :
    Calls Try.prog 90 #[.pointer (some ⟨r, 0, none⟩)] w fun e w' => ∃ x : Int, ∃ p', e = .returned (.int .u64 x) ∧ (Lit.int .u64 x).wf = true ∧ Rd w' r s n c p' ∧ Beside r w w' := by
  go_enter Try.func90, Try.ntmps90
  go_wp2
  go_loopw [3, 4] (fun a b wr => ∃ (x : Int) (k : Nat) (p' : Nat), a = .int .u64 x ∧ b = .int .i64 k ∧ (Lit.int .u64 x).wf = true ∧ k ≤ 8 ∧ Hid (Rd wr r s n c p') ∧ Hid (Beside r w wr)) (fun a b _ => 8 - (intOf b).toNat)
  case atStart =>
    have b : Below w.heap.size w w := Below.refl _ _
    exact ⟨0, 0, p, rfl, rfl, by decide, by omega, h, Beside.of b⟩
  case round =>
    obtain ⟨x, k, p', rfl, rfl, hx, hk, R, B⟩ := hrel
    by_cases hk8 : k < 8
    · go_wp2_with fail
      refine (next_any R.out).mono ?_
      rintro e w1 ⟨l, p1, rfl, l0, l1, R1, b1⟩
      go_wp2
      go_roundw
      case rel =>
        exact ⟨_, k + 1, p1, rfl, by go_num, wf_bits _ _ _ _, by omega, R1, B.out.trans b1⟩
      case measure => simp [intOf]; omega
    · obtain rfl : k = 8 := by omega
      go_wp2
      go_ret
      exact ⟨x, p', rfl, hx, R.out, B.out⟩

set_option maxHeartbeats 1000000 in
theorem upto_any {r : Nat} {s : Option Addr} {n c p : Nat} {w : World} (m : Int) (hm : (Lit.int .i64 m).wf = true) (h : Hid (Rd w r s n c p)) :
    Calls Try.prog 84 #[.pointer (some ⟨r, 0, none⟩), .int .i64 m] w fun e w' => ∃ k p', e = .returned (.int .i64 k) ∧ 0 ≤ k ∧ (k < m ∨ k = 0) ∧ Rd w' r s n c p' ∧ Beside r w w' := by
  by_cases h1 : m ≤ 1
  · clear hm
    go_enter Try.func84, Try.ntmps84
    go_wp2
    go_ret
    have b : Below w.heap.size w w := Below.refl _ _
    exact ⟨0, p, rfl, by omega, .inr rfl, h.out, Beside.of b⟩
  · by_cases h2 : m ≤ 65536
    · have hm0 : 1 < m := by omega
      clear h1 hm
      go_enter Try.func84, Try.ntmps84
      go_wp2_with fail
      refine (below_any m h).mono ?_
      rintro e w1 ⟨k, p1, rfl, k0, k1, k2, R1, b1⟩
      go_wp2
      go_ret
      exact ⟨k, p1, rfl, k0, k2, R1, b1⟩
    · have hm0 : 65536 < m := by omega
      have hm1 : m < 9223372036854775808 := by
        have := wf_i64 hm
        omega
      clear h1 h2 hm
      go_enter Try.func84, Try.ntmps84
      go_wp2_with fail
      refine (word_any h).mono ?_
      rintro e w1 ⟨x, p1, rfl, hx, R1, b1⟩
      go_wp2
      go_ret
      have x0 : 0 ≤ x := (wf_u64 hx).1
      have q1 := Int.tmod_nonneg m (show 0 ≤ x / 2 by omega)
      have q2 := Int.tmod_lt_of_pos (x / 2) (show 0 < m by omega)
      exact ⟨(x / 2).tmod m, p1, ret_int (wrap64_id (by omega) (by omega)), q1, .inl q2, R1, b1⟩

set_option maxHeartbeats 1000000 in
theorem near_any {r : Nat} {s : Option Addr} {n c p : Nat} {w : World} (lo hi : Int) (h1 : -1000000000000000000 ≤ lo) (h2 : lo ≤ hi) (h3 : hi ≤ 1000000000000000000) (h : Hid (Rd w r s n c p)) :
    Calls Try.prog 55 #[.pointer (some ⟨r, 0, none⟩), .int .i64 lo, .int .i64 hi] w fun e w' => ∃ k p', e = .returned (.int .i64 k) ∧ lo ≤ k ∧ k ≤ hi ∧ Rd w' r s n c p' ∧ Beside r w w' := by
  have U : Hid (∀ w p, Rd w r s n c p → Calls Try.prog 84 #[.pointer (some ⟨r, 0, none⟩), .int .i64 (hi - lo + 1)] w fun e w' => ∃ k p', e = .returned (.int .i64 k) ∧ 0 ≤ k ∧ (k < hi - lo + 1 ∨ k = 0) ∧ Rd w' r s n c p' ∧ Beside r w w') := fun w p h =>
    upto_any _ (by simp only [Lit.wf, Bool.and_eq_true, decide_eq_true_eq]; exact ⟨show (-9223372036854775808 : Int) ≤ _ by omega, show _ ≤ (9223372036854775807 : Int) by omega⟩) h
  go_enter Try.func55, Try.ntmps55
  go_wp2_with fail
  refine (below_any 8 h).mono ?_
  rintro e w1 ⟨k, p1, rfl, k0, k1, k2, R1, b1⟩
  by_cases e0 : k = 0
  · subst e0
    go_wp2
    go_ret
    exact ⟨lo, p1, rfl, by omega, by omega, R1, b1⟩
  · by_cases e1 : k = 1
    · subst e1
      go_wp2
      go_ret
      exact ⟨hi, p1, rfl, by omega, by omega, R1, b1⟩
    · go_wp2_with fail
      refine (U.out _ _ R1).mono ?_
      rintro e w2 ⟨j, p2, rfl, j0, j1, R2, b2⟩
      go_wp2
      go_ret
      exact ⟨lo + j, p2, rfl, by omega, by omega, R2, b1.trans b2⟩

open Go.RowKit
set_option linter.unusedVariables false

theorem Beside.later {r : Nat} {w w1 w2 : World} (h : Beside r w w1) (b : Below w1.heap.size w1 w2) : Beside r w w2 := h.trans (Beside.of b)

theorem wfi {m : Int} (h : -9223372036854775808 ≤ m) (h' : m ≤ 9223372036854775807) : (Lit.int .i64 m).wf = true := by
  simp only [Lit.wf, Bool.and_eq_true, decide_eq_true_eq]
  exact ⟨h, h'⟩

theorem Beside.fresh {r : Nat} {w x : World} (h : Beside r w x) {q : Addr} (hq : w.heap.size ≤ q.block) (u : Value) : Beside r w (x.setCell q u) := by
  obtain ⟨h1, h2, h3, h4, h5⟩ := h
  exact ⟨h1, h2, h3, by simpa [World.setCell] using h4, fun k hk hn => (Below.heap_setCell _ _ _ _ (by omega)).trans (h5 k hk hn)⟩
theorem Rd.below' {w w' : World} {r : Nat} {s : Option Addr} {n c p : Nat} (h : Rd w r s n c p) (hb : Below (r + 1) w w') : Rd w' r s n c p := by
  obtain ⟨h1, h2, h3, h4, h5, h6, h7⟩ := h
  refine ⟨Nat.lt_of_lt_of_le h1 hb.size, fun o => (hb.frozen (p := ⟨r, o, none⟩) (Nat.lt_succ_self r)).trans (h2 o), (hb.cell (p := ⟨r, 0, none⟩) (Nat.lt_succ_self r)).trans h3, (hb.cell (p := ⟨r, 1, none⟩) (Nat.lt_succ_self r)).trans h4, h5, h6, fun i hi => ?_⟩
  obtain ⟨g, o, k, e, hg, hc, hk⟩ := h7 i hi
  exact ⟨g, o, k, e, hg, (hb.cell (p := ⟨g, o + i, none⟩) (Nat.lt_succ_of_lt hg)).trans hc, hk⟩

set_option maxHeartbeats 2000000 in
theorem off_any {r : Nat} {s : Option Addr} {n c p : Nat} {w : World} (lo hi : Int) (h1 : -1000000000000000000 ≤ lo) (h2 : lo ≤ hi) (h3 : hi ≤ 1000000000000000000) (h : Hid (Rd w r s n c p)) :
    Calls Try.prog 56 #[.pointer (some ⟨r, 0, none⟩), .int .i64 lo, .int .i64 hi] w fun e w' => ∃ k p', e = .returned (.int .i64 k) ∧ (Lit.int .i64 k).wf = true ∧ Rd w' r s n c p' ∧ Beside r w w' := by
  go_enter Try.func56, Try.ntmps56
  go_wp2_with fail
  refine (once_any 24 (by omega) (by omega) h).mono ?_
  rintro e w1 ⟨b, p1, rfl, R1, b1⟩
  cases b
  · go_wp2_with fail
    refine (near_any lo hi h1 h2 h3 R1).mono ?_
    rintro e w2 ⟨k, p2, rfl, k0, k1, R2, b2⟩
    go_wp2
    go_ret
    exact ⟨k, p2, rfl, wfi (by omega) (by omega), R2, b1.trans b2⟩
  · go_wp2_with fail
    refine (below_any 4 (Rd.below R1 (below0 w1 _))).mono ?_
    rintro e w2 ⟨j, p2, rfl, j0, j1, j2, R2, b2⟩
    have b3 : Beside r w w2 := (b1.later (below0 w1 _)).trans b2
    have zr : w1.heap.size ≠ r := by have := R1.1; omega
    have zs : w1.heap.size < w2.heap.size := by have := b2.2.2.2.1; simp at this; omega
    have hc : ∀ i, w2.cell? ⟨w1.heap.size, i, none⟩ = (w1.alloc (.cells #[.int .i64 (lo - 1), .int .i64 (hi + 1), .int .i64 (-9223372036854775808), .int .i64 9223372036854775807] 2)).cell? ⟨w1.heap.size, i, none⟩ := fun i => b2.cell (p := ⟨w1.heap.size, i, none⟩) (by simp) zr
    have jj : j = 0 ∨ j = 1 ∨ j = 2 ∨ j = 3 := by omega
    clear j0 j1 j2
    rcases jj with rfl | rfl | rfl | rfl
    · have hq := (hc 0).trans (show _ = some (.int .i64 (lo - 1)) by simp [go_sem])
      clear hc
      go_wp2
      go_ret
      exact ⟨(lo - 1), p2, rfl, wfi (by omega) (by omega), R2, b3⟩
    · have hq := (hc 1).trans (show _ = some (.int .i64 (hi + 1)) by simp [go_sem])
      clear hc
      go_wp2
      go_ret
      exact ⟨(hi + 1), p2, rfl, wfi (by omega) (by omega), R2, b3⟩
    · have hq := (hc 2).trans (show _ = some (.int .i64 (-9223372036854775808)) by simp [go_sem])
      clear hc
      go_wp2
      go_ret
      exact ⟨(-9223372036854775808), p2, rfl, by decide, R2, b3⟩
    · have hq := (hc 3).trans (show _ = some (.int .i64 9223372036854775807) by simp [go_sem])
      clear hc
      go_wp2
      go_ret
      exact ⟨9223372036854775807, p2, rfl, by decide, R2, b3⟩

open Go.RowKit
set_option linter.unusedVariables false
set_option linter.unusedSimpArgs false

/-- A block's first cells. -/
def Blk (w : World) (b : Nat) (cs : List Value) : Prop := b < w.heap.size ∧ (∀ o, w.frozen? ⟨b, o, none⟩ = false) ∧ ∀ i v, cs[i]? = some v → w.cell? ⟨b, i, none⟩ = some v
theorem Blk.belowB {w w' : World} {b B : Nat} {cs : List Value} (h : Blk w b cs) (hb : Below B w w') (hl : b < B) : Blk w' b cs :=
  ⟨Nat.lt_of_lt_of_le h.1 hb.size, fun o => (hb.frozen (p := ⟨b, o, none⟩) hl).trans (h.2.1 o), fun i v e => (hb.cell (p := ⟨b, i, none⟩) hl).trans (h.2.2 i v e)⟩
theorem Blk.below {w w' : World} {b : Nat} {cs : List Value} (h : Blk w b cs) (hb : Below w.heap.size w w') : Blk w' b cs := h.belowB hb h.1
theorem Blk.beside {w w' : World} {b r : Nat} {cs : List Value} (h : Blk w b cs) (hb : Beside r w w') (hr : b ≠ r) : Blk w' b cs :=
  ⟨Nat.lt_of_lt_of_le h.1 hb.2.2.2.1, fun o => (hb.frozen (p := ⟨b, o, none⟩) h.1 hr).trans (h.2.1 o), fun i v e => (hb.cell (p := ⟨b, i, none⟩) h.1 hr).trans (h.2.2 i v e)⟩
theorem Blk.new (w : World) (cs : Array Value) (t : TypeId) : Blk (w.alloc (.cells cs t)) w.heap.size cs.toList :=
  ⟨by simp, fun o => by simp [go_sem], fun i v e => by rw [Array.getElem?_toList] at e; simp [go_sem, e]⟩
theorem Blk.set {w : World} {b : Nat} {cs : List Value} (h : Blk w b cs) (i : Nat) (v : Value) : Blk (w.setCell ⟨b, i, none⟩ v) b (cs.set i v) := by
  obtain ⟨h1, h2, h3⟩ := h
  refine ⟨by simpa using h1, fun o => by simp [go_sem, h2], fun j u e => ?_⟩
  by_cases q : j = i
  · subst q
    have hj : j < cs.length := by
      rcases Nat.lt_or_ge j cs.length with z | z
      · exact z
      · rw [List.getElem?_eq_none (by simpa using z)] at e; cases e
    rw [List.getElem?_set_self hj] at e
    cases e
    have := h3 j _ (List.getElem?_eq_getElem hj)
    simp [go_sem, this]
  · rw [List.getElem?_set_ne (fun z => q z.symm)] at e
    have := h3 j u e
    simp [go_sem, this, q]
theorem Beside.onB {r : Nat} {w w1 w2 : World} (h : Beside r w w1) (b : Below w.heap.size w1 w2) : Beside r w w2 := by
  obtain ⟨h1, h2, h3, h4, h5⟩ := h
  exact ⟨b.os.trans h1, b.tape.trans h2, b.output.trans h3, Nat.le_trans h4 b.size, fun k hk hn => (b.block k hk).trans (h5 k hk hn)⟩
theorem Rd.besideR {w w' : World} {r q : Nat} {s : Option Addr} {n c p : Nat} (h : Rd w r s n c p) (hb : Beside q w w') (hq : r ≠ q) (hs : ∀ g o, s = some ⟨g, o, none⟩ → g ≠ q) : Rd w' r s n c p := by
  obtain ⟨h1, h2, h3, h4, h5, h6, h7⟩ := h
  refine ⟨Nat.lt_of_lt_of_le h1 hb.2.2.2.1, fun o => (hb.frozen (p := ⟨r, o, none⟩) h1 hq).trans (h2 o), (hb.cell (p := ⟨r, 0, none⟩) h1 hq).trans h3, (hb.cell (p := ⟨r, 1, none⟩) h1 hq).trans h4, h5, h6, fun i hi => ?_⟩
  obtain ⟨g, o, k, e, hg, hc, hk⟩ := h7 i hi
  exact ⟨g, o, k, e, hg, (hb.cell (p := ⟨g, o + i, none⟩) (Nat.lt_trans hg h1) (hs g o e)).trans hc, hk⟩
theorem picked {w w' : World} {b : Nat} {L : List Int} {j : Int} (h : Blk w b (L.map (Value.int .i64))) (h0 : 0 ≤ j) (h1 : j < L.length) : ∃ (jn : Nat) (v : Int), j = jn ∧ (jn : Int) < L.length ∧ w.cell? ⟨b, jn, none⟩ = some (.int .i64 v) ∧ v ∈ L := by
  obtain ⟨jn, rfl⟩ : ∃ jn : Nat, j = jn := ⟨j.toNat, by omega⟩
  have hl : jn < L.length := by omega
  refine ⟨jn, L[jn], rfl, h1, h.2.2 jn _ ?_, List.getElem_mem hl⟩
  rw [List.getElem?_map, List.getElem?_eq_getElem hl]
  rfl

open Go.ChangeShapes Go.WideShapes Go.ChangeAt Go.RowKit
set_option linter.unusedVariables false
set_option linter.unusedSimpArgs false

/-- A list of k rows of M int64s, in memory of its own. -/
def Lst (base : Nat) (T : TypeId) (M : Nat) (w : World) (v : Value) (k : Nat) (U : Nat → Int) : Prop := w.ownsRow base T M v k (vals U (k * M))
theorem Lst.same {w w' : World} {base : Nat} {T : TypeId} {M : Nat} {v : Value} {k : Nat} {U : Nat → Int} (h : Lst base T M w v k U) (hs : ∀ g, v.ownBlock = some g → w'.heap[g]? = w.heap[g]?) : Lst base T M w' v k U := by
  refine ⟨h.1, ?_⟩
  rcases h.2 with q | ⟨g, cap, cur, e1, hb, hg, r⟩
  · exact .inl q
  · exact .inr ⟨g, cap, cur, e1, hb, (hs g (by rw [e1]; rfl)).trans hg, r⟩
theorem Lst.beside {w w' : World} {base r : Nat} {T : TypeId} {M : Nat} {v : Value} {k : Nat} {U : Nat → Int} (h : Lst base T M w v k U) (hb : Beside r w w') (hr : r < base) : Lst base T M w' v k U := h.same fun g hg => hb.2.2.2.2 g (h.lt g hg).2 (by have := (h.lt g hg).1; omega)
theorem Lst.below {w w' : World} {base : Nat} {T : TypeId} {M : Nat} {v : Value} {k : Nat} {U : Nat → Int} (h : Lst base T M w v k U) (hb : Below w.heap.size w w') : Lst base T M w' v k U := h.same fun g hg => hb.block g (h.lt g hg).2
theorem Lst.grownL {w w' : World} {base B : Nat} {T : TypeId} {M : Nat} {v : Value} {k : Nat} {U : Nat → Int} (h : Lst base T M w v k U) (hb : Below B w w') (hl : ∀ g, v.ownBlock = some g → g < B) : Lst base T M w' v k U := h.same fun g hg => hb.block g (hl g hg)
theorem Lst.lit (w : World) (base : Nat) (T t : TypeId) (M : Nat) (U : Nat → Int) (hb : base ≤ w.heap.size) : Lst base T M (w.alloc (.cells #[] T)) (.slice (some ⟨w.heap.size, 0, none⟩) 0 0) 0 U := by
  show World.ownsRow _ _ _ _ _ _ _
  simpa [vals] using World.ownsRow_lit (base := base) (size := M) (e := T) w #[] 0 hb (by simp [maxLen]) (by simp)
theorem Lst.own {w : World} {base : Nat} {T : TypeId} {M : Nat} {v : Value} {k : Nat} {U : Nat → Int} (h : Lst base T M w v k U) : ∃ t cap, v = .slice t k cap ∧ OwnI base w t (k * M) U := own_OwnI (size := M) (U := U) h
theorem Lst.form {w : World} {base : Nat} {T : TypeId} {M : Nat} {v : Value} {k : Nat} {U : Nat → Int} (h : Lst base T M w v k U) : ∃ t cap, v = .slice t k cap := by
  obtain ⟨t, cap, e, -⟩ := h.own
  exact ⟨t, cap, e⟩
theorem Lst.cap {w : World} {base : Nat} {T : TypeId} {M : Nat} {t : Option Addr} {k cap : Nat} {U : Nat → Int} (h : Lst base T M w (.slice t k cap) k U) : k ≤ cap := by
  rcases h.2 with ⟨e1, e2⟩ | ⟨g, cap', cur, e1, _, _, hc, _⟩
  · cases e1; omega
  · cases e1; exact hc
/-- The numbers with one row more. -/
def putL (U : Nat → Int) (M k : Nat) (xs : List Int) (j : Nat) : Int := if k * M ≤ j then (xs[j - k * M]?).getD 0 else U j
theorem vals_putL (U : Nat → Int) (M k : Nat) (xs : List Int) (hM : xs.length = M) : vals (putL U M k xs) ((k + 1) * M) = vals U (k * M) ++ xs.map (Value.int .i64) := by
  have key : ∀ m, m ≤ xs.length → vals (putL U M k xs) (k * M + m) = vals U (k * M) ++ (xs.take m).map (Value.int .i64) := by
    intro m
    induction m with
    | zero =>
      intro _
      simp only [List.take_zero, List.map_nil, List.append_nil, Nat.add_zero]
      unfold vals
      refine List.map_congr_left fun j hj => ?_
      have : j < k * M := by simpa using hj
      unfold putL
      rw [if_neg (by omega)]
    | succ m ih =>
      intro hm
      rw [← Nat.add_assoc, vals_succ, ih (by omega), List.append_assoc]
      congr 1
      have e : putL U M k xs (k * M + m) = xs[m] := by
        unfold putL
        rw [if_pos (by omega), show k * M + m - k * M = m by omega, List.getElem?_eq_getElem (by omega)]
        rfl
      rw [e, List.take_add_one, List.getElem?_eq_getElem (by omega), List.map_append]
      rfl
  have := key M (by omega)
  rw [Nat.succ_mul, this, ← hM, List.take_length]
theorem Lst.on {w w' : World} {base : Nat} {T : TypeId} {M : Nat} {v v' : Value} {k : Nat} {U : Nat → Int} {xs : List Int} (h : Lst base T M w v k U) (hM : xs.length = M) (hown : w'.ownsRow base T M v' (k + 1) (vals U (k * M) ++ xs.map (Value.int .i64))) : Lst base T M w' v' (k + 1) (putL U M k xs) := by
  show World.ownsRow _ _ _ _ _ _ _
  rw [vals_putL U M k xs hM]
  exact hown
def lenL : Value → Nat
  | .slice _ n _ => n
  | _ => 0

open Go.ChangeShapes Go.WideShapes Go.ChangeAt Go.RowKit
set_option linter.unusedVariables false
set_option linter.unusedSimpArgs false

theorem info_i64L : (Try.prog.info? 2).map (fun i => (i.zero, i.size, i.bytes)) = some (some (.int .i64 0), 1, 8) := by kernel_rfl
theorem list_i64L {ops : Array Oper} {rest : List Oper} {o : Oper} {a : Act} {Q : Exit → Act → World → Prop} {W : World} {t : TypeId} {x0 : Int} (base : Nat) (v : Value) (k : Nat) (U : Nat → Int) (s z : Operand) (hgd : o.guard = none)
    (ho : o.op = .call { callee := .builtin .append, args := #[s, z], argTypes := #[30, 30] }) (hs : a.eval s = v) (hx : a.eval z = .slice (some ⟨W.heap.size, 0, none⟩) 1 1) (hown : Lst base 2 1 W v k U) (hk : k ≤ 1000000) (hb : base ≤ W.heap.size)
    (h : ∀ g cap w', Lst base 2 1 w' (.slice (some ⟨g, 0, none⟩) (k + 1) cap) (k + 1) (putL U 1 k [x0]) → Below base W w' → wpList Try.prog ops Q rest (a.put o.dst (.slice (some ⟨g, 0, none⟩) (k + 1) cap)) w') :
    wpList Try.prog ops Q (o :: rest) a (W.alloc (.cells #[.int .i64 x0] t)) := by
  obtain ⟨i0, hi, hz0, hz1, hz2⟩ := info_parts info_i64L
  refine wpList_append_lies _ hgd s z 30 ho base 2 i0 (.int .i64 0) 1 8 Try.underlying30 hi hz0 hz1 hz2 rfl (by decide) v k _ hs (hown.alloc _) ⟨W.heap.size, 0, none⟩ 1 1 [.int .i64 x0] hx rfl (newsOne _ _ _) ?_ (by decide) (by unfold maxLen; omega) (by omega) (by simp; omega) _ rfl ?_
  · intro u hu
    simp at hu
    subst hu; rfl
  · intro g cap w' h1 h2 _ h3
    exact h g cap w' (hown.on (xs := [x0]) rfl h1) (grown_below (grown_new h2) hb (own_block hown))

end Go.Proofs.Ytpaiajeigdifcaa
