/-
What is proved: how many jobs are under way, and whether one may begin, as both packages say it.
-/
import Derived.Test.YtffjhbgnhnnfiaaDoorSc
import Derived.Deep.RegionHeld3
import Derived.Deep.DeepCutAuto
import Derived.BigQuiet
namespace Go.Proofs.YtffjhbgnhnnfiaaDoor
set_option maxRecDepth 40000
open Go.ChangeShapes Go.WideShapes Go.ChangeAt Go.RowKit
set_option linter.unusedVariables false
set_option linter.unusedSimpArgs false

theorem within_bel (n lo hi : Int) (b : Bool) (w : World) (h : inB lo hi n = b) : Calls Tryd.prog 34 #[.int .i64 n, .int .i64 lo, .int .i64 hi] w fun e w' => e = .returned (.bool b) ∧ Below w.heap.size w w' := by
  refine (within_is n lo hi w).mono ?_
  rintro e w' ⟨rfl, rfl⟩
  exact ⟨by rw [h], Below.refl _ _⟩
theorem keep3U {W W' : World} {p g x : Nat} {a b c : Value} (h0 : W.cell? ⟨p, 0, none⟩ = some a) (h1 : W.cell? ⟨p, 1, none⟩ = some b) (h2 : W.cell? ⟨g, x, none⟩ = some c) (zp : p < W.heap.size) (zg : g < W.heap.size) (hb : Below W.heap.size W W') : W'.cell? ⟨p, 0, none⟩ = some a ∧ W'.cell? ⟨p, 1, none⟩ = some b ∧ W'.cell? ⟨g, x, none⟩ = some c := ⟨(hb.cell (p := ⟨p, 0, none⟩) zp).trans h0, (hb.cell (p := ⟨p, 1, none⟩) zp).trans h1, (hb.cell (p := ⟨g, x, none⟩) zg).trans h2⟩
set_option maxRecDepth 20000 in
set_option maxHeartbeats 8000000 in
theorem underWay_any (s t : Option Addr) (n c d : Nat) (X : Nat → Int) (K : Nat → Nat) (V : Nat → Nat → Int) (B : Nat → Int) (now : Int) (w : World) (hn : (n : Int) ≤ 40) (HR : Hid (RowJbs w s n X K V)) (HT : Hid (RowI w t n B)) (HG : Hid (∀ j, j < n → (1 ≤ X j ∧ X j ≤ 1000) ∧ 0 ≤ B j ∧ B j ≤ 1000000000)) :
    Calls Tryd.prog 59 #[.agg #[.slice s n c, .slice t n d], .int .i64 now] w fun e w' => e = .returned (.int .i64 (busI X B now n)) ∧ Below w.heap.size w w' := by
  have HC : Hid (∀ (q : Nat) w1, q < n → Below w.heap.size w w1 → Calls Tryd.prog 56 #[.agg #[.slice s n c, .slice t n d], .int .i64 q] w1 fun e w' => e = .returned (.int .i64 (B q + X q)) ∧ Below w1.heap.size w1 w') := fun q w1 hq hb => endOf_any s t n c d X K V B q w1 hq hn (HR.out.below hb) (HT.out.below hb) HG
  have HI : Hid (∀ k : Nat, 0 ≤ busI X B now k ∧ busI X B now k ≤ k) := fun k => ⟨(bus_in k).2.2.1, (bus_in k).2.2.2⟩
  clear HR
  go_enter Tryd.func59, Tryd.ntmps59
  go_upto_region 2 with fail
  obtain ⟨wa, hwa⟩ : ∃ wa, wa = w.alloc (.cells #[.slice s n c, .slice t n d] 57) := ⟨_, rfl⟩
  rw [← hwa]
  have hb : Below w.heap.size w wa := by rw [hwa]; exact below0 _ _
  have a0 : wa.cell? ⟨w.heap.size, 0, none⟩ = some (.slice s n c) := by rw [hwa]; simp [go_sem]
  have a1 : wa.cell? ⟨w.heap.size, 1, none⟩ = some (.slice t n d) := by rw [hwa]; simp [go_sem]
  have za : w.heap.size < wa.heap.size := by rw [hwa]; simp
  have HB : Hid (Below w.heap.size w wa) := hb
  have Ha0 : Hid (wa.cell? ⟨w.heap.size, 0, none⟩ = some (.slice s n c)) := a0
  have Ha1 : Hid (wa.cell? ⟨w.heap.size, 1, none⟩ = some (.slice t n d)) := a1
  clear hwa hb
  go_wp2_with fail
  clear a0 a1
  go_loopw [5, 10] (fun v i wr => ∃ j : Nat, j ≤ n ∧ i = .int .i64 j ∧ v = .int .i64 (busI X B now j) ∧ Below wa.heap.size wa wr) (fun _ i _ => n - (intOf i).toNat)
  case atStart => exact ⟨0, Nat.zero_le _, rfl, rfl, Below.refl _ _⟩
  case round =>
    obtain ⟨j, hj, rfl, rfl, hB⟩ := hrel
    have sb := HI.out j
    by_cases h1 : j < n
    · have a0 := (hB.cell (p := ⟨w.heap.size, 0, none⟩) za).trans Ha0.out
      have a1 := (hB.cell (p := ⟨w.heap.size, 1, none⟩) za).trans Ha1.out
      have B1 : Below w.heap.size w wr := HB.out.trans (hB.mono HB.out.size)
      obtain ⟨h, i, rfl, zh, d0⟩ := HT.out j h1
      replace d0 := (B1.cell (p := ⟨h, i + j, none⟩) zh).trans d0
      replace zh := Nat.lt_of_lt_of_le zh B1.size
      have q := HG.out j h1
      have HS3 : Hid (busI X B now (j + 1) = busI X B now j + if inB (B j) (B j + X j - 1) now = true then 1 else 0) := rfl
      have HC2 : Hid (∀ w1, Below w.heap.size w w1 → Calls Tryd.prog 56 #[.agg #[.slice s n c, .slice (some ⟨h, i, none⟩) n d], .int .i64 j] w1 fun e w' => e = .returned (.int .i64 (B j + X j)) ∧ Below w1.heap.size w1 w') := fun w1 hb => HC.out j w1 h1 hb
      obtain ⟨S, hS⟩ : ∃ S, busI X B now j = S := ⟨_, rfl⟩
      obtain ⟨y, hy⟩ : ∃ y, B j = y := ⟨_, rfl⟩
      obtain ⟨x, hx⟩ : ∃ x, X j = x := ⟨_, rfl⟩
      rw [hS] at HS3 sb ⊢
      rw [hy] at HS3 d0 q HC2
      rw [hx] at HS3 q HC2
      have j1 : (j : Int) < (n : Int) := by omega
      have za2 : w.heap.size < wr.heap.size := Nat.lt_of_lt_of_le za hB.size
      have HBr : Hid (Below w.heap.size w wr) := B1
      have HBa : Hid (Below wa.heap.size wa wr) := hB
      clear hS hy hx HC B1 hB
      cases e0 : inB y (y + x - 1) now
      · have HN : Hid (busI X B now (j + 1) = S) := by show _ = _; rw [HS3.out, e0]; simp
        go_upto_region 5 with fail
        refine wp_region_held_drew (S := fun w' => w'.cell? ⟨w.heap.size, 0, none⟩ = some (.slice s n c) ∧ w'.cell? ⟨w.heap.size, 1, none⟩ = some (.slice (some ⟨h, i, none⟩) n d) ∧ w'.cell? ⟨h, i + j, none⟩ = some (.int .i64 y)) (by kernel_rfl) ?_ (fun hHeld => ?_)
        · exact keep3U a0 a1 d0 za2 zh (by repeat (first | with_reducible exact Below.refl _ _ | with_reducible refine Below.setCell ?_ (by first | omega | (simp; done) | (simp; omega)) _ | with_reducible refine bDrewN ?_ _ | with_reducible refine Below.drew ?_ | with_reducible refine Below.alloc ?_ (by first | omega | (simp; done) | (simp; omega)) _))
        refine wpAnyH_take (i := 0) (v := .int .i64 now) rfl (by kernel_rfl) (by kernel_rfl) (by kernel_rfl) (fun _ _ _ h => h) (Or.inl ⟨by kernel_rfl, ?_⟩) hHeld ?_
        · intro w' hSw
          obtain ⟨s0, s1, s2⟩ := hSw
          first | (go_simp; done) | (go_simp; with_reducible rfl) | (go_simp; rw [IntKind.wrap_i64]; omega) | (go_simp; omega)
        simp only [Act.put, List.setIfInBounds_toArray, List.set_cons_zero, List.set_cons_succ]
        refine wpAnyH_take (i := 1) (v := .pointer (some ⟨w.heap.size, 1, none⟩)) rfl (by kernel_rfl) (by kernel_rfl) (by kernel_rfl) (fun _ _ _ h => h) (Or.inl ⟨by kernel_rfl, ?_⟩) hHeld ?_
        · intro w' hSw
          obtain ⟨s0, s1, s2⟩ := hSw
          first | (go_simp; done) | (go_simp; with_reducible rfl) | (go_simp; rw [IntKind.wrap_i64]; omega) | (go_simp; omega)
        simp only [Act.put, List.setIfInBounds_toArray, List.set_cons_zero, List.set_cons_succ]
        refine wpAnyH_take (i := 2) (v := .slice (some ⟨h, i, none⟩) n d) rfl (by kernel_rfl) (by kernel_rfl) (by kernel_rfl) (fun _ _ _ h => h) (Or.inl ⟨by kernel_rfl, ?_⟩) hHeld ?_
        · intro w' hSw
          obtain ⟨s0, s1, s2⟩ := hSw
          first | (go_simp; done) | (go_simp; with_reducible rfl) | (go_simp; rw [IntKind.wrap_i64]; omega) | (go_simp; omega)
        simp only [Act.put, List.setIfInBounds_toArray, List.set_cons_zero, List.set_cons_succ]
        refine wpAnyH_take (i := 3) (v := .int .i64 (j : Int)) rfl (by kernel_rfl) (by kernel_rfl) (by kernel_rfl) (fun _ _ _ h => h) (Or.inl ⟨by kernel_rfl, ?_⟩) hHeld ?_
        · intro w' hSw
          obtain ⟨s0, s1, s2⟩ := hSw
          first | (go_simp; done) | (go_simp; with_reducible rfl) | (go_simp; rw [IntKind.wrap_i64]; omega) | (go_simp; omega)
        simp only [Act.put, List.setIfInBounds_toArray, List.set_cons_zero, List.set_cons_succ]
        refine wpAnyH_take (i := 4) (v := .pointer (some ⟨h, i + j, none⟩)) rfl (by kernel_rfl) (by kernel_rfl) (by kernel_rfl) (fun _ _ _ h => h) (Or.inl ⟨by kernel_rfl, ?_⟩) hHeld ?_
        · intro w' hSw
          obtain ⟨s0, s1, s2⟩ := hSw
          first | (go_simp; done) | (go_simp; with_reducible rfl) | (go_simp; rw [IntKind.wrap_i64]; omega) | (go_simp; omega)
        simp only [Act.put, List.setIfInBounds_toArray, List.set_cons_zero, List.set_cons_succ]
        refine wpAnyH_take (i := 5) (v := .int .i64 y) rfl (by kernel_rfl) (by kernel_rfl) (by kernel_rfl) (fun _ _ _ h => h) (Or.inl ⟨by kernel_rfl, ?_⟩) hHeld ?_
        · intro w' hSw
          obtain ⟨s0, s1, s2⟩ := hSw
          first | (go_simp; done) | (go_simp; with_reducible rfl) | (go_simp; rw [IntKind.wrap_i64]; omega) | (go_simp; omega)
        simp only [Act.put, List.setIfInBounds_toArray, List.set_cons_zero, List.set_cons_succ]
        refine wpAnyH_take (i := 6) (v := .agg #[.slice s n c, .slice (some ⟨h, i, none⟩) n d]) rfl (by kernel_rfl) (by kernel_rfl) (by kernel_rfl) (fun _ _ _ h => h) (Or.inl ⟨by kernel_rfl, ?_⟩) hHeld ?_
        · intro w' hSw
          obtain ⟨s0, s1, s2⟩ := hSw
          first | (go_simp; done) | (go_simp; with_reducible rfl) | (go_simp; rw [IntKind.wrap_i64]; omega) | (go_simp; omega)
        simp only [Act.put, List.setIfInBounds_toArray, List.set_cons_zero, List.set_cons_succ]
        refine wpAnyH_take (i := 7) (v := .int .i64 (j : Int)) rfl (by kernel_rfl) (by kernel_rfl) (by kernel_rfl) (fun _ _ _ h => h) (Or.inl ⟨by kernel_rfl, ?_⟩) hHeld ?_
        · intro w' hSw
          obtain ⟨s0, s1, s2⟩ := hSw
          first | (go_simp; done) | (go_simp; with_reducible rfl) | (go_simp; rw [IntKind.wrap_i64]; omega) | (go_simp; omega)
        simp only [Act.put, List.setIfInBounds_toArray, List.set_cons_zero, List.set_cons_succ]
        refine wpAnyH_ready (rs := [8]) (by kernel_rfl) (by simp) ?_
        refine AllReadyH.cons rfl (fun KK hK => ?_) AllReadyH.nil
        go_simp
        go_wp2_with (first | (go_at_call 56; refine (HC2.out _ (HBr.out.trans (Below.mono (by repeat (first | with_reducible exact Below.refl _ _ | with_reducible refine Below.setCell ?_ (by first | omega | (simp; done) | (simp; omega)) _ | with_reducible refine bDrewN ?_ _ | with_reducible refine Below.drew ?_ | with_reducible refine Below.alloc ?_ (by first | omega | (simp; done) | (simp; omega)) _)) HBr.out.size))).mono ?_; rintro e wz ⟨rfl, h8⟩; have B8 : Below wr.heap.size wr wz := Below.trans (by repeat (first | with_reducible exact Below.refl _ _ | with_reducible refine Below.setCell ?_ (by first | omega | (simp; done) | (simp; omega)) _ | with_reducible refine bDrewN ?_ _ | with_reducible refine Below.drew ?_ | with_reducible refine Below.alloc ?_ (by first | omega | (simp; done) | (simp; omega)) _)) (h8.mono (by first | omega | (simp; done) | (simp; omega))); have s8 := B8.size; clear h8))
        refine hK.out _ _ (keep3U a0 a1 d0 za2 zh B8) (fun hHeld => ?_)
        clear hK KK
        refine wpAnyH_take (i := 9) (v := .int .i64 (y + x - 1)) rfl (by kernel_rfl) (by kernel_rfl) (by kernel_rfl) (fun _ _ _ h => h) (Or.inl ⟨by kernel_rfl, ?_⟩) hHeld ?_
        · intro w' hSw
          obtain ⟨s0, s1, s2⟩ := hSw
          first | (go_simp; done) | (go_simp; with_reducible rfl) | (go_simp; rw [IntKind.wrap_i64]; omega) | (go_simp; omega)
        simp only [Act.put, List.setIfInBounds_toArray, List.set_cons_zero, List.set_cons_succ]
        refine wpAnyH_ready (rs := [10]) (by kernel_rfl) (by simp) ?_
        refine AllReadyH.cons rfl (fun KK hK => ?_) AllReadyH.nil
        go_simp
        go_wp2_with (first | (go_at_call 34; refine (within_bel now y (y + x - 1) false _ e0).mono ?_; rintro e wy ⟨rfl, h9⟩; have B9 : Below wr.heap.size wr wy := B8.trans (h9.mono s8); clear h9))
        refine hK.out _ _ (keep3U a0 a1 d0 za2 zh B9) (fun hHeld => ?_)
        clear hK KK
        refine wpAnyH_done (by kernel_rfl) ?_ _
        clear hHeld
        have BZ : Below wa.heap.size wa wy := HBa.out.trans (B9.mono HBa.out.size)
        go_wp2
        go_roundw
        case rel => exact ⟨j + 1, by omega, by go_num, by rw [HN.out], (by repeat (first | with_reducible exact Below.refl _ _ | with_reducible exact BZ | with_reducible refine Below.setCell ?_ (by first | omega | (simp; done) | (simp; omega)) _ | with_reducible refine bDrewN ?_ _ | with_reducible refine Below.drew ?_ | with_reducible refine Below.alloc ?_ (by first | omega | (simp; done) | (simp; omega)) _))⟩
        case measure => first | (simp [intOf]; done) | (simp [intOf]; omega)
      · have HN : Hid (busI X B now (j + 1) = S + 1) := by show _ = _; rw [HS3.out, e0]; simp
        go_upto_region 5 with fail
        refine wp_region_held_drew (S := fun w' => w'.cell? ⟨w.heap.size, 0, none⟩ = some (.slice s n c) ∧ w'.cell? ⟨w.heap.size, 1, none⟩ = some (.slice (some ⟨h, i, none⟩) n d) ∧ w'.cell? ⟨h, i + j, none⟩ = some (.int .i64 y)) (by kernel_rfl) ?_ (fun hHeld => ?_)
        · exact keep3U a0 a1 d0 za2 zh (by repeat (first | with_reducible exact Below.refl _ _ | with_reducible refine Below.setCell ?_ (by first | omega | (simp; done) | (simp; omega)) _ | with_reducible refine bDrewN ?_ _ | with_reducible refine Below.drew ?_ | with_reducible refine Below.alloc ?_ (by first | omega | (simp; done) | (simp; omega)) _))
        refine wpAnyH_take (i := 0) (v := .int .i64 now) rfl (by kernel_rfl) (by kernel_rfl) (by kernel_rfl) (fun _ _ _ h => h) (Or.inl ⟨by kernel_rfl, ?_⟩) hHeld ?_
        · intro w' hSw
          obtain ⟨s0, s1, s2⟩ := hSw
          first | (go_simp; done) | (go_simp; with_reducible rfl) | (go_simp; rw [IntKind.wrap_i64]; omega) | (go_simp; omega)
        simp only [Act.put, List.setIfInBounds_toArray, List.set_cons_zero, List.set_cons_succ]
        refine wpAnyH_take (i := 1) (v := .pointer (some ⟨w.heap.size, 1, none⟩)) rfl (by kernel_rfl) (by kernel_rfl) (by kernel_rfl) (fun _ _ _ h => h) (Or.inl ⟨by kernel_rfl, ?_⟩) hHeld ?_
        · intro w' hSw
          obtain ⟨s0, s1, s2⟩ := hSw
          first | (go_simp; done) | (go_simp; with_reducible rfl) | (go_simp; rw [IntKind.wrap_i64]; omega) | (go_simp; omega)
        simp only [Act.put, List.setIfInBounds_toArray, List.set_cons_zero, List.set_cons_succ]
        refine wpAnyH_take (i := 2) (v := .slice (some ⟨h, i, none⟩) n d) rfl (by kernel_rfl) (by kernel_rfl) (by kernel_rfl) (fun _ _ _ h => h) (Or.inl ⟨by kernel_rfl, ?_⟩) hHeld ?_
        · intro w' hSw
          obtain ⟨s0, s1, s2⟩ := hSw
          first | (go_simp; done) | (go_simp; with_reducible rfl) | (go_simp; rw [IntKind.wrap_i64]; omega) | (go_simp; omega)
        simp only [Act.put, List.setIfInBounds_toArray, List.set_cons_zero, List.set_cons_succ]
        refine wpAnyH_take (i := 3) (v := .int .i64 (j : Int)) rfl (by kernel_rfl) (by kernel_rfl) (by kernel_rfl) (fun _ _ _ h => h) (Or.inl ⟨by kernel_rfl, ?_⟩) hHeld ?_
        · intro w' hSw
          obtain ⟨s0, s1, s2⟩ := hSw
          first | (go_simp; done) | (go_simp; with_reducible rfl) | (go_simp; rw [IntKind.wrap_i64]; omega) | (go_simp; omega)
        simp only [Act.put, List.setIfInBounds_toArray, List.set_cons_zero, List.set_cons_succ]
        refine wpAnyH_take (i := 4) (v := .pointer (some ⟨h, i + j, none⟩)) rfl (by kernel_rfl) (by kernel_rfl) (by kernel_rfl) (fun _ _ _ h => h) (Or.inl ⟨by kernel_rfl, ?_⟩) hHeld ?_
        · intro w' hSw
          obtain ⟨s0, s1, s2⟩ := hSw
          first | (go_simp; done) | (go_simp; with_reducible rfl) | (go_simp; rw [IntKind.wrap_i64]; omega) | (go_simp; omega)
        simp only [Act.put, List.setIfInBounds_toArray, List.set_cons_zero, List.set_cons_succ]
        refine wpAnyH_take (i := 5) (v := .int .i64 y) rfl (by kernel_rfl) (by kernel_rfl) (by kernel_rfl) (fun _ _ _ h => h) (Or.inl ⟨by kernel_rfl, ?_⟩) hHeld ?_
        · intro w' hSw
          obtain ⟨s0, s1, s2⟩ := hSw
          first | (go_simp; done) | (go_simp; with_reducible rfl) | (go_simp; rw [IntKind.wrap_i64]; omega) | (go_simp; omega)
        simp only [Act.put, List.setIfInBounds_toArray, List.set_cons_zero, List.set_cons_succ]
        refine wpAnyH_take (i := 6) (v := .agg #[.slice s n c, .slice (some ⟨h, i, none⟩) n d]) rfl (by kernel_rfl) (by kernel_rfl) (by kernel_rfl) (fun _ _ _ h => h) (Or.inl ⟨by kernel_rfl, ?_⟩) hHeld ?_
        · intro w' hSw
          obtain ⟨s0, s1, s2⟩ := hSw
          first | (go_simp; done) | (go_simp; with_reducible rfl) | (go_simp; rw [IntKind.wrap_i64]; omega) | (go_simp; omega)
        simp only [Act.put, List.setIfInBounds_toArray, List.set_cons_zero, List.set_cons_succ]
        refine wpAnyH_take (i := 7) (v := .int .i64 (j : Int)) rfl (by kernel_rfl) (by kernel_rfl) (by kernel_rfl) (fun _ _ _ h => h) (Or.inl ⟨by kernel_rfl, ?_⟩) hHeld ?_
        · intro w' hSw
          obtain ⟨s0, s1, s2⟩ := hSw
          first | (go_simp; done) | (go_simp; with_reducible rfl) | (go_simp; rw [IntKind.wrap_i64]; omega) | (go_simp; omega)
        simp only [Act.put, List.setIfInBounds_toArray, List.set_cons_zero, List.set_cons_succ]
        refine wpAnyH_ready (rs := [8]) (by kernel_rfl) (by simp) ?_
        refine AllReadyH.cons rfl (fun KK hK => ?_) AllReadyH.nil
        go_simp
        go_wp2_with (first | (go_at_call 56; refine (HC2.out _ (HBr.out.trans (Below.mono (by repeat (first | with_reducible exact Below.refl _ _ | with_reducible refine Below.setCell ?_ (by first | omega | (simp; done) | (simp; omega)) _ | with_reducible refine bDrewN ?_ _ | with_reducible refine Below.drew ?_ | with_reducible refine Below.alloc ?_ (by first | omega | (simp; done) | (simp; omega)) _)) HBr.out.size))).mono ?_; rintro e wz ⟨rfl, h8⟩; have B8 : Below wr.heap.size wr wz := Below.trans (by repeat (first | with_reducible exact Below.refl _ _ | with_reducible refine Below.setCell ?_ (by first | omega | (simp; done) | (simp; omega)) _ | with_reducible refine bDrewN ?_ _ | with_reducible refine Below.drew ?_ | with_reducible refine Below.alloc ?_ (by first | omega | (simp; done) | (simp; omega)) _)) (h8.mono (by first | omega | (simp; done) | (simp; omega))); have s8 := B8.size; clear h8))
        refine hK.out _ _ (keep3U a0 a1 d0 za2 zh B8) (fun hHeld => ?_)
        clear hK KK
        refine wpAnyH_take (i := 9) (v := .int .i64 (y + x - 1)) rfl (by kernel_rfl) (by kernel_rfl) (by kernel_rfl) (fun _ _ _ h => h) (Or.inl ⟨by kernel_rfl, ?_⟩) hHeld ?_
        · intro w' hSw
          obtain ⟨s0, s1, s2⟩ := hSw
          first | (go_simp; done) | (go_simp; with_reducible rfl) | (go_simp; rw [IntKind.wrap_i64]; omega) | (go_simp; omega)
        simp only [Act.put, List.setIfInBounds_toArray, List.set_cons_zero, List.set_cons_succ]
        refine wpAnyH_ready (rs := [10]) (by kernel_rfl) (by simp) ?_
        refine AllReadyH.cons rfl (fun KK hK => ?_) AllReadyH.nil
        go_simp
        go_wp2_with (first | (go_at_call 34; refine (within_bel now y (y + x - 1) true _ e0).mono ?_; rintro e wy ⟨rfl, h9⟩; have B9 : Below wr.heap.size wr wy := B8.trans (h9.mono s8); clear h9))
        refine hK.out _ _ (keep3U a0 a1 d0 za2 zh B9) (fun hHeld => ?_)
        clear hK KK
        refine wpAnyH_done (by kernel_rfl) ?_ _
        clear hHeld
        have BZ : Below wa.heap.size wa wy := HBa.out.trans (B9.mono HBa.out.size)
        go_wp2
        go_roundw
        case rel => exact ⟨j + 1, by omega, by go_num, by rw [HN.out], (by repeat (first | with_reducible exact Below.refl _ _ | with_reducible exact BZ | with_reducible refine Below.setCell ?_ (by first | omega | (simp; done) | (simp; omega)) _ | with_reducible refine bDrewN ?_ _ | with_reducible refine Below.drew ?_ | with_reducible refine Below.alloc ?_ (by first | omega | (simp; done) | (simp; omega)) _))⟩
        case measure => first | (simp [intOf]; done) | (simp [intOf]; omega)
    · obtain rfl : j = n := by omega
      have B1 : Below w.heap.size w wr := HB.out.trans (hB.mono HB.out.size)
      go_wp2
      go_ret
      exact ⟨rfl, B1⟩
set_option maxRecDepth 20000 in
set_option maxHeartbeats 8000000 in
theorem l25Free_any (s t : Option Addr) (n c d : Nat) (X : Nat → Int) (K : Nat → Nat) (V : Nat → Nat → Int) (B : Nat → Int) (p : Nat) (now : Int) (w : World) (hp : p < n) (hn : (n : Int) ≤ 40) (hK : (K p : Int) ≤ 1048576) (HV : Hid (∀ i, i < K p → (0 ≤ V p i ∧ V p i < (n : Int)) ∧ (1 ≤ X (V p i).toNat ∧ X (V p i).toNat ≤ 1000) ∧ -1 ≤ B (V p i).toNat ∧ B (V p i).toNat ≤ 1000000)) (HR : Hid (RowJbs w s n X K V)) (HT : Hid (RowI w t n B)) :
    Calls Tryd.prog 41 #[.slice s n c, .slice t n d, .int .i64 p, .int .i64 now] w fun e w' => e = .returned (.bool (freB X B (V p) (K p) now)) ∧ Below w.heap.size w w' := by
  obtain ⟨g, o, a, k, rfl, zg, c0, c1, hr⟩ := HR.out p hp
  have HNO : Hid (∀ j, j < K p → ¬ (0 ≤ B (V p j).toNat ∧ B (V p j).toNat + X (V p j).toNat ≤ now) → freB X B (V p) (K p) now = false) := fun j hj h => decide_eq_false (fun q => h (q j hj))
  have HYES : Hid ((∀ j, j < K p → 0 ≤ B (V p j).toNat ∧ B (V p j).toNat + X (V p j).toNat ≤ now) → freB X B (V p) (K p) now = true) := fun h => decide_eq_true h
  obtain ⟨F, hF⟩ : ∃ F, freB X B (V p) (K p) now = F := ⟨_, rfl⟩
  rw [hF] at HNO HYES ⊢
  obtain ⟨m, hm⟩ : ∃ m, K p = m := ⟨_, rfl⟩
  rw [hm] at c1 hr hK HV HNO HYES
  have HRI : Hid (RowI w a m (V p)) := hr
  have p1 : (p : Int) < (n : Int) := by omega
  have Hc1 : Hid (w.cell? ⟨g, o + p * 2 + 1, none⟩ = some (.slice a m k)) := c1
  clear hm hr hF c0
  go_enter Tryd.func41, Tryd.ntmps41
  go_wp2_with fail
  clear c1
  go_loopw [9] (fun i wr => ∃ j : Nat, j ≤ m ∧ i = .int .i64 j ∧ Hid (∀ q, q < j → 0 ≤ B (V p q).toNat ∧ B (V p q).toNat + X (V p q).toNat ≤ now) ∧ Below w.heap.size w wr) (fun i _ => m - (intOf i).toNat)
  case atStart => exact ⟨0, Nat.zero_le _, rfl, fun q hq => by omega, Below.refl _ _⟩
  case round =>
    obtain ⟨j, hj, rfl, HP, hB⟩ := hrel
    have c1 := (hB.cell (p := ⟨g, o + p * 2 + 1, none⟩) zg).trans Hc1.out
    by_cases h1 : j < m
    · obtain ⟨h, i, rfl, zh, d0⟩ := HRI.out j h1
      replace d0 := (hB.cell (p := ⟨h, i + j, none⟩) zh).trans d0
      have q := HV.out j h1
      have HN1 := HNO.out j h1
      have HP1 : Hid (0 ≤ B (V p j).toNat ∧ B (V p j).toNat + X (V p j).toNat ≤ now → ∀ q, q < j + 1 → 0 ≤ B (V p q).toNat ∧ B (V p q).toNat + X (V p q).toNat ≤ now) := fun z => ball_succJ HP.out z
      obtain ⟨v, hv⟩ : ∃ v : Nat, V p j = (v : Int) := ⟨(V p j).toNat, by omega⟩
      rw [hv] at d0 q HN1
      have HP2 : Hid (0 ≤ B v ∧ B v + X v ≤ now → ∀ q, q < j + 1 → 0 ≤ B (V p q).toNat ∧ B (V p q).toNat + X (V p q).toNat ≤ now) := fun z => HP1.out (by rw [hv]; simpa using z)
      have HN2 : Hid (¬ (0 ≤ B v ∧ B v + X v ≤ now) → F = false) := fun z => HN1 (by simpa using z)
      simp only [Int.toNat_natCast] at q
      have vn : v < n := by omega
      obtain ⟨g2, o2, a2, k2, e2, zg2, f0, f1, -⟩ := HR.out v vn
      cases e2
      obtain ⟨h2, i2, rfl, zh2, b0⟩ := HT.out v vn
      replace f0 := (hB.cell (p := ⟨g, o + v * 2, none⟩) zg).trans f0
      replace b0 := (hB.cell (p := ⟨h2, i2 + v, none⟩) zh2).trans b0
      obtain ⟨y, hy⟩ : ∃ y, B v = y := ⟨_, rfl⟩
      obtain ⟨x, hx⟩ : ∃ x, X v = x := ⟨_, rfl⟩
      rw [hy] at b0 q HP2 HN2
      rw [hx] at f0 q HP2 HN2
      have j1 : (j : Int) < (m : Int) := by omega
      have v1 : (v : Int) < (n : Int) := by omega
      have zg3 := Nat.lt_of_lt_of_le zg hB.size
      have zh3 := Nat.lt_of_lt_of_le zh2 hB.size
      clear hv hy hx HN1 HP1 f1 zg2
      by_cases t0 : y < 0
      · have HZ : Hid (F = false) := HN2.out (by omega)
        go_upto_region 5 with fail
        go_quiet (fail)
        go_wp2
        go_ret
        exact ⟨ret_bool HZ.out.symm, (by repeat (first | with_reducible exact Below.refl _ _ | with_reducible exact hB | with_reducible refine Below.setCell ?_ (by first | omega | (simp; done) | (simp; omega)) _ | with_reducible refine bDrewN ?_ _ | with_reducible refine Below.drew ?_ | with_reducible refine Below.alloc ?_ (by first | omega | (simp; done) | (simp; omega)) _))⟩
      by_cases t1 : now < y + x
      · have HZ : Hid (F = false) := HN2.out (by omega)
        go_upto_region 5 with fail
        go_quiet (fail)
        go_wp2
        go_ret
        exact ⟨ret_bool HZ.out.symm, (by repeat (first | with_reducible exact Below.refl _ _ | with_reducible exact hB | with_reducible refine Below.setCell ?_ (by first | omega | (simp; done) | (simp; omega)) _ | with_reducible refine bDrewN ?_ _ | with_reducible refine Below.drew ?_ | with_reducible refine Below.alloc ?_ (by first | omega | (simp; done) | (simp; omega)) _))⟩
      have HZ : Hid (∀ q, q < j + 1 → 0 ≤ B (V p q).toNat ∧ B (V p q).toNat + X (V p q).toNat ≤ now) := HP2.out (by omega)
      go_upto_region 5 with fail
      go_quiet (fail)
      go_wp2
      go_roundw
      case rel => exact ⟨j + 1, by omega, by go_num, HZ, (by repeat (first | with_reducible exact Below.refl _ _ | with_reducible exact hB | with_reducible refine Below.setCell ?_ (by first | omega | (simp; done) | (simp; omega)) _ | with_reducible refine bDrewN ?_ _ | with_reducible refine Below.drew ?_ | with_reducible refine Below.alloc ?_ (by first | omega | (simp; done) | (simp; omega)) _))⟩
      case measure => first | (simp [intOf]; done) | (simp [intOf]; omega)
    · obtain rfl : j = m := by omega
      have HZ : Hid (F = true) := HYES.out HP.out
      go_wp2
      go_ret
      exact ⟨ret_bool HZ.out.symm, hB⟩
set_option maxRecDepth 20000 in
set_option maxHeartbeats 8000000 in
theorem l25Busy_any (s t : Option Addr) (n c d : Nat) (X : Nat → Int) (K : Nat → Nat) (V : Nat → Nat → Int) (B : Nat → Int) (now : Int) (w : World) (hn : (n : Int) ≤ 40) (HG : Hid (∀ j, j < n → (1 ≤ X j ∧ X j ≤ 1000) ∧ -1 ≤ B j ∧ B j ≤ 1000000)) (HR : Hid (RowJbs w s n X K V)) (HT : Hid (RowI w t n B)) :
    Calls Tryd.prog 40 #[.slice s n c, .slice t n d, .int .i64 now] w fun e w' => e = .returned (.int .i64 (busS X B now n)) ∧ Below w.heap.size w w' := by
  have HI : Hid (∀ k : Nat, 0 ≤ busS X B now k ∧ busS X B now k ≤ k) := fun k => ⟨(bus_in k).1, (bus_in k).2.1⟩
  go_enter Tryd.func40, Tryd.ntmps40
  go_wp2_with fail
  go_loopw [7, 8] (fun v i wr => ∃ j : Nat, j ≤ n ∧ i = .int .i64 j ∧ v = .int .i64 (busS X B now j) ∧ Below w.heap.size w wr) (fun _ i _ => n - (intOf i).toNat)
  case atStart => exact ⟨0, Nat.zero_le _, rfl, rfl, Below.refl _ _⟩
  case round =>
    obtain ⟨j, hj, rfl, rfl, hB⟩ := hrel
    have sb := HI.out j
    by_cases h1 : j < n
    · obtain ⟨g, o, a, k, rfl, zg, c0, c1, -⟩ := HR.out j h1
      obtain ⟨h, i, rfl, zh, d0⟩ := HT.out j h1
      replace c0 := (hB.cell (p := ⟨g, o + j * 2, none⟩) zg).trans c0
      replace d0 := (hB.cell (p := ⟨h, i + j, none⟩) zh).trans d0
      have q := HG.out j h1
      have HS3 : Hid (busS X B now (j + 1) = busS X B now j + if 0 ≤ B j ∧ B j ≤ now ∧ now < B j + X j then 1 else 0) := rfl
      obtain ⟨S, hS⟩ : ∃ S, busS X B now j = S := ⟨_, rfl⟩
      obtain ⟨y, hy⟩ : ∃ y, B j = y := ⟨_, rfl⟩
      obtain ⟨x, hx⟩ : ∃ x, X j = x := ⟨_, rfl⟩
      rw [hS] at HS3 sb ⊢
      rw [hy] at HS3 d0 q
      rw [hx] at HS3 c0 q
      have j1 : (j : Int) < (n : Int) := by omega
      have zg3 := Nat.lt_of_lt_of_le zg hB.size
      have zh3 := Nat.lt_of_lt_of_le zh hB.size
      clear hS hy hx c1
      by_cases t0 : 0 ≤ y
      · by_cases t1 : y ≤ now
        · by_cases t2 : now < y + x
          · have HN : Hid (busS X B now (j + 1) = S + 1) := by show _ = _; rw [HS3.out, if_pos ⟨t0, t1, t2⟩]; try simp
            clear HS3
            go_upto_region 5 with fail
            go_quiet (fail)
            go_wp2
            go_roundw
            case rel => exact ⟨j + 1, by omega, by go_num, by rw [HN.out], (by repeat (first | with_reducible exact Below.refl _ _ | with_reducible exact hB | with_reducible refine Below.setCell ?_ (by first | omega | (simp; done) | (simp; omega)) _ | with_reducible refine bDrewN ?_ _ | with_reducible refine Below.drew ?_ | with_reducible refine Below.alloc ?_ (by first | omega | (simp; done) | (simp; omega)) _))⟩
            case measure => first | (simp [intOf]; done) | (simp [intOf]; omega)
          · have HN : Hid (busS X B now (j + 1) = S) := by show _ = _; rw [HS3.out, if_neg (by omega)]; try simp
            clear HS3
            go_upto_region 5 with fail
            go_quiet (fail)
            go_wp2
            go_roundw
            case rel => exact ⟨j + 1, by omega, by go_num, by rw [HN.out], (by repeat (first | with_reducible exact Below.refl _ _ | with_reducible exact hB | with_reducible refine Below.setCell ?_ (by first | omega | (simp; done) | (simp; omega)) _ | with_reducible refine bDrewN ?_ _ | with_reducible refine Below.drew ?_ | with_reducible refine Below.alloc ?_ (by first | omega | (simp; done) | (simp; omega)) _))⟩
            case measure => first | (simp [intOf]; done) | (simp [intOf]; omega)
        · have HN : Hid (busS X B now (j + 1) = S) := by show _ = _; rw [HS3.out, if_neg (by omega)]; try simp
          clear HS3
          go_upto_region 5 with fail
          go_quiet (fail)
          go_wp2
          go_roundw
          case rel => exact ⟨j + 1, by omega, by go_num, by rw [HN.out], (by repeat (first | with_reducible exact Below.refl _ _ | with_reducible exact hB | with_reducible refine Below.setCell ?_ (by first | omega | (simp; done) | (simp; omega)) _ | with_reducible refine bDrewN ?_ _ | with_reducible refine Below.drew ?_ | with_reducible refine Below.alloc ?_ (by first | omega | (simp; done) | (simp; omega)) _))⟩
          case measure => first | (simp [intOf]; done) | (simp [intOf]; omega)
      · have HN : Hid (busS X B now (j + 1) = S) := by show _ = _; rw [HS3.out, if_neg (by omega)]; try simp
        clear HS3
        go_upto_region 5 with fail
        go_quiet (fail)
        go_wp2
        go_roundw
        case rel => exact ⟨j + 1, by omega, by go_num, by rw [HN.out], (by repeat (first | with_reducible exact Below.refl _ _ | with_reducible exact hB | with_reducible refine Below.setCell ?_ (by first | omega | (simp; done) | (simp; omega)) _ | with_reducible refine bDrewN ?_ _ | with_reducible refine Below.drew ?_ | with_reducible refine Below.alloc ?_ (by first | omega | (simp; done) | (simp; omega)) _))⟩
        case measure => first | (simp [intOf]; done) | (simp [intOf]; omega)
    · obtain rfl : j = n := by omega
      go_wp2
      go_ret
      exact ⟨rfl, hB⟩
end Go.Proofs.YtffjhbgnhnnfiaaDoor
