/-
What is proved: what impl's roster says of when jobs begin: the end of one, when one may begin, the last end.
-/
import Derived.Test.YtffjhbgnhnnfiaaDoorJo
import Derived.Deep.RegionHeld3
import Derived.Deep.DeepCutAuto
import Derived.BigQuiet
namespace Go.Proofs.YtffjhbgnhnnfiaaDoor
set_option maxRecDepth 40000
open Go.ChangeShapes Go.WideShapes Go.ChangeAt Go.RowKit
set_option linter.unusedVariables false
set_option linter.unusedSimpArgs false

set_option maxRecDepth 20000 in
set_option maxHeartbeats 4000000 in
theorem endOf_any (s t : Option Addr) (n c d : Nat) (X : Nat → Int) (K : Nat → Nat) (V : Nat → Nat → Int) (B : Nat → Int) (p : Nat) (w : World) (hp : p < n) (hn : (n : Int) ≤ 40) (HR : Hid (RowJbs w s n X K V)) (HT : Hid (RowI w t n B)) (HG : Hid (∀ j, j < n → (1 ≤ X j ∧ X j ≤ 1000) ∧ 0 ≤ B j ∧ B j ≤ 1000000000)) :
    Calls Tryd.prog 56 #[.agg #[.slice s n c, .slice t n d], .int .i64 p] w fun e w' => e = .returned (.int .i64 (B p + X p)) ∧ Below w.heap.size w w' := by
  obtain ⟨g, o, a, k, rfl, zg, c0, c1, -⟩ := HR.out p hp
  obtain ⟨h, i, rfl, zh, d0⟩ := HT.out p hp
  have q := HG.out p hp
  obtain ⟨x, hx⟩ : ∃ x, X p = x := ⟨_, rfl⟩
  obtain ⟨y, hy⟩ : ∃ y, B p = y := ⟨_, rfl⟩
  rw [hx] at c0 q ⊢
  rw [hy] at d0 q ⊢
  have p1 : (p : Int) < (n : Int) := by omega
  clear HR HT HG hx hy c1
  go_enter Tryd.func56, Tryd.ntmps56
  go_upto_region 1 with fail
  obtain ⟨wa, hwa⟩ : ∃ wa, wa = w.alloc (.cells #[.slice (some ⟨g, o, none⟩) n c, .slice (some ⟨h, i, none⟩) n d] 57) := ⟨_, rfl⟩
  rw [← hwa]
  have hb : Below w.heap.size w wa := by rw [hwa]; exact below0 _ _
  have a0 : wa.cell? ⟨w.heap.size, 0, none⟩ = some (.slice (some ⟨g, o, none⟩) n c) := by rw [hwa]; simp [go_sem]
  have a1 : wa.cell? ⟨w.heap.size, 1, none⟩ = some (.slice (some ⟨h, i, none⟩) n d) := by rw [hwa]; simp [go_sem]
  replace c0 := (hb.cell (p := ⟨g, o + p * 2, none⟩) zg).trans c0
  replace d0 := (hb.cell (p := ⟨h, i + p, none⟩) zh).trans d0
  clear hwa
  go_quiet (fail)
  go_wp2
  go_ret
  exact ⟨ret_int rfl, (by repeat (first | with_reducible exact Below.refl _ _ | with_reducible exact hb | with_reducible refine Below.setCell ?_ (by first | omega | (simp; done) | (simp; omega)) _ | with_reducible refine bDrewN ?_ _ | with_reducible refine Below.drew ?_ | with_reducible refine Below.alloc ?_ (by first | omega | (simp; done) | (simp; omega)) _))⟩
set_option maxRecDepth 20000 in
set_option maxHeartbeats 4000000 in
theorem readyAt_any (s t : Option Addr) (n c d : Nat) (X : Nat → Int) (K : Nat → Nat) (V : Nat → Nat → Int) (B : Nat → Int) (p : Nat) (w : World) (hp : p < n) (hn : (n : Int) ≤ 40) (hK : (K p : Int) ≤ 1048576) (HV : Hid (∀ i, i < K p → 0 ≤ V p i ∧ V p i < (n : Int))) (HR : Hid (RowJbs w s n X K V)) (HT : Hid (RowI w t n B)) (HG : Hid (∀ j, j < n → (1 ≤ X j ∧ X j ≤ 1000) ∧ 0 ≤ B j ∧ B j ≤ 1000000000)) :
    Calls Tryd.prog 32 #[.agg #[.slice s n c, .slice t n d], .int .i64 p] w fun e w' => e = .returned (.int .i64 (rdyF X B (V p) (K p))) ∧ Below w.heap.size w w' := by
  have HC : Hid (∀ (q : Nat) w1, q < n → Below w.heap.size w w1 → Calls Tryd.prog 56 #[.agg #[.slice s n c, .slice t n d], .int .i64 q] w1 fun e w' => e = .returned (.int .i64 (B q + X q)) ∧ Below w1.heap.size w1 w') := fun q w1 hq hb => endOf_any s t n c d X K V B q w1 hq hn (HR.out.below hb) (HT.out.below hb) HG
  have HI : Hid (∀ k, k ≤ K p → 0 ≤ rdyF X B (V p) k ∧ rdyF X B (V p) k ≤ 1000001000) := fun k hk => rdy_in (by decide) k (fun i hi => by
    have := HV.out i (by omega)
    have := HG.out (V p i).toNat (by omega)
    omega)
  obtain ⟨g, o, a, k, rfl, zg, c0, c1, hr⟩ := HR.out p hp
  have HL : Hid (∀ j, j < K p → 0 ≤ V p j ∧ V p j < (n : Int)) := HV.out
  have HS : Hid (∀ j, rdyF X B (V p) (j + 1) = mxI (rdyF X B (V p) j) (B (V p j).toNat + X (V p j).toNat)) := fun j => rfl
  obtain ⟨m, hm⟩ : ∃ m, K p = m := ⟨_, rfl⟩
  rw [hm] at c1 hr hK HI HL ⊢
  have HRI : Hid (RowI w a m (V p)) := hr
  have p1 : (p : Int) < (n : Int) := by omega
  clear hm hr HV HG HT HR c0
  go_enter Tryd.func32, Tryd.ntmps32
  go_upto_region 2 with fail
  obtain ⟨wa, hwa⟩ : ∃ wa, wa = w.alloc (.cells #[.slice (some ⟨g, o, none⟩) n c, .slice t n d] 57) := ⟨_, rfl⟩
  rw [← hwa]
  have hb : Below w.heap.size w wa := by rw [hwa]; exact below0 _ _
  have a0 : wa.cell? ⟨w.heap.size, 0, none⟩ = some (.slice (some ⟨g, o, none⟩) n c) := by rw [hwa]; simp [go_sem]
  have a1 : wa.cell? ⟨w.heap.size, 1, none⟩ = some (.slice t n d) := by rw [hwa]; simp [go_sem]
  have za : w.heap.size < wa.heap.size := by rw [hwa]; simp
  replace c1 := (hb.cell (p := ⟨g, o + p * 2 + 1, none⟩) zg).trans c1
  replace zg := Nat.lt_of_lt_of_le zg hb.size
  have HB : Hid (Below w.heap.size w wa) := hb
  have Ha0 : Hid (wa.cell? ⟨w.heap.size, 0, none⟩ = some (.slice (some ⟨g, o, none⟩) n c)) := a0
  have Ha1 : Hid (wa.cell? ⟨w.heap.size, 1, none⟩ = some (.slice t n d)) := a1
  clear hwa hb
  go_wp2_with fail
  clear a0 a1 c1
  go_loopw [5, 15] (fun v i wr => ∃ j : Nat, j ≤ m ∧ i = .int .i64 j ∧ v = .int .i64 (rdyF X B (V p) j) ∧ Below wa.heap.size wa wr) (fun _ i _ => m - (intOf i).toNat)
  case atStart => exact ⟨0, Nat.zero_le _, rfl, rfl, Below.refl _ _⟩
  case round =>
    obtain ⟨j, hj, rfl, rfl, hB⟩ := hrel
    have sb := HI.out j hj
    by_cases h1 : j < m
    · obtain ⟨h, i, rfl, zh, d0⟩ := HRI.out j h1
      have q := HL.out j h1
      have a0 := (hB.cell (p := ⟨w.heap.size, 0, none⟩) za).trans Ha0.out
      have a1 := (hB.cell (p := ⟨w.heap.size, 1, none⟩) za).trans Ha1.out
      have B1 : Below w.heap.size w wr := HB.out.trans (hB.mono HB.out.size)
      replace d0 := (B1.cell (p := ⟨h, i + j, none⟩) zh).trans d0
      obtain ⟨v, hv⟩ : ∃ v : Nat, V p j = (v : Int) := ⟨(V p j).toNat, by omega⟩
      have HS2 := HS.out j
      rw [hv] at d0 q HS2
      have HS3 : Hid (rdyF X B (V p) (j + 1) = mxI (rdyF X B (V p) j) (B v + X v)) := by show _ = _; simpa using HS2
      have vn : v < n := by omega
      have hi2 := HI.out (j + 1) (by omega)
      obtain ⟨S, hS⟩ : ∃ S, rdyF X B (V p) j = S := ⟨_, rfl⟩
      rw [hS] at HS3 sb ⊢
      have j1 : (j : Int) < (m : Int) := by omega
      clear hv HS2 hS q
      go_wp2_with fail
      refine (HC.out v _ vn B1).mono ?_
      rintro e w3 ⟨rfl, h3⟩
      replace hB : Below wa.heap.size wa w3 := hB.trans (h3.mono hB.size)
      clear h3 a0 a1 d0
      obtain ⟨E, hE⟩ : ∃ E, B v + X v = E := ⟨_, rfl⟩
      rw [hE] at HS3 ⊢
      clear hE
      have HS4 : Hid (rdyF X B (V p) (j + 1) = if E > S then E else S) := HS3.out
      go_wp2
      all_goals
        go_roundw
        case rel => exact ⟨j + 1, by omega, by go_num, by first | (rw [HS4.out]; done) | (rw [HS4.out]; rename_i z; simp [z]; done) | (rw [HS4.out]; rename_i z; rw [if_pos (by omega)]) | (rw [HS4.out]; rename_i z; rw [if_neg (by omega)]), (by repeat (first | with_reducible exact Below.refl _ _ | with_reducible exact hB | with_reducible refine Below.setCell ?_ (by first | omega | (simp; done) | (simp; omega)) _ | with_reducible refine bDrewN ?_ _ | with_reducible refine Below.drew ?_ | with_reducible refine Below.alloc ?_ (by first | omega | (simp; done) | (simp; omega)) _))⟩
        case measure => first | (simp [intOf]; done) | (simp [intOf]; omega)
    · obtain rfl : j = m := by omega
      have B1 : Below w.heap.size w wr := HB.out.trans (hB.mono HB.out.size)
      go_wp2
      go_ret
      exact ⟨rfl, B1⟩
set_option maxRecDepth 20000 in
set_option maxHeartbeats 4000000 in
theorem lastEnd_any (s t : Option Addr) (n c d : Nat) (X : Nat → Int) (K : Nat → Nat) (V : Nat → Nat → Int) (B : Nat → Int) (w : World) (hn : (n : Int) ≤ 40) (HR : Hid (RowJbs w s n X K V)) (HT : Hid (RowI w t n B)) (HG : Hid (∀ j, j < n → (1 ≤ X j ∧ X j ≤ 1000) ∧ 0 ≤ B j ∧ B j ≤ 1000000000)) :
    Calls Tryd.prog 33 #[.agg #[.slice s n c, .slice t n d]] w fun e w' => e = .returned (.int .i64 (lastF X B n)) ∧ Below w.heap.size w w' := by
  have HC : Hid (∀ (q : Nat) w1, q < n → Below w.heap.size w w1 → Calls Tryd.prog 56 #[.agg #[.slice s n c, .slice t n d], .int .i64 q] w1 fun e w' => e = .returned (.int .i64 (B q + X q)) ∧ Below w1.heap.size w1 w') := fun q w1 hq hb => endOf_any s t n c d X K V B q w1 hq hn (HR.out.below hb) (HT.out.below hb) HG
  have HI : Hid (∀ k, k ≤ n → 0 ≤ lastF X B k ∧ lastF X B k ≤ 1000001000) := fun k hk => last_in (by decide) k (fun i hi => by
    have := HG.out i (by omega)
    omega)
  have HS : Hid (∀ j, lastF X B (j + 1) = mxI (lastF X B j) (B j + X j)) := fun j => rfl
  clear HG HT HR
  go_enter Tryd.func33, Tryd.ntmps33
  go_upto_region 2 with fail
  obtain ⟨wa, hwa⟩ : ∃ wa, wa = w.alloc (.cells #[.slice s n c, .slice t n d] 57) := ⟨_, rfl⟩
  rw [← hwa]
  have hb : Below w.heap.size w wa := by rw [hwa]; exact below0 _ _
  have a0 : wa.cell? ⟨w.heap.size, 0, none⟩ = some (.slice s n c) := by rw [hwa]; simp [go_sem]
  have a1 : wa.cell? ⟨w.heap.size, 1, none⟩ = some (.slice t n d) := by rw [hwa]; simp [go_sem]
  have za : w.heap.size < wa.heap.size := by rw [hwa]; simp
  have HB : Hid (Below w.heap.size w wa) := hb
  have Ha0 : Hid (wa.cell? ⟨w.heap.size, 0, none⟩ = some (.slice s n c)) := a0
  have Ha1 : Hid (wa.cell? ⟨w.heap.size, 1, none⟩ = some (.slice t n d)) := a1
  clear hwa hb
  go_wp2_with fail
  clear a0 a1
  go_loopw [3, 8] (fun v i wr => ∃ j : Nat, j ≤ n ∧ i = .int .i64 j ∧ v = .int .i64 (lastF X B j) ∧ Below wa.heap.size wa wr) (fun _ i _ => n - (intOf i).toNat)
  case atStart => exact ⟨0, Nat.zero_le _, rfl, rfl, Below.refl _ _⟩
  case round =>
    obtain ⟨j, hj, rfl, rfl, hB⟩ := hrel
    have sb := HI.out j hj
    by_cases h1 : j < n
    · have a0 := (hB.cell (p := ⟨w.heap.size, 0, none⟩) za).trans Ha0.out
      have a1 := (hB.cell (p := ⟨w.heap.size, 1, none⟩) za).trans Ha1.out
      have B1 : Below w.heap.size w wr := HB.out.trans (hB.mono HB.out.size)
      have HS3 : Hid (lastF X B (j + 1) = mxI (lastF X B j) (B j + X j)) := HS.out j
      obtain ⟨S, hS⟩ : ∃ S, lastF X B j = S := ⟨_, rfl⟩
      rw [hS] at HS3 sb ⊢
      have j1 : (j : Int) < (n : Int) := by omega
      clear hS
      go_wp2_with fail
      refine (HC.out j _ h1 B1).mono ?_
      rintro e w3 ⟨rfl, h3⟩
      replace hB : Below wa.heap.size wa w3 := hB.trans (h3.mono hB.size)
      clear h3 a0 a1
      obtain ⟨E, hE⟩ : ∃ E, B j + X j = E := ⟨_, rfl⟩
      rw [hE] at HS3 ⊢
      clear hE
      have HS4 : Hid (lastF X B (j + 1) = if E > S then E else S) := HS3.out
      go_wp2
      all_goals
        go_roundw
        case rel => exact ⟨j + 1, by omega, by go_num, by first | (rw [HS4.out]; done) | (rw [HS4.out]; rename_i z; simp [z]; done) | (rw [HS4.out]; rename_i z; rw [if_pos (by omega)]) | (rw [HS4.out]; rename_i z; rw [if_neg (by omega)]), (by repeat (first | with_reducible exact Below.refl _ _ | with_reducible exact hB | with_reducible refine Below.setCell ?_ (by first | omega | (simp; done) | (simp; omega)) _ | with_reducible refine bDrewN ?_ _ | with_reducible refine Below.drew ?_ | with_reducible refine Below.alloc ?_ (by first | omega | (simp; done) | (simp; omega)) _))⟩
        case measure => first | (simp [intOf]; done) | (simp [intOf]; omega)
    · obtain rfl : j = n := by omega
      have B1 : Below w.heap.size w wr := HB.out.trans (hB.mono HB.out.size)
      go_wp2
      go_ret
      exact ⟨rfl, B1⟩
end Go.Proofs.YtffjhbgnhnnfiaaDoor
