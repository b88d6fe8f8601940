/-
What is proved: when a book is right, as the program says it.
-/
import Derived.Test.YtikcfpjfcpbfcaaBoz
import Derived.Test.YtikcfpjfcpbfcaaCuIz
import Derived.Test.YtikcfpjfcpbfcaaZcC
import Derived.Test.YtikcfpjfcpbfcaaI64Ez
import Derived.Deep.RegionHeld3
import Derived.BigQuiet
namespace Go.Proofs.Ytikcfpjfcpbfcaa
set_option maxRecDepth 40000
open Go.ChangeShapes Go.WideShapes Go.ChangeAt Go.RowKit
set_option linter.unusedVariables false
set_option linter.unusedSimpArgs false

set_option maxHeartbeats 800000 in
theorem lastValve_any (p : Int) (s : Option Addr) (n c : Nat) (D : Nat → Int × Int) (t : Option Addr) (m d : Nat) (S : Nat → Int) (w : World) (n1 : n ≤ 40) : Calls Try.prog 107 #[.agg #[.int .i64 p, .slice s n c, .slice t m d]] w fun e w' => e = .returned (.int .i64 ((n : Int) - 1)) ∧ Below w.heap.size w w' := by
  have n2 : (n : Int) ≤ 40 := by omega
  go_enter Try.func107, Try.ntmps107
  go_wp2
  go_ret
  exact ⟨rfl, (by repeat (first | with_reducible exact Below.refl _ _ | with_reducible refine Below.setCell ?_ (by first | omega | (simp; done) | (simp; omega)) _ | with_reducible refine bDrewN ?_ _ | with_reducible refine Below.drew ?_ | with_reducible refine Below.alloc ?_ (by first | omega | (simp; done) | (simp; omega)) _))⟩
set_option maxRecDepth 20000 in
set_option maxHeartbeats 2000000 in
theorem ids_any (bs : Option Addr) (nb bc : Nat) (X Y : Nat → Int) (K : Nat → Nat) (V : Nat → Nat → Int) (w : World) (hb : (nb : Int) ≤ 1048576) (HB : Hid (RowPer w bs nb X Y K V)) :
    Calls Try.prog 54 #[.agg #[.slice bs nb bc]] w fun e w' => ∃ g, e = .returned (.slice (some ⟨g, 0, none⟩) nb nb) ∧ RowI w' (some ⟨g, 0, none⟩) nb X ∧ Below w.heap.size w w' := by
  have hmk := make_i64 nb (by omega)
  go_enter Try.func54, Try.ntmps54
  go_upto_region 1 with fail
  obtain ⟨wd, hwd⟩ : ∃ wd, wd = w.alloc (.cells #[.slice bs nb bc] 36) := ⟨_, rfl⟩
  rw [← hwd]
  have B0 : Below w.heap.size w wd := by rw [hwd]; exact (by repeat (first | with_reducible exact Below.refl _ _ | with_reducible refine Below.setCell ?_ (by first | omega | (simp; done) | (simp; omega)) _ | with_reducible refine bDrewN ?_ _ | with_reducible refine Below.drew ?_ | with_reducible refine Below.alloc ?_ (by first | omega | (simp; done) | (simp; omega)) _))
  have p0 : wd.cell? ⟨w.heap.size, 0, none⟩ = some (.slice bs nb bc) := by rw [hwd]; simp [go_sem]
  have zd : w.heap.size < wd.heap.size := by rw [hwd]; simp
  have HB0 : Hid (Below w.heap.size w wd) := B0
  clear hwd B0
  go_wp2_with fail
  go_loopw [13] (fun i wr => ∃ k : Nat, k ≤ nb ∧ i = .int .i64 k ∧ Hid (RowTo wd wr nb k X)) (fun i _ => nb - (intOf i).toNat)
  case atStart => exact ⟨0, Nat.zero_le _, rfl, rowTo_start wd nb X 2⟩
  case round =>
    clear p0
    obtain ⟨k, hk, rfl, HW⟩ := hrel
    have zr : wd.heap.size < wr.heap.size := HW.out.2.1
    have HBr : Hid (Below wd.heap.size wd wr) := HW.out.1
    have HBw : Hid (Below w.heap.size w wr) := HB0.out.trans (HBr.out.mono HB0.out.size)
    by_cases h2 : k < nb
    · obtain ⟨g, o, a, e, rfl, hg, c0, c1, c2, -⟩ := HB.out k h2
      replace c0 := (HBw.out.cell (p := ⟨g, o + k * 3, none⟩) hg).trans c0
      replace c1 := (HBw.out.cell (p := ⟨g, o + k * 3 + 1, none⟩) hg).trans c1
      replace c2 := (HBw.out.cell (p := ⟨g, o + k * 3 + 2, none⟩) hg).trans c2
      have zg : g < wr.heap.size := Nat.lt_of_lt_of_le hg HBw.out.size
      have k1 : (k : Int) < (nb : Int) := by omega
      have f0 := HW.out.2.2.2 k h2
      have fz := HW.out.2.2.1 k
      obtain ⟨x, hx⟩ : ∃ x, X k = x := ⟨_, rfl⟩
      have HX : Hid (∀ w3, Below wr.heap.size wr w3 → RowTo wd (w3.setCell ⟨wd.heap.size, k, none⟩ (.int .i64 x)) nb (k + 1) X) := fun w3 h3 => by rw [← hx]; exact rowTo_on HW.out h3
      rw [hx] at c0
      clear hx hg
      go_upto_region 5 with fail
      obtain ⟨wa, hwa⟩ : ∃ wa, wa = wr.alloc (.cells #[.int .i64 x, .int .i64 (Y k), .slice a (K k) e] 44) := ⟨_, rfl⟩
      rw [← hwa]
      have hb : Below wr.heap.size wr wa := by rw [hwa]; exact below0 _ _
      have v0 : wa.cell? ⟨wr.heap.size, 0, none⟩ = some (.int .i64 x) := by rw [hwa]; simp [go_sem]
      have za : wr.heap.size < wa.heap.size := by rw [hwa]; simp
      replace f0 := (hb.cell (p := ⟨wd.heap.size, k, none⟩) zr).trans f0
      replace fz := (hb.frozen (p := ⟨wd.heap.size, k, none⟩) zr).trans fz
      have zr2 : wd.heap.size < wa.heap.size := by omega
      have HX2 : Hid (RowTo wd (wa.setCell ⟨wd.heap.size, k, none⟩ (.int .i64 x)) nb (k + 1) X) := HX.out wa hb
      clear hwa hb c0 c1 c2 zg
      go_wp2
      go_roundw
      case rel => exact ⟨k + 1, by omega, by go_num, HX2.out⟩
      case measure => first | (simp [intOf]; done) | (simp [intOf]; omega)
    · obtain rfl : k = nb := by omega
      have HO : Hid (RowI wr (some ⟨wd.heap.size, 0, none⟩) k X) := (rowTo_own HW.out).row
      go_wp2
      go_ret
      exact ⟨_, rfl, HO.out, HBw.out⟩
set_option maxRecDepth 20000 in
set_option maxHeartbeats 2000000 in
theorem worksAt_any (bs : Option Addr) (nb bc : Nat) (X Y : Nat → Int) (K : Nat → Nat) (V : Nat → Nat → Int) (y : Int) (w : World) (hb : (nb : Int) ≤ 1048576) (HB : Hid (RowPer w bs nb X Y K V)) :
    Calls Try.prog 90 #[.agg #[.slice bs nb bc], .int .i64 y] w fun e w' => e = .returned (.bool (!freeB Y nb y)) ∧ Below w.heap.size w w' := by
  go_enter Try.func90, Try.ntmps90
  go_wp2_with fail
  go_loopw [10] (fun i wr => ∃ k : Nat, k ≤ nb ∧ i = .int .i64 k ∧ Hid (∀ j, j < k → Y j ≠ y) ∧ Below w.heap.size w wr) (fun i _ => nb - (intOf i).toNat)
  case atStart => exact ⟨0, Nat.zero_le _, rfl, fun j hj => by omega, (by repeat (first | with_reducible exact Below.refl _ _ | with_reducible refine Below.setCell ?_ (by first | omega | (simp; done) | (simp; omega)) _ | with_reducible refine bDrewN ?_ _ | with_reducible refine Below.drew ?_ | with_reducible refine Below.alloc ?_ (by first | omega | (simp; done) | (simp; omega)) _))⟩
  case round =>
    obtain ⟨k, hk, rfl, HP, hB⟩ := hrel
    have zW := hB.size
    by_cases h2 : k < nb
    · obtain ⟨g, o, a, e, rfl, hg, c0, c1, c2, -⟩ := HB.out k h2
      replace c0 := (hB.cell (p := ⟨g, o + k * 3, none⟩) hg).trans c0
      replace c1 := (hB.cell (p := ⟨g, o + k * 3 + 1, none⟩) hg).trans c1
      replace c2 := (hB.cell (p := ⟨g, o + k * 3 + 2, none⟩) hg).trans c2
      have zg : g < wr.heap.size := Nat.lt_of_lt_of_le hg hB.size
      have k1 : (k : Int) < (nb : Int) := by omega
      by_cases e0 : Y k = y
      · have HO : Hid ((!freeB Y nb y) = true) := by
          show _ = _
          have : freeB Y nb y = false := decide_eq_false fun q => q k h2 e0
          rw [this]; rfl
        obtain ⟨z, hz⟩ : ∃ z, Y k = z := ⟨_, rfl⟩
        have e1 : (z == y) = true := by rw [← hz]; simpa using e0
        rw [hz] at c1
        clear e0 hz
        go_wp2
        go_ret
        exact ⟨ret_bool HO.out.symm, (by repeat (first | with_reducible exact Below.refl _ _ | with_reducible exact hB | with_reducible refine Below.setCell ?_ (by first | omega | (simp; done) | (simp; omega)) _ | with_reducible refine bDrewN ?_ _ | with_reducible refine Below.drew ?_ | with_reducible refine Below.alloc ?_ (by first | omega | (simp; done) | (simp; omega)) _))⟩
      · have HN : Hid (∀ j, j < k + 1 → Y j ≠ y) := ball_succ HP.out e0
        obtain ⟨z, hz⟩ : ∃ z, Y k = z := ⟨_, rfl⟩
        have e1 : (z == y) = false := by rw [← hz]; simpa using e0
        rw [hz] at c1
        clear e0 hz
        go_wp2
        go_roundw
        case rel => exact ⟨k + 1, by omega, by go_num, HN.out, (by repeat (first | with_reducible exact Below.refl _ _ | with_reducible exact hB | with_reducible refine Below.setCell ?_ (by first | omega | (simp; done) | (simp; omega)) _ | with_reducible refine bDrewN ?_ _ | with_reducible refine Below.drew ?_ | with_reducible refine Below.alloc ?_ (by first | omega | (simp; done) | (simp; omega)) _))⟩
        case measure => first | (simp [intOf]; done) | (simp [intOf]; omega)
    · obtain rfl : k = nb := by omega
      have HO : Hid ((!freeB Y k y) = false) := by
        show _ = _
        have : freeB Y k y = true := decide_eq_true HP.out
        rw [this]; rfl
      go_wp2
      go_ret
      exact ⟨ret_bool HO.out.symm, (by repeat (first | with_reducible exact Below.refl _ _ | with_reducible exact hB | with_reducible refine Below.setCell ?_ (by first | omega | (simp; done) | (simp; omega)) _ | with_reducible refine bDrewN ?_ _ | with_reducible refine Below.drew ?_ | with_reducible refine Below.alloc ?_ (by first | omega | (simp; done) | (simp; omega)) _))⟩
set_option maxRecDepth 20000 in
set_option maxHeartbeats 8000000 in
theorem formed_any (p : Int) (s : Option Addr) (n c : Nat) (D : Nat → Int × Int) (t : Option Addr) (m d : Nat) (S : Nat → Int) (id pl : Int) (q : Option Addr) (k e : Nat) (v : Nat → Int) (w : World) (p0 : 1 ≤ p) (p1 : p ≤ 30) (n1 : n ≤ 40) (hk : (k : Int) ≤ 1048576) (HV : Hid (RowI w q k v)) :
    Calls Try.prog 89 #[.agg #[.int .i64 id, .int .i64 pl, .slice q k e], .agg #[.int .i64 p, .slice s n c, .slice t m d]] w fun e w' => e = .returned (.bool (fmB p n id pl k v)) ∧ Below w.heap.size w w' := by
  go_enter Try.func89, Try.ntmps89
  go_upto_region 1 with fail
  obtain ⟨wd, hwd⟩ : ∃ wd, wd = (w.alloc (.cells #[.int .i64 id, .int .i64 pl, .slice q k e] 44)).alloc (.cells #[.int .i64 p, .slice s n c, .slice t m d] 41) := ⟨_, rfl⟩
  rw [← hwd]
  have B0 : Below w.heap.size w wd := by rw [hwd]; exact (by repeat (first | with_reducible exact Below.refl _ _ | with_reducible refine Below.setCell ?_ (by first | omega | (simp; done) | (simp; omega)) _ | with_reducible refine bDrewN ?_ _ | with_reducible refine Below.drew ?_ | with_reducible refine Below.alloc ?_ (by first | omega | (simp; done) | (simp; omega)) _))
  have c0 : wd.cell? ⟨w.heap.size, 0, none⟩ = some (.int .i64 id) := by rw [hwd]; simp [go_sem]
  have c1 : wd.cell? ⟨w.heap.size, 1, none⟩ = some (.int .i64 pl) := by rw [hwd]; simp [go_sem]
  have c2 : wd.cell? ⟨w.heap.size, 2, none⟩ = some (.slice q k e) := by rw [hwd]; simp [go_sem]
  have r0 : wd.cell? ⟨w.heap.size + 1, 0, none⟩ = some (.int .i64 p) := by rw [hwd]; simp [go_sem]
  have r1 : wd.cell? ⟨w.heap.size + 1, 1, none⟩ = some (.slice s n c) := by rw [hwd]; simp [go_sem]
  have r2 : wd.cell? ⟨w.heap.size + 1, 2, none⟩ = some (.slice t m d) := by rw [hwd]; simp [go_sem]
  have zd : w.heap.size + 1 < wd.heap.size := by rw [hwd]; simp
  have zn : w.heap.size < wd.heap.size := by omega
  have HB : Hid (Below w.heap.size w wd) := B0
  clear hwd B0
  cases e0 : inB 1 1000000 id
  · skip
    refine wp_region_held_drew (S := fun w' => w'.cell? ⟨w.heap.size, 0, none⟩ = some (.int .i64 id) ∧ w'.cell? ⟨w.heap.size, 1, none⟩ = some (.int .i64 pl) ∧ w'.cell? ⟨w.heap.size, 2, none⟩ = some (.slice q k e) ∧ w'.cell? ⟨w.heap.size + 1, 0, none⟩ = some (.int .i64 p) ∧ w'.cell? ⟨w.heap.size + 1, 1, none⟩ = some (.slice s n c) ∧ w'.cell? ⟨w.heap.size + 1, 2, none⟩ = some (.slice t m d)) (by kernel_rfl) ?_ (fun hHeld => ?_)
    · exact ⟨keep1 c0 zn (show Below _ _ _ from (by repeat (first | with_reducible exact Below.refl _ _ | with_reducible refine Below.setCell ?_ (by first | omega | (simp; done) | (simp; omega)) _ | with_reducible refine bDrewN ?_ _ | with_reducible refine Below.drew ?_ | with_reducible refine Below.alloc ?_ (by first | omega | (simp; done) | (simp; omega)) _))), keep1 c1 zn (show Below _ _ _ from (by repeat (first | with_reducible exact Below.refl _ _ | with_reducible refine Below.setCell ?_ (by first | omega | (simp; done) | (simp; omega)) _ | with_reducible refine bDrewN ?_ _ | with_reducible refine Below.drew ?_ | with_reducible refine Below.alloc ?_ (by first | omega | (simp; done) | (simp; omega)) _))), keep1 c2 zn (show Below _ _ _ from (by repeat (first | with_reducible exact Below.refl _ _ | with_reducible refine Below.setCell ?_ (by first | omega | (simp; done) | (simp; omega)) _ | with_reducible refine bDrewN ?_ _ | with_reducible refine Below.drew ?_ | with_reducible refine Below.alloc ?_ (by first | omega | (simp; done) | (simp; omega)) _))), keep1 r0 zd (show Below _ _ _ from (by repeat (first | with_reducible exact Below.refl _ _ | with_reducible refine Below.setCell ?_ (by first | omega | (simp; done) | (simp; omega)) _ | with_reducible refine bDrewN ?_ _ | with_reducible refine Below.drew ?_ | with_reducible refine Below.alloc ?_ (by first | omega | (simp; done) | (simp; omega)) _))), keep1 r1 zd (show Below _ _ _ from (by repeat (first | with_reducible exact Below.refl _ _ | with_reducible refine Below.setCell ?_ (by first | omega | (simp; done) | (simp; omega)) _ | with_reducible refine bDrewN ?_ _ | with_reducible refine Below.drew ?_ | with_reducible refine Below.alloc ?_ (by first | omega | (simp; done) | (simp; omega)) _))), keep1 r2 zd (show Below _ _ _ from (by repeat (first | with_reducible exact Below.refl _ _ | with_reducible refine Below.setCell ?_ (by first | omega | (simp; done) | (simp; omega)) _ | with_reducible refine bDrewN ?_ _ | with_reducible refine Below.drew ?_ | with_reducible refine Below.alloc ?_ (by first | omega | (simp; done) | (simp; omega)) _)))⟩
    refine wpAnyH_take (i := 0) (v := .pointer (some ⟨w.heap.size, 0, none⟩)) rfl (by kernel_rfl) (by kernel_rfl) (by kernel_rfl) (fun _ _ _ h => h) (Or.inl ⟨by kernel_rfl, ?_⟩) hHeld ?_
    · intro w' hSw
      obtain ⟨s0, s1, s2, s3, s4, s5⟩ := hSw
      first | (go_simp; done) | (go_simp; with_reducible rfl) | (go_simp; rw [IntKind.wrap_i64]; omega) | (go_simp; omega)
    simp only [Act.put, List.setIfInBounds_toArray, List.set_cons_zero, List.set_cons_succ]
    refine wpAnyH_take (i := 1) (v := .int .i64 id) rfl (by kernel_rfl) (by kernel_rfl) (by kernel_rfl) (fun _ _ _ h => h) (Or.inl ⟨by kernel_rfl, ?_⟩) hHeld ?_
    · intro w' hSw
      obtain ⟨s0, s1, s2, s3, s4, s5⟩ := hSw
      first | (go_simp; done) | (go_simp; with_reducible rfl) | (go_simp; rw [IntKind.wrap_i64]; omega) | (go_simp; omega)
    simp only [Act.put, List.setIfInBounds_toArray, List.set_cons_zero, List.set_cons_succ]
    refine wpAnyH_ready (rs := [2]) (by kernel_rfl) (by simp) ?_
    refine AllReadyH.cons rfl (fun KK hK => ?_) AllReadyH.nil
    go_simp
    go_wp2_with (first | (go_at_call 101; refine (within_is _ _ _ _).mono ?_; rw [e0]; rintro e w2 ⟨rfl, h2⟩; have B2 : Below wd.heap.size wd w2 := h2 ▸ (by repeat (first | with_reducible exact Below.refl _ _ | with_reducible refine Below.setCell ?_ (by first | omega | (simp; done) | (simp; omega)) _ | with_reducible refine bDrewN ?_ _ | with_reducible refine Below.drew ?_ | with_reducible refine Below.alloc ?_ (by first | omega | (simp; done) | (simp; omega)) _)); have s2 := B2.size; clear h2))
    refine hK.out _ _ (⟨keep1 c0 zn B2, keep1 c1 zn B2, keep1 c2 zn B2, keep1 r0 zd B2, keep1 r1 zd B2, keep1 r2 zd B2⟩) (fun hHeld => ?_)
    clear hK KK
    refine wpAnyH_take (i := 3) (v := .bool false) rfl (by kernel_rfl) (by kernel_rfl) (by kernel_rfl) (fun _ _ _ h => h) (Or.inl ⟨by kernel_rfl, ?_⟩) hHeld ?_
    · intro w' hSw
      obtain ⟨s0, s1, s2, s3, s4, s5⟩ := hSw
      first | (go_simp; done) | (go_simp; with_reducible rfl) | (go_simp; rw [IntKind.wrap_i64]; omega) | (go_simp; omega)
    simp only [Act.put, List.setIfInBounds_toArray, List.set_cons_zero, List.set_cons_succ]
    refine wpAnyH_take (i := 4) (v := undef) rfl (by kernel_rfl) (by kernel_rfl) (by kernel_rfl) (fun _ _ _ h => h) (Or.inr ⟨by kernel_rfl, rfl⟩) hHeld ?_
    simp only [Act.put, List.setIfInBounds_toArray, List.set_cons_zero, List.set_cons_succ]
    refine wpAnyH_take (i := 5) (v := undef) rfl (by kernel_rfl) (by kernel_rfl) (by kernel_rfl) (fun _ _ _ h => h) (Or.inr ⟨by kernel_rfl, rfl⟩) hHeld ?_
    simp only [Act.put, List.setIfInBounds_toArray, List.set_cons_zero, List.set_cons_succ]
    refine wpAnyH_take (i := 6) (v := undef) rfl (by kernel_rfl) (by kernel_rfl) (by kernel_rfl) (fun _ _ _ h => h) (Or.inr ⟨by kernel_rfl, rfl⟩) hHeld ?_
    simp only [Act.put, List.setIfInBounds_toArray, List.set_cons_zero, List.set_cons_succ]
    refine wpAnyH_take (i := 7) (v := undef) rfl (by kernel_rfl) (by kernel_rfl) (by kernel_rfl) (fun _ _ _ h => h) (Or.inr ⟨by kernel_rfl, rfl⟩) hHeld ?_
    simp only [Act.put, List.setIfInBounds_toArray, List.set_cons_zero, List.set_cons_succ]
    refine wpAnyH_take (i := 8) (v := .bool false) rfl (by kernel_rfl) (by kernel_rfl) (by kernel_rfl) (fun _ _ _ h => h) (Or.inl ⟨by kernel_rfl, ?_⟩) hHeld ?_
    · intro w' hSw
      obtain ⟨s0, s1, s2, s3, s4, s5⟩ := hSw
      first | (go_simp; done) | (go_simp; with_reducible rfl) | (go_simp; rw [IntKind.wrap_i64]; omega) | (go_simp; omega)
    simp only [Act.put, List.setIfInBounds_toArray, List.set_cons_zero, List.set_cons_succ]
    refine wpAnyH_take (i := 9) (v := .bool false) rfl (by kernel_rfl) (by kernel_rfl) (by kernel_rfl) (fun _ _ _ h => h) (Or.inl ⟨by kernel_rfl, ?_⟩) hHeld ?_
    · intro w' hSw
      obtain ⟨s0, s1, s2, s3, s4, s5⟩ := hSw
      first | (go_simp; done) | (go_simp; with_reducible rfl) | (go_simp; rw [IntKind.wrap_i64]; omega) | (go_simp; omega)
    simp only [Act.put, List.setIfInBounds_toArray, List.set_cons_zero, List.set_cons_succ]
    refine wpAnyH_take (i := 10) (v := undef) rfl (by kernel_rfl) (by kernel_rfl) (by kernel_rfl) (fun _ _ _ h => h) (Or.inr ⟨by kernel_rfl, rfl⟩) hHeld ?_
    simp only [Act.put, List.setIfInBounds_toArray, List.set_cons_zero, List.set_cons_succ]
    refine wpAnyH_take (i := 11) (v := undef) rfl (by kernel_rfl) (by kernel_rfl) (by kernel_rfl) (fun _ _ _ h => h) (Or.inr ⟨by kernel_rfl, rfl⟩) hHeld ?_
    simp only [Act.put, List.setIfInBounds_toArray, List.set_cons_zero, List.set_cons_succ]
    refine wpAnyH_take (i := 12) (v := undef) rfl (by kernel_rfl) (by kernel_rfl) (by kernel_rfl) (fun _ _ _ h => h) (Or.inr ⟨by kernel_rfl, rfl⟩) hHeld ?_
    simp only [Act.put, List.setIfInBounds_toArray, List.set_cons_zero, List.set_cons_succ]
    refine wpAnyH_take (i := 13) (v := .bool false) rfl (by kernel_rfl) (by kernel_rfl) (by kernel_rfl) (fun _ _ _ h => h) (Or.inl ⟨by kernel_rfl, ?_⟩) hHeld ?_
    · intro w' hSw
      obtain ⟨s0, s1, s2, s3, s4, s5⟩ := hSw
      first | (go_simp; done) | (go_simp; with_reducible rfl) | (go_simp; rw [IntKind.wrap_i64]; omega) | (go_simp; omega)
    simp only [Act.put, List.setIfInBounds_toArray, List.set_cons_zero, List.set_cons_succ]
    refine wpAnyH_take (i := 14) (v := .bool false) rfl (by kernel_rfl) (by kernel_rfl) (by kernel_rfl) (fun _ _ _ h => h) (Or.inl ⟨by kernel_rfl, ?_⟩) hHeld ?_
    · intro w' hSw
      obtain ⟨s0, s1, s2, s3, s4, s5⟩ := hSw
      first | (go_simp; done) | (go_simp; with_reducible rfl) | (go_simp; rw [IntKind.wrap_i64]; omega) | (go_simp; omega)
    simp only [Act.put, List.setIfInBounds_toArray, List.set_cons_zero, List.set_cons_succ]
    refine wpAnyH_take (i := 15) (v := undef) rfl (by kernel_rfl) (by kernel_rfl) (by kernel_rfl) (fun _ _ _ h => h) (Or.inr ⟨by kernel_rfl, rfl⟩) hHeld ?_
    simp only [Act.put, List.setIfInBounds_toArray, List.set_cons_zero, List.set_cons_succ]
    refine wpAnyH_take (i := 16) (v := undef) rfl (by kernel_rfl) (by kernel_rfl) (by kernel_rfl) (fun _ _ _ h => h) (Or.inr ⟨by kernel_rfl, rfl⟩) hHeld ?_
    simp only [Act.put, List.setIfInBounds_toArray, List.set_cons_zero, List.set_cons_succ]
    refine wpAnyH_take (i := 17) (v := undef) rfl (by kernel_rfl) (by kernel_rfl) (by kernel_rfl) (fun _ _ _ h => h) (Or.inr ⟨by kernel_rfl, rfl⟩) hHeld ?_
    simp only [Act.put, List.setIfInBounds_toArray, List.set_cons_zero, List.set_cons_succ]
    refine wpAnyH_take (i := 18) (v := undef) rfl (by kernel_rfl) (by kernel_rfl) (by kernel_rfl) (fun _ _ _ h => h) (Or.inr ⟨by kernel_rfl, rfl⟩) hHeld ?_
    simp only [Act.put, List.setIfInBounds_toArray, List.set_cons_zero, List.set_cons_succ]
    refine wpAnyH_take (i := 19) (v := undef) rfl (by kernel_rfl) (by kernel_rfl) (by kernel_rfl) (fun _ _ _ h => h) (Or.inr ⟨by kernel_rfl, rfl⟩) hHeld ?_
    simp only [Act.put, List.setIfInBounds_toArray, List.set_cons_zero, List.set_cons_succ]
    refine wpAnyH_take (i := 20) (v := .bool false) rfl (by kernel_rfl) (by kernel_rfl) (by kernel_rfl) (fun _ _ _ h => h) (Or.inl ⟨by kernel_rfl, ?_⟩) hHeld ?_
    · intro w' hSw
      obtain ⟨s0, s1, s2, s3, s4, s5⟩ := hSw
      first | (go_simp; done) | (go_simp; with_reducible rfl) | (go_simp; rw [IntKind.wrap_i64]; omega) | (go_simp; omega)
    simp only [Act.put, List.setIfInBounds_toArray, List.set_cons_zero, List.set_cons_succ]
    refine wpAnyH_ready (rs := [21]) (by kernel_rfl) (by simp) ?_
    refine AllReadyH.cons rfl (fun KK hK => ?_) AllReadyH.nil
    go_simp
    refine hK.out _ _ hHeld (fun hHeld => ?_)
    clear hK KK
    refine wpAnyH_done (by kernel_rfl) ?_ _
    have HO : Hid (fmB p n id pl k v = false) := by show _ = _; unfold fmB; rw [e0]; rfl
    have B9 : Below w.heap.size w w2 := HB.out.trans (B2.mono HB.out.size)
    clear hHeld
    go_wp2
    go_ret
    exact ⟨ret_bool HO.out.symm, (by repeat (first | with_reducible exact Below.refl _ _ | with_reducible exact B9 | with_reducible refine Below.setCell ?_ (by first | omega | (simp; done) | (simp; omega)) _ | with_reducible refine bDrewN ?_ _ | with_reducible refine Below.drew ?_ | with_reducible refine Below.alloc ?_ (by first | omega | (simp; done) | (simp; omega)) _))⟩
  cases e1 : inB 0 (p - 1) pl
  · skip
    refine wp_region_held_drew (S := fun w' => w'.cell? ⟨w.heap.size, 0, none⟩ = some (.int .i64 id) ∧ w'.cell? ⟨w.heap.size, 1, none⟩ = some (.int .i64 pl) ∧ w'.cell? ⟨w.heap.size, 2, none⟩ = some (.slice q k e) ∧ w'.cell? ⟨w.heap.size + 1, 0, none⟩ = some (.int .i64 p) ∧ w'.cell? ⟨w.heap.size + 1, 1, none⟩ = some (.slice s n c) ∧ w'.cell? ⟨w.heap.size + 1, 2, none⟩ = some (.slice t m d)) (by kernel_rfl) ?_ (fun hHeld => ?_)
    · exact ⟨keep1 c0 zn (show Below _ _ _ from (by repeat (first | with_reducible exact Below.refl _ _ | with_reducible refine Below.setCell ?_ (by first | omega | (simp; done) | (simp; omega)) _ | with_reducible refine bDrewN ?_ _ | with_reducible refine Below.drew ?_ | with_reducible refine Below.alloc ?_ (by first | omega | (simp; done) | (simp; omega)) _))), keep1 c1 zn (show Below _ _ _ from (by repeat (first | with_reducible exact Below.refl _ _ | with_reducible refine Below.setCell ?_ (by first | omega | (simp; done) | (simp; omega)) _ | with_reducible refine bDrewN ?_ _ | with_reducible refine Below.drew ?_ | with_reducible refine Below.alloc ?_ (by first | omega | (simp; done) | (simp; omega)) _))), keep1 c2 zn (show Below _ _ _ from (by repeat (first | with_reducible exact Below.refl _ _ | with_reducible refine Below.setCell ?_ (by first | omega | (simp; done) | (simp; omega)) _ | with_reducible refine bDrewN ?_ _ | with_reducible refine Below.drew ?_ | with_reducible refine Below.alloc ?_ (by first | omega | (simp; done) | (simp; omega)) _))), keep1 r0 zd (show Below _ _ _ from (by repeat (first | with_reducible exact Below.refl _ _ | with_reducible refine Below.setCell ?_ (by first | omega | (simp; done) | (simp; omega)) _ | with_reducible refine bDrewN ?_ _ | with_reducible refine Below.drew ?_ | with_reducible refine Below.alloc ?_ (by first | omega | (simp; done) | (simp; omega)) _))), keep1 r1 zd (show Below _ _ _ from (by repeat (first | with_reducible exact Below.refl _ _ | with_reducible refine Below.setCell ?_ (by first | omega | (simp; done) | (simp; omega)) _ | with_reducible refine bDrewN ?_ _ | with_reducible refine Below.drew ?_ | with_reducible refine Below.alloc ?_ (by first | omega | (simp; done) | (simp; omega)) _))), keep1 r2 zd (show Below _ _ _ from (by repeat (first | with_reducible exact Below.refl _ _ | with_reducible refine Below.setCell ?_ (by first | omega | (simp; done) | (simp; omega)) _ | with_reducible refine bDrewN ?_ _ | with_reducible refine Below.drew ?_ | with_reducible refine Below.alloc ?_ (by first | omega | (simp; done) | (simp; omega)) _)))⟩
    refine wpAnyH_take (i := 0) (v := .pointer (some ⟨w.heap.size, 0, none⟩)) rfl (by kernel_rfl) (by kernel_rfl) (by kernel_rfl) (fun _ _ _ h => h) (Or.inl ⟨by kernel_rfl, ?_⟩) hHeld ?_
    · intro w' hSw
      obtain ⟨s0, s1, s2, s3, s4, s5⟩ := hSw
      first | (go_simp; done) | (go_simp; with_reducible rfl) | (go_simp; rw [IntKind.wrap_i64]; omega) | (go_simp; omega)
    simp only [Act.put, List.setIfInBounds_toArray, List.set_cons_zero, List.set_cons_succ]
    refine wpAnyH_take (i := 1) (v := .int .i64 id) rfl (by kernel_rfl) (by kernel_rfl) (by kernel_rfl) (fun _ _ _ h => h) (Or.inl ⟨by kernel_rfl, ?_⟩) hHeld ?_
    · intro w' hSw
      obtain ⟨s0, s1, s2, s3, s4, s5⟩ := hSw
      first | (go_simp; done) | (go_simp; with_reducible rfl) | (go_simp; rw [IntKind.wrap_i64]; omega) | (go_simp; omega)
    simp only [Act.put, List.setIfInBounds_toArray, List.set_cons_zero, List.set_cons_succ]
    refine wpAnyH_ready (rs := [2]) (by kernel_rfl) (by simp) ?_
    refine AllReadyH.cons rfl (fun KK hK => ?_) AllReadyH.nil
    go_simp
    go_wp2_with (first | (go_at_call 101; refine (within_is _ _ _ _).mono ?_; rw [e0]; rintro e w2 ⟨rfl, h2⟩; have B2 : Below wd.heap.size wd w2 := h2 ▸ (by repeat (first | with_reducible exact Below.refl _ _ | with_reducible refine Below.setCell ?_ (by first | omega | (simp; done) | (simp; omega)) _ | with_reducible refine bDrewN ?_ _ | with_reducible refine Below.drew ?_ | with_reducible refine Below.alloc ?_ (by first | omega | (simp; done) | (simp; omega)) _)); have s2 := B2.size; clear h2))
    refine hK.out _ _ (⟨keep1 c0 zn B2, keep1 c1 zn B2, keep1 c2 zn B2, keep1 r0 zd B2, keep1 r1 zd B2, keep1 r2 zd B2⟩) (fun hHeld => ?_)
    clear hK KK
    refine wpAnyH_take (i := 3) (v := .bool true) rfl (by kernel_rfl) (by kernel_rfl) (by kernel_rfl) (fun _ _ _ h => h) (Or.inl ⟨by kernel_rfl, ?_⟩) hHeld ?_
    · intro w' hSw
      obtain ⟨s0, s1, s2, s3, s4, s5⟩ := hSw
      first | (go_simp; done) | (go_simp; with_reducible rfl) | (go_simp; rw [IntKind.wrap_i64]; omega) | (go_simp; omega)
    simp only [Act.put, List.setIfInBounds_toArray, List.set_cons_zero, List.set_cons_succ]
    refine wpAnyH_take (i := 4) (v := .agg #[.int .i64 p, .slice s n c, .slice t m d]) rfl (by kernel_rfl) (by kernel_rfl) (by kernel_rfl) (fun _ _ _ h => h) (Or.inl ⟨by kernel_rfl, ?_⟩) hHeld ?_
    · intro w' hSw
      obtain ⟨s0, s1, s2, s3, s4, s5⟩ := hSw
      first | (go_simp; done) | (go_simp; with_reducible rfl) | (go_simp; rw [IntKind.wrap_i64]; omega) | (go_simp; omega)
    simp only [Act.put, List.setIfInBounds_toArray, List.set_cons_zero, List.set_cons_succ]
    refine wpAnyH_take (i := 5) (v := .pointer (some ⟨w.heap.size, 1, none⟩)) rfl (by kernel_rfl) (by kernel_rfl) (by kernel_rfl) (fun _ _ _ h => h) (Or.inl ⟨by kernel_rfl, ?_⟩) hHeld ?_
    · intro w' hSw
      obtain ⟨s0, s1, s2, s3, s4, s5⟩ := hSw
      first | (go_simp; done) | (go_simp; with_reducible rfl) | (go_simp; rw [IntKind.wrap_i64]; omega) | (go_simp; omega)
    simp only [Act.put, List.setIfInBounds_toArray, List.set_cons_zero, List.set_cons_succ]
    refine wpAnyH_take (i := 6) (v := .int .i64 pl) rfl (by kernel_rfl) (by kernel_rfl) (by kernel_rfl) (fun _ _ _ h => h) (Or.inl ⟨by kernel_rfl, ?_⟩) hHeld ?_
    · intro w' hSw
      obtain ⟨s0, s1, s2, s3, s4, s5⟩ := hSw
      first | (go_simp; done) | (go_simp; with_reducible rfl) | (go_simp; rw [IntKind.wrap_i64]; omega) | (go_simp; omega)
    simp only [Act.put, List.setIfInBounds_toArray, List.set_cons_zero, List.set_cons_succ]
    refine wpAnyH_ready (rs := [7]) (by kernel_rfl) (by simp) ?_
    refine AllReadyH.cons rfl (fun KK hK => ?_) AllReadyH.nil
    go_simp
    go_wp2_with (first | (go_at_call 75; refine (isPlace_any p _ n c t m d pl _ p0 p1).mono ?_; rw [e1]; rintro e w3 ⟨rfl, h2⟩; have B3 : Below wd.heap.size wd w3 := B2.trans (h2.mono s2); have s3 := B3.size; clear h2))
    refine hK.out _ _ (⟨keep1 c0 zn B3, keep1 c1 zn B3, keep1 c2 zn B3, keep1 r0 zd B3, keep1 r1 zd B3, keep1 r2 zd B3⟩) (fun hHeld => ?_)
    clear hK KK
    refine wpAnyH_take (i := 8) (v := .bool false) rfl (by kernel_rfl) (by kernel_rfl) (by kernel_rfl) (fun _ _ _ h => h) (Or.inl ⟨by kernel_rfl, ?_⟩) hHeld ?_
    · intro w' hSw
      obtain ⟨s0, s1, s2, s3, s4, s5⟩ := hSw
      first | (go_simp; done) | (go_simp; with_reducible rfl) | (go_simp; rw [IntKind.wrap_i64]; omega) | (go_simp; omega)
    simp only [Act.put, List.setIfInBounds_toArray, List.set_cons_zero, List.set_cons_succ]
    refine wpAnyH_take (i := 9) (v := .bool false) rfl (by kernel_rfl) (by kernel_rfl) (by kernel_rfl) (fun _ _ _ h => h) (Or.inl ⟨by kernel_rfl, ?_⟩) hHeld ?_
    · intro w' hSw
      obtain ⟨s0, s1, s2, s3, s4, s5⟩ := hSw
      first | (go_simp; done) | (go_simp; with_reducible rfl) | (go_simp; rw [IntKind.wrap_i64]; omega) | (go_simp; omega)
    simp only [Act.put, List.setIfInBounds_toArray, List.set_cons_zero, List.set_cons_succ]
    refine wpAnyH_take (i := 10) (v := undef) rfl (by kernel_rfl) (by kernel_rfl) (by kernel_rfl) (fun _ _ _ h => h) (Or.inr ⟨by kernel_rfl, rfl⟩) hHeld ?_
    simp only [Act.put, List.setIfInBounds_toArray, List.set_cons_zero, List.set_cons_succ]
    refine wpAnyH_take (i := 11) (v := undef) rfl (by kernel_rfl) (by kernel_rfl) (by kernel_rfl) (fun _ _ _ h => h) (Or.inr ⟨by kernel_rfl, rfl⟩) hHeld ?_
    simp only [Act.put, List.setIfInBounds_toArray, List.set_cons_zero, List.set_cons_succ]
    refine wpAnyH_take (i := 12) (v := undef) rfl (by kernel_rfl) (by kernel_rfl) (by kernel_rfl) (fun _ _ _ h => h) (Or.inr ⟨by kernel_rfl, rfl⟩) hHeld ?_
    simp only [Act.put, List.setIfInBounds_toArray, List.set_cons_zero, List.set_cons_succ]
    refine wpAnyH_take (i := 13) (v := .bool false) rfl (by kernel_rfl) (by kernel_rfl) (by kernel_rfl) (fun _ _ _ h => h) (Or.inl ⟨by kernel_rfl, ?_⟩) hHeld ?_
    · intro w' hSw
      obtain ⟨s0, s1, s2, s3, s4, s5⟩ := hSw
      first | (go_simp; done) | (go_simp; with_reducible rfl) | (go_simp; rw [IntKind.wrap_i64]; omega) | (go_simp; omega)
    simp only [Act.put, List.setIfInBounds_toArray, List.set_cons_zero, List.set_cons_succ]
    refine wpAnyH_take (i := 14) (v := .bool false) rfl (by kernel_rfl) (by kernel_rfl) (by kernel_rfl) (fun _ _ _ h => h) (Or.inl ⟨by kernel_rfl, ?_⟩) hHeld ?_
    · intro w' hSw
      obtain ⟨s0, s1, s2, s3, s4, s5⟩ := hSw
      first | (go_simp; done) | (go_simp; with_reducible rfl) | (go_simp; rw [IntKind.wrap_i64]; omega) | (go_simp; omega)
    simp only [Act.put, List.setIfInBounds_toArray, List.set_cons_zero, List.set_cons_succ]
    refine wpAnyH_take (i := 15) (v := undef) rfl (by kernel_rfl) (by kernel_rfl) (by kernel_rfl) (fun _ _ _ h => h) (Or.inr ⟨by kernel_rfl, rfl⟩) hHeld ?_
    simp only [Act.put, List.setIfInBounds_toArray, List.set_cons_zero, List.set_cons_succ]
    refine wpAnyH_take (i := 16) (v := undef) rfl (by kernel_rfl) (by kernel_rfl) (by kernel_rfl) (fun _ _ _ h => h) (Or.inr ⟨by kernel_rfl, rfl⟩) hHeld ?_
    simp only [Act.put, List.setIfInBounds_toArray, List.set_cons_zero, List.set_cons_succ]
    refine wpAnyH_take (i := 17) (v := undef) rfl (by kernel_rfl) (by kernel_rfl) (by kernel_rfl) (fun _ _ _ h => h) (Or.inr ⟨by kernel_rfl, rfl⟩) hHeld ?_
    simp only [Act.put, List.setIfInBounds_toArray, List.set_cons_zero, List.set_cons_succ]
    refine wpAnyH_take (i := 18) (v := undef) rfl (by kernel_rfl) (by kernel_rfl) (by kernel_rfl) (fun _ _ _ h => h) (Or.inr ⟨by kernel_rfl, rfl⟩) hHeld ?_
    simp only [Act.put, List.setIfInBounds_toArray, List.set_cons_zero, List.set_cons_succ]
    refine wpAnyH_take (i := 19) (v := undef) rfl (by kernel_rfl) (by kernel_rfl) (by kernel_rfl) (fun _ _ _ h => h) (Or.inr ⟨by kernel_rfl, rfl⟩) hHeld ?_
    simp only [Act.put, List.setIfInBounds_toArray, List.set_cons_zero, List.set_cons_succ]
    refine wpAnyH_take (i := 20) (v := .bool false) rfl (by kernel_rfl) (by kernel_rfl) (by kernel_rfl) (fun _ _ _ h => h) (Or.inl ⟨by kernel_rfl, ?_⟩) hHeld ?_
    · intro w' hSw
      obtain ⟨s0, s1, s2, s3, s4, s5⟩ := hSw
      first | (go_simp; done) | (go_simp; with_reducible rfl) | (go_simp; rw [IntKind.wrap_i64]; omega) | (go_simp; omega)
    simp only [Act.put, List.setIfInBounds_toArray, List.set_cons_zero, List.set_cons_succ]
    refine wpAnyH_ready (rs := [21]) (by kernel_rfl) (by simp) ?_
    refine AllReadyH.cons rfl (fun KK hK => ?_) AllReadyH.nil
    go_simp
    refine hK.out _ _ hHeld (fun hHeld => ?_)
    clear hK KK
    refine wpAnyH_done (by kernel_rfl) ?_ _
    have HO : Hid (fmB p n id pl k v = false) := by show _ = _; unfold fmB; rw [e0, e1]; rfl
    have B9 : Below w.heap.size w w3 := HB.out.trans (B3.mono HB.out.size)
    clear hHeld
    go_wp2
    go_ret
    exact ⟨ret_bool HO.out.symm, (by repeat (first | with_reducible exact Below.refl _ _ | with_reducible exact B9 | with_reducible refine Below.setCell ?_ (by first | omega | (simp; done) | (simp; omega)) _ | with_reducible refine bDrewN ?_ _ | with_reducible refine Below.drew ?_ | with_reducible refine Below.alloc ?_ (by first | omega | (simp; done) | (simp; omega)) _))⟩
  cases e2 : risB v k
  · skip
    refine wp_region_held_drew (S := fun w' => w'.cell? ⟨w.heap.size, 0, none⟩ = some (.int .i64 id) ∧ w'.cell? ⟨w.heap.size, 1, none⟩ = some (.int .i64 pl) ∧ w'.cell? ⟨w.heap.size, 2, none⟩ = some (.slice q k e) ∧ w'.cell? ⟨w.heap.size + 1, 0, none⟩ = some (.int .i64 p) ∧ w'.cell? ⟨w.heap.size + 1, 1, none⟩ = some (.slice s n c) ∧ w'.cell? ⟨w.heap.size + 1, 2, none⟩ = some (.slice t m d)) (by kernel_rfl) ?_ (fun hHeld => ?_)
    · exact ⟨keep1 c0 zn (show Below _ _ _ from (by repeat (first | with_reducible exact Below.refl _ _ | with_reducible refine Below.setCell ?_ (by first | omega | (simp; done) | (simp; omega)) _ | with_reducible refine bDrewN ?_ _ | with_reducible refine Below.drew ?_ | with_reducible refine Below.alloc ?_ (by first | omega | (simp; done) | (simp; omega)) _))), keep1 c1 zn (show Below _ _ _ from (by repeat (first | with_reducible exact Below.refl _ _ | with_reducible refine Below.setCell ?_ (by first | omega | (simp; done) | (simp; omega)) _ | with_reducible refine bDrewN ?_ _ | with_reducible refine Below.drew ?_ | with_reducible refine Below.alloc ?_ (by first | omega | (simp; done) | (simp; omega)) _))), keep1 c2 zn (show Below _ _ _ from (by repeat (first | with_reducible exact Below.refl _ _ | with_reducible refine Below.setCell ?_ (by first | omega | (simp; done) | (simp; omega)) _ | with_reducible refine bDrewN ?_ _ | with_reducible refine Below.drew ?_ | with_reducible refine Below.alloc ?_ (by first | omega | (simp; done) | (simp; omega)) _))), keep1 r0 zd (show Below _ _ _ from (by repeat (first | with_reducible exact Below.refl _ _ | with_reducible refine Below.setCell ?_ (by first | omega | (simp; done) | (simp; omega)) _ | with_reducible refine bDrewN ?_ _ | with_reducible refine Below.drew ?_ | with_reducible refine Below.alloc ?_ (by first | omega | (simp; done) | (simp; omega)) _))), keep1 r1 zd (show Below _ _ _ from (by repeat (first | with_reducible exact Below.refl _ _ | with_reducible refine Below.setCell ?_ (by first | omega | (simp; done) | (simp; omega)) _ | with_reducible refine bDrewN ?_ _ | with_reducible refine Below.drew ?_ | with_reducible refine Below.alloc ?_ (by first | omega | (simp; done) | (simp; omega)) _))), keep1 r2 zd (show Below _ _ _ from (by repeat (first | with_reducible exact Below.refl _ _ | with_reducible refine Below.setCell ?_ (by first | omega | (simp; done) | (simp; omega)) _ | with_reducible refine bDrewN ?_ _ | with_reducible refine Below.drew ?_ | with_reducible refine Below.alloc ?_ (by first | omega | (simp; done) | (simp; omega)) _)))⟩
    refine wpAnyH_take (i := 0) (v := .pointer (some ⟨w.heap.size, 0, none⟩)) rfl (by kernel_rfl) (by kernel_rfl) (by kernel_rfl) (fun _ _ _ h => h) (Or.inl ⟨by kernel_rfl, ?_⟩) hHeld ?_
    · intro w' hSw
      obtain ⟨s0, s1, s2, s3, s4, s5⟩ := hSw
      first | (go_simp; done) | (go_simp; with_reducible rfl) | (go_simp; rw [IntKind.wrap_i64]; omega) | (go_simp; omega)
    simp only [Act.put, List.setIfInBounds_toArray, List.set_cons_zero, List.set_cons_succ]
    refine wpAnyH_take (i := 1) (v := .int .i64 id) rfl (by kernel_rfl) (by kernel_rfl) (by kernel_rfl) (fun _ _ _ h => h) (Or.inl ⟨by kernel_rfl, ?_⟩) hHeld ?_
    · intro w' hSw
      obtain ⟨s0, s1, s2, s3, s4, s5⟩ := hSw
      first | (go_simp; done) | (go_simp; with_reducible rfl) | (go_simp; rw [IntKind.wrap_i64]; omega) | (go_simp; omega)
    simp only [Act.put, List.setIfInBounds_toArray, List.set_cons_zero, List.set_cons_succ]
    refine wpAnyH_ready (rs := [2]) (by kernel_rfl) (by simp) ?_
    refine AllReadyH.cons rfl (fun KK hK => ?_) AllReadyH.nil
    go_simp
    go_wp2_with (first | (go_at_call 101; refine (within_is _ _ _ _).mono ?_; rw [e0]; rintro e w2 ⟨rfl, h2⟩; have B2 : Below wd.heap.size wd w2 := h2 ▸ (by repeat (first | with_reducible exact Below.refl _ _ | with_reducible refine Below.setCell ?_ (by first | omega | (simp; done) | (simp; omega)) _ | with_reducible refine bDrewN ?_ _ | with_reducible refine Below.drew ?_ | with_reducible refine Below.alloc ?_ (by first | omega | (simp; done) | (simp; omega)) _)); have s2 := B2.size; clear h2))
    refine hK.out _ _ (⟨keep1 c0 zn B2, keep1 c1 zn B2, keep1 c2 zn B2, keep1 r0 zd B2, keep1 r1 zd B2, keep1 r2 zd B2⟩) (fun hHeld => ?_)
    clear hK KK
    refine wpAnyH_take (i := 3) (v := .bool true) rfl (by kernel_rfl) (by kernel_rfl) (by kernel_rfl) (fun _ _ _ h => h) (Or.inl ⟨by kernel_rfl, ?_⟩) hHeld ?_
    · intro w' hSw
      obtain ⟨s0, s1, s2, s3, s4, s5⟩ := hSw
      first | (go_simp; done) | (go_simp; with_reducible rfl) | (go_simp; rw [IntKind.wrap_i64]; omega) | (go_simp; omega)
    simp only [Act.put, List.setIfInBounds_toArray, List.set_cons_zero, List.set_cons_succ]
    refine wpAnyH_take (i := 4) (v := .agg #[.int .i64 p, .slice s n c, .slice t m d]) rfl (by kernel_rfl) (by kernel_rfl) (by kernel_rfl) (fun _ _ _ h => h) (Or.inl ⟨by kernel_rfl, ?_⟩) hHeld ?_
    · intro w' hSw
      obtain ⟨s0, s1, s2, s3, s4, s5⟩ := hSw
      first | (go_simp; done) | (go_simp; with_reducible rfl) | (go_simp; rw [IntKind.wrap_i64]; omega) | (go_simp; omega)
    simp only [Act.put, List.setIfInBounds_toArray, List.set_cons_zero, List.set_cons_succ]
    refine wpAnyH_take (i := 5) (v := .pointer (some ⟨w.heap.size, 1, none⟩)) rfl (by kernel_rfl) (by kernel_rfl) (by kernel_rfl) (fun _ _ _ h => h) (Or.inl ⟨by kernel_rfl, ?_⟩) hHeld ?_
    · intro w' hSw
      obtain ⟨s0, s1, s2, s3, s4, s5⟩ := hSw
      first | (go_simp; done) | (go_simp; with_reducible rfl) | (go_simp; rw [IntKind.wrap_i64]; omega) | (go_simp; omega)
    simp only [Act.put, List.setIfInBounds_toArray, List.set_cons_zero, List.set_cons_succ]
    refine wpAnyH_take (i := 6) (v := .int .i64 pl) rfl (by kernel_rfl) (by kernel_rfl) (by kernel_rfl) (fun _ _ _ h => h) (Or.inl ⟨by kernel_rfl, ?_⟩) hHeld ?_
    · intro w' hSw
      obtain ⟨s0, s1, s2, s3, s4, s5⟩ := hSw
      first | (go_simp; done) | (go_simp; with_reducible rfl) | (go_simp; rw [IntKind.wrap_i64]; omega) | (go_simp; omega)
    simp only [Act.put, List.setIfInBounds_toArray, List.set_cons_zero, List.set_cons_succ]
    refine wpAnyH_ready (rs := [7]) (by kernel_rfl) (by simp) ?_
    refine AllReadyH.cons rfl (fun KK hK => ?_) AllReadyH.nil
    go_simp
    go_wp2_with (first | (go_at_call 75; refine (isPlace_any p _ n c t m d pl _ p0 p1).mono ?_; rw [e1]; rintro e w3 ⟨rfl, h2⟩; have B3 : Below wd.heap.size wd w3 := B2.trans (h2.mono s2); have s3 := B3.size; clear h2))
    refine hK.out _ _ (⟨keep1 c0 zn B3, keep1 c1 zn B3, keep1 c2 zn B3, keep1 r0 zd B3, keep1 r1 zd B3, keep1 r2 zd B3⟩) (fun hHeld => ?_)
    clear hK KK
    refine wpAnyH_take (i := 8) (v := .bool true) rfl (by kernel_rfl) (by kernel_rfl) (by kernel_rfl) (fun _ _ _ h => h) (Or.inl ⟨by kernel_rfl, ?_⟩) hHeld ?_
    · intro w' hSw
      obtain ⟨s0, s1, s2, s3, s4, s5⟩ := hSw
      first | (go_simp; done) | (go_simp; with_reducible rfl) | (go_simp; rw [IntKind.wrap_i64]; omega) | (go_simp; omega)
    simp only [Act.put, List.setIfInBounds_toArray, List.set_cons_zero, List.set_cons_succ]
    refine wpAnyH_take (i := 9) (v := .bool true) rfl (by kernel_rfl) (by kernel_rfl) (by kernel_rfl) (fun _ _ _ h => h) (Or.inl ⟨by kernel_rfl, ?_⟩) hHeld ?_
    · intro w' hSw
      obtain ⟨s0, s1, s2, s3, s4, s5⟩ := hSw
      first | (go_simp; done) | (go_simp; with_reducible rfl) | (go_simp; rw [IntKind.wrap_i64]; omega) | (go_simp; omega)
    simp only [Act.put, List.setIfInBounds_toArray, List.set_cons_zero, List.set_cons_succ]
    refine wpAnyH_take (i := 10) (v := .pointer (some ⟨w.heap.size, 2, none⟩)) rfl (by kernel_rfl) (by kernel_rfl) (by kernel_rfl) (fun _ _ _ h => h) (Or.inl ⟨by kernel_rfl, ?_⟩) hHeld ?_
    · intro w' hSw
      obtain ⟨s0, s1, s2, s3, s4, s5⟩ := hSw
      first | (go_simp; done) | (go_simp; with_reducible rfl) | (go_simp; rw [IntKind.wrap_i64]; omega) | (go_simp; omega)
    simp only [Act.put, List.setIfInBounds_toArray, List.set_cons_zero, List.set_cons_succ]
    refine wpAnyH_take (i := 11) (v := .slice q k e) rfl (by kernel_rfl) (by kernel_rfl) (by kernel_rfl) (fun _ _ _ h => h) (Or.inl ⟨by kernel_rfl, ?_⟩) hHeld ?_
    · intro w' hSw
      obtain ⟨s0, s1, s2, s3, s4, s5⟩ := hSw
      first | (go_simp; done) | (go_simp; with_reducible rfl) | (go_simp; rw [IntKind.wrap_i64]; omega) | (go_simp; omega)
    simp only [Act.put, List.setIfInBounds_toArray, List.set_cons_zero, List.set_cons_succ]
    refine wpAnyH_ready (rs := [12]) (by kernel_rfl) (by simp) ?_
    refine AllReadyH.cons rfl (fun KK hK => ?_) AllReadyH.nil
    go_simp
    go_wp2_with (first | (go_at_call 82; refine (rises_any q k e v _ hk (HV.out.below (HB.out.trans (B3.mono HB.out.size)))).mono ?_; rw [e2]; rintro e w4 ⟨rfl, h2⟩; have B4 : Below wd.heap.size wd w4 := B3.trans (h2.mono s3); have s4 := B4.size; clear h2))
    refine hK.out _ _ (⟨keep1 c0 zn B4, keep1 c1 zn B4, keep1 c2 zn B4, keep1 r0 zd B4, keep1 r1 zd B4, keep1 r2 zd B4⟩) (fun hHeld => ?_)
    clear hK KK
    refine wpAnyH_take (i := 13) (v := .bool false) rfl (by kernel_rfl) (by kernel_rfl) (by kernel_rfl) (fun _ _ _ h => h) (Or.inl ⟨by kernel_rfl, ?_⟩) hHeld ?_
    · intro w' hSw
      obtain ⟨s0, s1, s2, s3, s4, s5⟩ := hSw
      first | (go_simp; done) | (go_simp; with_reducible rfl) | (go_simp; rw [IntKind.wrap_i64]; omega) | (go_simp; omega)
    simp only [Act.put, List.setIfInBounds_toArray, List.set_cons_zero, List.set_cons_succ]
    refine wpAnyH_take (i := 14) (v := .bool false) rfl (by kernel_rfl) (by kernel_rfl) (by kernel_rfl) (fun _ _ _ h => h) (Or.inl ⟨by kernel_rfl, ?_⟩) hHeld ?_
    · intro w' hSw
      obtain ⟨s0, s1, s2, s3, s4, s5⟩ := hSw
      first | (go_simp; done) | (go_simp; with_reducible rfl) | (go_simp; rw [IntKind.wrap_i64]; omega) | (go_simp; omega)
    simp only [Act.put, List.setIfInBounds_toArray, List.set_cons_zero, List.set_cons_succ]
    refine wpAnyH_take (i := 15) (v := undef) rfl (by kernel_rfl) (by kernel_rfl) (by kernel_rfl) (fun _ _ _ h => h) (Or.inr ⟨by kernel_rfl, rfl⟩) hHeld ?_
    simp only [Act.put, List.setIfInBounds_toArray, List.set_cons_zero, List.set_cons_succ]
    refine wpAnyH_take (i := 16) (v := undef) rfl (by kernel_rfl) (by kernel_rfl) (by kernel_rfl) (fun _ _ _ h => h) (Or.inr ⟨by kernel_rfl, rfl⟩) hHeld ?_
    simp only [Act.put, List.setIfInBounds_toArray, List.set_cons_zero, List.set_cons_succ]
    refine wpAnyH_take (i := 17) (v := undef) rfl (by kernel_rfl) (by kernel_rfl) (by kernel_rfl) (fun _ _ _ h => h) (Or.inr ⟨by kernel_rfl, rfl⟩) hHeld ?_
    simp only [Act.put, List.setIfInBounds_toArray, List.set_cons_zero, List.set_cons_succ]
    refine wpAnyH_take (i := 18) (v := undef) rfl (by kernel_rfl) (by kernel_rfl) (by kernel_rfl) (fun _ _ _ h => h) (Or.inr ⟨by kernel_rfl, rfl⟩) hHeld ?_
    simp only [Act.put, List.setIfInBounds_toArray, List.set_cons_zero, List.set_cons_succ]
    refine wpAnyH_take (i := 19) (v := undef) rfl (by kernel_rfl) (by kernel_rfl) (by kernel_rfl) (fun _ _ _ h => h) (Or.inr ⟨by kernel_rfl, rfl⟩) hHeld ?_
    simp only [Act.put, List.setIfInBounds_toArray, List.set_cons_zero, List.set_cons_succ]
    refine wpAnyH_take (i := 20) (v := .bool false) rfl (by kernel_rfl) (by kernel_rfl) (by kernel_rfl) (fun _ _ _ h => h) (Or.inl ⟨by kernel_rfl, ?_⟩) hHeld ?_
    · intro w' hSw
      obtain ⟨s0, s1, s2, s3, s4, s5⟩ := hSw
      first | (go_simp; done) | (go_simp; with_reducible rfl) | (go_simp; rw [IntKind.wrap_i64]; omega) | (go_simp; omega)
    simp only [Act.put, List.setIfInBounds_toArray, List.set_cons_zero, List.set_cons_succ]
    refine wpAnyH_ready (rs := [21]) (by kernel_rfl) (by simp) ?_
    refine AllReadyH.cons rfl (fun KK hK => ?_) AllReadyH.nil
    go_simp
    refine hK.out _ _ hHeld (fun hHeld => ?_)
    clear hK KK
    refine wpAnyH_done (by kernel_rfl) ?_ _
    have HO : Hid (fmB p n id pl k v = false) := by show _ = _; unfold fmB; rw [e0, e1, e2]; rfl
    have B9 : Below w.heap.size w w4 := HB.out.trans (B4.mono HB.out.size)
    clear hHeld
    go_wp2
    go_ret
    exact ⟨ret_bool HO.out.symm, (by repeat (first | with_reducible exact Below.refl _ _ | with_reducible exact B9 | with_reducible refine Below.setCell ?_ (by first | omega | (simp; done) | (simp; omega)) _ | with_reducible refine bDrewN ?_ _ | with_reducible refine Below.drew ?_ | with_reducible refine Below.alloc ?_ (by first | omega | (simp; done) | (simp; omega)) _))⟩
  refine wp_region_held_drew (S := fun w' => w'.cell? ⟨w.heap.size, 0, none⟩ = some (.int .i64 id) ∧ w'.cell? ⟨w.heap.size, 1, none⟩ = some (.int .i64 pl) ∧ w'.cell? ⟨w.heap.size, 2, none⟩ = some (.slice q k e) ∧ w'.cell? ⟨w.heap.size + 1, 0, none⟩ = some (.int .i64 p) ∧ w'.cell? ⟨w.heap.size + 1, 1, none⟩ = some (.slice s n c) ∧ w'.cell? ⟨w.heap.size + 1, 2, none⟩ = some (.slice t m d)) (by kernel_rfl) ?_ (fun hHeld => ?_)
  · exact ⟨keep1 c0 zn (show Below _ _ _ from (by repeat (first | with_reducible exact Below.refl _ _ | with_reducible refine Below.setCell ?_ (by first | omega | (simp; done) | (simp; omega)) _ | with_reducible refine bDrewN ?_ _ | with_reducible refine Below.drew ?_ | with_reducible refine Below.alloc ?_ (by first | omega | (simp; done) | (simp; omega)) _))), keep1 c1 zn (show Below _ _ _ from (by repeat (first | with_reducible exact Below.refl _ _ | with_reducible refine Below.setCell ?_ (by first | omega | (simp; done) | (simp; omega)) _ | with_reducible refine bDrewN ?_ _ | with_reducible refine Below.drew ?_ | with_reducible refine Below.alloc ?_ (by first | omega | (simp; done) | (simp; omega)) _))), keep1 c2 zn (show Below _ _ _ from (by repeat (first | with_reducible exact Below.refl _ _ | with_reducible refine Below.setCell ?_ (by first | omega | (simp; done) | (simp; omega)) _ | with_reducible refine bDrewN ?_ _ | with_reducible refine Below.drew ?_ | with_reducible refine Below.alloc ?_ (by first | omega | (simp; done) | (simp; omega)) _))), keep1 r0 zd (show Below _ _ _ from (by repeat (first | with_reducible exact Below.refl _ _ | with_reducible refine Below.setCell ?_ (by first | omega | (simp; done) | (simp; omega)) _ | with_reducible refine bDrewN ?_ _ | with_reducible refine Below.drew ?_ | with_reducible refine Below.alloc ?_ (by first | omega | (simp; done) | (simp; omega)) _))), keep1 r1 zd (show Below _ _ _ from (by repeat (first | with_reducible exact Below.refl _ _ | with_reducible refine Below.setCell ?_ (by first | omega | (simp; done) | (simp; omega)) _ | with_reducible refine bDrewN ?_ _ | with_reducible refine Below.drew ?_ | with_reducible refine Below.alloc ?_ (by first | omega | (simp; done) | (simp; omega)) _))), keep1 r2 zd (show Below _ _ _ from (by repeat (first | with_reducible exact Below.refl _ _ | with_reducible refine Below.setCell ?_ (by first | omega | (simp; done) | (simp; omega)) _ | with_reducible refine bDrewN ?_ _ | with_reducible refine Below.drew ?_ | with_reducible refine Below.alloc ?_ (by first | omega | (simp; done) | (simp; omega)) _)))⟩
  refine wpAnyH_take (i := 0) (v := .pointer (some ⟨w.heap.size, 0, none⟩)) rfl (by kernel_rfl) (by kernel_rfl) (by kernel_rfl) (fun _ _ _ h => h) (Or.inl ⟨by kernel_rfl, ?_⟩) hHeld ?_
  · intro w' hSw
    obtain ⟨s0, s1, s2, s3, s4, s5⟩ := hSw
    first | (go_simp; done) | (go_simp; with_reducible rfl) | (go_simp; rw [IntKind.wrap_i64]; omega) | (go_simp; omega)
  simp only [Act.put, List.setIfInBounds_toArray, List.set_cons_zero, List.set_cons_succ]
  refine wpAnyH_take (i := 1) (v := .int .i64 id) rfl (by kernel_rfl) (by kernel_rfl) (by kernel_rfl) (fun _ _ _ h => h) (Or.inl ⟨by kernel_rfl, ?_⟩) hHeld ?_
  · intro w' hSw
    obtain ⟨s0, s1, s2, s3, s4, s5⟩ := hSw
    first | (go_simp; done) | (go_simp; with_reducible rfl) | (go_simp; rw [IntKind.wrap_i64]; omega) | (go_simp; omega)
  simp only [Act.put, List.setIfInBounds_toArray, List.set_cons_zero, List.set_cons_succ]
  refine wpAnyH_ready (rs := [2]) (by kernel_rfl) (by simp) ?_
  refine AllReadyH.cons rfl (fun KK hK => ?_) AllReadyH.nil
  go_simp
  go_wp2_with (first | (go_at_call 101; refine (within_is _ _ _ _).mono ?_; rw [e0]; rintro e w2 ⟨rfl, h2⟩; have B2 : Below wd.heap.size wd w2 := h2 ▸ (by repeat (first | with_reducible exact Below.refl _ _ | with_reducible refine Below.setCell ?_ (by first | omega | (simp; done) | (simp; omega)) _ | with_reducible refine bDrewN ?_ _ | with_reducible refine Below.drew ?_ | with_reducible refine Below.alloc ?_ (by first | omega | (simp; done) | (simp; omega)) _)); have s2 := B2.size; clear h2))
  refine hK.out _ _ (⟨keep1 c0 zn B2, keep1 c1 zn B2, keep1 c2 zn B2, keep1 r0 zd B2, keep1 r1 zd B2, keep1 r2 zd B2⟩) (fun hHeld => ?_)
  clear hK KK
  refine wpAnyH_take (i := 3) (v := .bool true) rfl (by kernel_rfl) (by kernel_rfl) (by kernel_rfl) (fun _ _ _ h => h) (Or.inl ⟨by kernel_rfl, ?_⟩) hHeld ?_
  · intro w' hSw
    obtain ⟨s0, s1, s2, s3, s4, s5⟩ := hSw
    first | (go_simp; done) | (go_simp; with_reducible rfl) | (go_simp; rw [IntKind.wrap_i64]; omega) | (go_simp; omega)
  simp only [Act.put, List.setIfInBounds_toArray, List.set_cons_zero, List.set_cons_succ]
  refine wpAnyH_take (i := 4) (v := .agg #[.int .i64 p, .slice s n c, .slice t m d]) rfl (by kernel_rfl) (by kernel_rfl) (by kernel_rfl) (fun _ _ _ h => h) (Or.inl ⟨by kernel_rfl, ?_⟩) hHeld ?_
  · intro w' hSw
    obtain ⟨s0, s1, s2, s3, s4, s5⟩ := hSw
    first | (go_simp; done) | (go_simp; with_reducible rfl) | (go_simp; rw [IntKind.wrap_i64]; omega) | (go_simp; omega)
  simp only [Act.put, List.setIfInBounds_toArray, List.set_cons_zero, List.set_cons_succ]
  refine wpAnyH_take (i := 5) (v := .pointer (some ⟨w.heap.size, 1, none⟩)) rfl (by kernel_rfl) (by kernel_rfl) (by kernel_rfl) (fun _ _ _ h => h) (Or.inl ⟨by kernel_rfl, ?_⟩) hHeld ?_
  · intro w' hSw
    obtain ⟨s0, s1, s2, s3, s4, s5⟩ := hSw
    first | (go_simp; done) | (go_simp; with_reducible rfl) | (go_simp; rw [IntKind.wrap_i64]; omega) | (go_simp; omega)
  simp only [Act.put, List.setIfInBounds_toArray, List.set_cons_zero, List.set_cons_succ]
  refine wpAnyH_take (i := 6) (v := .int .i64 pl) rfl (by kernel_rfl) (by kernel_rfl) (by kernel_rfl) (fun _ _ _ h => h) (Or.inl ⟨by kernel_rfl, ?_⟩) hHeld ?_
  · intro w' hSw
    obtain ⟨s0, s1, s2, s3, s4, s5⟩ := hSw
    first | (go_simp; done) | (go_simp; with_reducible rfl) | (go_simp; rw [IntKind.wrap_i64]; omega) | (go_simp; omega)
  simp only [Act.put, List.setIfInBounds_toArray, List.set_cons_zero, List.set_cons_succ]
  refine wpAnyH_ready (rs := [7]) (by kernel_rfl) (by simp) ?_
  refine AllReadyH.cons rfl (fun KK hK => ?_) AllReadyH.nil
  go_simp
  go_wp2_with (first | (go_at_call 75; refine (isPlace_any p _ n c t m d pl _ p0 p1).mono ?_; rw [e1]; rintro e w3 ⟨rfl, h2⟩; have B3 : Below wd.heap.size wd w3 := B2.trans (h2.mono s2); have s3 := B3.size; clear h2))
  refine hK.out _ _ (⟨keep1 c0 zn B3, keep1 c1 zn B3, keep1 c2 zn B3, keep1 r0 zd B3, keep1 r1 zd B3, keep1 r2 zd B3⟩) (fun hHeld => ?_)
  clear hK KK
  refine wpAnyH_take (i := 8) (v := .bool true) rfl (by kernel_rfl) (by kernel_rfl) (by kernel_rfl) (fun _ _ _ h => h) (Or.inl ⟨by kernel_rfl, ?_⟩) hHeld ?_
  · intro w' hSw
    obtain ⟨s0, s1, s2, s3, s4, s5⟩ := hSw
    first | (go_simp; done) | (go_simp; with_reducible rfl) | (go_simp; rw [IntKind.wrap_i64]; omega) | (go_simp; omega)
  simp only [Act.put, List.setIfInBounds_toArray, List.set_cons_zero, List.set_cons_succ]
  refine wpAnyH_take (i := 9) (v := .bool true) rfl (by kernel_rfl) (by kernel_rfl) (by kernel_rfl) (fun _ _ _ h => h) (Or.inl ⟨by kernel_rfl, ?_⟩) hHeld ?_
  · intro w' hSw
    obtain ⟨s0, s1, s2, s3, s4, s5⟩ := hSw
    first | (go_simp; done) | (go_simp; with_reducible rfl) | (go_simp; rw [IntKind.wrap_i64]; omega) | (go_simp; omega)
  simp only [Act.put, List.setIfInBounds_toArray, List.set_cons_zero, List.set_cons_succ]
  refine wpAnyH_take (i := 10) (v := .pointer (some ⟨w.heap.size, 2, none⟩)) rfl (by kernel_rfl) (by kernel_rfl) (by kernel_rfl) (fun _ _ _ h => h) (Or.inl ⟨by kernel_rfl, ?_⟩) hHeld ?_
  · intro w' hSw
    obtain ⟨s0, s1, s2, s3, s4, s5⟩ := hSw
    first | (go_simp; done) | (go_simp; with_reducible rfl) | (go_simp; rw [IntKind.wrap_i64]; omega) | (go_simp; omega)
  simp only [Act.put, List.setIfInBounds_toArray, List.set_cons_zero, List.set_cons_succ]
  refine wpAnyH_take (i := 11) (v := .slice q k e) rfl (by kernel_rfl) (by kernel_rfl) (by kernel_rfl) (fun _ _ _ h => h) (Or.inl ⟨by kernel_rfl, ?_⟩) hHeld ?_
  · intro w' hSw
    obtain ⟨s0, s1, s2, s3, s4, s5⟩ := hSw
    first | (go_simp; done) | (go_simp; with_reducible rfl) | (go_simp; rw [IntKind.wrap_i64]; omega) | (go_simp; omega)
  simp only [Act.put, List.setIfInBounds_toArray, List.set_cons_zero, List.set_cons_succ]
  refine wpAnyH_ready (rs := [12]) (by kernel_rfl) (by simp) ?_
  refine AllReadyH.cons rfl (fun KK hK => ?_) AllReadyH.nil
  go_simp
  go_wp2_with (first | (go_at_call 82; refine (rises_any q k e v _ hk (HV.out.below (HB.out.trans (B3.mono HB.out.size)))).mono ?_; rw [e2]; rintro e w4 ⟨rfl, h2⟩; have B4 : Below wd.heap.size wd w4 := B3.trans (h2.mono s3); have s4 := B4.size; clear h2))
  refine hK.out _ _ (⟨keep1 c0 zn B4, keep1 c1 zn B4, keep1 c2 zn B4, keep1 r0 zd B4, keep1 r1 zd B4, keep1 r2 zd B4⟩) (fun hHeld => ?_)
  clear hK KK
  refine wpAnyH_take (i := 13) (v := .bool true) rfl (by kernel_rfl) (by kernel_rfl) (by kernel_rfl) (fun _ _ _ h => h) (Or.inl ⟨by kernel_rfl, ?_⟩) hHeld ?_
  · intro w' hSw
    obtain ⟨s0, s1, s2, s3, s4, s5⟩ := hSw
    first | (go_simp; done) | (go_simp; with_reducible rfl) | (go_simp; rw [IntKind.wrap_i64]; omega) | (go_simp; omega)
  simp only [Act.put, List.setIfInBounds_toArray, List.set_cons_zero, List.set_cons_succ]
  refine wpAnyH_take (i := 14) (v := .bool true) rfl (by kernel_rfl) (by kernel_rfl) (by kernel_rfl) (fun _ _ _ h => h) (Or.inl ⟨by kernel_rfl, ?_⟩) hHeld ?_
  · intro w' hSw
    obtain ⟨s0, s1, s2, s3, s4, s5⟩ := hSw
    first | (go_simp; done) | (go_simp; with_reducible rfl) | (go_simp; rw [IntKind.wrap_i64]; omega) | (go_simp; omega)
  simp only [Act.put, List.setIfInBounds_toArray, List.set_cons_zero, List.set_cons_succ]
  refine wpAnyH_take (i := 15) (v := .pointer (some ⟨w.heap.size, 2, none⟩)) rfl (by kernel_rfl) (by kernel_rfl) (by kernel_rfl) (fun _ _ _ h => h) (Or.inl ⟨by kernel_rfl, ?_⟩) hHeld ?_
  · intro w' hSw
    obtain ⟨s0, s1, s2, s3, s4, s5⟩ := hSw
    first | (go_simp; done) | (go_simp; with_reducible rfl) | (go_simp; rw [IntKind.wrap_i64]; omega) | (go_simp; omega)
  simp only [Act.put, List.setIfInBounds_toArray, List.set_cons_zero, List.set_cons_succ]
  refine wpAnyH_take (i := 16) (v := .slice q k e) rfl (by kernel_rfl) (by kernel_rfl) (by kernel_rfl) (fun _ _ _ h => h) (Or.inl ⟨by kernel_rfl, ?_⟩) hHeld ?_
  · intro w' hSw
    obtain ⟨s0, s1, s2, s3, s4, s5⟩ := hSw
    first | (go_simp; done) | (go_simp; with_reducible rfl) | (go_simp; rw [IntKind.wrap_i64]; omega) | (go_simp; omega)
  simp only [Act.put, List.setIfInBounds_toArray, List.set_cons_zero, List.set_cons_succ]
  refine wpAnyH_take (i := 17) (v := .agg #[.int .i64 p, .slice s n c, .slice t m d]) rfl (by kernel_rfl) (by kernel_rfl) (by kernel_rfl) (fun _ _ _ h => h) (Or.inl ⟨by kernel_rfl, ?_⟩) hHeld ?_
  · intro w' hSw
    obtain ⟨s0, s1, s2, s3, s4, s5⟩ := hSw
    first | (go_simp; done) | (go_simp; with_reducible rfl) | (go_simp; rw [IntKind.wrap_i64]; omega) | (go_simp; omega)
  simp only [Act.put, List.setIfInBounds_toArray, List.set_cons_zero, List.set_cons_succ]
  refine wpAnyH_ready (rs := [18]) (by kernel_rfl) (by simp) ?_
  refine AllReadyH.cons rfl (fun KK hK => ?_) AllReadyH.nil
  go_simp
  go_wp2_with (first | (go_at_call 107; refine (lastValve_any p s n c D t m d S _ n1).mono ?_; rintro e w5 ⟨rfl, h2⟩; have B5 : Below wd.heap.size wd w5 := B4.trans (h2.mono s4); have s5 := B5.size; clear h2))
  refine hK.out _ _ (⟨keep1 c0 zn B5, keep1 c1 zn B5, keep1 c2 zn B5, keep1 r0 zd B5, keep1 r1 zd B5, keep1 r2 zd B5⟩) (fun hHeld => ?_)
  clear hK KK
  refine wpAnyH_ready (rs := [19]) (by kernel_rfl) (by simp) ?_
  refine AllReadyH.cons rfl (fun KK hK => ?_) AllReadyH.nil
  go_simp
  go_wp2_with (first | (go_at_call 102; refine (allWithin_any q k e v _ _ _ hk (HV.out.below (HB.out.trans (B5.mono HB.out.size)))).mono ?_; rintro e w6 ⟨rfl, h2⟩; have B6 : Below wd.heap.size wd w6 := h2 ▸ B5; clear h2))
  refine hK.out _ _ (⟨keep1 c0 zn B6, keep1 c1 zn B6, keep1 c2 zn B6, keep1 r0 zd B6, keep1 r1 zd B6, keep1 r2 zd B6⟩) (fun hHeld => ?_)
  clear hK KK
  refine wpAnyH_take (i := 20) (v := .bool (allInB 0 ((n : Int) - 1) v k)) rfl (by kernel_rfl) (by kernel_rfl) (by kernel_rfl) (fun _ _ _ h => h) (Or.inl ⟨by kernel_rfl, ?_⟩) hHeld ?_
  · intro w' hSw
    obtain ⟨s0, s1, s2, s3, s4, s5⟩ := hSw
    first | (go_simp; done) | (go_simp; with_reducible rfl) | (go_simp; rw [IntKind.wrap_i64]; omega) | (go_simp; omega)
  simp only [Act.put, List.setIfInBounds_toArray, List.set_cons_zero, List.set_cons_succ]
  refine wpAnyH_ready (rs := [21]) (by kernel_rfl) (by simp) ?_
  refine AllReadyH.cons rfl (fun KK hK => ?_) AllReadyH.nil
  go_simp
  refine hK.out _ _ hHeld (fun hHeld => ?_)
  clear hK KK
  refine wpAnyH_done (by kernel_rfl) ?_ _
  have HO : Hid (fmB p n id pl k v = allInB 0 ((n : Int) - 1) v k) := by show _ = _; unfold fmB; rw [e0, e1, e2]; rfl
  have B9 : Below w.heap.size w w6 := HB.out.trans (B6.mono HB.out.size)
  clear hHeld
  go_wp2
  go_ret
  exact ⟨ret_bool HO.out.symm, (by repeat (first | with_reducible exact Below.refl _ _ | with_reducible exact B9 | with_reducible refine Below.setCell ?_ (by first | omega | (simp; done) | (simp; omega)) _ | with_reducible refine bDrewN ?_ _ | with_reducible refine Below.drew ?_ | with_reducible refine Below.alloc ?_ (by first | omega | (simp; done) | (simp; omega)) _))⟩
def refV (p : Int) (n : Nat) (D : Nat → Int × Int) (m : Nat) (S : Nat → Int) (nb : Nat) (X Y : Nat → Int) (id pl : Int) (k : Nat) (v : Nat → Int) : Int := if fmB p n id pl k v = true then (if hasB X nb id = true then 3 else if freeB Y nb pl = true then (if cutB p n D m S k v pl = true then (if 20 ≤ nb then 6 else 0) else 5) else 4) else 2
set_option maxRecDepth 20000 in
set_option maxHeartbeats 8000000 in
theorem refusal_any (bs : Option Addr) (nb bc : Nat) (X Y : Nat → Int) (K : Nat → Nat) (V : Nat → Nat → Int) (p : Int) (s : Option Addr) (n c : Nat) (D : Nat → Int × Int) (t : Option Addr) (m d : Nat) (S : Nat → Int) (id pl : Int) (q : Option Addr) (k e : Nat) (v : Nat → Int) (w : World) (hN : Hid (netB p n D m S = true)) (hb : (nb : Int) ≤ 1048576) (hk : (k : Int) ≤ 1048576) (hn : (n : Int) ≤ 1048576) (hm : (m : Int) ≤ 1048576) (HD : Hid (RowDuct w s n D)) (HS : Hid (RowI w t m S)) (HB : Hid (RowPer w bs nb X Y K V)) (HV : Hid (RowI w q k v)) :
    Calls Try.prog 52 #[.agg #[.slice bs nb bc], .agg #[.int .i64 p, .slice s n c, .slice t m d], .agg #[.int .i64 id, .int .i64 pl, .slice q k e]] w fun e w' => e = .returned (.int .i64 (refV p n D m S nb X Y id pl k v)) ∧ Below w.heap.size w w' := by
  obtain ⟨⟨p0, p1⟩, n40, -, -, -⟩ := net_yes hN.out
  go_enter Try.func52, Try.ntmps52
  go_wp2_with fail
  obtain ⟨wd, hwd⟩ : ∃ wd, wd = ((w.alloc (.cells #[.slice bs nb bc] 36)).alloc (.cells #[.int .i64 p, .slice s n c, .slice t m d] 41)).alloc (.cells #[.int .i64 id, .int .i64 pl, .slice q k e] 44) := ⟨_, rfl⟩
  rw [← hwd]
  have B0 : Below w.heap.size w wd := by rw [hwd]; exact (by repeat (first | with_reducible exact Below.refl _ _ | with_reducible refine Below.setCell ?_ (by first | omega | (simp; done) | (simp; omega)) _ | with_reducible refine bDrewN ?_ _ | with_reducible refine Below.drew ?_ | with_reducible refine Below.alloc ?_ (by first | omega | (simp; done) | (simp; omega)) _))
  have b0 : wd.cell? ⟨w.heap.size, 0, none⟩ = some (.slice bs nb bc) := by rw [hwd]; simp [go_sem]
  have r0 : wd.cell? ⟨w.heap.size + 1, 0, none⟩ = some (.int .i64 p) := by rw [hwd]; simp [go_sem]
  have r1 : wd.cell? ⟨w.heap.size + 1, 1, none⟩ = some (.slice s n c) := by rw [hwd]; simp [go_sem]
  have r2 : wd.cell? ⟨w.heap.size + 1, 2, none⟩ = some (.slice t m d) := by rw [hwd]; simp [go_sem]
  have c0 : wd.cell? ⟨w.heap.size + 1 + 1, 0, none⟩ = some (.int .i64 id) := by rw [hwd]; simp [go_sem]
  have c1 : wd.cell? ⟨w.heap.size + 1 + 1, 1, none⟩ = some (.int .i64 pl) := by rw [hwd]; simp [go_sem]
  have c2 : wd.cell? ⟨w.heap.size + 1 + 1, 2, none⟩ = some (.slice q k e) := by rw [hwd]; simp [go_sem]
  have zd : w.heap.size + 1 + 1 < wd.heap.size := by rw [hwd]; simp
  have zn : w.heap.size + 1 < wd.heap.size := by omega
  have zb : w.heap.size < wd.heap.size := by omega
  clear hwd
  refine (formed_any p s n c D t m d S id pl q k e v _ p0 p1 n40 hk (HV.out.below B0)).mono ?_
  rintro e' w1 ⟨rfl, h1⟩
  replace b0 := keep1 b0 zb h1
  replace r0 := keep1 r0 zn h1
  replace c0 := keep1 c0 zd h1
  replace r1 := keep1 r1 zn h1
  replace c1 := keep1 c1 zd h1
  replace r2 := keep1 r2 zn h1
  replace c2 := keep1 c2 zd h1
  replace zd := Nat.lt_of_lt_of_le zd h1.size
  replace zn := Nat.lt_of_lt_of_le zn h1.size
  replace zb := Nat.lt_of_lt_of_le zb h1.size
  replace B0 : Below w.heap.size w w1 := B0.trans (h1.mono B0.size)
  clear h1
  cases e0 : fmB p n id pl k v
  · have HO : Hid (refV p n D m S nb X Y id pl k v = 2) := by show _ = _; unfold refV; rw [e0]; rfl
    go_wp2
    go_ret
    exact ⟨ret_int HO.out.symm, (by repeat (first | with_reducible exact Below.refl _ _ | with_reducible exact B0 | with_reducible refine Below.setCell ?_ (by first | omega | (simp; done) | (simp; omega)) _ | with_reducible refine bDrewN ?_ _ | with_reducible refine Below.drew ?_ | with_reducible refine Below.alloc ?_ (by first | omega | (simp; done) | (simp; omega)) _))⟩
  have HI : Hid (∀ w', Below w.heap.size w w' → Calls Try.prog 54 #[.agg #[.slice bs nb bc]] w' fun e w'' => ∃ g, e = .returned (.slice (some ⟨g, 0, none⟩) nb nb) ∧ RowI w'' (some ⟨g, 0, none⟩) nb X ∧ Below w'.heap.size w' w'') := fun w' hx => ids_any bs nb bc X Y K V w' hb (HB.out.below hx)
  have HBB : Hid (Below w.heap.size w w1) := B0
  go_upto_region 3 with fail
  go_cut [12] (fun y wx => y = .bool (hasB X nb id) ∧ Below w1.heap.size w1 wx)
  case first =>
    refine wp_region_held_drew (S := fun w' => w'.cell? ⟨w.heap.size, 0, none⟩ = some (.slice bs nb bc) ∧ w'.cell? ⟨w.heap.size + 1 + 1, 0, none⟩ = some (.int .i64 id)) (by kernel_rfl) ?_ (fun hHeld => ?_)
    · exact ⟨keep1 b0 zb (show Below _ _ _ from (by repeat (first | with_reducible exact Below.refl _ _ | with_reducible refine Below.setCell ?_ (by first | omega | (simp; done) | (simp; omega)) _ | with_reducible refine bDrewN ?_ _ | with_reducible refine Below.drew ?_ | with_reducible refine Below.alloc ?_ (by first | omega | (simp; done) | (simp; omega)) _))), keep1 c0 zd (show Below _ _ _ from (by repeat (first | with_reducible exact Below.refl _ _ | with_reducible refine Below.setCell ?_ (by first | omega | (simp; done) | (simp; omega)) _ | with_reducible refine bDrewN ?_ _ | with_reducible refine Below.drew ?_ | with_reducible refine Below.alloc ?_ (by first | omega | (simp; done) | (simp; omega)) _)))⟩
    refine wpAnyH_take (i := 0) (v := .agg #[.slice bs nb bc]) rfl (by kernel_rfl) (by kernel_rfl) (by kernel_rfl) (fun _ _ _ h => h) (Or.inl ⟨by kernel_rfl, ?_⟩) hHeld ?_
    · intro w' hSw
      obtain ⟨s0, s1⟩ := hSw
      first | (go_simp; done) | (go_simp; with_reducible rfl) | (go_simp; rw [IntKind.wrap_i64]; omega) | (go_simp; omega)
    simp only [Act.put, List.setIfInBounds_toArray, List.set_cons_zero, List.set_cons_succ]
    refine wpAnyH_take (i := 2) (v := .pointer (some ⟨w.heap.size + 1 + 1, 0, none⟩)) rfl (by kernel_rfl) (by kernel_rfl) (by kernel_rfl) (fun _ _ _ h => h) (Or.inl ⟨by kernel_rfl, ?_⟩) hHeld ?_
    · intro w' hSw
      obtain ⟨s0, s1⟩ := hSw
      first | (go_simp; done) | (go_simp; with_reducible rfl) | (go_simp; rw [IntKind.wrap_i64]; omega) | (go_simp; omega)
    simp only [Act.put, List.setIfInBounds_toArray, List.set_cons_zero, List.set_cons_succ]
    refine wpAnyH_take (i := 3) (v := .int .i64 id) rfl (by kernel_rfl) (by kernel_rfl) (by kernel_rfl) (fun _ _ _ h => h) (Or.inl ⟨by kernel_rfl, ?_⟩) hHeld ?_
    · intro w' hSw
      obtain ⟨s0, s1⟩ := hSw
      first | (go_simp; done) | (go_simp; with_reducible rfl) | (go_simp; rw [IntKind.wrap_i64]; omega) | (go_simp; omega)
    simp only [Act.put, List.setIfInBounds_toArray, List.set_cons_zero, List.set_cons_succ]
    refine wpAnyH_ready (rs := [1]) (by kernel_rfl) (by simp) ?_
    refine AllReadyH.cons rfl (fun KK hK => ?_) AllReadyH.nil
    go_simp
    go_wp2_with (first | (go_at_call 54; refine (HI.out _ (HBB.out.trans (Below.mono (by repeat (first | with_reducible exact Below.refl _ _ | with_reducible refine Below.setCell ?_ (by first | omega | (simp; done) | (simp; omega)) _ | with_reducible refine bDrewN ?_ _ | with_reducible refine Below.drew ?_ | with_reducible refine Below.alloc ?_ (by first | omega | (simp; done) | (simp; omega)) _)) HBB.out.size))).mono ?_; rintro e w2 ⟨g, rfl, R2, h2⟩; have HR2 : Hid (RowI w2 (some ⟨g, 0, none⟩) nb X) := R2; have B2 : Below w1.heap.size w1 w2 := Below.trans (by repeat (first | with_reducible exact Below.refl _ _ | with_reducible refine Below.setCell ?_ (by first | omega | (simp; done) | (simp; omega)) _ | with_reducible refine bDrewN ?_ _ | with_reducible refine Below.drew ?_ | with_reducible refine Below.alloc ?_ (by first | omega | (simp; done) | (simp; omega)) _)) (h2.mono (by first | omega | (simp; done) | (simp; omega))); have s2 := B2.size; clear h2 R2))
    refine hK.out _ _ (⟨keep1 b0 zb B2, keep1 c0 zd B2⟩) (fun hHeld => ?_)
    clear hK KK
    refine wpAnyH_ready (rs := [4]) (by kernel_rfl) (by simp) ?_
    refine AllReadyH.cons rfl (fun KK hK => ?_) AllReadyH.nil
    go_simp
    go_wp2_with (first | (go_at_call 76; refine (contains_any (some ⟨g, 0, none⟩) nb nb X id _ hb HR2).mono ?_; rintro e w3 ⟨rfl, h3⟩; have B3 : Below w1.heap.size w1 w3 := h3 ▸ B2; clear h3))
    refine hK.out _ _ (⟨keep1 b0 zb B3, keep1 c0 zd B3⟩) (fun hHeld => ?_)
    clear hK KK
    refine wpAnyH_ready (rs := [5]) (by kernel_rfl) (by simp) ?_
    refine AllReadyH.cons rfl (fun KK hK => ?_) AllReadyH.nil
    go_simp
    refine hK.out _ _ hHeld (fun hHeld => ?_)
    clear hK KK
    refine wpAnyH_done (by kernel_rfl) ?_ _
    go_wp2_with fail
    go_meet
    exact ⟨rfl, (by repeat (first | with_reducible exact Below.refl _ _ | with_reducible exact B3 | with_reducible refine Below.setCell ?_ (by first | omega | (simp; done) | (simp; omega)) _ | with_reducible refine bDrewN ?_ _ | with_reducible refine Below.drew ?_ | with_reducible refine Below.alloc ?_ (by first | omega | (simp; done) | (simp; omega)) _))⟩
  obtain ⟨rfl, h1⟩ := hcut
  rename World => w2
  replace b0 := keep1 b0 zb h1
  replace r0 := keep1 r0 zn h1
  replace c0 := keep1 c0 zd h1
  replace r1 := keep1 r1 zn h1
  replace c1 := keep1 c1 zd h1
  replace r2 := keep1 r2 zn h1
  replace c2 := keep1 c2 zd h1
  replace zd := Nat.lt_of_lt_of_le zd h1.size
  replace zn := Nat.lt_of_lt_of_le zn h1.size
  replace zb := Nat.lt_of_lt_of_le zb h1.size
  replace B0 : Below w.heap.size w w2 := B0.trans (h1.mono B0.size)
  clear h1
  cases e1 : hasB X nb id
  case true =>
    have HO : Hid (refV p n D m S nb X Y id pl k v = 3) := by show _ = _; unfold refV; rw [e0, e1]; rfl
    go_wp2
    go_ret
    exact ⟨ret_int HO.out.symm, (by repeat (first | with_reducible exact Below.refl _ _ | with_reducible exact B0 | with_reducible refine Below.setCell ?_ (by first | omega | (simp; done) | (simp; omega)) _ | with_reducible refine bDrewN ?_ _ | with_reducible refine Below.drew ?_ | with_reducible refine Below.alloc ?_ (by first | omega | (simp; done) | (simp; omega)) _))⟩
  go_wp2_with fail
  refine (worksAt_any bs nb bc X Y K V pl _ hb (HB.out.below B0)).mono ?_
  rintro e' w3 ⟨rfl, h1⟩
  replace b0 := keep1 b0 zb h1
  replace r0 := keep1 r0 zn h1
  replace c0 := keep1 c0 zd h1
  replace r1 := keep1 r1 zn h1
  replace c1 := keep1 c1 zd h1
  replace r2 := keep1 r2 zn h1
  replace c2 := keep1 c2 zd h1
  replace zd := Nat.lt_of_lt_of_le zd h1.size
  replace zn := Nat.lt_of_lt_of_le zn h1.size
  replace zb := Nat.lt_of_lt_of_le zb h1.size
  replace B0 : Below w.heap.size w w3 := B0.trans (h1.mono B0.size)
  clear h1
  cases e2 : freeB Y nb pl
  · have HO : Hid (refV p n D m S nb X Y id pl k v = 4) := by show _ = _; unfold refV; rw [e0, e1, e2]; rfl
    go_wp2
    go_ret
    exact ⟨ret_int HO.out.symm, (by repeat (first | with_reducible exact Below.refl _ _ | with_reducible exact B0 | with_reducible refine Below.setCell ?_ (by first | omega | (simp; done) | (simp; omega)) _ | with_reducible refine bDrewN ?_ _ | with_reducible refine Below.drew ?_ | with_reducible refine Below.alloc ?_ (by first | omega | (simp; done) | (simp; omega)) _))⟩
  go_wp2_with fail
  refine (implCutOff_any p s n c D t m d S q k e v pl _ hn hm hk (HD.out.below B0) (HS.out.below B0) (HV.out.below B0)).mono ?_
  rintro e' w4 ⟨rfl, h1⟩
  replace b0 := keep1 b0 zb h1
  replace r0 := keep1 r0 zn h1
  replace c0 := keep1 c0 zd h1
  replace r1 := keep1 r1 zn h1
  replace c1 := keep1 c1 zd h1
  replace r2 := keep1 r2 zn h1
  replace c2 := keep1 c2 zd h1
  replace zd := Nat.lt_of_lt_of_le zd h1.size
  replace zn := Nat.lt_of_lt_of_le zn h1.size
  replace zb := Nat.lt_of_lt_of_le zb h1.size
  replace B0 : Below w.heap.size w w4 := B0.trans (h1.mono B0.size)
  clear h1
  cases e3 : cutB p n D m S k v pl
  · have HO : Hid (refV p n D m S nb X Y id pl k v = 5) := by show _ = _; unfold refV; rw [e0, e1, e2, e3]; rfl
    go_wp2
    go_ret
    exact ⟨ret_int HO.out.symm, (by repeat (first | with_reducible exact Below.refl _ _ | with_reducible exact B0 | with_reducible refine Below.setCell ?_ (by first | omega | (simp; done) | (simp; omega)) _ | with_reducible refine bDrewN ?_ _ | with_reducible refine Below.drew ?_ | with_reducible refine Below.alloc ?_ (by first | omega | (simp; done) | (simp; omega)) _))⟩
  by_cases e4 : 20 ≤ nb
  · have e5 : (20 : Int) ≤ (nb : Int) := by omega
    have HO : Hid (refV p n D m S nb X Y id pl k v = 6) := by show _ = _; unfold refV; rw [e0, e1, e2, e3, if_pos e4]; rfl
    go_wp2
    go_ret
    exact ⟨ret_int HO.out.symm, (by repeat (first | with_reducible exact Below.refl _ _ | with_reducible exact B0 | with_reducible refine Below.setCell ?_ (by first | omega | (simp; done) | (simp; omega)) _ | with_reducible refine bDrewN ?_ _ | with_reducible refine Below.drew ?_ | with_reducible refine Below.alloc ?_ (by first | omega | (simp; done) | (simp; omega)) _))⟩
  · have e5 : decide ((20 : Int) ≤ (nb : Int)) = false := decide_eq_false (by omega)
    have HO : Hid (refV p n D m S nb X Y id pl k v = 0) := by show _ = _; unfold refV; rw [e0, e1, e2, e3, if_neg e4]; rfl
    go_wp2
    go_ret
    exact ⟨ret_int HO.out.symm, (by repeat (first | with_reducible exact Below.refl _ _ | with_reducible exact B0 | with_reducible refine Below.setCell ?_ (by first | omega | (simp; done) | (simp; omega)) _ | with_reducible refine bDrewN ?_ _ | with_reducible refine Below.drew ?_ | with_reducible refine Below.alloc ?_ (by first | omega | (simp; done) | (simp; omega)) _))⟩
end Go.Proofs.Ytikcfpjfcpbfcaa
