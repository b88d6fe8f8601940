/-
What is proved: when machines are right, what they must give and can, as both packages say it.
-/
import Derived.Test.YtdlbniihgppodaaMt
import Derived.Test.YtdlbniihgppodaaBoN
import Derived.Deep.RegionHeld3
import Derived.BigQuiet
namespace Go.Proofs.Ytdlbniihgppodaa
set_option maxRecDepth 40000
open Go.ChangeShapes Go.WideShapes Go.ChangeAt Go.RowKit
set_option linter.unusedVariables false
set_option linter.unusedSimpArgs false

theorem ball_succP {p : Nat → Prop} {k : Nat} (h : ∀ j, j < k → p j) (hk : p k) : ∀ j, j < k + 1 → p j := fun j hj => by
  by_cases e : j = k
  · exact e ▸ hk
  · exact h j (by omega)
set_option maxHeartbeats 2000000 in
theorem plantRight_any (a b d x y : Int) (w : World) : Calls Try.prog 64 #[.agg #[.int .i64 a, .int .i64 b, .int .i64 d, .int .i64 x, .int .i64 y]] w fun e w' => e = .returned (.bool (plB (a, b, d, x, y))) ∧ Below w.heap.size w w' := by
  have HJ : Hid (plB (a, b, d, x, y) = (inB 0 100000 b && (inB 0 b a && (inB 0 10000 d && (inB 0 100000000 x && inB 1 10 y))))) := rfl
  go_enter Try.func64, Try.ntmps64
  go_wp2_with fail
  refine (within_is _ _ _ _).mono ?_
  rintro e w1 ⟨rfl, rfl⟩
  cases e0 : inB 0 100000 b
  · go_wp2
    go_ret
    exact ⟨ret_bool (by rw [HJ.out, e0]; rfl), (by repeat (first | with_reducible exact Below.refl _ _ | with_reducible refine Below.setCell ?_ (by first | omega | (simp; done) | (simp; omega)) _ | with_reducible refine bDrewN ?_ _ | with_reducible refine Below.drew ?_ | with_reducible refine Below.alloc ?_ (by first | omega | (simp; done) | (simp; omega)) _))⟩
  go_wp2_with fail
  refine (within_is _ _ _ _).mono ?_
  rintro e w1 ⟨rfl, rfl⟩
  cases e1 : inB 0 b a
  · go_wp2
    go_ret
    exact ⟨ret_bool (by rw [HJ.out, e0, e1]; rfl), (by repeat (first | with_reducible exact Below.refl _ _ | with_reducible refine Below.setCell ?_ (by first | omega | (simp; done) | (simp; omega)) _ | with_reducible refine bDrewN ?_ _ | with_reducible refine Below.drew ?_ | with_reducible refine Below.alloc ?_ (by first | omega | (simp; done) | (simp; omega)) _))⟩
  go_wp2_with fail
  refine (within_is _ _ _ _).mono ?_
  rintro e w1 ⟨rfl, rfl⟩
  cases e2 : inB 0 10000 d
  · go_wp2
    go_ret
    exact ⟨ret_bool (by rw [HJ.out, e0, e1, e2]; rfl), (by repeat (first | with_reducible exact Below.refl _ _ | with_reducible refine Below.setCell ?_ (by first | omega | (simp; done) | (simp; omega)) _ | with_reducible refine bDrewN ?_ _ | with_reducible refine Below.drew ?_ | with_reducible refine Below.alloc ?_ (by first | omega | (simp; done) | (simp; omega)) _))⟩
  go_wp2_with fail
  refine (within_is _ _ _ _).mono ?_
  rintro e w1 ⟨rfl, rfl⟩
  cases e3 : inB 0 100000000 x
  · go_wp2
    go_ret
    exact ⟨ret_bool (by rw [HJ.out, e0, e1, e2, e3]; rfl), (by repeat (first | with_reducible exact Below.refl _ _ | with_reducible refine Below.setCell ?_ (by first | omega | (simp; done) | (simp; omega)) _ | with_reducible refine bDrewN ?_ _ | with_reducible refine Below.drew ?_ | with_reducible refine Below.alloc ?_ (by first | omega | (simp; done) | (simp; omega)) _))⟩
  go_wp2_with fail
  refine (within_is _ _ _ _).mono ?_
  rintro e w1 ⟨rfl, rfl⟩
  go_wp2
  go_ret
  exact ⟨ret_bool (by rw [HJ.out, e0, e1, e2, e3]; rfl), (by repeat (first | with_reducible exact Below.refl _ _ | with_reducible refine Below.setCell ?_ (by first | omega | (simp; done) | (simp; omega)) _ | with_reducible refine bDrewN ?_ _ | with_reducible refine Below.drew ?_ | with_reducible refine Below.alloc ?_ (by first | omega | (simp; done) | (simp; omega)) _))⟩
set_option maxRecDepth 20000 in
set_option maxHeartbeats 4000000 in
theorem l24Plants_any (s : Option Addr) (n c : Nat) (V : Nat → Int × Int × Int × Int × Int) (w : World) (hn : (n : Int) ≤ 1048576) (HR : Hid (RowPlant w s n V)) :
    Calls Try.prog 36 #[.slice s n c] w fun e w' => e = .returned (.bool (plsB n V)) ∧ Below w.heap.size w w' := by
  go_enter Try.func36, Try.ntmps36
  go_wp2_with fail
  go_loopw [3] (fun i wr => ∃ k : Nat, k ≤ n ∧ i = .int .i64 k ∧ Hid (∀ j, j < k → plB (V j) = true) ∧ Below w.heap.size w wr) (fun i _ => n - (intOf i).toNat)
  case atStart => exact ⟨0, Nat.zero_le _, rfl, fun j hj => by omega, Below.refl _ _⟩
  case round =>
    obtain ⟨k, hk, rfl, HP, hB⟩ := hrel
    have zW := hB.size
    by_cases h1 : k < n
    · skip
      obtain ⟨g, o, rfl, hg, c0, c1, c2, c3, c4⟩ := HR.out k h1
      replace c0 := (hB.cell (p := ⟨g, o + k * 5, none⟩) hg).trans c0
      replace c1 := (hB.cell (p := ⟨g, o + k * 5 + 1, none⟩) hg).trans c1
      replace c2 := (hB.cell (p := ⟨g, o + k * 5 + 2, none⟩) hg).trans c2
      replace c3 := (hB.cell (p := ⟨g, o + k * 5 + 3, none⟩) hg).trans c3
      replace c4 := (hB.cell (p := ⟨g, o + k * 5 + 4, none⟩) hg).trans c4
      obtain ⟨⟨a, b, d, x, y⟩, hV⟩ : ∃ z, V k = z := ⟨_, rfl⟩
      rw [hV] at c0 c1 c2 c3 c4
      simp only at c0 c1 c2 c3 c4
      have HV : Hid (V k = (a, b, d, x, y)) := hV
      have zg : g < wr.heap.size := Nat.lt_of_lt_of_le hg hB.size
      have k1 : (k : Int) < (n : Int) := by omega
      clear hV
      go_upto_region 5 with fail
      obtain ⟨wa, hwa⟩ : ∃ wa, wa = wr.alloc (.cells #[.int .i64 a, .int .i64 b, .int .i64 d, .int .i64 x, .int .i64 y] 55) := ⟨_, rfl⟩
      rw [← hwa]
      have hb : Below wr.heap.size wr wa := by rw [hwa]; exact below0 _ _
      have v0 : wa.cell? ⟨wr.heap.size, 0, none⟩ = some (.int .i64 a) := by rw [hwa]; simp [go_sem]
      have v1 : wa.cell? ⟨wr.heap.size, 1, none⟩ = some (.int .i64 b) := by rw [hwa]; simp [go_sem]
      have v2 : wa.cell? ⟨wr.heap.size, 2, none⟩ = some (.int .i64 d) := by rw [hwa]; simp [go_sem]
      have v3 : wa.cell? ⟨wr.heap.size, 3, none⟩ = some (.int .i64 x) := by rw [hwa]; simp [go_sem]
      have v4 : wa.cell? ⟨wr.heap.size, 4, none⟩ = some (.int .i64 y) := by rw [hwa]; simp [go_sem]
      have za : wr.heap.size < wa.heap.size := by rw [hwa]; simp
      have B2 : Below w.heap.size w wa := hB.trans (hb.mono zW)
      clear hwa hb c0 c1 c2 c3 c4 zg
      have HJ : Hid (plB (a, b, d, x, y) = (inB 0 100000 b && (inB 0 b a && (inB 0 10000 d && (inB 0 100000000 x && inB 1 10 y))))) := rfl
      go_wp2_with fail
      refine (l1In_is _ _ _ _).mono ?_
      rintro e wa ⟨rfl, rfl⟩
      cases e0 : inB 0 100000 b
      · have HO : Hid (plsB n V = false) := pls_no h1 (by rw [HV.out, HJ.out, e0]; rfl)
        go_wp2
        go_ret
        exact ⟨ret_bool HO.out.symm, (by repeat (first | with_reducible exact Below.refl _ _ | with_reducible exact B2 | with_reducible refine Below.setCell ?_ (by first | omega | (simp; done) | (simp; omega)) _ | with_reducible refine bDrewN ?_ _ | with_reducible refine Below.drew ?_ | with_reducible refine Below.alloc ?_ (by first | omega | (simp; done) | (simp; omega)) _))⟩
      go_wp2_with fail
      refine (l1In_is _ _ _ _).mono ?_
      rintro e wa ⟨rfl, rfl⟩
      cases e1 : inB 0 b a
      · have HO : Hid (plsB n V = false) := pls_no h1 (by rw [HV.out, HJ.out, e0, e1]; rfl)
        go_wp2
        go_ret
        exact ⟨ret_bool HO.out.symm, (by repeat (first | with_reducible exact Below.refl _ _ | with_reducible exact B2 | with_reducible refine Below.setCell ?_ (by first | omega | (simp; done) | (simp; omega)) _ | with_reducible refine bDrewN ?_ _ | with_reducible refine Below.drew ?_ | with_reducible refine Below.alloc ?_ (by first | omega | (simp; done) | (simp; omega)) _))⟩
      go_wp2_with fail
      refine (l1In_is _ _ _ _).mono ?_
      rintro e wa ⟨rfl, rfl⟩
      cases e2 : inB 0 10000 d
      · have HO : Hid (plsB n V = false) := pls_no h1 (by rw [HV.out, HJ.out, e0, e1, e2]; rfl)
        go_wp2
        go_ret
        exact ⟨ret_bool HO.out.symm, (by repeat (first | with_reducible exact Below.refl _ _ | with_reducible exact B2 | with_reducible refine Below.setCell ?_ (by first | omega | (simp; done) | (simp; omega)) _ | with_reducible refine bDrewN ?_ _ | with_reducible refine Below.drew ?_ | with_reducible refine Below.alloc ?_ (by first | omega | (simp; done) | (simp; omega)) _))⟩
      go_wp2_with fail
      refine (l1In_is _ _ _ _).mono ?_
      rintro e wa ⟨rfl, rfl⟩
      cases e3 : inB 0 100000000 x
      · have HO : Hid (plsB n V = false) := pls_no h1 (by rw [HV.out, HJ.out, e0, e1, e2, e3]; rfl)
        go_wp2
        go_ret
        exact ⟨ret_bool HO.out.symm, (by repeat (first | with_reducible exact Below.refl _ _ | with_reducible exact B2 | with_reducible refine Below.setCell ?_ (by first | omega | (simp; done) | (simp; omega)) _ | with_reducible refine bDrewN ?_ _ | with_reducible refine Below.drew ?_ | with_reducible refine Below.alloc ?_ (by first | omega | (simp; done) | (simp; omega)) _))⟩
      go_wp2_with fail
      refine (l1In_is _ _ _ _).mono ?_
      rintro e wa ⟨rfl, rfl⟩
      cases e4 : inB 1 10 y
      · have HO : Hid (plsB n V = false) := pls_no h1 (by rw [HV.out, HJ.out, e0, e1, e2, e3, e4]; rfl)
        go_wp2
        go_ret
        exact ⟨ret_bool HO.out.symm, (by repeat (first | with_reducible exact Below.refl _ _ | with_reducible exact B2 | with_reducible refine Below.setCell ?_ (by first | omega | (simp; done) | (simp; omega)) _ | with_reducible refine bDrewN ?_ _ | with_reducible refine Below.drew ?_ | with_reducible refine Below.alloc ?_ (by first | omega | (simp; done) | (simp; omega)) _))⟩
      have HK : Hid (plB (V k) = true) := by show _ = _; rw [HV.out, HJ.out, e0, e1, e2, e3, e4]; rfl
      go_wp2
      go_roundw
      case rel => exact ⟨k + 1, by omega, by go_num, ball_succP HP.out HK.out, (by repeat (first | with_reducible exact Below.refl _ _ | with_reducible exact B2 | with_reducible refine Below.setCell ?_ (by first | omega | (simp; done) | (simp; omega)) _ | with_reducible refine bDrewN ?_ _ | with_reducible refine Below.drew ?_ | with_reducible refine Below.alloc ?_ (by first | omega | (simp; done) | (simp; omega)) _))⟩
      case measure => first | (simp [intOf]; done) | (simp [intOf]; omega)
    · obtain rfl : k = n := by omega
      have HF : Hid (plsB k V = inB 1 3 (k : Int)) := by show _ = _; unfold plsB; rw [decide_eq_true HP.out, Bool.and_true]
      by_cases k0 : 1 ≤ k
      · have b0 : (1 : Int) ≤ (k : Int) := by omega
        by_cases k3 : k ≤ 3
        · have b1 : (k : Int) ≤ 3 := by omega
          have HO : Hid (plsB k V = true) := by show _ = _; rw [HF.out]; unfold inB; simp; omega
          go_wp2
          go_ret
          exact ⟨ret_bool HO.out.symm, hB⟩
        · have b1 : decide ((k : Int) ≤ 3) = false := decide_eq_false (by omega)
          have HO : Hid (plsB k V = false) := by show _ = _; rw [HF.out]; unfold inB; simp; omega
          go_wp2
          go_ret
          exact ⟨ret_bool HO.out.symm, hB⟩
      · have b0 : decide ((1 : Int) ≤ (k : Int)) = false := decide_eq_false (by omega)
        have HO : Hid (plsB k V = false) := by show _ = _; rw [HF.out]; unfold inB; simp; omega
        go_wp2
        go_ret
        exact ⟨ret_bool HO.out.symm, hB⟩
set_option maxRecDepth 20000 in
set_option maxHeartbeats 4000000 in
theorem plantsOk_any (s : Option Addr) (n c : Nat) (V : Nat → Int × Int × Int × Int × Int) (w : World) (hn : (n : Int) ≤ 1048576) (HR : Hid (RowPlant w s n V)) :
    Calls Try.prog 38 #[.slice s n c] w fun e w' => e = .returned (.bool (plsB n V)) ∧ Below w.heap.size w w' := by
  go_enter Try.func38, Try.ntmps38
  go_wp2_with fail
  refine (within_is _ _ _ _).mono ?_
  rintro e w ⟨rfl, rfl⟩
  cases h0 : inB 1 3 (n : Int)
  · have HO : Hid (plsB n V = false) := by show _ = _; unfold plsB; rw [h0]; rfl
    go_wp2
    go_ret
    exact ⟨ret_bool HO.out.symm, Below.refl _ _⟩
  have HIN : Hid (inB 1 3 (n : Int) = true) := h0
  clear h0
  go_wp2_with fail
  go_loopw [11] (fun i wr => ∃ k : Nat, k ≤ n ∧ i = .int .i64 k ∧ Hid (∀ j, j < k → plB (V j) = true) ∧ Below w.heap.size w wr) (fun i _ => n - (intOf i).toNat)
  case atStart => exact ⟨0, Nat.zero_le _, rfl, fun j hj => by omega, Below.refl _ _⟩
  case round =>
    obtain ⟨k, hk, rfl, HP, hB⟩ := hrel
    have zW := hB.size
    by_cases h1 : k < n
    · skip
      obtain ⟨g, o, rfl, hg, c0, c1, c2, c3, c4⟩ := HR.out k h1
      replace c0 := (hB.cell (p := ⟨g, o + k * 5, none⟩) hg).trans c0
      replace c1 := (hB.cell (p := ⟨g, o + k * 5 + 1, none⟩) hg).trans c1
      replace c2 := (hB.cell (p := ⟨g, o + k * 5 + 2, none⟩) hg).trans c2
      replace c3 := (hB.cell (p := ⟨g, o + k * 5 + 3, none⟩) hg).trans c3
      replace c4 := (hB.cell (p := ⟨g, o + k * 5 + 4, none⟩) hg).trans c4
      obtain ⟨⟨a, b, d, x, y⟩, hV⟩ : ∃ z, V k = z := ⟨_, rfl⟩
      rw [hV] at c0 c1 c2 c3 c4
      simp only at c0 c1 c2 c3 c4
      have HV : Hid (V k = (a, b, d, x, y)) := hV
      have zg : g < wr.heap.size := Nat.lt_of_lt_of_le hg hB.size
      have k1 : (k : Int) < (n : Int) := by omega
      clear hV
      go_upto_region 6 with fail
      obtain ⟨wa, hwa⟩ : ∃ wa, wa = wr.alloc (.cells #[.int .i64 a, .int .i64 b, .int .i64 d, .int .i64 x, .int .i64 y] 55) := ⟨_, rfl⟩
      rw [← hwa]
      have hb : Below wr.heap.size wr wa := by rw [hwa]; exact below0 _ _
      have v0 : wa.cell? ⟨wr.heap.size, 0, none⟩ = some (.int .i64 a) := by rw [hwa]; simp [go_sem]
      have v1 : wa.cell? ⟨wr.heap.size, 1, none⟩ = some (.int .i64 b) := by rw [hwa]; simp [go_sem]
      have v2 : wa.cell? ⟨wr.heap.size, 2, none⟩ = some (.int .i64 d) := by rw [hwa]; simp [go_sem]
      have v3 : wa.cell? ⟨wr.heap.size, 3, none⟩ = some (.int .i64 x) := by rw [hwa]; simp [go_sem]
      have v4 : wa.cell? ⟨wr.heap.size, 4, none⟩ = some (.int .i64 y) := by rw [hwa]; simp [go_sem]
      have za : wr.heap.size < wa.heap.size := by rw [hwa]; simp
      have B2 : Below w.heap.size w wa := hB.trans (hb.mono zW)
      clear hwa hb c0 c1 c2 c3 c4 zg
      go_wp2_with fail
      refine (plantRight_any a b d x y _).mono ?_
      rintro e w2 ⟨rfl, h2⟩
      replace B2 : Below w.heap.size w w2 := B2.trans (h2.mono B2.size)
      clear h2
      cases e0 : plB (a, b, d, x, y)
      · have HO : Hid (plsB n V = false) := pls_no h1 (by rw [HV.out]; exact e0)
        go_wp2
        go_ret
        exact ⟨ret_bool HO.out.symm, (by repeat (first | with_reducible exact Below.refl _ _ | with_reducible exact B2 | with_reducible refine Below.setCell ?_ (by first | omega | (simp; done) | (simp; omega)) _ | with_reducible refine bDrewN ?_ _ | with_reducible refine Below.drew ?_ | with_reducible refine Below.alloc ?_ (by first | omega | (simp; done) | (simp; omega)) _))⟩
      have HK : Hid (plB (V k) = true) := by show _ = _; rw [HV.out]; exact e0
      go_wp2
      go_roundw
      case rel => exact ⟨k + 1, by omega, by go_num, ball_succP HP.out HK.out, (by repeat (first | with_reducible exact Below.refl _ _ | with_reducible exact B2 | with_reducible refine Below.setCell ?_ (by first | omega | (simp; done) | (simp; omega)) _ | with_reducible refine bDrewN ?_ _ | with_reducible refine Below.drew ?_ | with_reducible refine Below.alloc ?_ (by first | omega | (simp; done) | (simp; omega)) _))⟩
      case measure => first | (simp [intOf]; done) | (simp [intOf]; omega)
    · obtain rfl : k = n := by omega
      have HO : Hid (plsB k V = true) := by show _ = _; unfold plsB; rw [HIN.out, decide_eq_true HP.out]; rfl
      go_wp2
      go_ret
      exact ⟨ret_bool HO.out.symm, hB⟩
set_option maxRecDepth 20000 in
set_option maxHeartbeats 4000000 in
theorem rangeOf_any (s : Option Addr) (n c : Nat) (V : Nat → Int × Int × Int × Int × Int) (t : Option Addr) (m : Nat) (O : Nat → Bool) (w : World) (hn : (n : Int) ≤ 3) (HP : Hid (∀ i, i < n → plB (V i) = true)) (HR : Hid (RowPlant w s n V)) (HO : Hid (RowB w t n O)) :
    Calls Try.prog 39 #[.slice s n c, .slice t n m] w fun e w' => e = .returned (.tuple #[.int .i64 (sumF (lsF V O) n), .int .i64 (sumF (msF V O) n)]) ∧ Below w.heap.size w w' := by
  go_enter Try.func39, Try.ntmps39
  go_wp2_with fail
  go_loopw [6, 7, 12] (fun p q i wr => ∃ k : Nat, k ≤ n ∧ i = .int .i64 k ∧ p = .int .i64 (sumF (lsF V O) k) ∧ q = .int .i64 (sumF (msF V O) k) ∧ Below w.heap.size w wr) (fun _ _ i _ => n - (intOf i).toNat)
  case atStart => exact ⟨0, Nat.zero_le _, rfl, rfl, rfl, Below.refl _ _⟩
  case round =>
    obtain ⟨k, hk, rfl, rfl, rfl, hB⟩ := hrel
    have zW := hB.size
    have sb := sum_in (f := lsF V O) (n := k) (M := 100000) (fun j hj => (ls_in HP.out j (by omega)).1)
    have tb := sum_in (f := msF V O) (n := k) (M := 100000) (fun j hj => (ls_in HP.out j (by omega)).2.1)
    by_cases h1 : k < n
    · obtain ⟨pb1, pb2, -⟩ := pl_yes (HP.out k h1)
      obtain ⟨g2, o2, rfl, hg2, d0⟩ := HO.out k h1
      replace d0 := (hB.cell (p := ⟨g2, o2 + k, none⟩) hg2).trans d0
      have HS : Hid (sumF (lsF V O) (k + 1) = sumF (lsF V O) k + (if O k = true then (V k).1 else 0)) := rfl
      have HT : Hid (sumF (msF V O) (k + 1) = sumF (msF V O) k + (if O k = true then (V k).2.1 else 0)) := rfl
      obtain ⟨g, o, rfl, hg, c0, c1, c2, c3, c4⟩ := HR.out k h1
      replace c0 := (hB.cell (p := ⟨g, o + k * 5, none⟩) hg).trans c0
      replace c1 := (hB.cell (p := ⟨g, o + k * 5 + 1, none⟩) hg).trans c1
      replace c2 := (hB.cell (p := ⟨g, o + k * 5 + 2, none⟩) hg).trans c2
      replace c3 := (hB.cell (p := ⟨g, o + k * 5 + 3, none⟩) hg).trans c3
      replace c4 := (hB.cell (p := ⟨g, o + k * 5 + 4, none⟩) hg).trans c4
      obtain ⟨⟨a, b, d, x, y⟩, hV⟩ : ∃ z, V k = z := ⟨_, rfl⟩
      rw [hV] at c0 c1 c2 c3 c4
      simp only at c0 c1 c2 c3 c4
      have HV : Hid (V k = (a, b, d, x, y)) := hV
      have zg : g < wr.heap.size := Nat.lt_of_lt_of_le hg hB.size
      have k1 : (k : Int) < (n : Int) := by omega
      clear hV
      rw [HV.out] at HS HT pb1 pb2
      simp only at HS HT pb1 pb2
      have zg2 : g2 < wr.heap.size := Nat.lt_of_lt_of_le hg2 hB.size
      obtain ⟨p, hp⟩ : ∃ p, sumF (lsF V O) k = p := ⟨_, rfl⟩
      obtain ⟨q, hq⟩ : ∃ q, sumF (msF V O) k = q := ⟨_, rfl⟩
      obtain ⟨bo, hbo⟩ : ∃ z, O k = z := ⟨_, rfl⟩
      rw [hp] at HS sb ⊢
      rw [hq] at HT tb ⊢
      rw [hbo] at HS HT d0
      have p1 : p ≤ 300000 := by omega
      have q1 : q ≤ 300000 := by omega
      clear hp hq hbo hg hg2
      go_upto_region 5 with fail
      obtain ⟨wa, hwa⟩ : ∃ wa, wa = wr.alloc (.cells #[.int .i64 a, .int .i64 b, .int .i64 d, .int .i64 x, .int .i64 y] 55) := ⟨_, rfl⟩
      rw [← hwa]
      have hb : Below wr.heap.size wr wa := by rw [hwa]; exact below0 _ _
      have v0 : wa.cell? ⟨wr.heap.size, 0, none⟩ = some (.int .i64 a) := by rw [hwa]; simp [go_sem]
      have v1 : wa.cell? ⟨wr.heap.size, 1, none⟩ = some (.int .i64 b) := by rw [hwa]; simp [go_sem]
      have v2 : wa.cell? ⟨wr.heap.size, 2, none⟩ = some (.int .i64 d) := by rw [hwa]; simp [go_sem]
      have v3 : wa.cell? ⟨wr.heap.size, 3, none⟩ = some (.int .i64 x) := by rw [hwa]; simp [go_sem]
      have v4 : wa.cell? ⟨wr.heap.size, 4, none⟩ = some (.int .i64 y) := by rw [hwa]; simp [go_sem]
      have za : wr.heap.size < wa.heap.size := by rw [hwa]; simp
      have B2 : Below w.heap.size w wa := hB.trans (hb.mono zW)
      replace d0 := (hb.cell (p := ⟨g2, o2 + k, none⟩) zg2).trans d0
      have zg3 : g2 < wa.heap.size := by omega
      clear hwa hb c0 c1 c2 c3 c4 zg
      cases bo
      · have HS2 : Hid (sumF (lsF V O) (k + 1) = p) := by show _ = _; rw [HS.out]; simp
        have HT2 : Hid (sumF (msF V O) (k + 1) = q) := by show _ = _; rw [HT.out]; simp
        go_wp2
        go_roundw
        case rel => exact ⟨k + 1, by omega, by go_num, by rw [HS2.out], by rw [HT2.out], (by repeat (first | with_reducible exact Below.refl _ _ | with_reducible exact B2 | with_reducible refine Below.setCell ?_ (by first | omega | (simp; done) | (simp; omega)) _ | with_reducible refine bDrewN ?_ _ | with_reducible refine Below.drew ?_ | with_reducible refine Below.alloc ?_ (by first | omega | (simp; done) | (simp; omega)) _))⟩
        case measure => first | (simp [intOf]; done) | (simp [intOf]; omega)
      · have HS2 : Hid (sumF (lsF V O) (k + 1) = p + a) := by show _ = _; rw [HS.out]; simp
        have HT2 : Hid (sumF (msF V O) (k + 1) = q + b) := by show _ = _; rw [HT.out]; simp
        go_wp2_with fail
        go_quiet (fail)
        go_wp2
        go_roundw
        case rel => exact ⟨k + 1, by omega, by go_num, by rw [HS2.out], by rw [HT2.out], (by repeat (first | with_reducible exact Below.refl _ _ | with_reducible exact B2 | with_reducible refine Below.setCell ?_ (by first | omega | (simp; done) | (simp; omega)) _ | with_reducible refine bDrewN ?_ _ | with_reducible refine Below.drew ?_ | with_reducible refine Below.alloc ?_ (by first | omega | (simp; done) | (simp; omega)) _))⟩
        case measure => first | (simp [intOf]; done) | (simp [intOf]; omega)
    · obtain rfl : k = n := by omega
      go_wp2
      exact bodyPost_ret (v := .tuple #[.int .i64 (sumF (lsF V O) k), .int .i64 (sumF (msF V O) k)]) (by simp [results, Try.results39, go_sem]) rfl ⟨rfl, hB⟩
end Go.Proofs.Ytdlbniihgppodaa
