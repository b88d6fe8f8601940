/-
What is proved: what fails by a set of faults, as the program says it.
-/
import Derived.Test.YtpaiajeigdifcaaFl
import Derived.BigQuiet
namespace Go.Proofs.Ytpaiajeigdifcaa
set_option maxRecDepth 40000
open Go.ChangeShapes Go.WideShapes Go.ChangeAt Go.RowKit
set_option linter.unusedVariables false
set_option linter.unusedSimpArgs false

theorem keepT {W W' : World} {p : Nat} {v0 v1 : Value} (h0 : W.cell? ⟨p, 0, none⟩ = some v0) (h1 : W.cell? ⟨p, 1, none⟩ = some v1) (z : p < W.heap.size) (hb : Below W.heap.size W W') : W'.cell? ⟨p, 0, none⟩ = some v0 ∧ W'.cell? ⟨p, 1, none⟩ = some v1 := ⟨(hb.cell (p := ⟨p, 0, none⟩) z).trans h0, (hb.cell (p := ⟨p, 1, none⟩) z).trans h1⟩
set_option maxHeartbeats 400000 in
theorem isBasic_any (x : Int) (s : Option Addr) (n c : Nat) (q : Int) (w : World) (x0 : 0 ≤ x) (x1 : x ≤ 100) : Calls Try.prog 63 #[.agg #[.int .i64 x, .slice s n c], .int .i64 q] w fun e w' => e = .returned (.bool (inB 0 (x - 1) q)) ∧ Below w.heap.size w w' := by
  go_enter Try.func63, Try.ntmps63
  go_wp2_with fail
  refine (within_is _ _ _ _).mono ?_
  rintro e w1 ⟨rfl, rfl⟩
  go_wp2
  go_ret
  exact ⟨rfl, (by repeat (first | with_reducible exact Below.refl _ _ | with_reducible refine Below.setCell ?_ (by first | omega | (simp; done) | (simp; omega)) _ | with_reducible refine bDrewN ?_ _ | with_reducible refine Below.drew ?_ | with_reducible refine Below.alloc ?_ (by first | omega | (simp; done) | (simp; omega)) _))⟩
set_option maxRecDepth 20000 in
set_option maxHeartbeats 2000000 in
theorem failsBy_any (need : Int) (t : Option Addr) (k d : Nat) (v : Nat → Int) (f : Nat) (w : World) (hk : k ≤ 12) (hf : f < 2 ^ 32) (hv : Hid (∀ j, j < k → 0 ≤ v j ∧ v j ≤ 31)) (HR : Hid (RowI w t k v)) :
    Calls Try.prog 76 #[.agg #[.int .i64 need, .slice t k d], .int .u32 (f : Int)] w fun e w' => e = .returned (.bool (decide (need ≤ cntB f v k))) ∧ Below w.heap.size w w' := by
  have HF : Hid (f < 2 ^ 32) := hf
  clear hf
  go_enter Try.func76, Try.ntmps76
  go_wp2_with fail
  go_loopw [5, 11] (fun q i wr => ∃ j : Nat, j ≤ k ∧ i = .int .i64 j ∧ q = .int .i64 (cntB f v j) ∧ wr = w.alloc (.cells #[.int .i64 need, .slice t k d] 87)) (fun _ i _ => k - (intOf i).toNat)
  case atStart => exact ⟨0, Nat.zero_le _, rfl, rfl, rfl⟩
  case round =>
    obtain ⟨j, hj, rfl, rfl, rfl⟩ := hrel
    have cb := cnt_bound f v j
    by_cases h1 : j < k
    · obtain ⟨g, o, rfl, hg, c0⟩ := HR.out j h1
      have d0 : (w.alloc (.cells #[.int .i64 need, .slice (some ⟨g, o, none⟩) k d] 87)).cell? ⟨g, o + j, none⟩ = some (.int .i64 (v j)) := ((below0 w _).cell (p := ⟨g, o + j, none⟩) hg).trans c0
      have hz : g < (w.alloc (.cells #[.int .i64 need, .slice (some ⟨g, o, none⟩) k d] 87)).heap.size := by simp; omega
      have j1 : (j : Int) < (k : Int) := by omega
      obtain ⟨y0, y1⟩ := hv.out j h1
      obtain ⟨y, hy⟩ : ∃ y : Nat, v j = (y : Int) := ⟨(v j).toNat, by omega⟩
      have HS : Hid (cntB f v (j + 1) = cntB f v j + (if f.testBit y = true then 1 else 0)) := by
        show cntB f v j + (if f.testBit (v j).toNat = true then 1 else 0) = _
        rw [hy, Int.toNat_natCast]
      rw [hy] at d0 y1
      obtain ⟨m, hm⟩ : ∃ m, cntB f v j = m := ⟨_, rfl⟩
      rw [hm] at HS cb ⊢
      clear c0 hy hm y0
      go_wp2_with fail
      refine (has_any f y _ HF.out (by omega)).mono ?_
      rintro e w1 ⟨rfl, rfl⟩
      cases q : f.testBit y
      · have HN : Hid (m = cntB f v (j + 1)) := by show _ = _; rw [HS.out, q]; simp
        go_wp2
        go_roundw
        case rel => exact ⟨j + 1, by omega, by go_num, by rw [HN.out], by first | rfl | trivial⟩
        case measure => first | (simp [intOf]; done) | (simp [intOf]; omega)
      · have HN : Hid (m + 1 = cntB f v (j + 1)) := by show _ = _; rw [HS.out, q]; simp
        go_wp2
        go_roundw
        case rel => exact ⟨j + 1, by omega, by go_num, by rw [← HN.out], by first | rfl | trivial⟩
        case measure => first | (simp [intOf]; done) | (simp [intOf]; omega)
    · obtain rfl : j = k := by omega
      go_wp2
      go_ret
      exact ⟨ret_bool (by first | rfl | simp), (by repeat (first | with_reducible exact Below.refl _ _ | with_reducible refine Below.setCell ?_ (by first | omega | (simp; done) | (simp; omega)) _ | with_reducible refine bDrewN ?_ _ | with_reducible refine Below.drew ?_ | with_reducible refine Below.alloc ?_ (by first | omega | (simp; done) | (simp; omega)) _))⟩
set_option maxRecDepth 20000 in
set_option maxHeartbeats 2000000 in
theorem basicsAmong_any (x : Nat) (s : Option Addr) (n c : Nat) (t : Option Addr) (m d : Nat) (U : Nat → Int) (w : World) (hx : (x : Int) ≤ 10) (hm : (m : Int) ≤ 1048576) (HR : Hid (RowI w t m U)) :
    Calls Try.prog 48 #[.agg #[.int .i64 (x : Int), .slice s n c], .slice t m d] w fun e w' => e = .returned (.int .u32 (setN x U m : Int)) ∧ Below w.heap.size w w' := by
  have HP : Hid (2 ^ x ≤ 2 ^ 10) := Nat.pow_le_pow_right (by decide) (by omega)
  go_enter Try.func48, Try.ntmps48
  go_wp2_with fail
  go_loopw [5, 10] (fun q i wr => ∃ j : Nat, j ≤ m ∧ i = .int .i64 j ∧ q = .int .u32 (setN x U j : Int) ∧ wr.cell? ⟨w.heap.size, 0, none⟩ = some (.int .i64 (x : Int)) ∧ wr.cell? ⟨w.heap.size, 1, none⟩ = some (.slice s n c) ∧ w.heap.size < wr.heap.size ∧ Below w.heap.size w wr) (fun _ i _ => m - (intOf i).toNat)
  case atStart => exact ⟨0, Nat.zero_le _, rfl, rfl, by simp [go_sem], by simp [go_sem], by simp, (by repeat (first | with_reducible exact Below.refl _ _ | with_reducible refine Below.setCell ?_ (by first | omega | (simp; done) | (simp; omega)) _ | with_reducible refine bDrewN ?_ _ | with_reducible refine Below.drew ?_ | with_reducible refine Below.alloc ?_ (by first | omega | (simp; done) | (simp; omega)) _))⟩
  case round =>
    obtain ⟨j, hj, rfl, rfl, q0, q1, zp, hB⟩ := hrel
    by_cases h1 : j < m
    · obtain ⟨g, o, rfl, hg, c0⟩ := HR.out j h1
      have d0 := (hB.cell (p := ⟨g, o + j, none⟩) hg).trans c0
      have j1 : (j : Int) < (m : Int) := by omega
      have HL : Hid (setN x U j < 2 ^ 32) := by show _ < _; have := set_lt x U j; have := HP.out; omega
      have HS : Hid (setN x U (j + 1) = if inB 0 ((x : Int) - 1) (U j) = true then setN x U j ||| 2 ^ (U j).toNat else setN x U j) := rfl
      obtain ⟨y, hy⟩ : ∃ y, U j = y := ⟨_, rfl⟩
      obtain ⟨f, hf⟩ : ∃ f, setN x U j = f := ⟨_, rfl⟩
      rw [hy] at d0 HS
      rw [hf] at HL HS ⊢
      clear c0 hy hf
      go_wp2_with fail
      refine (isBasic_any (x : Int) _ n c y _ (by omega) (by omega)).mono ?_
      rintro e w1 ⟨rfl, h2⟩
      replace q0 := (h2.cell (p := ⟨w.heap.size, 0, none⟩) zp).trans q0
      replace q1 := (h2.cell (p := ⟨w.heap.size, 1, none⟩) zp).trans q1
      have z1 := Nat.lt_of_lt_of_le zp h2.size
      have B1 : Below w.heap.size w w1 := hB.trans (h2.mono hB.size)
      clear h2 d0
      cases q : inB 0 ((x : Int) - 1) y
      · have HN : Hid (f = setN x U (j + 1)) := by show _ = _; rw [HS.out, q]; rfl
        go_wp2
        go_roundw
        case rel => exact ⟨j + 1, by omega, by go_num, by rw [HN.out], q0, q1, z1, B1⟩
        case measure => first | (simp [intOf]; done) | (simp [intOf]; omega)
      · obtain ⟨y0, y1⟩ := inB_yes q
        obtain ⟨z, rfl⟩ : ∃ z : Nat, y = (z : Int) := ⟨y.toNat, by omega⟩
        have HN : Hid ((f ||| 2 ^ z : Nat) = setN x U (j + 1)) := by show _ = _; rw [HS.out, q]; simp
        go_wp2_with fail
        refine (with_any f z _ HL.out (by omega)).mono ?_
        rintro e w1 ⟨rfl, rfl⟩
        go_wp2
        go_roundw
        case rel => exact ⟨j + 1, by omega, by go_num, by rw [HN.out], q0, q1, z1, B1⟩
        case measure => first | (simp [intOf]; done) | (simp [intOf]; omega)
    · obtain rfl : j = m := by omega
      go_wp2
      go_ret
      exact ⟨rfl, (by repeat (first | with_reducible exact Below.refl _ _ | with_reducible exact hB | with_reducible refine Below.setCell ?_ (by first | omega | (simp; done) | (simp; omega)) _ | with_reducible refine bDrewN ?_ _ | with_reducible refine Below.drew ?_ | with_reducible refine Below.alloc ?_ (by first | omega | (simp; done) | (simp; omega)) _))⟩
set_option maxRecDepth 20000 in
set_option maxHeartbeats 4000000 in
theorem fails_any (b x : Nat) (s : Option Addr) (n c : Nat) (X : Nat → Int) (K : Nat → Nat) (V : Nat → Nat → Int) (w : World) (ht : Hid (treeB (x : Int) n X K V = true)) (hb : Hid (b < 2 ^ x)) (HR : Hid (RowGat w s n X K V)) :
    Calls Try.prog 47 #[.agg #[.int .i64 (x : Int), .slice s n c], .int .u32 (b : Int)] w fun e w' => e = .returned (.bool (faB b x n X K V)) ∧ Below w.heap.size w w' := by
  obtain ⟨⟨x0, x1⟩, ⟨n0, n1⟩, HG0⟩ := tree_yes ht.out
  have HG : Hid (∀ j, j < n → gatB (x + j - 1) (X j) (K j) (V j) = true) := HG0
  have HL : Hid (∀ k, k ≤ n → fl b x X K V k < 2 ^ 32) := fun k hk => by
    have h1 := fl_lt (X := X) (K := K) (V := V) hb.out k
    have h2 : 2 ^ (x + k) ≤ 2 ^ 32 := Nat.pow_le_pow_right (by decide) (by omega)
    omega
  clear HG0
  go_enter Try.func47, Try.ntmps47
  go_wp2_with fail
  go_loopw [1, 5, 11] (fun q y i wr => ∃ (k : Nat) (z : Bool), k ≤ n ∧ i = .int .i64 k ∧ q = .int .u32 (fl b x X K V k : Int) ∧ y = .bool z ∧ Hid (0 < k → z = (fl b x X K V n).testBit (x + k - 1)) ∧ wr.cell? ⟨w.heap.size, 0, none⟩ = some (.int .i64 (x : Int)) ∧ wr.cell? ⟨w.heap.size, 1, none⟩ = some (.slice s n c) ∧ w.heap.size < wr.heap.size ∧ Below w.heap.size w wr) (fun _ _ i _ => n - (intOf i).toNat)
  case atStart => exact ⟨0, false, Nat.zero_le _, rfl, rfl, rfl, fun h => by omega, by simp [go_sem], by simp [go_sem], by simp, (by repeat (first | with_reducible exact Below.refl _ _ | with_reducible refine Below.setCell ?_ (by first | omega | (simp; done) | (simp; omega)) _ | with_reducible refine bDrewN ?_ _ | with_reducible refine Below.drew ?_ | with_reducible refine Below.alloc ?_ (by first | omega | (simp; done) | (simp; omega)) _))⟩
  case round =>
    obtain ⟨k, z, hk, rfl, rfl, rfl, HZ, q0, q1, zp, hB⟩ := hrel
    by_cases h1 : k < n
    · obtain ⟨g, o, a, d, rfl, hg, c0, c1, hr⟩ := HR.out k h1
      replace c0 := (hB.cell (p := ⟨g, o + k * 2, none⟩) hg).trans c0
      replace c1 := (hB.cell (p := ⟨g, o + k * 2 + 1, none⟩) hg).trans c1
      obtain ⟨⟨k0, k12⟩, -, -, hv⟩ := gat_yes (HG.out k h1)
      have HV : Hid (∀ j, j < K k → 0 ≤ V k j ∧ V k j ≤ 31) := fun j hj => by have := hv j hj; omega
      have HN : Hid (fl b x X K V (k + 1) = if X k ≤ cntB (fl b x X K V k) (V k) (K k) then fl b x X K V k ||| 2 ^ (x + k) else fl b x X K V k) := rfl
      have HW : Hid ((fl b x X K V n).testBit (x + (k + 1) - 1) = decide (X k ≤ cntB (fl b x X K V k) (V k) (K k))) := fl_new hb.out h1
      have HF : Hid (fl b x X K V k < 2 ^ 32) := HL.out k hk
      obtain ⟨f, hf⟩ : ∃ f, fl b x X K V k = f := ⟨_, rfl⟩
      obtain ⟨y, hy⟩ : ∃ y, X k = y := ⟨_, rfl⟩
      obtain ⟨m, hm⟩ : ∃ m, K k = m := ⟨_, rfl⟩
      rw [hf] at HN HW HF ⊢
      rw [hy] at c0 HN HW
      rw [hm] at c1 hr HN HW HV k12
      have HI : Hid (RowI w a m (V k)) := hr
      have k1 : (k : Int) < (n : Int) := by omega
      have zg : g < wr.heap.size := Nat.lt_of_lt_of_le hg hB.size
      have HB : Hid (Below w.heap.size w wr) := hB
      have zW : w.heap.size ≤ wr.heap.size := hB.size
      clear hf hy hm hr hv hg hB HZ
      go_upto_region 5 with fail
      obtain ⟨wa, hwa⟩ : ∃ wa, wa = wr.alloc (.cells #[.int .i64 y, .slice a m d] 87) := ⟨_, rfl⟩
      rw [← hwa]
      have hb : Below wr.heap.size wr wa := by rw [hwa]; exact below0 _ _
      have a0 : wa.cell? ⟨wr.heap.size, 0, none⟩ = some (.int .i64 y) := by rw [hwa]; simp [go_sem]
      have a1 : wa.cell? ⟨wr.heap.size, 1, none⟩ = some (.slice a m d) := by rw [hwa]; simp [go_sem]
      have za : wr.heap.size < wa.heap.size := by rw [hwa]; simp
      replace q0 := (hb.cell (p := ⟨w.heap.size, 0, none⟩) zp).trans q0
      replace q1 := (hb.cell (p := ⟨w.heap.size, 1, none⟩) zp).trans q1
      have B2 : Below w.heap.size w wa := HB.out.trans (hb.mono zW)
      clear hwa hb c0 c1 zg
      go_wp2_with fail
      refine (failsBy_any y a m d (V k) f _ k12 HF.out HV (HI.out.below B2)).mono ?_
      rintro e w2 ⟨rfl, h2⟩
      replace q0 := (h2.cell (p := ⟨w.heap.size, 0, none⟩) (show w.heap.size < wa.heap.size by omega)).trans q0
      replace q1 := (h2.cell (p := ⟨w.heap.size, 1, none⟩) (show w.heap.size < wa.heap.size by omega)).trans q1
      have zW2 : wa.heap.size ≤ w2.heap.size := h2.size
      replace B2 : Below w.heap.size w w2 := B2.trans (h2.mono B2.size)
      clear h2 a0 a1
      by_cases e1 : y ≤ cntB f (V k) m
      · have HE : Hid (fl b x X K V (k + 1) = f ||| 2 ^ (x + k)) := by show _ = _; rw [HN.out, if_pos e1]
        have HZ : Hid (true = (fl b x X K V n).testBit (x + (k + 1) - 1)) := by show _ = _; rw [HW.out, decide_eq_true e1]
        have e2 : decide (y ≤ cntB f (V k) m) = true := decide_eq_true e1
        rw [e2]
        clear e1 e2
        go_wp2_with fail
        have ex : (x : Int) + (k : Int) = ((x + k : Nat) : Int) := by omega
        rw [ex]
        clear ex
        refine (with_any f (x + k) _ HF.out (by omega)).mono ?_
        rintro e w2 ⟨rfl, rfl⟩
        go_wp2
        go_roundw
        case rel => exact ⟨k + 1, true, by omega, by go_num, by rw [HE.out], rfl, fun _ => HZ.out, q0, q1, by omega, B2⟩
        case measure => first | (simp [intOf]; done) | (simp [intOf]; omega)
      · have HE : Hid (fl b x X K V (k + 1) = f) := by show _ = _; rw [HN.out, if_neg e1]
        have HZ : Hid (false = (fl b x X K V n).testBit (x + (k + 1) - 1)) := by show _ = _; rw [HW.out, decide_eq_false e1]
        have e2 : decide (y ≤ cntB f (V k) m) = false := decide_eq_false e1
        rw [e2]
        clear e1 e2
        go_wp2
        go_roundw
        case rel => exact ⟨k + 1, false, by omega, by go_num, by rw [HE.out], rfl, fun _ => HZ.out, q0, q1, by omega, B2⟩
        case measure => first | (simp [intOf]; done) | (simp [intOf]; omega)
    · obtain rfl : k = n := by omega
      have HO : Hid (z = faB b x k X K V) := HZ.out (by omega)
      go_wp2
      go_ret
      exact ⟨ret_bool HO.out, (by repeat (first | with_reducible exact Below.refl _ _ | with_reducible exact hB | with_reducible refine Below.setCell ?_ (by first | omega | (simp; done) | (simp; omega)) _ | with_reducible refine bDrewN ?_ _ | with_reducible refine Below.drew ?_ | with_reducible refine Below.alloc ?_ (by first | omega | (simp; done) | (simp; omega)) _))⟩
end Go.Proofs.Ytpaiajeigdifcaa
