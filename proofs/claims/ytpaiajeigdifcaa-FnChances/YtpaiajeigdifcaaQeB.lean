/-
What is proved: chances, as the specification says them.
-/
import Derived.Test.YtpaiajeigdifcaaCh
import Derived.Test.YtpaiajeigdifcaaQcC
import Derived.Test.YtpaiajeigdifcaaOwn
import Derived.Deep.Slices
import Derived.Test.YtpaiajeigdifcaaI64
import Derived.Test.YtpaiajeigdifcaaBeside
import Derived.Laws.CopyRow
import Derived.Lib.SlBuf
import Derived.Deep.RegionHeld3
import Derived.Deep.DeepCutAuto
import Derived.Test.YtpaiajeigdifcaaQeA
import Derived.Test.YtpaiajeigdifcaaChI
namespace Go.Proofs.Ytpaiajeigdifcaa
set_option maxRecDepth 40000
open Go.ChangeShapes Go.WideShapes Go.ChangeAt Go.RowKit
set_option linter.unusedVariables false
set_option linter.unusedSimpArgs false

set_option maxRecDepth 20000 in
set_option maxHeartbeats 2000000 in
theorem l23Eighths_any (x : Int) (s : Option Addr) (n c : Nat) (X : Nat → Int) (K : Nat → Nat) (V : Nat → Nat → Int) (t : Option Addr) (m d : Nat) (E : Nat → Int) (w : World) (hm : (m : Int) ≤ 1048576) (HR : Hid (RowGat w s n X K V)) (HE : Hid (RowI w t m E)) :
    Calls Try.prog 59 #[.agg #[.int .i64 x, .slice s n c], .slice t m d] w fun e w' => e = .returned (.bool (eigB x n X K V m E)) ∧ Below w.heap.size w w' := by
  go_enter Try.func59, Try.ntmps59
  go_wp2_with fail
  obtain ⟨wd, hwd⟩ : ∃ wd, wd = w.alloc (.cells #[.int .i64 x, .slice s n c] 26) := ⟨_, rfl⟩
  rw [← hwd]
  have B0 : Below w.heap.size w wd := by rw [hwd]; exact (by repeat (first | with_reducible exact Below.refl _ _ | with_reducible refine Below.setCell ?_ (by first | omega | (simp; done) | (simp; omega)) _ | with_reducible refine bDrewN ?_ _ | with_reducible refine Below.drew ?_ | with_reducible refine Below.alloc ?_ (by first | omega | (simp; done) | (simp; omega)) _))
  have p0 : wd.cell? ⟨w.heap.size, 0, none⟩ = some (.int .i64 x) := by rw [hwd]; simp [go_sem]
  have p1 : wd.cell? ⟨w.heap.size, 1, none⟩ = some (.slice s n c) := by rw [hwd]; simp [go_sem]
  have zd : w.heap.size < wd.heap.size := by rw [hwd]; simp
  clear hwd
  refine (specTreeOk_any x s n c X K V _ (HR.out.below B0)).mono ?_
  rintro e w1 ⟨rfl, h1⟩
  replace p0 := (h1.cell (p := ⟨w.heap.size, 0, none⟩) zd).trans p0
  have z1 := Nat.lt_of_lt_of_le zd h1.size
  have B1 : Below w.heap.size w w1 := B0.trans (h1.mono B0.size)
  clear h1 p1 B0 zd
  cases h0 : treeB x n X K V
  · have HO : Hid (eigB x n X K V m E = false) := by show _ = _; unfold eigB; rw [h0]; rfl
    go_wp2
    go_ret
    exact ⟨ret_bool HO.out.symm, (by repeat (first | with_reducible exact Below.refl _ _ | with_reducible exact B1 | with_reducible refine Below.setCell ?_ (by first | omega | (simp; done) | (simp; omega)) _ | with_reducible refine bDrewN ?_ _ | with_reducible refine Below.drew ?_ | with_reducible refine Below.alloc ?_ (by first | omega | (simp; done) | (simp; omega)) _))⟩
  by_cases hmx : (m : Int) = x
  case neg =>
    have bb : ((m : Int) != x) = true := by simpa using hmx
    have HO : Hid (eigB x n X K V m E = false) := by show _ = _; unfold eigB; rw [decide_eq_false hmx]; simp
    clear hmx
    go_wp2
    go_ret
    exact ⟨ret_bool HO.out.symm, (by repeat (first | with_reducible exact Below.refl _ _ | with_reducible exact B1 | with_reducible refine Below.setCell ?_ (by first | omega | (simp; done) | (simp; omega)) _ | with_reducible refine bDrewN ?_ _ | with_reducible refine Below.drew ?_ | with_reducible refine Below.alloc ?_ (by first | omega | (simp; done) | (simp; omega)) _))⟩
  subst hmx
  have HF : Hid (eigB (m : Int) n X K V m E = allInB 0 8 E m) := by show _ = _; unfold eigB; rw [h0]; simp
  clear h0
  go_wp2_with fail
  go_loopw [5] (fun i wr => ∃ k : Nat, k ≤ m ∧ i = .int .i64 k ∧ Hid (∀ j, j < k → 0 ≤ E j ∧ E j ≤ 8) ∧ wr = w1) (fun i _ => m - (intOf i).toNat)
  case atStart => exact ⟨0, Nat.zero_le _, rfl, fun j hj => by omega, rfl⟩
  case round =>
    obtain ⟨k, hk, rfl, HP, rfl⟩ := hrel
    by_cases h2 : k < m
    · obtain ⟨g, o, rfl, hg, c0⟩ := HE.out k h2
      have d0 := (B1.cell (p := ⟨g, o + k, none⟩) hg).trans c0
      have k1 : (k : Int) < (m : Int) := by omega
      clear c0
      go_wp2_with fail
      refine (l1In_is _ _ _ _).mono ?_
      rintro e w1 ⟨rfl, rfl⟩
      cases q : inB 0 8 (E k)
      · have HO : Hid (eigB (m : Int) n X K V m E = false) := by
          show _ = _
          rw [HF.out]
          exact decide_eq_false fun h => by have := h k h2; unfold inB at q; simp at q; omega
        go_wp2
        go_ret
        exact ⟨ret_bool HO.out.symm, (by repeat (first | with_reducible exact Below.refl _ _ | with_reducible exact B1 | with_reducible refine Below.setCell ?_ (by first | omega | (simp; done) | (simp; omega)) _ | with_reducible refine bDrewN ?_ _ | with_reducible refine Below.drew ?_ | with_reducible refine Below.alloc ?_ (by first | omega | (simp; done) | (simp; omega)) _))⟩
      · have q' := inB_yes q
        have HN : Hid (∀ j, j < k + 1 → 0 ≤ E j ∧ E j ≤ 8) := ball_succ HP.out q'
        clear q'
        go_wp2
        go_roundw
        case rel => exact ⟨k + 1, by omega, by go_num, HN.out, by first | rfl | trivial⟩
        case measure => first | (simp [intOf]; done) | (simp [intOf]; omega)
    · obtain rfl : k = m := by omega
      have HO : Hid (eigB (k : Int) n X K V k E = true) := by show _ = _; rw [HF.out]; exact decide_eq_true HP.out
      go_wp2
      go_ret
      exact ⟨ret_bool HO.out.symm, (by repeat (first | with_reducible exact Below.refl _ _ | with_reducible exact B1 | with_reducible refine Below.setCell ?_ (by first | omega | (simp; done) | (simp; omega)) _ | with_reducible refine bDrewN ?_ _ | with_reducible refine Below.drew ?_ | with_reducible refine Below.alloc ?_ (by first | omega | (simp; done) | (simp; omega)) _))⟩
set_option maxRecDepth 20000 in
set_option maxHeartbeats 8000000 in
theorem specChance_any (x : Int) (s : Option Addr) (n c : Nat) (X : Nat → Int) (K : Nat → Nat) (V : Nat → Nat → Int) (t : Option Addr) (m d : Nat) (E : Nat → Int) (w : World) (hm : (m : Int) ≤ 1048576) (HR : Hid (RowGat w s n X K V)) (HE : Hid (RowI w t m E)) :
    Calls Try.prog 22 #[.agg #[.int .i64 x, .slice s n c], .slice t m d] w fun e w' => e = .returned (.int .i64 (chanceV x n X K V m E)) ∧ Below w.heap.size w w' := by
  go_enter Try.func22, Try.ntmps22
  go_wp2_with fail
  obtain ⟨wd, hwd⟩ : ∃ wd, wd = w.alloc (.cells #[.int .i64 x, .slice s n c] 26) := ⟨_, rfl⟩
  rw [← hwd]
  have B0 : Below w.heap.size w wd := by rw [hwd]; exact (by repeat (first | with_reducible exact Below.refl _ _ | with_reducible refine Below.setCell ?_ (by first | omega | (simp; done) | (simp; omega)) _ | with_reducible refine bDrewN ?_ _ | with_reducible refine Below.drew ?_ | with_reducible refine Below.alloc ?_ (by first | omega | (simp; done) | (simp; omega)) _))
  have p0 : wd.cell? ⟨w.heap.size, 0, none⟩ = some (.int .i64 x) := by rw [hwd]; simp [go_sem]
  have p1 : wd.cell? ⟨w.heap.size, 1, none⟩ = some (.slice s n c) := by rw [hwd]; simp [go_sem]
  have zd : w.heap.size < wd.heap.size := by rw [hwd]; simp
  clear hwd
  refine (l23Eighths_any x s n c X K V t m d E _ hm (HR.out.below B0) (HE.out.below B0)).mono ?_
  rintro e w1 ⟨rfl, h1⟩
  replace p0 := (h1.cell (p := ⟨w.heap.size, 0, none⟩) zd).trans p0
  replace p1 := (h1.cell (p := ⟨w.heap.size, 1, none⟩) zd).trans p1
  have z1 := Nat.lt_of_lt_of_le zd h1.size
  have B1 : Below w.heap.size w w1 := B0.trans (h1.mono B0.size)
  clear h1 B0 zd
  cases h0 : eigB x n X K V m E
  · have HO : Hid (chanceV x n X K V m E = -1) := by show _ = _; unfold chanceV; rw [h0]; rfl
    go_wp2
    go_ret
    exact ⟨ret_int HO.out.symm, (by repeat (first | with_reducible exact Below.refl _ _ | with_reducible exact B1 | with_reducible refine Below.setCell ?_ (by first | omega | (simp; done) | (simp; omega)) _ | with_reducible refine bDrewN ?_ _ | with_reducible refine Below.drew ?_ | with_reducible refine Below.alloc ?_ (by first | omega | (simp; done) | (simp; omega)) _))⟩
  obtain ⟨ht, rfl, hE⟩ := eig_yes h0
  obtain ⟨⟨x0, x1⟩, -, -⟩ := tree_yes ht
  have HT : Hid (treeB (m : Int) n X K V = true) := ht
  have H8 : Hid (∀ i, i < m → 0 ≤ E i ∧ E i ≤ 8) := hE
  obtain ⟨N, hN⟩ : ∃ N, 2 ^ m = N := ⟨_, rfl⟩
  have hw : wrap64 ((2 : Int) ^ m) = (N : Int) := by rw [wpow m (by omega), hN]
  have HO : Hid (chanceV (m : Int) n X K V m E = chaV m n X K V E N) := by show _ = _; unfold chanceV; rw [h0, Int.toNat_natCast, hN]; rfl
  have N1 : N ≤ 1024 := by rw [← hN]; exact (Nat.pow_le_pow_right (by decide) (by omega) : 2 ^ m ≤ 2 ^ 10)
  have HN : Hid (2 ^ m = N) := hN
  clear h0 ht hE hN
  go_wp2_with fail
  go_loopw [5, 6] (fun v i wr => ∃ b : Nat, b ≤ N ∧ i = .int .i64 b ∧ v = .int .i64 (chaV m n X K V E b) ∧ wr.cell? ⟨w.heap.size, 0, none⟩ = some (.int .i64 (m : Int)) ∧ wr.cell? ⟨w.heap.size, 1, none⟩ = some (.slice s n c) ∧ w.heap.size < wr.heap.size ∧ Below w.heap.size w wr) (fun _ i _ => N - (intOf i).toNat)
  case atStart => exact ⟨0, Nat.zero_le _, rfl, rfl, p0, p1, z1, B1⟩
  case round =>
    clear p0 p1 z1 B1
    obtain ⟨b, hb, rfl, rfl, q0, q1, zp, hB⟩ := hrel
    by_cases h2 : b < N
    · have cb := cha_bound (n := n) (X := X) (K := K) (V := V) H8.out (show m ≤ 10 by omega) b
      have b1 : (b : Int) < (N : Int) := by omega
      have HS : Hid (chaV m n X K V E (b + 1) = chaV m n X K V E b + (if faB b m n X K V = true then prdV b E (fun i => 8 - E i) m else 0)) := rfl
      obtain ⟨S, hS⟩ : ∃ S, chaV m n X K V E b = S := ⟨_, rfl⟩
      rw [hS] at HS cb ⊢
      have s0 : 0 ≤ S := cb.1
      have s1 : S ≤ 1099511627776 := by omega
      have HB2 : Hid (b < 2 ^ m) := by show _ < _; rw [HN.out]; exact h2
      have HB62 : Hid (b < 2 ^ 62) := by show b < 2 ^ 62; omega
      clear cb hS
      go_wp2_with fail
      go_loopw [7, 8] (fun v i ws => ∃ k : Nat, k ≤ m ∧ i = .int .i64 k ∧ v = .int .i64 (prdV b E (fun i => 8 - E i) k) ∧ ws = wr) (fun _ i _ => m - (intOf i).toNat)
      case atStart => exact ⟨0, Nat.zero_le _, rfl, rfl, rfl⟩
      case round =>
        obtain ⟨k, hk, rfl, rfl, rfl⟩ := hrel
        rename_i wr _
        have pb := prd_small (b := b) (k := k) (fun i hi => H8.out i (by omega)) (sub8 (fun i hi => H8.out i (by omega))) (by omega)
        by_cases h3 : k < m
        · obtain ⟨g, o, rfl, hg, c0⟩ := HE.out k h3
          have d0 := (hB.cell (p := ⟨g, o + k, none⟩) hg).trans c0
          obtain ⟨y0, y1⟩ := H8.out k h3
          have k1 : (k : Int) < (m : Int) := by omega
          have hbit := bit_i64 b k HB62.out
          have HP : Hid (prdV b E (fun i => 8 - E i) (k + 1) = prdV b E (fun i => 8 - E i) k * (if b.testBit k = true then E k else 8 - E k)) := rfl
          obtain ⟨p, hp⟩ : ∃ p, prdV b E (fun i => 8 - E i) k = p := ⟨_, rfl⟩
          obtain ⟨y, hy⟩ : ∃ y, E k = y := ⟨_, rfl⟩
          rw [hy] at d0 HP y0 y1
          rw [hp] at HP pb ⊢
          obtain ⟨pp0, pp1⟩ := pb
          have m1 := mul_in pp0 pp1 y0 y1
          have m2 := mul_in (y := 8 - y) pp0 pp1 (by omega) (by omega)
          clear hp hy c0
          cases q : b.testBit k
          · rw [q] at hbit
            obtain ⟨r, hr⟩ : ∃ r, p * (8 - y) = r := ⟨_, rfl⟩
            have HR2 : Hid (prdV b E (fun i => 8 - E i) (k + 1) = r) := by show _ = _; rw [HP.out, q, ← hr]; simp
            rw [hr] at m2
            clear m1
            go_wp2
            go_roundw
            case rel => exact ⟨k + 1, by omega, by go_num, by rw [HR2.out], by first | rfl | trivial⟩
            case measure => first | (simp [intOf]; done) | (simp [intOf]; omega)
          · rw [q] at hbit
            obtain ⟨r, hr⟩ : ∃ r, p * y = r := ⟨_, rfl⟩
            have HR2 : Hid (prdV b E (fun i => 8 - E i) (k + 1) = r) := by show _ = _; rw [HP.out, q, ← hr]; simp
            rw [hr] at m1
            clear m2
            go_wp2
            go_roundw
            case rel => exact ⟨k + 1, by omega, by go_num, by rw [HR2.out], by first | rfl | trivial⟩
            case measure => first | (simp [intOf]; done) | (simp [intOf]; omega)
        · obtain rfl : k = m := by omega
          obtain ⟨p, hp⟩ : ∃ p, prdV b E (fun i => 8 - E i) k = p := ⟨_, rfl⟩
          rw [hp] at HS pb ⊢
          obtain ⟨pp0, pp1⟩ := pb
          clear hp
          by_cases pz : 0 < p
          · have HRW : Hid (RowGat wr s n X K V) := HR.out.below hB
            go_wp2_with fail
            refine (l23Fails_any b k s n c X K V _ HT HB2.out HRW).mono ?_
            rintro e w2 ⟨rfl, hx2⟩
            replace q0 := (hx2.cell (p := ⟨w.heap.size, 0, none⟩) zp).trans q0
            replace q1 := (hx2.cell (p := ⟨w.heap.size, 1, none⟩) zp).trans q1
            have z2 := Nat.lt_of_lt_of_le zp hx2.size
            have B2 : Below w.heap.size w w2 := hB.trans (hx2.mono hB.size)
            clear hx2
            cases q : faB b k n X K V
            · have HQ : Hid (chaV k n X K V E (b + 1) = S) := by show _ = _; rw [HS.out, q]; simp
              go_wp2
              go_roundw
              case rel => exact ⟨b + 1, by omega, by go_num, by rw [HQ.out], q0, q1, z2, B2⟩
              case measure => first | (simp [intOf]; done) | (simp [intOf]; omega)
            · have HQ : Hid (chaV k n X K V E (b + 1) = S + p) := by show _ = _; rw [HS.out, q]; simp
              go_wp2
              go_roundw
              case rel => exact ⟨b + 1, by omega, by go_num, by rw [HQ.out], q0, q1, z2, B2⟩
              case measure => first | (simp [intOf]; done) | (simp [intOf]; omega)
          · obtain rfl : p = 0 := by omega
            have HQ : Hid (chaV k n X K V E (b + 1) = S) := by show _ = _; rw [HS.out]; simp
            clear pz
            go_wp2
            go_roundw
            case rel => exact ⟨b + 1, by omega, by go_num, by rw [HQ.out], q0, q1, zp, hB⟩
            case measure => first | (simp [intOf]; done) | (simp [intOf]; omega)
    · obtain rfl : b = N := by omega
      go_wp2
      go_ret
      exact ⟨ret_int HO.out.symm, (by repeat (first | with_reducible exact Below.refl _ _ | with_reducible exact hB | with_reducible refine Below.setCell ?_ (by first | omega | (simp; done) | (simp; omega)) _ | with_reducible refine bDrewN ?_ _ | with_reducible refine Below.drew ?_ | with_reducible refine Below.alloc ?_ (by first | omega | (simp; done) | (simp; omega)) _))⟩

open Go.ChangeShapes Go.WideShapes Go.ChangeAt Go.RowKit
set_option linter.unusedVariables false
set_option linter.unusedSimpArgs false

theorem and_small (n : Nat) (hn : n ≤ 40) : bits .and .u64 (n : Int) 4294967295 = (n : Int) := by
  have hc : n = 0 ∨ n = 1 ∨ n = 2 ∨ n = 3 ∨ n = 4 ∨ n = 5 ∨ n = 6 ∨ n = 7 ∨ n = 8 ∨ n = 9 ∨ n = 10 ∨ n = 11 ∨ n = 12 ∨ n = 13 ∨ n = 14 ∨ n = 15 ∨ n = 16 ∨ n = 17 ∨ n = 18 ∨ n = 19 ∨ n = 20 ∨ n = 21 ∨ n = 22 ∨ n = 23 ∨ n = 24 ∨ n = 25 ∨ n = 26 ∨ n = 27 ∨ n = 28 ∨ n = 29 ∨ n = 30 ∨ n = 31 ∨ n = 32 ∨ n = 33 ∨ n = 34 ∨ n = 35 ∨ n = 36 ∨ n = 37 ∨ n = 38 ∨ n = 39 ∨ n = 40 := by omega
  rcases hc with rfl | rfl | rfl | rfl | rfl | rfl | rfl | rfl | rfl | rfl | rfl | rfl | rfl | rfl | rfl | rfl | rfl | rfl | rfl | rfl | rfl | rfl | rfl | rfl | rfl | rfl | rfl | rfl | rfl | rfl | rfl | rfl | rfl | rfl | rfl | rfl | rfl | rfl | rfl | rfl | rfl <;> rfl
theorem wrap_small (n : Nat) (hn : n ≤ 40) : IntKind.u64.wrap (n : Int) = (n : Int) := by
  have hc : n = 0 ∨ n = 1 ∨ n = 2 ∨ n = 3 ∨ n = 4 ∨ n = 5 ∨ n = 6 ∨ n = 7 ∨ n = 8 ∨ n = 9 ∨ n = 10 ∨ n = 11 ∨ n = 12 ∨ n = 13 ∨ n = 14 ∨ n = 15 ∨ n = 16 ∨ n = 17 ∨ n = 18 ∨ n = 19 ∨ n = 20 ∨ n = 21 ∨ n = 22 ∨ n = 23 ∨ n = 24 ∨ n = 25 ∨ n = 26 ∨ n = 27 ∨ n = 28 ∨ n = 29 ∨ n = 30 ∨ n = 31 ∨ n = 32 ∨ n = 33 ∨ n = 34 ∨ n = 35 ∨ n = 36 ∨ n = 37 ∨ n = 38 ∨ n = 39 ∨ n = 40 := by omega
  rcases hc with rfl | rfl | rfl | rfl | rfl | rfl | rfl | rfl | rfl | rfl | rfl | rfl | rfl | rfl | rfl | rfl | rfl | rfl | rfl | rfl | rfl | rfl | rfl | rfl | rfl | rfl | rfl | rfl | rfl | rfl | rfl | rfl | rfl | rfl | rfl | rfl | rfl | rfl | rfl | rfl | rfl <;> rfl
set_option maxHeartbeats 8000000 in
theorem mul64_one (n : Nat) (hn : n ≤ 40) (w : World) : Calls Try.prog 101 #[.int .u64 1, .int .u64 (n : Int)] w fun e w' => e = .returned (.tuple #[.int .u64 0, .int .u64 (n : Int)]) ∧ w' = w := by
  have b1 : bits .and .u64 1 4294967295 = 1 := rfl
  have b0 : bits .and .u64 0 4294967295 = 0 := rfl
  have bn := and_small n hn
  have wn := wrap_small n hn
  have w0 : IntKind.u64.wrap 0 = 0 := rfl
  have dn : (n : Int) / 4294967296 = 0 := by omega
  have n1 : (n : Int) ≤ 40 := by omega
  go_enter Try.func101, Try.ntmps101
  go_wp2
  refine bodyPost_ret (v := .tuple #[.int .u64 0, .int .u64 (n : Int)]) ?_ rfl ⟨rfl, rfl⟩
  simp [results, Try.results101, go_sem, b1, b0, bn, wn, w0, dn]
set_option maxHeartbeats 1000000 in
theorem mul_one (n : Nat) (hn : n ≤ 40) (w : World) : Calls Try.prog 86 #[.int .u64 1, .int .u64 (n : Int)] w fun e w' => e = .returned (.tuple #[.int .u64 0, .int .u64 (n : Int)]) ∧ w' = w := by
  have n0 : (0 : Int) ≤ (n : Int) := by omega
  have n1 : (n : Int) ≤ 40 := by omega
  go_enter Try.func86, Try.ntmps86
  go_wp2_with fail
  refine (mul64_one n hn _).mono ?_
  rintro e w1 ⟨rfl, rfl⟩
  go_wp2
  exact bodyPost_ret (v := .tuple #[.int .u64 0, .int .u64 (n : Int)]) (by simp [results, Try.results86, go_sem]) rfl ⟨rfl, rfl⟩

open Go.ChangeShapes Go.WideShapes Go.ChangeAt Go.RowKit
set_option linter.unusedVariables false

theorem addr_add (b o k : Nat) : (⟨b, o, none⟩ : Addr).add k = ⟨b, o + k, none⟩ := by
  unfold Addr.add
  split
  · rename_i h; subst h; rfl
  · rfl
theorem slice_spot {w : World} {b0 : Nat} {t e : TypeId} {a : Addr} {n c : Nat} (ht : Try.prog.underlying t = some (.slice e)) (hv : Value.okWide Try.prog w .any b0 t (.slice (some a) n c)) : a.spot = none := by
  simp only [Value.okWide, ht, Cell.okWide, Cell.ok] at hv
  exact hv.2.2.2.1
theorem cell_lt {w : World} {p : Addr} {v : Value} (h : w.cell? p = some v) : p.block < w.heap.size := by
  rcases Nat.lt_or_ge p.block w.heap.size with z | z
  · exact z
  · exfalso
    simp [World.cell?, Array.getElem?_eq_none z] at h

open Go.ChangeShapes Go.WideShapes Go.ChangeAt Go.RowKit
set_option linter.unusedVariables false
set_option linter.unusedSimpArgs false

def rpC (x : Int) (k n : Nat) : List Value := List.replicate k (.int .i64 x) ++ List.replicate (n - k) (.int .i64 0)
theorem rpC_len {x : Int} {k n : Nat} (h : k ≤ n) : (rpC x k n).length = n := by unfold rpC; simp; omega
theorem rpC_made (x : Int) (n : Nat) : madeCells #[.int .i64 0] n = (rpC x 0 n).toArray := by
  unfold rpC
  apply Array.ext
  · simp [madeCells]
  · intro i h1 h2
    simp [madeCells, Nat.mod_one]
def RepAt (W : World) (b n k : Nat) (x : Int) : Prop := W.heap[b]? = some (.cells (rpC x k n).toArray 2 (0, 0))
theorem RepAt.cell {W : World} {b n k j : Nat} {x : Int} (h : RepAt W b n k x) (hj : j < k) : W.cell? ⟨b, j, none⟩ = some (.int .i64 x) := by
  unfold RepAt at h
  simp [World.cell?, h, rpC, List.getElem?_append, hj]
theorem rp_store {W : World} {b n k m o : Nat} {x : Int} (h : RepAt W b n k x) (hk : k ≤ n) (ho : o ≤ k) (hm : k ≤ o + m) (hn : o + m ≤ n) : (storeCells ⟨b, o, none⟩ (List.replicate m (.int .i64 x)) 0).run Try.prog W = .ok () (W.setRow b (rpC x (o + m) n).toArray) := by
  have hs := run_storeCells_at Try.prog b o 2 (List.replicate m (.int .i64 x)) 0 (rpC x k n).toArray W h (by simp [rpC_len hk]; omega) (fun v hv => by rw [List.eq_of_mem_replicate hv]; rfl)
  rw [hs]
  congr 2
  simp only [List.length_replicate, Nat.add_zero]
  congr 1
  unfold rpC
  rw [List.take_append_of_le_length (by simp; omega), List.take_replicate, List.drop_append, List.drop_replicate, List.drop_replicate, List.length_replicate]
  rw [show min o k = o by omega, show k - (o + m) = 0 by omega, List.replicate_zero, List.nil_append, ← List.replicate_append_replicate]
  rw [show n - k - (o + m - k) = n - (o + m) by omega]
theorem rp_row {W : World} {b n k k2 : Nat} {x : Int} (h : RepAt W b n k x) : RepAt (W.setRow b (rpC x k2 n).toArray) b n k2 x := setRow_heap W b _ _ _ _ h
theorem rp_beside (W : World) (b : Nat) (cs : Array Value) : Beside b W (W.setRow b cs) := ⟨rfl, rfl, rfl, by simp, fun k hk hn => setRow_other W b k cs hn⟩
theorem copy_rep {W : World} {b n k : Nat} {x : Int} (ty : TypeId) (m : Nat) (hm : min k (n - k) = m) (h : RepAt W b n k x) (hk : k ≤ n) : (Builtin.copy_ #[30, 30] ty #[.slice (some ⟨b, k, none⟩) (n - k) (n - k), .slice (some ⟨b, 0, none⟩) k n]).run Try.prog W = .ok (goInt (m : Int)) (W.setRow b (rpC x (k + m) n).toArray) := by
  have hinfo : (Try.prog.info? 2).map (fun i => i.size) = some 1 := by kernel_rfl
  obtain ⟨i, hi, hs⟩ := Option.map_eq_some_iff.1 hinfo
  have hl := run_loadCells_list (P := Try.prog) W ⟨b, 0, none⟩ (List.replicate m (.int .i64 x)) (fun j v hv => by
    have hj : j < m := by
      rcases Nat.lt_or_ge j m with z | z
      · exact z
      · rw [List.getElem?_eq_none (by simp; omega)] at hv; cases hv
    rw [List.getElem?_replicate, if_pos hj] at hv
    have := h.cell (j := j) (by omega)
    rw [addr_add, Nat.zero_add]
    exact this.trans hv)
  have hst := rp_store h hk (o := k) (m := m) (Nat.le_refl _) (by omega) (by omega)
  rw [List.length_replicate] at hl
  simp [Builtin.copy_, run_underlying Try.underlying30, Builtin.lenOf, Builtin.firstCells, sizeOf, typeInfo, hi, hs, (show k.min (n - k) = m from hm), hl, hst]
theorem copy_one {W : World} {b p n : Nat} {x : Int} (ty : TypeId) (m : Nat) (hm : min 1 n = m) (h : RepAt W b n 0 x) (hp : W.cell? ⟨p, 0, none⟩ = some (.int .i64 x)) : (Builtin.copy_ #[30, 30] ty #[.slice (some ⟨b, 0, none⟩) n n, .slice (some ⟨p, 0, none⟩) 1 1]).run Try.prog W = .ok (goInt (m : Int)) (W.setRow b (rpC x m n).toArray) := by
  have hinfo : (Try.prog.info? 2).map (fun i => i.size) = some 1 := by kernel_rfl
  obtain ⟨i, hi, hs⟩ := Option.map_eq_some_iff.1 hinfo
  have hl := run_loadCells_list (P := Try.prog) W ⟨p, 0, none⟩ (List.replicate m (.int .i64 x)) (fun j v hv => by
    have hj : j < m := by
      rcases Nat.lt_or_ge j m with z | z
      · exact z
      · rw [List.getElem?_eq_none (by simp; omega)] at hv; cases hv
    obtain rfl : j = 0 := by omega
    rw [List.getElem?_replicate, if_pos hj] at hv
    rw [addr_add]
    exact hp.trans hv)
  have hst := rp_store h (Nat.zero_le _) (o := 0) (m := m) (Nat.le_refl _) (by omega) (by omega)
  rw [List.length_replicate] at hl
  rw [Nat.zero_add] at hst
  simp [Builtin.copy_, run_underlying Try.underlying30, Builtin.lenOf, Builtin.firstCells, sizeOf, typeInfo, hi, hs, (show Nat.min 1 n = m from hm), hl, hst]
set_option maxRecDepth 20000 in
set_option maxHeartbeats 8000000 in
theorem repeat_any (p n : Nat) (x : Int) (w : World) (hn : n ≤ 40) (zp : p < w.heap.size) (hp : w.cell? ⟨p, 0, none⟩ = some (.int .i64 x)) :
    Calls Try.prog 61 #[.slice (some ⟨p, 0, none⟩) 1 1, .int .i64 (n : Int)] w fun e w' => e = .returned (.slice (some ⟨w.heap.size, 0, none⟩) n n) ∧ RepAt w' w.heap.size n n x ∧ Below w.heap.size w w' := by
  have hmk := make_i64 n (by omega)
  have n0 : (0 : Int) ≤ (n : Int) := by omega
  have n1 : (n : Int) ≤ 40 := by omega
  have b0 : decide ((n : Int) < 0) = false := decide_eq_false (by omega)
  have b1 : decide ((9223372036854775807 : Int) < (n : Int)) = false := decide_eq_false (by omega)
  go_enter Try.func61, Try.ntmps61
  go_wp2_with fail
  refine (mul_one n hn _).mono ?_
  rintro e w ⟨rfl, rfl⟩
  go_upto_region 7 with fail
  obtain ⟨wa, hwa⟩ : ∃ wa, wa = w.alloc (.cells (madeCells #[.int .i64 0] n) 2) := ⟨_, rfl⟩
  rw [← hwa]
  have hb : Below w.heap.size w wa := by rw [hwa]; exact below0 _ _
  have HRA : Hid (RepAt wa w.heap.size n 0 x) := by show RepAt _ _ _ _ _; rw [hwa, rpC_made x n]; exact heap_alloc_new w _
  have hpa : wa.cell? ⟨p, 0, none⟩ = some (.int .i64 x) := (hb.cell (p := ⟨p, 0, none⟩) zp).trans hp
  have HB : Hid (Below w.heap.size w wa) := hb
  obtain ⟨k0, hk0⟩ : ∃ k, min 1 n = k := ⟨_, rfl⟩
  have hcp := copy_one 3 k0 hk0 HRA.out hpa
  clear hwa hb hmk
  go_wp2_with (at_builtin; refine Lib.wpList_copy_run _ (by rfl) (.tmp 31) (.tmp 32) 30 30 (by rfl) _ _ (by rfl) (by rfl) hcp ?_)
  obtain ⟨wb, hwb⟩ : ∃ wb, wb = wa.setRow w.heap.size (rpC x k0 n).toArray := ⟨_, rfl⟩
  rw [← hwb]
  have HRB : Hid (RepAt wb w.heap.size n k0 x) := by show RepAt _ _ _ _ _; rw [hwb]; exact rp_row HRA.out
  have HB2 : Hid (Below w.heap.size w wb) := by show Below _ _ _; rw [hwb]; exact HB.out.trans ((rp_beside wa w.heap.size _).below (Nat.le_refl _) HB.out.size)
  clear hwb hcp HRA HB hpa
  go_loopw [8] (fun i wr => ∃ k : Nat, k ≤ n ∧ i = .int .i64 (k : Int) ∧ (k = n ∨ 1 ≤ k) ∧ Hid (RepAt wr w.heap.size n k x) ∧ Below w.heap.size w wr) (fun i _ => n - (intOf i).toNat)
  case atStart => exact ⟨k0, by omega, rfl, by omega, HRB, HB2.out⟩
  case round =>
    obtain ⟨k, hk, rfl, hk1, HRD, hB⟩ := hrel
    by_cases h1 : k < n
    · have k1 : (k : Int) < (n : Int) := by omega
      have kc : n ≠ k := by omega
      obtain ⟨m, hm⟩ : ∃ m, min k (n - k) = m := ⟨_, rfl⟩
      have m0 : 1 ≤ m := by omega
      have m1 : k + m ≤ n := by omega
      have HBr : Hid (Below w.heap.size w wr) := hB
      go_upto_region 9 with fail
      refine wp_region_held_drew (S := fun w' => Hid True ∧ Hid True) (by kernel_rfl) ?_ (fun hHeld => ?_)
      · exact ⟨trivial, trivial⟩
      refine wpAnyH_take (i := 0) (v := .int .i64 (k : Int)) rfl (by kernel_rfl) (by kernel_rfl) (by kernel_rfl) (fun _ _ _ h => h) (Or.inl ⟨by kernel_rfl, ?_⟩) hHeld ?_
      · intro w' hSw
        obtain ⟨s0, s1⟩ := hSw
        first | (go_simp; done) | (go_simp; with_reducible rfl) | (go_simp; rw [IntKind.wrap_i64]; omega) | (go_simp; omega)
      simp only [Act.put, List.setIfInBounds_toArray, List.set_cons_zero, List.set_cons_succ]
      refine wpAnyH_take (i := 1) (v := .slice (some ⟨w.heap.size, 0, none⟩) n n) rfl (by kernel_rfl) (by kernel_rfl) (by kernel_rfl) (fun _ _ _ h => h) (Or.inl ⟨by kernel_rfl, ?_⟩) hHeld ?_
      · intro w' hSw
        obtain ⟨s0, s1⟩ := hSw
        first | (go_simp; done) | (go_simp; with_reducible rfl) | (go_simp; rw [IntKind.wrap_i64]; omega) | (go_simp; omega)
      simp only [Act.put, List.setIfInBounds_toArray, List.set_cons_zero, List.set_cons_succ]
      refine wpAnyH_take (i := 2) (v := .int .i64 (k : Int)) rfl (by kernel_rfl) (by kernel_rfl) (by kernel_rfl) (fun _ _ _ h => h) (Or.inl ⟨by kernel_rfl, ?_⟩) hHeld ?_
      · intro w' hSw
        obtain ⟨s0, s1⟩ := hSw
        first | (go_simp; done) | (go_simp; with_reducible rfl) | (go_simp; rw [IntKind.wrap_i64]; omega) | (go_simp; omega)
      simp only [Act.put, List.setIfInBounds_toArray, List.set_cons_zero, List.set_cons_succ]
      refine wpAnyH_take (i := 3) (v := .slice (some ⟨w.heap.size, k, none⟩) (n - k) (n - k)) rfl (by kernel_rfl) (by kernel_rfl) (by kernel_rfl) (fun _ _ _ h => h) (Or.inl ⟨by kernel_rfl, ?_⟩) hHeld ?_
      · intro w' hSw
        obtain ⟨s0, s1⟩ := hSw
        first | (go_simp; done) | (go_simp; with_reducible rfl) | (go_simp; rw [IntKind.wrap_i64]; omega) | (go_simp; omega)
      simp only [Act.put, List.setIfInBounds_toArray, List.set_cons_zero, List.set_cons_succ]
      refine wpAnyH_take (i := 4) (v := .slice (some ⟨w.heap.size, 0, none⟩) n n) rfl (by kernel_rfl) (by kernel_rfl) (by kernel_rfl) (fun _ _ _ h => h) (Or.inl ⟨by kernel_rfl, ?_⟩) hHeld ?_
      · intro w' hSw
        obtain ⟨s0, s1⟩ := hSw
        first | (go_simp; done) | (go_simp; with_reducible rfl) | (go_simp; rw [IntKind.wrap_i64]; omega) | (go_simp; omega)
      simp only [Act.put, List.setIfInBounds_toArray, List.set_cons_zero, List.set_cons_succ]
      refine wpAnyH_take (i := 5) (v := .int .i64 (k : Int)) rfl (by kernel_rfl) (by kernel_rfl) (by kernel_rfl) (fun _ _ _ h => h) (Or.inl ⟨by kernel_rfl, ?_⟩) hHeld ?_
      · intro w' hSw
        obtain ⟨s0, s1⟩ := hSw
        first | (go_simp; done) | (go_simp; with_reducible rfl) | (go_simp; rw [IntKind.wrap_i64]; omega) | (go_simp; omega)
      simp only [Act.put, List.setIfInBounds_toArray, List.set_cons_zero, List.set_cons_succ]
      refine wpAnyH_take (i := 6) (v := .slice (some ⟨w.heap.size, 0, none⟩) k n) rfl (by kernel_rfl) (by kernel_rfl) (by kernel_rfl) (fun _ _ _ h => h) (Or.inl ⟨by kernel_rfl, ?_⟩) hHeld ?_
      · intro w' hSw
        obtain ⟨s0, s1⟩ := hSw
        first | (go_simp; done) | (go_simp; with_reducible rfl) | (go_simp; rw [IntKind.wrap_i64]; omega) | (go_simp; omega)
      simp only [Act.put, List.setIfInBounds_toArray, List.set_cons_zero, List.set_cons_succ]
      refine wpAnyH_ready (rs := [7]) (by kernel_rfl) (by simp) ?_
      refine AllReadyH.cons rfl (fun KK hK => ?_) AllReadyH.nil
      refine Lib.wp_copy_run _ (.tmp 41) (.tmp 44) 30 30 (by rfl) _ _ (by rfl) (by rfl) (copy_rep 3 m hm HRD.out (by omega)) ?_
      go_simp
      refine hK.out _ _ ⟨trivial, trivial⟩ (fun hHeld => ?_)
      clear hK KK
      refine wpAnyH_take (i := 8) (v := .int .i64 ((k : Int) + (m : Int))) rfl (by kernel_rfl) (by kernel_rfl) (by kernel_rfl) (fun _ _ _ h => h) (Or.inl ⟨by kernel_rfl, ?_⟩) hHeld ?_
      · intro w' hSw
        obtain ⟨s0, s1⟩ := hSw
        first | (go_simp; done) | (go_simp; with_reducible rfl) | (go_simp; rw [IntKind.wrap_i64]; omega) | (go_simp; omega)
      simp only [Act.put, List.setIfInBounds_toArray, List.set_cons_zero, List.set_cons_succ]
      refine wpAnyH_ready (rs := [9]) (by kernel_rfl) (by simp) ?_
      refine AllReadyH.cons rfl (fun KK hK => ?_) AllReadyH.nil
      go_simp
      refine hK.out _ _ hHeld (fun hHeld => ?_)
      clear hK KK
      refine wpAnyH_done (by kernel_rfl) ?_ _
      clear hHeld
      have HRE : RepAt wr.drew w.heap.size n k x := HRD.out
      have HRN : Hid (RepAt (wr.drew.setRow w.heap.size (rpC x (k + m) n).toArray) w.heap.size n (k + m) x) := rp_row HRE
      have BE : Below w.heap.size w wr.drew := HBr.out.trans ((Below.drew (Below.refl _ _)).mono HBr.out.size)
      have BN : Below w.heap.size w (wr.drew.setRow w.heap.size (rpC x (k + m) n).toArray) := BE.trans ((rp_beside wr.drew w.heap.size _).below (Nat.le_refl _) BE.size)
      go_wp2
      go_roundw
      case rel => exact ⟨k + m, by omega, by go_num, Or.inr (by omega), HRN, BN⟩
      case measure => simp [intOf]; omega
    · obtain rfl : k = n := by omega
      go_wp2
      go_ret
      exact ⟨rfl, HRD.out, hB⟩

open Go.ChangeShapes Go.WideShapes Go.ChangeAt Go.RowKit
set_option linter.unusedVariables false
set_option linter.unusedSimpArgs false

theorem rep_row {W : World} {b n : Nat} {x : Int} (h : RepAt W b n n x) : RowI W (some ⟨b, 0, none⟩) n (fun _ => x) := fun j hj => ⟨b, 0, rfl, (Array.getElem?_eq_some_iff.1 h).1, by rw [Nat.zero_add]; exact h.cell hj⟩
set_option maxRecDepth 20000 in
set_option maxHeartbeats 4000000 in
theorem implUpper_any (x : Int) (s : Option Addr) (n c : Nat) (X : Nat → Int) (K : Nat → Nat) (V : Nat → Nat → Int) (t : Option Addr) (m d : Nat) (E : Nat → Int) (w : World) (hm : (m : Int) ≤ 1048576) (HR : Hid (RowGat w s n X K V)) (HE : Hid (RowI w t m E)) :
    Calls Try.prog 23 #[.agg #[.int .i64 x, .slice s n c], .slice t m d] w fun e w' => UpPost x n X K V m E w e w' := by
  go_enter Try.func23, Try.ntmps23
  go_wp2_with fail
  obtain ⟨wd, hwd⟩ : ∃ wd, wd = w.alloc (.cells #[.int .i64 x, .slice s n c] 26) := ⟨_, rfl⟩
  rw [← hwd]
  have B0 : Below w.heap.size w wd := by rw [hwd]; exact (by repeat (first | with_reducible exact Below.refl _ _ | with_reducible refine Below.setCell ?_ (by first | omega | (simp; done) | (simp; omega)) _ | with_reducible refine bDrewN ?_ _ | with_reducible refine Below.drew ?_ | with_reducible refine Below.alloc ?_ (by first | omega | (simp; done) | (simp; omega)) _))
  have p0 : wd.cell? ⟨w.heap.size, 0, none⟩ = some (.int .i64 x) := by rw [hwd]; simp [go_sem]
  have p1 : wd.cell? ⟨w.heap.size, 1, none⟩ = some (.slice s n c) := by rw [hwd]; simp [go_sem]
  have zd : w.heap.size < wd.heap.size := by rw [hwd]; simp
  clear hwd
  refine (implTreeOk_any x s n c X K V _ (HR.out.below B0)).mono ?_
  rintro e w1 ⟨rfl, h1⟩
  replace p0 := (h1.cell (p := ⟨w.heap.size, 0, none⟩) zd).trans p0
  replace p1 := (h1.cell (p := ⟨w.heap.size, 1, none⟩) zd).trans p1
  have z1 := Nat.lt_of_lt_of_le zd h1.size
  have B1 : Below w.heap.size w w1 := B0.trans (h1.mono B0.size)
  clear h1 B0 zd
  cases h0 : treeB x n X K V
  · have HO : Hid (eigB x n X K V m E = false) := by show _ = _; unfold eigB; rw [h0]; rfl
    go_wp2
    go_ret
    exact ⟨-1, rfl, up_no HO.out, (by repeat (first | with_reducible exact Below.refl _ _ | with_reducible exact B1 | with_reducible refine Below.setCell ?_ (by first | omega | (simp; done) | (simp; omega)) _ | with_reducible refine bDrewN ?_ _ | with_reducible refine Below.drew ?_ | with_reducible refine Below.alloc ?_ (by first | omega | (simp; done) | (simp; omega)) _))⟩
  have HE0 : Hid (eigB x n X K V m E = (decide ((m : Int) = x) && allInB 0 8 E m)) := by show _ = _; unfold eigB; rw [h0]; rfl
  have HT : Hid (treeB x n X K V = true) := h0
  clear h0
  go_wp2_with fail
  refine (areChances_any x s n c t m d E _ hm (HE.out.below B1)).mono ?_
  rintro e w2 ⟨rfl, h1⟩
  replace p0 := (h1.cell (p := ⟨w.heap.size, 0, none⟩) z1).trans p0
  replace p1 := (h1.cell (p := ⟨w.heap.size, 1, none⟩) z1).trans p1
  have z2 := Nat.lt_of_lt_of_le z1 h1.size
  have B2 : Below w.heap.size w w2 := B1.trans (h1.mono B1.size)
  clear h1 B1 z1
  cases h0 : (decide ((m : Int) = x) && allInB 0 8 E m)
  · have HO : Hid (eigB x n X K V m E = false) := by show _ = _; rw [HE0.out, h0]
    go_wp2
    go_ret
    exact ⟨-1, rfl, up_no HO.out, (by repeat (first | with_reducible exact Below.refl _ _ | with_reducible exact B2 | with_reducible refine Below.setCell ?_ (by first | omega | (simp; done) | (simp; omega)) _ | with_reducible refine bDrewN ?_ _ | with_reducible refine Below.drew ?_ | with_reducible refine Below.alloc ?_ (by first | omega | (simp; done) | (simp; omega)) _))⟩
  have HEG : Hid (eigB x n X K V m E = true) := HE0.out.trans h0
  obtain ⟨-, rfl, hE⟩ := eig_yes HEG.out
  have H8 : Hid (∀ i, i < m → 0 ≤ E i ∧ E i ≤ 8) := hE
  have H88 : Hid (∀ i, i < m → 0 ≤ (fun _ : Nat => (8 : Int)) i ∧ (fun _ : Nat => (8 : Int)) i ≤ 8) := all8 m
  obtain ⟨⟨x0, x1⟩, -, -⟩ := tree_yes HT.out
  clear h0 hE HE0
  have HP : Hid (w2.cell? ⟨w.heap.size, 0, none⟩ = some (.int .i64 (m : Int)) ∧ w2.cell? ⟨w.heap.size, 1, none⟩ = some (.slice s n c)) := ⟨p0, p1⟩
  clear p0 p1
  go_wp2_with fail
  obtain ⟨w3, hw3⟩ : ∃ w3, w3 = w2.alloc (.cells #[.int .i64 8] 2) := ⟨_, rfl⟩
  have e3 : w3.cell? ⟨w2.heap.size, 0, none⟩ = some (.int .i64 8) := by rw [hw3]; simp [go_sem]
  have z3 : w2.heap.size < w3.heap.size := by rw [hw3]; simp
  have B3 : Below w2.heap.size w2 w3 := by rw [hw3]; exact (by repeat (first | with_reducible exact Below.refl _ _ | with_reducible refine Below.setCell ?_ (by first | omega | (simp; done) | (simp; omega)) _ | with_reducible refine bDrewN ?_ _ | with_reducible refine Below.drew ?_ | with_reducible refine Below.alloc ?_ (by first | omega | (simp; done) | (simp; omega)) _))
  rw [← hw3]
  clear hw3
  refine (repeat_any w2.heap.size m 8 _ (by omega) z3 e3).mono ?_
  rintro e w4 ⟨rfl, R4, h4⟩
  have B4 : Below w2.heap.size w2 w4 := B3.trans (h4.mono B3.size)
  have HS4 : Hid (RowI w4 (some ⟨w3.heap.size, 0, none⟩) m (fun _ => 8)) := rep_row R4
  have q0 := (B4.cell (p := ⟨w.heap.size, 0, none⟩) z2).trans HP.out.1
  have q1 := (B4.cell (p := ⟨w.heap.size, 1, none⟩) z2).trans HP.out.2
  have z4 := Nat.lt_of_lt_of_le z2 B4.size
  have HB4 : Hid (Below w.heap.size w w4) := B2.trans (B4.mono B2.size)
  clear R4 h4 B4 B3 e3 B2 z2
  go_wp2_with fail
  refine (cuts_any m s n c X K V _ HT (HR.out.below HB4.out)).mono ?_
  rintro e w5 ⟨s1, c1, M, W, rfl, m5, O1, G1, h5⟩
  have HB5 : Hid (Below w.heap.size w w5) := HB4.out.trans (h5.mono HB4.out.size)
  have HRU : Hid (RowU w5 s1 M W) := O1.row
  have HG : Hid (CutG (mnB m n X K V) (2 ^ m) M W) := G1
  have HS5 : Hid (RowI w5 (some ⟨w3.heap.size, 0, none⟩) m (fun _ => 8)) := HS4.out.below h5
  have HE5 : Hid (RowI w5 t m E) := HE.out.below HB5.out
  have HY : Hid (2 ^ m ≤ 1024) := (Nat.pow_le_pow_right (by decide) (by omega) : 2 ^ m ≤ 2 ^ 10)
  clear h5 O1 G1 q0 q1 HS4
  go_wp2_with fail
  go_loopw [6, 25] (fun v i wr => ∃ k : Nat, k ≤ M ∧ i = .int .i64 k ∧ v = .int .i64 (upS m E W k) ∧ wr = w5) (fun _ i _ => M - (intOf i).toNat)
  case atStart => exact ⟨0, Nat.zero_le _, rfl, rfl, rfl⟩
  case round =>
    obtain ⟨k, hk, rfl, rfl, rfl⟩ := hrel
    rename_i w5 _
    by_cases h2 : k < M
    · obtain ⟨b, b1, b2, -⟩ := HG.out.2.1 k h2
      obtain ⟨g, o, rfl, hg, c0⟩ := HRU.out k h2
      rw [b2] at c0
      have k1 : (k : Int) < (M : Int) := by omega
      have cb := up_bound (x := m) (E := E) (W := W) H8.out (by omega) k
      have HQ : Hid (upS m E W (k + 1) = upS m E W k + prdV b E (fun _ => 8) m) := by show upS m E W k + prdV (W k).toNat E (fun _ => 8) m = _; rw [b2, Int.toNat_natCast]
      obtain ⟨S, hS⟩ : ∃ S, upS m E W k = S := ⟨_, rfl⟩
      rw [hS] at HQ cb ⊢
      have s0 : 0 ≤ S := cb.1
      have s1' : S ≤ 549755813888 := by omega
      have pb := prd_small (b := b) (k := m) H8.out H88.out (by omega)
      have H32 : Hid (b < 2 ^ 32) := by have := HY.out; show b < 2 ^ 32; omega
      clear cb hS b2 b1
      go_wp2_with fail
      refine (product_any b t m d E (some ⟨w3.heap.size, 0, none⟩) m (fun _ => 8) _ (by omega) H32 H8 H88 HE5 HS5).mono ?_
      rintro e w6 ⟨rfl, rfl⟩
      obtain ⟨p, hp⟩ : ∃ p, prdV b E (fun _ => 8) m = p := ⟨_, rfl⟩
      rw [hp] at HQ pb ⊢
      clear hp
      go_wp2
      go_roundw
      case rel => exact ⟨k + 1, by omega, by go_num, by rw [HQ.out], by first | rfl | trivial⟩
      case measure => first | (simp [intOf]; done) | (simp [intOf]; omega)
    · obtain rfl : k = M := by omega
      have HU : Hid (UpR (m : Int) n X K V m E (upS m E W k)) := up_yes HEG.out HG.out
      go_wp2
      go_ret
      exact ⟨_, rfl, HU.out, HB5.out⟩

open Go.ChangeShapes Go.WideShapes Go.ChangeAt Go.RowKit
set_option linter.unusedVariables false
set_option linter.unusedSimpArgs false

set_option maxRecDepth 20000 in
set_option maxHeartbeats 8000000 in
theorem implWeight_any (x : Int) (s : Option Addr) (n c : Nat) (X : Nat → Int) (K : Nat → Nat) (V : Nat → Nat → Int) (t : Option Addr) (m d : Nat) (E : Nat → Int) (q : Int) (w : World) (hm : (m : Int) ≤ 1048576) (HR : Hid (RowGat w s n X K V)) (HE : Hid (RowI w t m E)) :
    Calls Try.prog 25 #[.agg #[.int .i64 x, .slice s n c], .slice t m d, .int .i64 q] w fun e w' => e = .returned (.int .i64 (weightV x n X K V m E q)) ∧ Below w.heap.size w w' := by
  go_enter Try.func25, Try.ntmps25
  go_wp2_with fail
  obtain ⟨wd, hwd⟩ : ∃ wd, wd = w.alloc (.cells #[.int .i64 x, .slice s n c] 26) := ⟨_, rfl⟩
  rw [← hwd]
  have B0 : Below w.heap.size w wd := by rw [hwd]; exact (by repeat (first | with_reducible exact Below.refl _ _ | with_reducible refine Below.setCell ?_ (by first | omega | (simp; done) | (simp; omega)) _ | with_reducible refine bDrewN ?_ _ | with_reducible refine Below.drew ?_ | with_reducible refine Below.alloc ?_ (by first | omega | (simp; done) | (simp; omega)) _))
  have p0 : wd.cell? ⟨w.heap.size, 0, none⟩ = some (.int .i64 x) := by rw [hwd]; simp [go_sem]
  have p1 : wd.cell? ⟨w.heap.size, 1, none⟩ = some (.slice s n c) := by rw [hwd]; simp [go_sem]
  have zd : w.heap.size < wd.heap.size := by rw [hwd]; simp
  clear hwd
  refine (implTreeOk_any x s n c X K V _ (HR.out.below B0)).mono ?_
  rintro e w1 ⟨rfl, h1⟩
  replace p0 := (h1.cell (p := ⟨w.heap.size, 0, none⟩) zd).trans p0
  replace p1 := (h1.cell (p := ⟨w.heap.size, 1, none⟩) zd).trans p1
  have z1 := Nat.lt_of_lt_of_le zd h1.size
  have B1 : Below w.heap.size w w1 := B0.trans (h1.mono B0.size)
  clear h1 B0 zd
  cases h0 : treeB x n X K V
  · have HO : Hid (weightV x n X K V m E q = -1) := by show _ = _; unfold weightV wtB; unfold eigB; rw [h0]; rfl
    go_wp2
    go_ret
    exact ⟨ret_int HO.out.symm, (by repeat (first | with_reducible exact Below.refl _ _ | with_reducible exact B1 | with_reducible refine Below.setCell ?_ (by first | omega | (simp; done) | (simp; omega)) _ | with_reducible refine bDrewN ?_ _ | with_reducible refine Below.drew ?_ | with_reducible refine Below.alloc ?_ (by first | omega | (simp; done) | (simp; omega)) _))⟩
  have HG0 : Hid (eigB x n X K V m E = (decide ((m : Int) = x) && allInB 0 8 E m)) := by show _ = _; unfold eigB; rw [h0]; rfl
  obtain ⟨⟨x0', x1'⟩, -, -⟩ := tree_yes h0
  clear h0
  go_wp2_with fail
  refine (areChances_any x s n c t m d E _ hm (HE.out.below B1)).mono ?_
  rintro e w2 ⟨rfl, h1⟩
  replace p0 := (h1.cell (p := ⟨w.heap.size, 0, none⟩) z1).trans p0
  replace p1 := (h1.cell (p := ⟨w.heap.size, 1, none⟩) z1).trans p1
  have z2 := Nat.lt_of_lt_of_le z1 h1.size
  have B2 : Below w.heap.size w w2 := B1.trans (h1.mono B1.size)
  clear h1 B1 z1
  cases h0 : (decide ((m : Int) = x) && allInB 0 8 E m)
  · have HO : Hid (weightV x n X K V m E q = -1) := by show _ = _; unfold weightV wtB; rw [HG0.out, h0]; rfl
    go_wp2
    go_ret
    exact ⟨ret_int HO.out.symm, (by repeat (first | with_reducible exact Below.refl _ _ | with_reducible exact B2 | with_reducible refine Below.setCell ?_ (by first | omega | (simp; done) | (simp; omega)) _ | with_reducible refine bDrewN ?_ _ | with_reducible refine Below.drew ?_ | with_reducible refine Below.alloc ?_ (by first | omega | (simp; done) | (simp; omega)) _))⟩
  have HG : Hid (eigB x n X K V m E = true) := HG0.out.trans h0
  clear h0
  go_wp2_with fail
  refine (isBasic_any x s n c q _ (by omega) (by omega)).mono ?_
  rintro e w3 ⟨rfl, h1⟩
  replace p0 := (h1.cell (p := ⟨w.heap.size, 0, none⟩) z2).trans p0
  replace p1 := (h1.cell (p := ⟨w.heap.size, 1, none⟩) z2).trans p1
  have z3 := Nat.lt_of_lt_of_le z2 h1.size
  have B3 : Below w.heap.size w w3 := B2.trans (h1.mono B2.size)
  clear h1 B2 z2
  cases hq : inB 0 (x - 1) q
  · have HO : Hid (weightV x n X K V m E q = -1) := by show _ = _; unfold weightV wtB; rw [HG.out, hq]; rfl
    go_wp2
    go_ret
    exact ⟨ret_int HO.out.symm, (by repeat (first | with_reducible exact Below.refl _ _ | with_reducible exact B3 | with_reducible refine Below.setCell ?_ (by first | omega | (simp; done) | (simp; omega)) _ | with_reducible refine bDrewN ?_ _ | with_reducible refine Below.drew ?_ | with_reducible refine Below.alloc ?_ (by first | omega | (simp; done) | (simp; omega)) _))⟩
  obtain ⟨ht, rfl, hE⟩ := eig_yes HG.out
  obtain ⟨⟨x0, x1⟩, -, -⟩ := tree_yes ht
  obtain ⟨q0, q1⟩ := inB_yes hq
  obtain ⟨q, rfl⟩ : ∃ y : Nat, q = (y : Int) := ⟨q.toNat, by omega⟩
  have qm : q < m := by omega
  have HT : Hid (treeB (m : Int) n X K V = true) := ht
  have H8 : Hid (∀ i, i < m → 0 ≤ E i ∧ E i ≤ 8) := hE
  have HO : Hid (weightV (m : Int) n X K V m E (q : Int) = chaV m n X K V (setE E q 8) (2 ^ m) - chaV m n X K V (setE E q 0) (2 ^ m)) := by show _ = _; unfold weightV wtB; rw [HG.out, hq, Int.toNat_natCast, Int.toNat_natCast]; rfl
  have c8 := cha_top (n := n) (X := X) (K := K) (V := V) (set_in (q := q) (v := 8) H8.out (by decide) (by decide)) (show m ≤ 10 by omega)
  have c0 := cha_top (n := n) (X := X) (K := K) (V := V) (set_in (q := q) (v := 0) H8.out (by decide) (by decide)) (show m ≤ 10 by omega)
  obtain ⟨ad, rfl⟩ : ∃ ad, t = some ad := by
    obtain ⟨b, o, e, _⟩ := HE.out 0 (by omega)
    exact ⟨_, e⟩
  have qi : (q : Int) < (m : Int) := by omega
  clear x0' x1' hq hE ht
  go_wp2_with fail
  refine (clone_any ad m d E _ (by omega) (HE.out.below B3)).mono ?_
  rintro e w4 ⟨s4, c4, rfl, O4, h1⟩
  replace p0 := (h1.cell (p := ⟨w.heap.size, 0, none⟩) z3).trans p0
  replace p1 := (h1.cell (p := ⟨w.heap.size, 1, none⟩) z3).trans p1
  have z4 := Nat.lt_of_lt_of_le z3 h1.size
  have B4 : Below w.heap.size w w4 := B3.trans (h1.mono B3.size)
  clear h1 B3
  obtain ⟨g, rfl, hg, zg, cq, fq⟩ := O4 q qm
  have HO4 : Hid (OwnI w3.heap.size w4 (some ⟨g, 0, none⟩) m E) := O4
  clear O4
  go_upto_region 5 with fail
  obtain ⟨w5, hw⟩ : ∃ y, y = w4.setCell ⟨g, q, none⟩ (.int .i64 8) := ⟨_, rfl⟩
  rw [← hw]
  have ng : w.heap.size ≠ g := by omega
  have r0 : w5.cell? ⟨w.heap.size, 0, none⟩ = some (.int .i64 (m : Int)) := by rw [hw]; simp [go_sem, p0, ng]
  have r1 : w5.cell? ⟨w.heap.size, 1, none⟩ = some (.slice s n c) := by rw [hw]; simp [go_sem, p1, ng]
  have z5 : w.heap.size < w5.heap.size := by rw [hw]; simpa using z4
  have zg5 : g < w5.heap.size := by rw [hw]; simpa using zg
  have O5 : Hid (OwnI w3.heap.size w5 (some ⟨g, 0, none⟩) m (setE E q 8)) := by rw [hw]; exact own_set HO4.out qm
  have B5 : Below w.heap.size w w5 := by rw [hw]; exact set_belowW B4 (by omega) (by omega)
  clear hw p0 p1 cq fq HO4 B4 zg z4
  go_wp2_with fail
  refine (chance_any m s n c X K V (some ⟨g, 0, none⟩) _ (setE E q 8) _ HT (set_in H8.out (by decide) (by decide)) (HR.out.below B5) O5.out.row).mono ?_
  rintro e w6 ⟨rfl, h1⟩
  replace r0 := (h1.cell (p := ⟨w.heap.size, 0, none⟩) z5).trans r0
  replace r1 := (h1.cell (p := ⟨w.heap.size, 1, none⟩) z5).trans r1
  have z6 := Nat.lt_of_lt_of_le z5 h1.size
  have B6 : Below w.heap.size w w6 := B5.trans (h1.mono B5.size)
  have O6 : OwnI w3.heap.size w6 (some ⟨g, 0, none⟩) m (setE E q 8) := O5.out.below h1
  clear h1 B5 z5 O5
  obtain ⟨g', e', -, zg, cq, fq⟩ := O6 q qm
  cases e'
  have HO6 : Hid (OwnI w3.heap.size w6 (some ⟨g, 0, none⟩) m (setE E q 8)) := O6
  clear O6
  obtain ⟨a8, h8⟩ : ∃ y, chaV m n X K V (setE E q 8) (2 ^ m) = y := ⟨_, rfl⟩
  rw [h8] at c8 HO ⊢
  clear h8
  go_upto_region 7 with fail
  obtain ⟨w7, hw⟩ : ∃ y, y = w6.setCell ⟨g, q, none⟩ (.int .i64 0) := ⟨_, rfl⟩
  rw [← hw]
  have p0 : w7.cell? ⟨w.heap.size, 0, none⟩ = some (.int .i64 (m : Int)) := by rw [hw]; simp [go_sem, r0, ng]
  have p1 : w7.cell? ⟨w.heap.size, 1, none⟩ = some (.slice s n c) := by rw [hw]; simp [go_sem, r1, ng]
  have z7 : w.heap.size < w7.heap.size := by rw [hw]; simpa using z6
  have O7 : Hid (RowI w7 (some ⟨g, 0, none⟩) m (setE E q 0)) := by rw [hw, ← set_twice E q 8 0]; exact (own_set HO6.out qm).row
  have B7 : Below w.heap.size w w7 := by rw [hw]; exact set_belowW B6 (by omega) (by omega)
  clear hw r0 r1 cq fq HO6 B6 zg z6
  go_wp2_with fail
  refine (chance_any m s n c X K V (some ⟨g, 0, none⟩) _ (setE E q 0) _ HT (set_in H8.out (by decide) (by decide)) (HR.out.below B7) O7).mono ?_
  rintro e w8 ⟨rfl, h1⟩
  have B8 : Below w.heap.size w w8 := B7.trans (h1.mono B7.size)
  obtain ⟨a0, h0⟩ : ∃ y, chaV m n X K V (setE E q 0) (2 ^ m) = y := ⟨_, rfl⟩
  rw [h0] at c0 HO ⊢
  clear h0 h1
  go_wp2
  go_ret
  exact ⟨ret_int HO.out.symm, (by repeat (first | with_reducible exact Below.refl _ _ | with_reducible exact B8 | with_reducible refine Below.setCell ?_ (by first | omega | (simp; done) | (simp; omega)) _ | with_reducible refine bDrewN ?_ _ | with_reducible refine Below.drew ?_ | with_reducible refine Below.alloc ?_ (by first | omega | (simp; done) | (simp; omega)) _))⟩

end Go.Proofs.Ytpaiajeigdifcaa
