/-
What is proved: chances, as the specification says them.
-/
import Derived.Test.YtaagelnbkenbpaaCh
import Derived.Test.YtaagelnbkenbpaaFlS
namespace Go.Proofs.Ytaagelnbkenbpaa
set_option maxRecDepth 40000
open Go.ChangeShapes Go.WideShapes Go.ChangeAt Go.RowKit
set_option linter.unusedVariables false
set_option linter.unusedSimpArgs false

set_option maxRecDepth 20000 in
set_option maxHeartbeats 2000000 in
theorem l23Eighths_any (x : Int) (s : Option Addr) (n c : Nat) (X : Nat → Int) (K : Nat → Nat) (V : Nat → Nat → Int) (t : Option Addr) (m d : Nat) (E : Nat → Int) (w : World) (hm : (m : Int) ≤ 1048576) (HR : Hid (RowGat w s n X K V)) (HE : Hid (RowI w t m E)) :
    Calls Try.prog 43 #[.agg #[.int .i64 x, .slice s n c], .slice t m d] w fun e w' => e = .returned (.bool (eigB x n X K V m E)) ∧ Below w.heap.size w w' := by
  go_enter Try.func43, Try.ntmps43
  go_wp2_with fail
  obtain ⟨wd, hwd⟩ : ∃ wd, wd = w.alloc (.cells #[.int .i64 x, .slice s n c] 29) := ⟨_, rfl⟩
  rw [← hwd]
  have B0 : Below w.heap.size w wd := by rw [hwd]; exact (by repeat (first | with_reducible exact Below.refl _ _ | with_reducible refine Below.setCell ?_ (by first | omega | (simp; done) | (simp; omega)) _ | with_reducible refine bDrewN ?_ _ | with_reducible refine Below.drew ?_ | with_reducible refine Below.alloc ?_ (by first | omega | (simp; done) | (simp; omega)) _))
  have p0 : wd.cell? ⟨w.heap.size, 0, none⟩ = some (.int .i64 x) := by rw [hwd]; simp [go_sem]
  have p1 : wd.cell? ⟨w.heap.size, 1, none⟩ = some (.slice s n c) := by rw [hwd]; simp [go_sem]
  have zd : w.heap.size < wd.heap.size := by rw [hwd]; simp
  clear hwd
  refine (specTreeOk_any x s n c X K V _ (HR.out.below B0)).mono ?_
  rintro e w1 ⟨rfl, h1⟩
  replace p0 := (h1.cell (p := ⟨w.heap.size, 0, none⟩) zd).trans p0
  have z1 := Nat.lt_of_lt_of_le zd h1.size
  have B1 : Below w.heap.size w w1 := B0.trans (h1.mono B0.size)
  clear h1 p1 B0 zd
  cases h0 : treeB x n X K V
  · have HO : Hid (eigB x n X K V m E = false) := by show _ = _; unfold eigB; rw [h0]; rfl
    go_wp2
    go_ret
    exact ⟨ret_bool HO.out.symm, (by repeat (first | with_reducible exact Below.refl _ _ | with_reducible exact B1 | with_reducible refine Below.setCell ?_ (by first | omega | (simp; done) | (simp; omega)) _ | with_reducible refine bDrewN ?_ _ | with_reducible refine Below.drew ?_ | with_reducible refine Below.alloc ?_ (by first | omega | (simp; done) | (simp; omega)) _))⟩
  by_cases hmx : (m : Int) = x
  case neg =>
    have bb : ((m : Int) != x) = true := by simpa using hmx
    have HO : Hid (eigB x n X K V m E = false) := by show _ = _; unfold eigB; rw [decide_eq_false hmx]; simp
    clear hmx
    go_wp2
    go_ret
    exact ⟨ret_bool HO.out.symm, (by repeat (first | with_reducible exact Below.refl _ _ | with_reducible exact B1 | with_reducible refine Below.setCell ?_ (by first | omega | (simp; done) | (simp; omega)) _ | with_reducible refine bDrewN ?_ _ | with_reducible refine Below.drew ?_ | with_reducible refine Below.alloc ?_ (by first | omega | (simp; done) | (simp; omega)) _))⟩
  subst hmx
  have HF : Hid (eigB (m : Int) n X K V m E = allInB 0 8 E m) := by show _ = _; unfold eigB; rw [h0]; simp
  clear h0
  go_wp2_with fail
  go_loopw [5] (fun i wr => ∃ k : Nat, k ≤ m ∧ i = .int .i64 k ∧ Hid (∀ j, j < k → 0 ≤ E j ∧ E j ≤ 8) ∧ wr = w1) (fun i _ => m - (intOf i).toNat)
  case atStart => exact ⟨0, Nat.zero_le _, rfl, fun j hj => by omega, rfl⟩
  case round =>
    obtain ⟨k, hk, rfl, HP, rfl⟩ := hrel
    by_cases h2 : k < m
    · obtain ⟨g, o, rfl, hg, c0⟩ := HE.out k h2
      have d0 := (B1.cell (p := ⟨g, o + k, none⟩) hg).trans c0
      have k1 : (k : Int) < (m : Int) := by omega
      clear c0
      go_wp2_with fail
      refine (l1In_is _ _ _ _).mono ?_
      rintro e w1 ⟨rfl, rfl⟩
      cases q : inB 0 8 (E k)
      · have HO : Hid (eigB (m : Int) n X K V m E = false) := by
          show _ = _
          rw [HF.out]
          exact decide_eq_false fun h => by have := h k h2; unfold inB at q; simp at q; omega
        go_wp2
        go_ret
        exact ⟨ret_bool HO.out.symm, (by repeat (first | with_reducible exact Below.refl _ _ | with_reducible exact B1 | with_reducible refine Below.setCell ?_ (by first | omega | (simp; done) | (simp; omega)) _ | with_reducible refine bDrewN ?_ _ | with_reducible refine Below.drew ?_ | with_reducible refine Below.alloc ?_ (by first | omega | (simp; done) | (simp; omega)) _))⟩
      · have q' := inB_yes q
        have HN : Hid (∀ j, j < k + 1 → 0 ≤ E j ∧ E j ≤ 8) := ball_succ HP.out q'
        clear q'
        go_wp2
        go_roundw
        case rel => exact ⟨k + 1, by omega, by go_num, HN.out, by first | rfl | trivial⟩
        case measure => first | (simp [intOf]; done) | (simp [intOf]; omega)
    · obtain rfl : k = m := by omega
      have HO : Hid (eigB (k : Int) n X K V k E = true) := by show _ = _; rw [HF.out]; exact decide_eq_true HP.out
      go_wp2
      go_ret
      exact ⟨ret_bool HO.out.symm, (by repeat (first | with_reducible exact Below.refl _ _ | with_reducible exact B1 | with_reducible refine Below.setCell ?_ (by first | omega | (simp; done) | (simp; omega)) _ | with_reducible refine bDrewN ?_ _ | with_reducible refine Below.drew ?_ | with_reducible refine Below.alloc ?_ (by first | omega | (simp; done) | (simp; omega)) _))⟩
set_option maxRecDepth 20000 in
set_option maxHeartbeats 8000000 in
theorem specChance_any (x : Int) (s : Option Addr) (n c : Nat) (X : Nat → Int) (K : Nat → Nat) (V : Nat → Nat → Int) (t : Option Addr) (m d : Nat) (E : Nat → Int) (w : World) (hm : (m : Int) ≤ 1048576) (HR : Hid (RowGat w s n X K V)) (HE : Hid (RowI w t m E)) :
    Calls Try.prog 26 #[.agg #[.int .i64 x, .slice s n c], .slice t m d] w fun e w' => e = .returned (.int .i64 (chanceV x n X K V m E)) ∧ Below w.heap.size w w' := by
  go_enter Try.func26, Try.ntmps26
  go_wp2_with fail
  obtain ⟨wd, hwd⟩ : ∃ wd, wd = w.alloc (.cells #[.int .i64 x, .slice s n c] 29) := ⟨_, rfl⟩
  rw [← hwd]
  have B0 : Below w.heap.size w wd := by rw [hwd]; exact (by repeat (first | with_reducible exact Below.refl _ _ | with_reducible refine Below.setCell ?_ (by first | omega | (simp; done) | (simp; omega)) _ | with_reducible refine bDrewN ?_ _ | with_reducible refine Below.drew ?_ | with_reducible refine Below.alloc ?_ (by first | omega | (simp; done) | (simp; omega)) _))
  have p0 : wd.cell? ⟨w.heap.size, 0, none⟩ = some (.int .i64 x) := by rw [hwd]; simp [go_sem]
  have p1 : wd.cell? ⟨w.heap.size, 1, none⟩ = some (.slice s n c) := by rw [hwd]; simp [go_sem]
  have zd : w.heap.size < wd.heap.size := by rw [hwd]; simp
  clear hwd
  refine (l23Eighths_any x s n c X K V t m d E _ hm (HR.out.below B0) (HE.out.below B0)).mono ?_
  rintro e w1 ⟨rfl, h1⟩
  replace p0 := (h1.cell (p := ⟨w.heap.size, 0, none⟩) zd).trans p0
  replace p1 := (h1.cell (p := ⟨w.heap.size, 1, none⟩) zd).trans p1
  have z1 := Nat.lt_of_lt_of_le zd h1.size
  have B1 : Below w.heap.size w w1 := B0.trans (h1.mono B0.size)
  clear h1 B0 zd
  cases h0 : eigB x n X K V m E
  · have HO : Hid (chanceV x n X K V m E = -1) := by show _ = _; unfold chanceV; rw [h0]; rfl
    go_wp2
    go_ret
    exact ⟨ret_int HO.out.symm, (by repeat (first | with_reducible exact Below.refl _ _ | with_reducible exact B1 | with_reducible refine Below.setCell ?_ (by first | omega | (simp; done) | (simp; omega)) _ | with_reducible refine bDrewN ?_ _ | with_reducible refine Below.drew ?_ | with_reducible refine Below.alloc ?_ (by first | omega | (simp; done) | (simp; omega)) _))⟩
  obtain ⟨ht, rfl, hE⟩ := eig_yes h0
  obtain ⟨⟨x0, x1⟩, -, -⟩ := tree_yes ht
  have HT : Hid (treeB (m : Int) n X K V = true) := ht
  have H8 : Hid (∀ i, i < m → 0 ≤ E i ∧ E i ≤ 8) := hE
  obtain ⟨N, hN⟩ : ∃ N, 2 ^ m = N := ⟨_, rfl⟩
  have hw : wrap64 ((2 : Int) ^ m) = (N : Int) := by rw [wpow m (by omega), hN]
  have HO : Hid (chanceV (m : Int) n X K V m E = chaV m n X K V E N) := by show _ = _; unfold chanceV; rw [h0, Int.toNat_natCast, hN]; rfl
  have N1 : N ≤ 1024 := by rw [← hN]; exact (Nat.pow_le_pow_right (by decide) (by omega) : 2 ^ m ≤ 2 ^ 10)
  have HN : Hid (2 ^ m = N) := hN
  clear h0 ht hE hN
  go_wp2_with fail
  go_loopw [5, 6] (fun v i wr => ∃ b : Nat, b ≤ N ∧ i = .int .i64 b ∧ v = .int .i64 (chaV m n X K V E b) ∧ wr.cell? ⟨w.heap.size, 0, none⟩ = some (.int .i64 (m : Int)) ∧ wr.cell? ⟨w.heap.size, 1, none⟩ = some (.slice s n c) ∧ w.heap.size < wr.heap.size ∧ Below w.heap.size w wr) (fun _ i _ => N - (intOf i).toNat)
  case atStart => exact ⟨0, Nat.zero_le _, rfl, rfl, p0, p1, z1, B1⟩
  case round =>
    clear p0 p1 z1 B1
    obtain ⟨b, hb, rfl, rfl, q0, q1, zp, hB⟩ := hrel
    by_cases h2 : b < N
    · have cb := cha_bound (n := n) (X := X) (K := K) (V := V) H8.out (show m ≤ 10 by omega) b
      have b1 : (b : Int) < (N : Int) := by omega
      have HS : Hid (chaV m n X K V E (b + 1) = chaV m n X K V E b + (if faB b m n X K V = true then prdV b E (fun i => 8 - E i) m else 0)) := rfl
      obtain ⟨S, hS⟩ : ∃ S, chaV m n X K V E b = S := ⟨_, rfl⟩
      rw [hS] at HS cb ⊢
      have s0 : 0 ≤ S := cb.1
      have s1 : S ≤ 1099511627776 := by omega
      have HB2 : Hid (b < 2 ^ m) := by show _ < _; rw [HN.out]; exact h2
      have HB62 : Hid (b < 2 ^ 62) := by show b < 2 ^ 62; omega
      clear cb hS
      go_wp2_with fail
      go_loopw [7, 8] (fun v i ws => ∃ k : Nat, k ≤ m ∧ i = .int .i64 k ∧ v = .int .i64 (prdV b E (fun i => 8 - E i) k) ∧ ws = wr) (fun _ i _ => m - (intOf i).toNat)
      case atStart => exact ⟨0, Nat.zero_le _, rfl, rfl, rfl⟩
      case round =>
        obtain ⟨k, hk, rfl, rfl, rfl⟩ := hrel
        rename_i wr _
        have pb := prd_small (b := b) (k := k) (fun i hi => H8.out i (by omega)) (sub8 (fun i hi => H8.out i (by omega))) (by omega)
        by_cases h3 : k < m
        · obtain ⟨g, o, rfl, hg, c0⟩ := HE.out k h3
          have d0 := (hB.cell (p := ⟨g, o + k, none⟩) hg).trans c0
          obtain ⟨y0, y1⟩ := H8.out k h3
          have k1 : (k : Int) < (m : Int) := by omega
          have hbit := bit_i64 b k HB62.out
          have HP : Hid (prdV b E (fun i => 8 - E i) (k + 1) = prdV b E (fun i => 8 - E i) k * (if b.testBit k = true then E k else 8 - E k)) := rfl
          obtain ⟨p, hp⟩ : ∃ p, prdV b E (fun i => 8 - E i) k = p := ⟨_, rfl⟩
          obtain ⟨y, hy⟩ : ∃ y, E k = y := ⟨_, rfl⟩
          rw [hy] at d0 HP y0 y1
          rw [hp] at HP pb ⊢
          obtain ⟨pp0, pp1⟩ := pb
          have m1 := mul_in pp0 pp1 y0 y1
          have m2 := mul_in (y := 8 - y) pp0 pp1 (by omega) (by omega)
          clear hp hy c0
          cases q : b.testBit k
          · rw [q] at hbit
            obtain ⟨r, hr⟩ : ∃ r, p * (8 - y) = r := ⟨_, rfl⟩
            have HR2 : Hid (prdV b E (fun i => 8 - E i) (k + 1) = r) := by show _ = _; rw [HP.out, q, ← hr]; simp
            rw [hr] at m2
            clear m1
            go_wp2
            go_roundw
            case rel => exact ⟨k + 1, by omega, by go_num, by rw [HR2.out], by first | rfl | trivial⟩
            case measure => first | (simp [intOf]; done) | (simp [intOf]; omega)
          · rw [q] at hbit
            obtain ⟨r, hr⟩ : ∃ r, p * y = r := ⟨_, rfl⟩
            have HR2 : Hid (prdV b E (fun i => 8 - E i) (k + 1) = r) := by show _ = _; rw [HP.out, q, ← hr]; simp
            rw [hr] at m1
            clear m2
            go_wp2
            go_roundw
            case rel => exact ⟨k + 1, by omega, by go_num, by rw [HR2.out], by first | rfl | trivial⟩
            case measure => first | (simp [intOf]; done) | (simp [intOf]; omega)
        · obtain rfl : k = m := by omega
          obtain ⟨p, hp⟩ : ∃ p, prdV b E (fun i => 8 - E i) k = p := ⟨_, rfl⟩
          rw [hp] at HS pb ⊢
          obtain ⟨pp0, pp1⟩ := pb
          clear hp
          by_cases pz : 0 < p
          · have HRW : Hid (RowGat wr s n X K V) := HR.out.below hB
            go_wp2_with fail
            refine (l23Fails_any b k s n c X K V _ HT HB2.out HRW).mono ?_
            rintro e w2 ⟨rfl, hx2⟩
            replace q0 := (hx2.cell (p := ⟨w.heap.size, 0, none⟩) zp).trans q0
            replace q1 := (hx2.cell (p := ⟨w.heap.size, 1, none⟩) zp).trans q1
            have z2 := Nat.lt_of_lt_of_le zp hx2.size
            have B2 : Below w.heap.size w w2 := hB.trans (hx2.mono hB.size)
            clear hx2
            cases q : faB b k n X K V
            · have HQ : Hid (chaV k n X K V E (b + 1) = S) := by show _ = _; rw [HS.out, q]; simp
              go_wp2
              go_roundw
              case rel => exact ⟨b + 1, by omega, by go_num, by rw [HQ.out], q0, q1, z2, B2⟩
              case measure => first | (simp [intOf]; done) | (simp [intOf]; omega)
            · have HQ : Hid (chaV k n X K V E (b + 1) = S + p) := by show _ = _; rw [HS.out, q]; simp
              go_wp2
              go_roundw
              case rel => exact ⟨b + 1, by omega, by go_num, by rw [HQ.out], q0, q1, z2, B2⟩
              case measure => first | (simp [intOf]; done) | (simp [intOf]; omega)
          · obtain rfl : p = 0 := by omega
            have HQ : Hid (chaV k n X K V E (b + 1) = S) := by show _ = _; rw [HS.out]; simp
            clear pz
            go_wp2
            go_roundw
            case rel => exact ⟨b + 1, by omega, by go_num, by rw [HQ.out], q0, q1, zp, hB⟩
            case measure => first | (simp [intOf]; done) | (simp [intOf]; omega)
    · obtain rfl : b = N := by omega
      go_wp2
      go_ret
      exact ⟨ret_int HO.out.symm, (by repeat (first | with_reducible exact Below.refl _ _ | with_reducible exact hB | with_reducible refine Below.setCell ?_ (by first | omega | (simp; done) | (simp; omega)) _ | with_reducible refine bDrewN ?_ _ | with_reducible refine Below.drew ?_ | with_reducible refine Below.alloc ?_ (by first | omega | (simp; done) | (simp; omega)) _))⟩
end Go.Proofs.Ytaagelnbkenbpaa
