/-
What is proved: chances, as the program says them.
-/
import Derived.Test.YtpaiajeigdifcaaCh
import Derived.Test.YtpaiajeigdifcaaFlI
import Derived.Test.YtpaiajeigdifcaaBoM
import Derived.Test.YtpaiajeigdifcaaI64E
namespace Go.Proofs.Ytpaiajeigdifcaa
set_option maxRecDepth 40000
open Go.ChangeShapes Go.WideShapes Go.ChangeAt Go.RowKit
set_option linter.unusedVariables false
set_option linter.unusedSimpArgs false

set_option maxRecDepth 20000 in
set_option maxHeartbeats 2000000 in
theorem product_any (f : Nat) (s : Option Addr) (m c : Nat) (A : Nat → Int) (t : Option Addr) (d : Nat) (B : Nat → Int) (w : World) (hm : m ≤ 10) (hf : Hid (f < 2 ^ 32)) (hA : Hid (∀ i, i < m → 0 ≤ A i ∧ A i ≤ 8)) (hB : Hid (∀ i, i < m → 0 ≤ B i ∧ B i ≤ 8)) (HA : Hid (RowI w s m A)) (HB : Hid (RowI w t m B)) :
    Calls Try.prog 62 #[.int .u32 (f : Int), .slice s m c, .slice t m d] w fun e w' => e = .returned (.int .i64 (prdV f A B m)) ∧ w' = w := by
  go_enter Try.func62, Try.ntmps62
  go_wp2_with fail
  go_loopw [7, 11] (fun v i wr => ∃ k : Nat, k ≤ m ∧ i = .int .i64 k ∧ v = .int .i64 (prdV f A B k) ∧ wr = w) (fun _ i _ => m - (intOf i).toNat)
  case atStart => exact ⟨0, Nat.zero_le _, rfl, rfl, rfl⟩
  case round =>
    obtain ⟨k, hk, rfl, rfl, rfl⟩ := hrel
    have pb := prd_small (b := f) (k := k) (fun i hi => hA.out i (by omega)) (fun i hi => hB.out i (by omega)) (by omega)
    by_cases h3 : k < m
    · obtain ⟨g, o, rfl, hg, c0⟩ := HA.out k h3
      obtain ⟨g2, o2, rfl, hg2, c2⟩ := HB.out k h3
      obtain ⟨y0, y1⟩ := hA.out k h3
      obtain ⟨u0, u1⟩ := hB.out k h3
      have k1 : (k : Int) < (m : Int) := by omega
      have HP : Hid (prdV f A B (k + 1) = prdV f A B k * (if f.testBit k = true then A k else B k)) := rfl
      obtain ⟨p, hp⟩ : ∃ p, prdV f A B k = p := ⟨_, rfl⟩
      obtain ⟨y, hy⟩ : ∃ y, A k = y := ⟨_, rfl⟩
      obtain ⟨u, hu⟩ : ∃ u, B k = u := ⟨_, rfl⟩
      rw [hy] at c0 HP y0 y1
      rw [hu] at c2 HP u0 u1
      rw [hp] at HP pb ⊢
      obtain ⟨pp0, pp1⟩ := pb
      have m1 := mul_in pp0 pp1 y0 y1
      have m2 := mul_in pp0 pp1 u0 u1
      clear hp hy hu
      go_wp2_with fail
      refine (has_any f k _ hf.out (by omega)).mono ?_
      rintro e w1 ⟨rfl, rfl⟩
      cases q : f.testBit k
      · obtain ⟨r, hr⟩ : ∃ r, p * u = r := ⟨_, rfl⟩
        have HR2 : Hid (prdV f A B (k + 1) = r) := by show _ = _; rw [HP.out, q, ← hr]; simp
        rw [hr] at m2
        clear m1
        go_wp2
        go_roundw
        case rel => exact ⟨k + 1, by omega, by go_num, by rw [HR2.out], by first | rfl | trivial⟩
        case measure => first | (simp [intOf]; done) | (simp [intOf]; omega)
      · obtain ⟨r, hr⟩ : ∃ r, p * y = r := ⟨_, rfl⟩
        have HR2 : Hid (prdV f A B (k + 1) = r) := by show _ = _; rw [HP.out, q, ← hr]; simp
        rw [hr] at m1
        clear m2
        go_wp2
        go_roundw
        case rel => exact ⟨k + 1, by omega, by go_num, by rw [HR2.out], by first | rfl | trivial⟩
        case measure => first | (simp [intOf]; done) | (simp [intOf]; omega)
    · obtain rfl : k = m := by omega
      go_wp2
      go_ret
      exact ⟨rfl, rfl⟩
set_option maxRecDepth 20000 in
set_option maxHeartbeats 2000000 in
theorem areChances_any (x : Int) (s : Option Addr) (n c : Nat) (t : Option Addr) (m d : Nat) (E : Nat → Int) (w : World) (hm : (m : Int) ≤ 1048576) (HE : Hid (RowI w t m E)) :
    Calls Try.prog 57 #[.agg #[.int .i64 x, .slice s n c], .slice t m d] w fun e w' => e = .returned (.bool (decide ((m : Int) = x) && allInB 0 8 E m)) ∧ Below w.heap.size w w' := by
  go_enter Try.func57, Try.ntmps57
  by_cases hmx : (m : Int) = x
  case neg =>
    have bb : ((m : Int) == x) = false := by simpa using hmx
    have HO : Hid ((decide ((m : Int) = x) && allInB 0 8 E m) = false) := by show _ = _; rw [decide_eq_false hmx]; rfl
    clear hmx
    go_wp2
    go_ret
    exact ⟨ret_bool HO.out.symm, (by repeat (first | with_reducible exact Below.refl _ _ | with_reducible refine Below.setCell ?_ (by first | omega | (simp; done) | (simp; omega)) _ | with_reducible refine bDrewN ?_ _ | with_reducible refine Below.drew ?_ | with_reducible refine Below.alloc ?_ (by first | omega | (simp; done) | (simp; omega)) _))⟩
  subst hmx
  have HO : Hid ((decide ((m : Int) = (m : Int)) && allInB 0 8 E m) = allInB 0 8 E m) := by show _ = _; simp
  go_wp2_with fail
  refine (allWithin_any t m d E _ _ _ hm (HE.out.below (by repeat (first | with_reducible exact Below.refl _ _ | with_reducible refine Below.setCell ?_ (by first | omega | (simp; done) | (simp; omega)) _ | with_reducible refine bDrewN ?_ _ | with_reducible refine Below.drew ?_ | with_reducible refine Below.alloc ?_ (by first | omega | (simp; done) | (simp; omega)) _)))).mono ?_
  rintro e w1 ⟨rfl, rfl⟩
  go_wp2
  go_ret
  exact ⟨ret_bool HO.out.symm, (by repeat (first | with_reducible exact Below.refl _ _ | with_reducible refine Below.setCell ?_ (by first | omega | (simp; done) | (simp; omega)) _ | with_reducible refine bDrewN ?_ _ | with_reducible refine Below.drew ?_ | with_reducible refine Below.alloc ?_ (by first | omega | (simp; done) | (simp; omega)) _))⟩
set_option maxRecDepth 20000 in
set_option maxHeartbeats 4000000 in
theorem failing_any (x : Nat) (s : Option Addr) (n c : Nat) (X : Nat → Int) (K : Nat → Nat) (V : Nat → Nat → Int) (w : World) (HT : Hid (treeB (x : Int) n X K V = true)) (HR : Hid (RowGat w s n X K V)) :
    Calls Try.prog 79 #[.agg #[.int .i64 (x : Int), .slice s n c]] w fun e w' => ∃ g, e = .returned (.slice (some ⟨g, 0, none⟩) (2 ^ x) (2 ^ x)) ∧ OwnB w.heap.size w' (some ⟨g, 0, none⟩) (2 ^ x) (fun b => faB b x n X K V) ∧ Below w.heap.size w w' := by
  obtain ⟨⟨x0, x1⟩, -, -⟩ := tree_yes HT.out
  obtain ⟨N, hN⟩ : ∃ N, 2 ^ x = N := ⟨_, rfl⟩
  have hw : wrap64 ((2 : Int) ^ x) = (N : Int) := by rw [wpow x (by omega), hN]
  have N1 : N ≤ 1024 := by rw [← hN]; exact (Nat.pow_le_pow_right (by decide) (by omega) : 2 ^ x ≤ 2 ^ 10)
  have HN : Hid (2 ^ x = N) := hN
  rw [hN]
  clear hN
  have hmk := make_bool N (by omega)
  go_enter Try.func79, Try.ntmps79
  go_upto_region 1 with fail
  obtain ⟨wd, hwd⟩ : ∃ wd, wd = w.alloc (.cells #[.int .i64 (x : Int), .slice s n c] 26) := ⟨_, rfl⟩
  rw [← hwd]
  have B0 : Below w.heap.size w wd := by rw [hwd]; exact (by repeat (first | with_reducible exact Below.refl _ _ | with_reducible refine Below.setCell ?_ (by first | omega | (simp; done) | (simp; omega)) _ | with_reducible refine bDrewN ?_ _ | with_reducible refine Below.drew ?_ | with_reducible refine Below.alloc ?_ (by first | omega | (simp; done) | (simp; omega)) _))
  have p0 : wd.cell? ⟨w.heap.size, 0, none⟩ = some (.int .i64 (x : Int)) := by rw [hwd]; simp [go_sem]
  have p1 : wd.cell? ⟨w.heap.size, 1, none⟩ = some (.slice s n c) := by rw [hwd]; simp [go_sem]
  have zd : w.heap.size < wd.heap.size := by rw [hwd]; simp
  have HP : Hid (wd.cell? ⟨w.heap.size, 0, none⟩ = some (.int .i64 (x : Int)) ∧ wd.cell? ⟨w.heap.size, 1, none⟩ = some (.slice s n c) ∧ w.heap.size < wd.heap.size) := ⟨p0, p1, zd⟩
  have HB : Hid (Below w.heap.size w wd) := B0
  clear hwd B0
  go_wp2_with fail
  clear hw
  go_loopw [11] (fun i wr => ∃ k : Nat, k ≤ N ∧ i = .int .i64 k ∧ Hid (BowTo wd wr N k (fun b => faB b x n X K V))) (fun i _ => N - (intOf i).toNat)
  case atStart => exact ⟨0, Nat.zero_le _, rfl, bowTo_start wd N _ 4⟩
  case round =>
    clear p0 p1
    obtain ⟨k, hk, rfl, HW⟩ := hrel
    have zr : wd.heap.size < wr.heap.size := HW.out.2.1
    have hBr : Below wd.heap.size wd wr := HW.out.1
    have q0 := (hBr.cell (p := ⟨w.heap.size, 0, none⟩) zd).trans HP.out.1
    have q1 := (hBr.cell (p := ⟨w.heap.size, 1, none⟩) zd).trans HP.out.2.1
    have HBr : Hid (Below wd.heap.size wd wr) := hBr
    clear hBr
    by_cases h2 : k < N
    · have k1 : (k : Int) < (N : Int) := by omega
      have HRW : Hid (RowGat wr s n X K V) := HR.out.below (HB.out.trans (HBr.out.mono HB.out.size))
      have HK : Hid (k < 2 ^ x) := by show _ < _; rw [HN.out]; exact h2
      have f0 := HW.out.2.2.2 k h2
      have fz := HW.out.2.2.1 k
      go_wp2_with fail
      refine (fails_any k x s n c X K V _ HT HK HRW).mono ?_
      rintro e w3 ⟨rfl, h3⟩
      replace f0 := (h3.cell (p := ⟨wd.heap.size, k, none⟩) zr).trans f0
      replace fz := (h3.frozen (p := ⟨wd.heap.size, k, none⟩) zr).trans fz
      have z3 := Nat.lt_of_lt_of_le zr h3.size
      have HX : Hid (BowTo wd (w3.setCell ⟨wd.heap.size, k, none⟩ (.bool (faB k x n X K V))) N (k + 1) (fun b => faB b x n X K V)) := bowTo_on HW.out h3
      clear h3 q0 q1
      go_wp2
      go_roundw
      case rel => exact ⟨k + 1, by omega, by go_num, HX.out⟩
      case measure => first | (simp [intOf]; done) | (simp [intOf]; omega)
    · obtain rfl : k = N := by omega
      have HO : Hid (OwnB wd.heap.size wr (some ⟨wd.heap.size, 0, none⟩) k (fun b => faB b x n X K V)) := bowTo_own HW.out
      go_wp2
      go_ret
      exact ⟨_, rfl, HO.out.mono (by omega), HB.out.trans (HBr.out.mono HB.out.size)⟩
set_option maxRecDepth 20000 in
set_option maxHeartbeats 4000000 in
theorem chance_any (x : Nat) (s : Option Addr) (n c : Nat) (X : Nat → Int) (K : Nat → Nat) (V : Nat → Nat → Int) (t : Option Addr) (d : Nat) (E : Nat → Int) (w : World) (HT : Hid (treeB (x : Int) n X K V = true)) (H8 : Hid (∀ i, i < x → 0 ≤ E i ∧ E i ≤ 8)) (HR : Hid (RowGat w s n X K V)) (HE : Hid (RowI w t x E)) :
    Calls Try.prog 58 #[.agg #[.int .i64 (x : Int), .slice s n c], .slice t x d] w fun e w' => e = .returned (.int .i64 (chaV x n X K V E (2 ^ x))) ∧ Below w.heap.size w w' := by
  obtain ⟨⟨x0, x1⟩, -, -⟩ := tree_yes HT.out
  have hmk := make_i64 x (by omega)
  go_enter Try.func58, Try.ntmps58
  go_upto_region 1 with fail
  obtain ⟨wd, hwd⟩ : ∃ wd, wd = w.alloc (.cells #[.int .i64 (x : Int), .slice s n c] 26) := ⟨_, rfl⟩
  rw [← hwd]
  have B0 : Below w.heap.size w wd := by rw [hwd]; exact (by repeat (first | with_reducible exact Below.refl _ _ | with_reducible refine Below.setCell ?_ (by first | omega | (simp; done) | (simp; omega)) _ | with_reducible refine bDrewN ?_ _ | with_reducible refine Below.drew ?_ | with_reducible refine Below.alloc ?_ (by first | omega | (simp; done) | (simp; omega)) _))
  have p0 : wd.cell? ⟨w.heap.size, 0, none⟩ = some (.int .i64 (x : Int)) := by rw [hwd]; simp [go_sem]
  have p1 : wd.cell? ⟨w.heap.size, 1, none⟩ = some (.slice s n c) := by rw [hwd]; simp [go_sem]
  have zd : w.heap.size < wd.heap.size := by rw [hwd]; simp
  have HP : Hid (wd.cell? ⟨w.heap.size, 0, none⟩ = some (.int .i64 (x : Int)) ∧ wd.cell? ⟨w.heap.size, 1, none⟩ = some (.slice s n c) ∧ w.heap.size < wd.heap.size) := ⟨p0, p1, zd⟩
  have HB : Hid (Below w.heap.size w wd) := B0
  clear hwd B0 p0 p1
  go_wp2_with fail
  go_loopw [16] (fun i wr => ∃ k : Nat, k ≤ x ∧ i = .int .i64 k ∧ Hid (RowTo wd wr x k (fun i => 8 - E i))) (fun i _ => x - (intOf i).toNat)
  case atStart => exact ⟨0, Nat.zero_le _, rfl, rowTo_start wd x _ 2⟩
  case round =>
    obtain ⟨k, hk, rfl, HW⟩ := hrel
    have zr : wd.heap.size < wr.heap.size := HW.out.2.1
    have HBr : Hid (Below wd.heap.size wd wr) := HW.out.1
    have HBw : Hid (Below w.heap.size w wr) := HB.out.trans (HBr.out.mono HB.out.size)
    by_cases h2 : k < x
    · obtain ⟨g, o, rfl, hg, c0⟩ := HE.out k h2
      have d0 := (HBw.out.cell (p := ⟨g, o + k, none⟩) hg).trans c0
      have zg : g < wr.heap.size := Nat.lt_of_lt_of_le hg HBw.out.size
      obtain ⟨y0, y1⟩ := H8.out k h2
      have k1 : (k : Int) < (x : Int) := by omega
      have f0 := HW.out.2.2.2 k h2
      have fz := HW.out.2.2.1 k
      have HX : Hid (RowTo wd (wr.setCell ⟨wd.heap.size, k, none⟩ (.int .i64 (8 - E k))) x (k + 1) (fun i => 8 - E i)) := rowTo_on HW.out (Below.refl _ _)
      clear c0 hg
      go_wp2
      go_roundw
      case rel => exact ⟨k + 1, by omega, by go_num, HX.out⟩
      case measure => first | (simp [intOf]; done) | (simp [intOf]; omega)
    · obtain rfl : k = x := by omega
      have HS : Hid (RowI wr (some ⟨wd.heap.size, 0, none⟩) k (fun i => 8 - E i)) := (rowTo_own HW.out).row
      have q0 := (HBr.out.cell (p := ⟨w.heap.size, 0, none⟩) zd).trans HP.out.1
      have q1 := (HBr.out.cell (p := ⟨w.heap.size, 1, none⟩) zd).trans HP.out.2.1
      clear HW hmk
      go_wp2_with fail
      refine (failing_any k s n c X K V _ HT (HR.out.below HBw.out)).mono ?_
      rintro e w3 ⟨g, rfl, O3, h3⟩
      have HF : Hid (RowB w3 (some ⟨g, 0, none⟩) (2 ^ k) (fun b => faB b k n X K V)) := O3.row
      have HS3 : Hid (RowI w3 (some ⟨wd.heap.size, 0, none⟩) k (fun i => 8 - E i)) := HS.out.below h3
      have HB3 : Hid (Below w.heap.size w w3) := HBw.out.trans (h3.mono HBw.out.size)
      have HE3 : Hid (RowI w3 t k E) := HE.out.below HB3.out
      clear h3 O3 q0 q1 HS
      obtain ⟨N, hN⟩ : ∃ N, 2 ^ k = N := ⟨_, rfl⟩
      have N1 : N ≤ 1024 := by rw [← hN]; exact (Nat.pow_le_pow_right (by decide) (by omega) : 2 ^ k ≤ 2 ^ 10)
      rw [hN] at HF ⊢
      have HN : Hid (N = 2 ^ k) := hN.symm
      clear hN
      go_wp2_with fail
      go_loopw [8, 30] (fun v i ws => ∃ b : Nat, b ≤ N ∧ i = .int .i64 b ∧ v = .int .i64 (chaV k n X K V E b) ∧ ws = w3) (fun _ i _ => N - (intOf i).toNat)
      case atStart => exact ⟨0, Nat.zero_le _, rfl, rfl, rfl⟩
      case round =>
        obtain ⟨b, hb, rfl, rfl, rfl⟩ := hrel
        rename_i w3 _
        by_cases h4 : b < N
        · obtain ⟨g', o', e', hg', c0⟩ := HF.out b h4
          cases e'
          rw [Nat.zero_add] at c0
          replace c0 : _ = some (Value.bool (faB b k n X K V)) := c0
          have cb := cha_bound (n := n) (X := X) (K := K) (V := V) H8.out (show k ≤ 10 by omega) b
          have pb := prd_small (b := b) (k := k) H8.out (sub8 H8.out) (by omega)
          have HQ : Hid (chaV k n X K V E (b + 1) = chaV k n X K V E b + (if faB b k n X K V = true then prdV b E (fun i => 8 - E i) k else 0)) := rfl
          obtain ⟨S, hS⟩ : ∃ S, chaV k n X K V E b = S := ⟨_, rfl⟩
          rw [hS] at HQ cb ⊢
          have s0 : 0 ≤ S := cb.1
          have s1 : S ≤ 1099511627776 := by omega
          have b1 : (b : Int) < (N : Int) := by omega
          have H32 : Hid (b < 2 ^ 32) := by show b < 2 ^ 32; omega
          clear cb hS
          cases q : faB b k n X K V
          · have HZ : Hid (chaV k n X K V E (b + 1) = S) := by show _ = _; rw [HQ.out, q]; simp
            rw [q] at c0
            go_wp2
            go_roundw
            case rel => exact ⟨b + 1, by omega, by go_num, by rw [HZ.out], by first | rfl | trivial⟩
            case measure => first | (simp [intOf]; done) | (simp [intOf]; omega)
          · have HZ : Hid (chaV k n X K V E (b + 1) = S + prdV b E (fun i => 8 - E i) k) := by show _ = _; rw [HQ.out, q]; simp
            rw [q] at c0
            go_wp2_with fail
            refine (product_any b t k d E (some ⟨wd.heap.size, 0, none⟩) k (fun i => 8 - E i) _ (by omega) H32 H8 (sub8 H8.out) HE3 HS3).mono ?_
            rintro e w4 ⟨rfl, rfl⟩
            obtain ⟨p, hp⟩ : ∃ p, prdV b E (fun i => 8 - E i) k = p := ⟨_, rfl⟩
            rw [hp] at HZ pb ⊢
            clear hp
            go_wp2
            go_roundw
            case rel => exact ⟨b + 1, by omega, by go_num, by rw [HZ.out], by first | rfl | trivial⟩
            case measure => first | (simp [intOf]; done) | (simp [intOf]; omega)
        · obtain rfl : b = N := by omega
          go_wp2
          go_ret
          exact ⟨ret_int (by rw [← HN.out]), HB3.out⟩
set_option maxRecDepth 20000 in
set_option maxHeartbeats 4000000 in
theorem implChance_any (x : Int) (s : Option Addr) (n c : Nat) (X : Nat → Int) (K : Nat → Nat) (V : Nat → Nat → Int) (t : Option Addr) (m d : Nat) (E : Nat → Int) (w : World) (hm : (m : Int) ≤ 1048576) (HR : Hid (RowGat w s n X K V)) (HE : Hid (RowI w t m E)) :
    Calls Try.prog 21 #[.agg #[.int .i64 x, .slice s n c], .slice t m d] w fun e w' => e = .returned (.int .i64 (chanceV x n X K V m E)) ∧ Below w.heap.size w w' := by
  go_enter Try.func21, Try.ntmps21
  go_wp2_with fail
  obtain ⟨wd, hwd⟩ : ∃ wd, wd = w.alloc (.cells #[.int .i64 x, .slice s n c] 26) := ⟨_, rfl⟩
  rw [← hwd]
  have B0 : Below w.heap.size w wd := by rw [hwd]; exact (by repeat (first | with_reducible exact Below.refl _ _ | with_reducible refine Below.setCell ?_ (by first | omega | (simp; done) | (simp; omega)) _ | with_reducible refine bDrewN ?_ _ | with_reducible refine Below.drew ?_ | with_reducible refine Below.alloc ?_ (by first | omega | (simp; done) | (simp; omega)) _))
  have p0 : wd.cell? ⟨w.heap.size, 0, none⟩ = some (.int .i64 x) := by rw [hwd]; simp [go_sem]
  have p1 : wd.cell? ⟨w.heap.size, 1, none⟩ = some (.slice s n c) := by rw [hwd]; simp [go_sem]
  have zd : w.heap.size < wd.heap.size := by rw [hwd]; simp
  clear hwd
  refine (implTreeOk_any x s n c X K V _ (HR.out.below B0)).mono ?_
  rintro e w1 ⟨rfl, h1⟩
  replace p0 := (h1.cell (p := ⟨w.heap.size, 0, none⟩) zd).trans p0
  replace p1 := (h1.cell (p := ⟨w.heap.size, 1, none⟩) zd).trans p1
  have z1 := Nat.lt_of_lt_of_le zd h1.size
  have B1 : Below w.heap.size w w1 := B0.trans (h1.mono B0.size)
  clear h1 B0 zd
  cases h0 : treeB x n X K V
  · have HO : Hid (chanceV x n X K V m E = -1) := by show _ = _; unfold chanceV eigB; rw [h0]; rfl
    go_wp2
    go_ret
    exact ⟨ret_int HO.out.symm, (by repeat (first | with_reducible exact Below.refl _ _ | with_reducible exact B1 | with_reducible refine Below.setCell ?_ (by first | omega | (simp; done) | (simp; omega)) _ | with_reducible refine bDrewN ?_ _ | with_reducible refine Below.drew ?_ | with_reducible refine Below.alloc ?_ (by first | omega | (simp; done) | (simp; omega)) _))⟩
  have HE0 : Hid (eigB x n X K V m E = (decide ((m : Int) = x) && allInB 0 8 E m)) := by show _ = _; unfold eigB; rw [h0]; rfl
  have HT : Hid (treeB x n X K V = true) := h0
  clear h0
  go_wp2_with fail
  refine (areChances_any x s n c t m d E _ hm (HE.out.below B1)).mono ?_
  rintro e w2 ⟨rfl, h1⟩
  replace p0 := (h1.cell (p := ⟨w.heap.size, 0, none⟩) z1).trans p0
  replace p1 := (h1.cell (p := ⟨w.heap.size, 1, none⟩) z1).trans p1
  have z2 := Nat.lt_of_lt_of_le z1 h1.size
  have B2 : Below w.heap.size w w2 := B1.trans (h1.mono B1.size)
  clear h1 B1 z1
  cases h0 : (decide ((m : Int) = x) && allInB 0 8 E m)
  · have HO : Hid (chanceV x n X K V m E = -1) := by show _ = _; unfold chanceV; rw [HE0.out, h0]; rfl
    go_wp2
    go_ret
    exact ⟨ret_int HO.out.symm, (by repeat (first | with_reducible exact Below.refl _ _ | with_reducible exact B2 | with_reducible refine Below.setCell ?_ (by first | omega | (simp; done) | (simp; omega)) _ | with_reducible refine bDrewN ?_ _ | with_reducible refine Below.drew ?_ | with_reducible refine Below.alloc ?_ (by first | omega | (simp; done) | (simp; omega)) _))⟩
  obtain ⟨-, rfl, hE⟩ := eig_yes (HE0.out.trans h0)
  have H8 : Hid (∀ i, i < m → 0 ≤ E i ∧ E i ≤ 8) := hE
  have HO : Hid (chanceV (m : Int) n X K V m E = chaV m n X K V E (2 ^ m)) := by show _ = _; unfold chanceV; rw [HE0.out, h0, Int.toNat_natCast]; rfl
  clear h0 hE
  go_wp2_with fail
  refine (chance_any m s n c X K V t d E _ HT H8 (HR.out.below B2) (HE.out.below B2)).mono ?_
  rintro e w3 ⟨rfl, h1⟩
  have B3 : Below w.heap.size w w3 := B2.trans (h1.mono B2.size)
  go_wp2
  go_ret
  exact ⟨ret_int HO.out.symm, (by repeat (first | with_reducible exact Below.refl _ _ | with_reducible exact B3 | with_reducible refine Below.setCell ?_ (by first | omega | (simp; done) | (simp; omega)) _ | with_reducible refine bDrewN ?_ _ | with_reducible refine Below.drew ?_ | with_reducible refine Below.alloc ?_ (by first | omega | (simp; done) | (simp; omega)) _))⟩
end Go.Proofs.Ytpaiajeigdifcaa
