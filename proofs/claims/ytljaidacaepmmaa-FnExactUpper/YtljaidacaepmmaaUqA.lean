/-
What is proved: the sum over cuts, in numbers.
-/
import Derived.Test.YtljaidacaepmmaaCxJ
import Derived.Test.YtljaidacaepmmaaCh
import Derived.Test.YtljaidacaepmmaaFlS
import Derived.Test.YtljaidacaepmmaaUqB
import Derived.Test.YtljaidacaepmmaaRp
namespace Go.Proofs.Ytljaidacaepmmaa
set_option maxRecDepth 40000
open Go.ChangeShapes Go.WideShapes Go.ChangeAt Go.RowKit
set_option linter.unusedVariables false
set_option linter.unusedSimpArgs false

def upS (x : Nat) (E : Nat → Int) (W : Nat → Int) : Nat → Int
  | 0 => 0
  | k + 1 => upS x E W k + prdV (W k).toNat E (fun _ => 8) x
theorem up_same {x : Nat} {E W U : Nat → Int} : ∀ {k : Nat}, (∀ i, i < k → W i = U i) → upS x E W k = upS x E U k := by
  intro k
  induction k with
  | zero => intro _; rfl
  | succ k ih => intro h; unfold upS; rw [ih (fun i hi => h i (by omega)), h k (by omega)]
theorem all8 (x : Nat) : ∀ i, i < x → 0 ≤ (fun _ : Nat => (8 : Int)) i ∧ (fun _ : Nat => (8 : Int)) i ≤ 8 := fun i _ => ⟨by show (0 : Int) ≤ 8; omega, by show (8 : Int) ≤ 8; omega⟩
theorem up_bound {x : Nat} {E W : Nat → Int} (hE : ∀ i, i < x → 0 ≤ E i ∧ E i ≤ 8) (hx : x ≤ 10) (k : Nat) : 0 ≤ upS x E W k ∧ upS x E W k ≤ 1073741824 * (k : Int) := by
  induction k with
  | zero => exact ⟨Int.le_refl _, by simp [upS]⟩
  | succ k ih =>
    have h1 := prd_small (b := (W k).toNat) (k := x) hE (all8 x) hx
    unfold upS
    omega
def UpR (x : Int) (n : Nat) (X : Nat → Int) (K : Nat → Nat) (V : Nat → Nat → Int) (m : Nat) (E : Nat → Int) (r : Int) : Prop := (eigB x n X K V m E = true → ∃ k W, CutG (mnB m n X K V) (2 ^ m) k W ∧ r = upS m E W k) ∧ (eigB x n X K V m E = false → r = -1)
theorem up_ex (x : Int) (n : Nat) (X : Nat → Int) (K : Nat → Nat) (V : Nat → Nat → Int) (m : Nat) (E : Nat → Int) : ∃ R, ∀ r, UpR x n X K V m E r → r = R := by
  cases e : eigB x n X K V m E
  · exact ⟨-1, fun r h => h.2 e⟩
  · rcases Classical.em (∃ k W, CutG (mnB m n X K V) (2 ^ m) k W) with ⟨k, W, h⟩ | h
    · refine ⟨upS m E W k, fun r g => ?_⟩
      obtain ⟨k', W', g1, g2⟩ := g.1 e
      have ek : k' = k := Nat.le_antisymm (cut_len g1 h) (cut_len h g1)
      subst ek
      rw [g2]
      exact up_same (fun i hi => cut_same g1 h i hi hi)
    · exact ⟨0, fun r g => by obtain ⟨k, W, g1, _⟩ := g.1 e; exact absurd ⟨k, W, g1⟩ h⟩
def UpPost (x : Int) (n : Nat) (X : Nat → Int) (K : Nat → Nat) (V : Nat → Nat → Int) (m : Nat) (E : Nat → Int) (w : World) (e : Ending) (w' : World) : Prop := ∃ r, e = .returned (.int .i64 r) ∧ UpR x n X K V m E r ∧ Below w.heap.size w w'
theorem up_no {x : Int} {n : Nat} {X : Nat → Int} {K : Nat → Nat} {V : Nat → Nat → Int} {m : Nat} {E : Nat → Int} (h : eigB x n X K V m E = false) : UpR x n X K V m E (-1) := ⟨fun q => (by rw [h] at q; cases q), fun _ => rfl⟩
theorem up_yes {x : Int} {n : Nat} {X : Nat → Int} {K : Nat → Nat} {V : Nat → Nat → Int} {m : Nat} {E : Nat → Int} {k : Nat} {W : Nat → Int} (h : eigB x n X K V m E = true) (g : CutG (mnB m n X K V) (2 ^ m) k W) : UpR x n X K V m E (upS m E W k) := ⟨fun _ => ⟨k, W, g, rfl⟩, fun q => (by rw [h] at q; cases q)⟩

open Go.ChangeShapes Go.WideShapes Go.ChangeAt Go.RowKit
set_option linter.unusedVariables false
set_option linter.unusedSimpArgs false

set_option maxRecDepth 20000 in
set_option maxHeartbeats 2000000 in
theorem l23Eighths_any (x : Int) (s : Option Addr) (n c : Nat) (X : Nat → Int) (K : Nat → Nat) (V : Nat → Nat → Int) (t : Option Addr) (m d : Nat) (E : Nat → Int) (w : World) (hm : (m : Int) ≤ 1048576) (HR : Hid (RowGat w s n X K V)) (HE : Hid (RowI w t m E)) :
    Calls Try.prog 45 #[.agg #[.int .i64 x, .slice s n c], .slice t m d] w fun e w' => e = .returned (.bool (eigB x n X K V m E)) ∧ Below w.heap.size w w' := by
  go_enter Try.func45, Try.ntmps45
  go_wp2_with fail
  obtain ⟨wd, hwd⟩ : ∃ wd, wd = w.alloc (.cells #[.int .i64 x, .slice s n c] 30) := ⟨_, rfl⟩
  rw [← hwd]
  have B0 : Below w.heap.size w wd := by rw [hwd]; exact (by repeat (first | with_reducible exact Below.refl _ _ | with_reducible refine Below.setCell ?_ (by first | omega | (simp; done) | (simp; omega)) _ | with_reducible refine bDrewN ?_ _ | with_reducible refine Below.drew ?_ | with_reducible refine Below.alloc ?_ (by first | omega | (simp; done) | (simp; omega)) _))
  have p0 : wd.cell? ⟨w.heap.size, 0, none⟩ = some (.int .i64 x) := by rw [hwd]; simp [go_sem]
  have p1 : wd.cell? ⟨w.heap.size, 1, none⟩ = some (.slice s n c) := by rw [hwd]; simp [go_sem]
  have zd : w.heap.size < wd.heap.size := by rw [hwd]; simp
  clear hwd
  refine (specTreeOk_any x s n c X K V _ (HR.out.below B0)).mono ?_
  rintro e w1 ⟨rfl, h1⟩
  replace p0 := (h1.cell (p := ⟨w.heap.size, 0, none⟩) zd).trans p0
  have z1 := Nat.lt_of_lt_of_le zd h1.size
  have B1 : Below w.heap.size w w1 := B0.trans (h1.mono B0.size)
  clear h1 p1 B0 zd
  cases h0 : treeB x n X K V
  · have HO : Hid (eigB x n X K V m E = false) := by show _ = _; unfold eigB; rw [h0]; rfl
    go_wp2
    go_ret
    exact ⟨ret_bool HO.out.symm, (by repeat (first | with_reducible exact Below.refl _ _ | with_reducible exact B1 | with_reducible refine Below.setCell ?_ (by first | omega | (simp; done) | (simp; omega)) _ | with_reducible refine bDrewN ?_ _ | with_reducible refine Below.drew ?_ | with_reducible refine Below.alloc ?_ (by first | omega | (simp; done) | (simp; omega)) _))⟩
  by_cases hmx : (m : Int) = x
  case neg =>
    have bb : ((m : Int) != x) = true := by simpa using hmx
    have HO : Hid (eigB x n X K V m E = false) := by show _ = _; unfold eigB; rw [decide_eq_false hmx]; simp
    clear hmx
    go_wp2
    go_ret
    exact ⟨ret_bool HO.out.symm, (by repeat (first | with_reducible exact Below.refl _ _ | with_reducible exact B1 | with_reducible refine Below.setCell ?_ (by first | omega | (simp; done) | (simp; omega)) _ | with_reducible refine bDrewN ?_ _ | with_reducible refine Below.drew ?_ | with_reducible refine Below.alloc ?_ (by first | omega | (simp; done) | (simp; omega)) _))⟩
  subst hmx
  have HF : Hid (eigB (m : Int) n X K V m E = allInB 0 8 E m) := by show _ = _; unfold eigB; rw [h0]; simp
  clear h0
  go_wp2_with fail
  go_loopw [5] (fun i wr => ∃ k : Nat, k ≤ m ∧ i = .int .i64 k ∧ Hid (∀ j, j < k → 0 ≤ E j ∧ E j ≤ 8) ∧ wr = w1) (fun i _ => m - (intOf i).toNat)
  case atStart => exact ⟨0, Nat.zero_le _, rfl, fun j hj => by omega, rfl⟩
  case round =>
    obtain ⟨k, hk, rfl, HP, rfl⟩ := hrel
    by_cases h2 : k < m
    · obtain ⟨g, o, rfl, hg, c0⟩ := HE.out k h2
      have d0 := (B1.cell (p := ⟨g, o + k, none⟩) hg).trans c0
      have k1 : (k : Int) < (m : Int) := by omega
      clear c0
      go_wp2_with fail
      refine (l1In_is _ _ _ _).mono ?_
      rintro e w1 ⟨rfl, rfl⟩
      cases q : inB 0 8 (E k)
      · have HO : Hid (eigB (m : Int) n X K V m E = false) := by
          show _ = _
          rw [HF.out]
          exact decide_eq_false fun h => by have := h k h2; unfold inB at q; simp at q; omega
        go_wp2
        go_ret
        exact ⟨ret_bool HO.out.symm, (by repeat (first | with_reducible exact Below.refl _ _ | with_reducible exact B1 | with_reducible refine Below.setCell ?_ (by first | omega | (simp; done) | (simp; omega)) _ | with_reducible refine bDrewN ?_ _ | with_reducible refine Below.drew ?_ | with_reducible refine Below.alloc ?_ (by first | omega | (simp; done) | (simp; omega)) _))⟩
      · have q' := inB_yes q
        have HN : Hid (∀ j, j < k + 1 → 0 ≤ E j ∧ E j ≤ 8) := ball_succ HP.out q'
        clear q'
        go_wp2
        go_roundw
        case rel => exact ⟨k + 1, by omega, by go_num, HN.out, by first | rfl | trivial⟩
        case measure => first | (simp [intOf]; done) | (simp [intOf]; omega)
    · obtain rfl : k = m := by omega
      have HO : Hid (eigB (k : Int) n X K V k E = true) := by show _ = _; rw [HF.out]; exact decide_eq_true HP.out
      go_wp2
      go_ret
      exact ⟨ret_bool HO.out.symm, (by repeat (first | with_reducible exact Below.refl _ _ | with_reducible exact B1 | with_reducible refine Below.setCell ?_ (by first | omega | (simp; done) | (simp; omega)) _ | with_reducible refine bDrewN ?_ _ | with_reducible refine Below.drew ?_ | with_reducible refine Below.alloc ?_ (by first | omega | (simp; done) | (simp; omega)) _))⟩
set_option maxRecDepth 20000 in
set_option maxHeartbeats 8000000 in
theorem specChance_any (x : Int) (s : Option Addr) (n c : Nat) (X : Nat → Int) (K : Nat → Nat) (V : Nat → Nat → Int) (t : Option Addr) (m d : Nat) (E : Nat → Int) (w : World) (hm : (m : Int) ≤ 1048576) (HR : Hid (RowGat w s n X K V)) (HE : Hid (RowI w t m E)) :
    Calls Try.prog 22 #[.agg #[.int .i64 x, .slice s n c], .slice t m d] w fun e w' => e = .returned (.int .i64 (chanceV x n X K V m E)) ∧ Below w.heap.size w w' := by
  go_enter Try.func22, Try.ntmps22
  go_wp2_with fail
  obtain ⟨wd, hwd⟩ : ∃ wd, wd = w.alloc (.cells #[.int .i64 x, .slice s n c] 30) := ⟨_, rfl⟩
  rw [← hwd]
  have B0 : Below w.heap.size w wd := by rw [hwd]; exact (by repeat (first | with_reducible exact Below.refl _ _ | with_reducible refine Below.setCell ?_ (by first | omega | (simp; done) | (simp; omega)) _ | with_reducible refine bDrewN ?_ _ | with_reducible refine Below.drew ?_ | with_reducible refine Below.alloc ?_ (by first | omega | (simp; done) | (simp; omega)) _))
  have p0 : wd.cell? ⟨w.heap.size, 0, none⟩ = some (.int .i64 x) := by rw [hwd]; simp [go_sem]
  have p1 : wd.cell? ⟨w.heap.size, 1, none⟩ = some (.slice s n c) := by rw [hwd]; simp [go_sem]
  have zd : w.heap.size < wd.heap.size := by rw [hwd]; simp
  clear hwd
  refine (l23Eighths_any x s n c X K V t m d E _ hm (HR.out.below B0) (HE.out.below B0)).mono ?_
  rintro e w1 ⟨rfl, h1⟩
  replace p0 := (h1.cell (p := ⟨w.heap.size, 0, none⟩) zd).trans p0
  replace p1 := (h1.cell (p := ⟨w.heap.size, 1, none⟩) zd).trans p1
  have z1 := Nat.lt_of_lt_of_le zd h1.size
  have B1 : Below w.heap.size w w1 := B0.trans (h1.mono B0.size)
  clear h1 B0 zd
  cases h0 : eigB x n X K V m E
  · have HO : Hid (chanceV x n X K V m E = -1) := by show _ = _; unfold chanceV; rw [h0]; rfl
    go_wp2
    go_ret
    exact ⟨ret_int HO.out.symm, (by repeat (first | with_reducible exact Below.refl _ _ | with_reducible exact B1 | with_reducible refine Below.setCell ?_ (by first | omega | (simp; done) | (simp; omega)) _ | with_reducible refine bDrewN ?_ _ | with_reducible refine Below.drew ?_ | with_reducible refine Below.alloc ?_ (by first | omega | (simp; done) | (simp; omega)) _))⟩
  obtain ⟨ht, rfl, hE⟩ := eig_yes h0
  obtain ⟨⟨x0, x1⟩, -, -⟩ := tree_yes ht
  have HT : Hid (treeB (m : Int) n X K V = true) := ht
  have H8 : Hid (∀ i, i < m → 0 ≤ E i ∧ E i ≤ 8) := hE
  obtain ⟨N, hN⟩ : ∃ N, 2 ^ m = N := ⟨_, rfl⟩
  have hw : wrap64 ((2 : Int) ^ m) = (N : Int) := by rw [wpow m (by omega), hN]
  have HO : Hid (chanceV (m : Int) n X K V m E = chaV m n X K V E N) := by show _ = _; unfold chanceV; rw [h0, Int.toNat_natCast, hN]; rfl
  have N1 : N ≤ 1024 := by rw [← hN]; exact (Nat.pow_le_pow_right (by decide) (by omega) : 2 ^ m ≤ 2 ^ 10)
  have HN : Hid (2 ^ m = N) := hN
  clear h0 ht hE hN
  go_wp2_with fail
  go_loopw [5, 6] (fun v i wr => ∃ b : Nat, b ≤ N ∧ i = .int .i64 b ∧ v = .int .i64 (chaV m n X K V E b) ∧ wr.cell? ⟨w.heap.size, 0, none⟩ = some (.int .i64 (m : Int)) ∧ wr.cell? ⟨w.heap.size, 1, none⟩ = some (.slice s n c) ∧ w.heap.size < wr.heap.size ∧ Below w.heap.size w wr) (fun _ i _ => N - (intOf i).toNat)
  case atStart => exact ⟨0, Nat.zero_le _, rfl, rfl, p0, p1, z1, B1⟩
  case round =>
    clear p0 p1 z1 B1
    obtain ⟨b, hb, rfl, rfl, q0, q1, zp, hB⟩ := hrel
    by_cases h2 : b < N
    · have cb := cha_bound (n := n) (X := X) (K := K) (V := V) H8.out (show m ≤ 10 by omega) b
      have b1 : (b : Int) < (N : Int) := by omega
      have HS : Hid (chaV m n X K V E (b + 1) = chaV m n X K V E b + (if faB b m n X K V = true then prdV b E (fun i => 8 - E i) m else 0)) := rfl
      obtain ⟨S, hS⟩ : ∃ S, chaV m n X K V E b = S := ⟨_, rfl⟩
      rw [hS] at HS cb ⊢
      have s0 : 0 ≤ S := cb.1
      have s1 : S ≤ 1099511627776 := by omega
      have HB2 : Hid (b < 2 ^ m) := by show _ < _; rw [HN.out]; exact h2
      have HB62 : Hid (b < 2 ^ 62) := by show b < 2 ^ 62; omega
      clear cb hS
      go_wp2_with fail
      go_loopw [7, 8] (fun v i ws => ∃ k : Nat, k ≤ m ∧ i = .int .i64 k ∧ v = .int .i64 (prdV b E (fun i => 8 - E i) k) ∧ ws = wr) (fun _ i _ => m - (intOf i).toNat)
      case atStart => exact ⟨0, Nat.zero_le _, rfl, rfl, rfl⟩
      case round =>
        obtain ⟨k, hk, rfl, rfl, rfl⟩ := hrel
        rename_i wr _
        have pb := prd_small (b := b) (k := k) (fun i hi => H8.out i (by omega)) (sub8 (fun i hi => H8.out i (by omega))) (by omega)
        by_cases h3 : k < m
        · obtain ⟨g, o, rfl, hg, c0⟩ := HE.out k h3
          have d0 := (hB.cell (p := ⟨g, o + k, none⟩) hg).trans c0
          obtain ⟨y0, y1⟩ := H8.out k h3
          have k1 : (k : Int) < (m : Int) := by omega
          have hbit := bit_i64 b k HB62.out
          have HP : Hid (prdV b E (fun i => 8 - E i) (k + 1) = prdV b E (fun i => 8 - E i) k * (if b.testBit k = true then E k else 8 - E k)) := rfl
          obtain ⟨p, hp⟩ : ∃ p, prdV b E (fun i => 8 - E i) k = p := ⟨_, rfl⟩
          obtain ⟨y, hy⟩ : ∃ y, E k = y := ⟨_, rfl⟩
          rw [hy] at d0 HP y0 y1
          rw [hp] at HP pb ⊢
          obtain ⟨pp0, pp1⟩ := pb
          have m1 := mul_in pp0 pp1 y0 y1
          have m2 := mul_in (y := 8 - y) pp0 pp1 (by omega) (by omega)
          clear hp hy c0
          cases q : b.testBit k
          · rw [q] at hbit
            obtain ⟨r, hr⟩ : ∃ r, p * (8 - y) = r := ⟨_, rfl⟩
            have HR2 : Hid (prdV b E (fun i => 8 - E i) (k + 1) = r) := by show _ = _; rw [HP.out, q, ← hr]; simp
            rw [hr] at m2
            clear m1
            go_wp2
            go_roundw
            case rel => exact ⟨k + 1, by omega, by go_num, by rw [HR2.out], by first | rfl | trivial⟩
            case measure => first | (simp [intOf]; done) | (simp [intOf]; omega)
          · rw [q] at hbit
            obtain ⟨r, hr⟩ : ∃ r, p * y = r := ⟨_, rfl⟩
            have HR2 : Hid (prdV b E (fun i => 8 - E i) (k + 1) = r) := by show _ = _; rw [HP.out, q, ← hr]; simp
            rw [hr] at m1
            clear m2
            go_wp2
            go_roundw
            case rel => exact ⟨k + 1, by omega, by go_num, by rw [HR2.out], by first | rfl | trivial⟩
            case measure => first | (simp [intOf]; done) | (simp [intOf]; omega)
        · obtain rfl : k = m := by omega
          obtain ⟨p, hp⟩ : ∃ p, prdV b E (fun i => 8 - E i) k = p := ⟨_, rfl⟩
          rw [hp] at HS pb ⊢
          obtain ⟨pp0, pp1⟩ := pb
          clear hp
          by_cases pz : 0 < p
          · have HRW : Hid (RowGat wr s n X K V) := HR.out.below hB
            go_wp2_with fail
            refine (l23Fails_any b k s n c X K V _ HT HB2.out HRW).mono ?_
            rintro e w2 ⟨rfl, hx2⟩
            replace q0 := (hx2.cell (p := ⟨w.heap.size, 0, none⟩) zp).trans q0
            replace q1 := (hx2.cell (p := ⟨w.heap.size, 1, none⟩) zp).trans q1
            have z2 := Nat.lt_of_lt_of_le zp hx2.size
            have B2 : Below w.heap.size w w2 := hB.trans (hx2.mono hB.size)
            clear hx2
            cases q : faB b k n X K V
            · have HQ : Hid (chaV k n X K V E (b + 1) = S) := by show _ = _; rw [HS.out, q]; simp
              go_wp2
              go_roundw
              case rel => exact ⟨b + 1, by omega, by go_num, by rw [HQ.out], q0, q1, z2, B2⟩
              case measure => first | (simp [intOf]; done) | (simp [intOf]; omega)
            · have HQ : Hid (chaV k n X K V E (b + 1) = S + p) := by show _ = _; rw [HS.out, q]; simp
              go_wp2
              go_roundw
              case rel => exact ⟨b + 1, by omega, by go_num, by rw [HQ.out], q0, q1, z2, B2⟩
              case measure => first | (simp [intOf]; done) | (simp [intOf]; omega)
          · obtain rfl : p = 0 := by omega
            have HQ : Hid (chaV k n X K V E (b + 1) = S) := by show _ = _; rw [HS.out]; simp
            clear pz
            go_wp2
            go_roundw
            case rel => exact ⟨b + 1, by omega, by go_num, by rw [HQ.out], q0, q1, zp, hB⟩
            case measure => first | (simp [intOf]; done) | (simp [intOf]; omega)
    · obtain rfl : b = N := by omega
      go_wp2
      go_ret
      exact ⟨ret_int HO.out.symm, (by repeat (first | with_reducible exact Below.refl _ _ | with_reducible exact hB | with_reducible refine Below.setCell ?_ (by first | omega | (simp; done) | (simp; omega)) _ | with_reducible refine bDrewN ?_ _ | with_reducible refine Below.drew ?_ | with_reducible refine Below.alloc ?_ (by first | omega | (simp; done) | (simp; omega)) _))⟩

open Go.ChangeShapes Go.WideShapes Go.ChangeAt Go.RowKit
set_option linter.unusedVariables false
set_option linter.unusedSimpArgs false

def hasV (V : Nat → Int) (n : Nat) (x : Int) : Bool := decide (∃ j, j < n ∧ V j = x)
theorem has_bit {b i : Nat} (hb : b < 1024) (hi : i < 10) : hasV (nthI (lsT b 10)) (popS b) (i : Int) = b.testBit i := by
  cases e : b.testBit i
  · refine decide_eq_false fun ⟨j, h1, h2⟩ => ?_
    obtain ⟨i', _, h3, h4⟩ := ls_at (x := 10) hb (Nat.le_refl _) h1
    have : i' = i := by have := h3.symm.trans h2; omega
    rw [this, e] at h4
    cases h4
  · exact decide_eq_true (ls_hit hb hi e)
set_option maxRecDepth 20000 in
set_option maxHeartbeats 2000000 in
theorem l22Has_any (s : Option Addr) (k e : Nat) (U : Nat → Int) (x : Int) (w : World) (hk : (k : Int) ≤ 1048576) (HU : Hid (RowI w s k U)) :
    Calls Try.prog 46 #[.slice s k e, .int .i64 x] w fun e w' => e = .returned (.bool (hasV U k x)) ∧ w' = w := by
  go_enter Try.func46, Try.ntmps46
  go_wp2_with fail
  go_loopw [5] (fun i wr => ∃ j : Nat, j ≤ k ∧ i = .int .i64 j ∧ Hid (∀ r, r < j → U r ≠ x) ∧ wr = w) (fun i _ => k - (intOf i).toNat)
  case atStart => exact ⟨0, Nat.zero_le _, rfl, fun r hr => by omega, rfl⟩
  case round =>
    obtain ⟨j, hj, rfl, HP, rfl⟩ := hrel
    by_cases h1 : j < k
    · obtain ⟨g, o, rfl, hg, c0⟩ := HU.out j h1
      have j1 : (j : Int) < (k : Int) := by omega
      by_cases e0 : U j = x
      · have HO : Hid (hasV U k x = true) := decide_eq_true ⟨j, h1, e0⟩
        obtain ⟨z, hz⟩ : ∃ z, U j = z := ⟨_, rfl⟩
        have e1 : (z == x) = true := by rw [← hz]; simpa using e0
        rw [hz] at c0
        clear e0 hz
        go_wp2
        go_ret
        exact ⟨ret_bool HO.out.symm, rfl⟩
      · have HN : Hid (∀ r, r < j + 1 → U r ≠ x) := fun r hr => by
          by_cases q : r = j
          · rw [q]; exact e0
          · exact HP.out r (by omega)
        obtain ⟨z, hz⟩ : ∃ z, U j = z := ⟨_, rfl⟩
        have e1 : (z == x) = false := by rw [← hz]; simpa using e0
        rw [hz] at c0
        clear e0 hz
        go_wp2
        go_roundw
        case rel => exact ⟨j + 1, by omega, by go_num, HN.out, by first | rfl | trivial⟩
        case measure => first | (simp [intOf]; done) | (simp [intOf]; omega)
    · obtain rfl : j = k := by omega
      have HO : Hid (hasV U j x = false) := decide_eq_false fun ⟨i, h, e⟩ => HP.out i h e
      go_wp2
      go_ret
      exact ⟨ret_bool HO.out.symm, rfl⟩
set_option maxRecDepth 20000 in
set_option maxHeartbeats 4000000 in
theorem specUpper_any (x : Int) (s : Option Addr) (n c : Nat) (X : Nat → Int) (K : Nat → Nat) (V : Nat → Nat → Int) (t : Option Addr) (m d : Nat) (E : Nat → Int) (w : World) (hm : (m : Int) ≤ 1048576) (HR : Hid (RowGat w s n X K V)) (HE : Hid (RowI w t m E)) :
    Calls Try.prog 18 #[.agg #[.int .i64 x, .slice s n c], .slice t m d] w fun e w' => UpPost x n X K V m E w e w' := by
  go_enter Try.func18, Try.ntmps18
  go_wp2_with fail
  obtain ⟨wd, hwd⟩ : ∃ wd, wd = w.alloc (.cells #[.int .i64 x, .slice s n c] 30) := ⟨_, rfl⟩
  rw [← hwd]
  have B0 : Below w.heap.size w wd := by rw [hwd]; exact (by repeat (first | with_reducible exact Below.refl _ _ | with_reducible refine Below.setCell ?_ (by first | omega | (simp; done) | (simp; omega)) _ | with_reducible refine bDrewN ?_ _ | with_reducible refine Below.drew ?_ | with_reducible refine Below.alloc ?_ (by first | omega | (simp; done) | (simp; omega)) _))
  have p0 : wd.cell? ⟨w.heap.size, 0, none⟩ = some (.int .i64 x) := by rw [hwd]; simp [go_sem]
  have p1 : wd.cell? ⟨w.heap.size, 1, none⟩ = some (.slice s n c) := by rw [hwd]; simp [go_sem]
  have zd : w.heap.size < wd.heap.size := by rw [hwd]; simp
  clear hwd
  refine (l23Eighths_any x s n c X K V t m d E _ hm (HR.out.below B0) (HE.out.below B0)).mono ?_
  rintro e w1 ⟨rfl, h1⟩
  replace p0 := (h1.cell (p := ⟨w.heap.size, 0, none⟩) zd).trans p0
  replace p1 := (h1.cell (p := ⟨w.heap.size, 1, none⟩) zd).trans p1
  have z1 := Nat.lt_of_lt_of_le zd h1.size
  have B1 : Below w.heap.size w w1 := B0.trans (h1.mono B0.size)
  clear h1 B0 zd
  cases h0 : eigB x n X K V m E
  · go_wp2
    go_ret
    exact ⟨-1, rfl, up_no h0, (by repeat (first | with_reducible exact Below.refl _ _ | with_reducible exact B1 | with_reducible refine Below.setCell ?_ (by first | omega | (simp; done) | (simp; omega)) _ | with_reducible refine bDrewN ?_ _ | with_reducible refine Below.drew ?_ | with_reducible refine Below.alloc ?_ (by first | omega | (simp; done) | (simp; omega)) _))⟩
  have HEG : Hid (eigB x n X K V m E = true) := h0
  clear h0
  obtain ⟨hT, rfl, hE⟩ := eig_yes HEG.out
  have HT : Hid (treeB (m : Int) n X K V = true) := hT
  have H8 : Hid (∀ i, i < m → 0 ≤ E i ∧ E i ≤ 8) := hE
  have H88 : Hid (∀ i, i < m → 0 ≤ (fun _ : Nat => (8 : Int)) i ∧ (fun _ : Nat => (8 : Int)) i ≤ 8) := all8 m
  obtain ⟨⟨x0, x1⟩, -, -⟩ := tree_yes HT.out
  clear hT hE
  go_wp2_with fail
  refine (specMin_any (m : Int) s n c X K V _ (HR.out.below B1)).mono ?_
  rintro e w5 ⟨s1, c1, M, W, S, rfl, -, O1, G1, h5⟩
  have HB5 : Hid (Below w.heap.size w w5) := B1.trans (h5.mono B1.size)
  have q0 := (h5.cell (p := ⟨w.heap.size, 0, none⟩) z1).trans p0
  have z5 := Nat.lt_of_lt_of_le z1 h5.size
  have HRL : Hid (RowLL w5 s1 M (kkW W) (vvW W)) := O1.row
  have HG : Hid (CutG (mnB m n X K V) (2 ^ m) M W) := by
    have := G1.1 HT.out
    rw [Int.toNat_natCast] at this
    exact this
  have HE5 : Hid (RowI w5 t m E) := HE.out.below HB5.out
  have HY : Hid (2 ^ m ≤ 1024) := (Nat.pow_le_pow_right (by decide) (by omega) : 2 ^ m ≤ 2 ^ 10)
  have MN : M ≤ 1024 := Nat.le_trans (cut_le (P := mnB m n X K V) HG.out.1 (fun i hi => by obtain ⟨j, a, b, _⟩ := HG.out.2.1 i hi; exact ⟨j, a, b⟩)) HY.out
  clear h5 O1 G1 p0 p1 B1 z1
  go_wp2_with fail
  go_loopw [5, 7] (fun v i wr => ∃ k : Nat, k ≤ M ∧ i = .int .i64 k ∧ v = .int .i64 (upS m E W k) ∧ wr = w5) (fun _ i _ => M - (intOf i).toNat)
  case atStart => exact ⟨0, Nat.zero_le _, rfl, rfl, rfl⟩
  case round =>
    obtain ⟨k, hk, rfl, rfl, rfl⟩ := hrel
    rename World => w5
    by_cases h2 : k < M
    · obtain ⟨b, b1, b2, -⟩ := HG.out.2.1 k h2
      obtain ⟨g, o, ra, rc, rfl, hg, c0, Rk⟩ := HRL.out k h2
      rw [kk_at b2] at c0 Rk
      rw [vv_at b2] at Rk
      have b10 : b < 1024 := Nat.lt_of_lt_of_le b1 HY.out
      have HRk : Hid (RowI w5 ra (popS b) (nthI (lsT b 10))) := Rk
      have k1 : (k : Int) < (M : Int) := by omega
      have cb := up_bound (x := m) (E := E) (W := W) H8.out (by omega) k
      have HQ : Hid (upS m E W (k + 1) = upS m E W k + prdV b E (fun _ => 8) m) := by show upS m E W k + prdV (W k).toNat E (fun _ => 8) m = _; rw [b2, Int.toNat_natCast]
      obtain ⟨S, hS⟩ : ∃ S, upS m E W k = S := ⟨_, rfl⟩
      rw [hS] at HQ cb ⊢
      have s0 : 0 ≤ S := cb.1
      have s1' : S ≤ 1099511627776 := by omega
      have HPL : Hid (popS b ≤ 10) := pop_le (x := 10) b10 (Nat.le_refl _)
      have HHB : Hid (∀ i : Nat, i < 10 → hasV (nthI (lsT b 10)) (popS b) (i : Int) = b.testBit i) := fun i hi => has_bit b10 hi
      obtain ⟨l, hl⟩ : ∃ l, popS b = l := ⟨_, rfl⟩
      rw [hl] at c0 HRk HPL HHB
      have l10 : l ≤ 10 := HPL.out
      clear cb hS b2 b1 Rk hl
      go_wp2_with fail
      go_loopw [8, 9] (fun v i wr => ∃ j : Nat, j ≤ m ∧ i = .int .i64 j ∧ v = .int .i64 (prdV b E (fun _ => 8) j) ∧ wr = w5) (fun _ i _ => m - (intOf i).toNat)
      case atStart => exact ⟨0, Nat.zero_le _, rfl, rfl, rfl⟩
      case round =>
        obtain ⟨j, hj, rfl, rfl, rfl⟩ := hrel
        rename World => w5
        by_cases h3 : j < m
        · obtain ⟨ge, oe, rfl, hge, ce⟩ := HE5.out j h3
          have j1 : (j : Int) < (m : Int) := by omega
          have pb := prd_small (b := b) (k := j) (fun i hi => H8.out i (by omega)) (fun i hi => H88.out i (by omega)) (by omega)
          obtain ⟨y0, y1⟩ := H8.out j h3
          have HP : Hid (prdV b E (fun _ => 8) (j + 1) = prdV b E (fun _ => 8) j * (if b.testBit j = true then E j else 8)) := rfl
          have HW := l22Has_any ra l rc (nthI (lsT b 10)) (j : Int) w5 (by omega) HRk
          rw [HHB.out j (by omega)] at HW
          obtain ⟨p, hp⟩ : ∃ p, prdV b E (fun _ => 8) j = p := ⟨_, rfl⟩
          obtain ⟨y, hy⟩ : ∃ y, E j = y := ⟨_, rfl⟩
          rw [hp] at HP pb ⊢
          rw [hy] at ce HP y0 y1
          obtain ⟨pp0, pp1⟩ := pb
          have m1 := mul_in pp0 pp1 y0 y1
          clear hp hy
          go_wp2_with fail
          refine HW.mono ?_
          rintro e w6 ⟨rfl, rfl⟩
          cases q : b.testBit j
          · have HR2 : Hid (prdV b E (fun _ => 8) (j + 1) = p * 8) := by show _ = _; rw [HP.out, q]; simp
            clear m1
            go_wp2
            go_roundw
            case rel => exact ⟨j + 1, by omega, by go_num, by rw [HR2.out], by first | rfl | trivial⟩
            case measure => first | (simp [intOf]; done) | (simp [intOf]; omega)
          · obtain ⟨r, hr⟩ : ∃ r, p * y = r := ⟨_, rfl⟩
            have HR2 : Hid (prdV b E (fun _ => 8) (j + 1) = r) := by show _ = _; rw [HP.out, q, ← hr]; simp
            rw [hr] at m1
            go_wp2
            go_roundw
            case rel => exact ⟨j + 1, by omega, by go_num, by rw [HR2.out], by first | rfl | trivial⟩
            case measure => first | (simp [intOf]; done) | (simp [intOf]; omega)
        · obtain rfl : j = m := by omega
          have pb := prd_small (b := b) (k := j) H8.out H88.out (by omega)
          obtain ⟨p, hp⟩ : ∃ p, prdV b E (fun _ => 8) j = p := ⟨_, rfl⟩
          rw [hp] at HQ pb ⊢
          clear hp
          go_wp2
          go_roundw
          case rel => exact ⟨k + 1, by omega, by go_num, by rw [HQ.out], by first | rfl | trivial⟩
          case measure => first | (simp [intOf]; done) | (simp [intOf]; omega)
    · obtain rfl : k = M := by omega
      have HU : Hid (UpR (m : Int) n X K V m E (upS m E W k)) := up_yes HEG.out HG.out
      go_wp2
      go_ret
      exact ⟨_, rfl, HU.out, HB5.out⟩

open Go.ChangeShapes Go.WideShapes Go.ChangeAt Go.RowKit
set_option linter.unusedVariables false
set_option linter.unusedSimpArgs false

theorem rep_row {W : World} {b n : Nat} {x : Int} (h : RepAt W b n n x) : RowI W (some ⟨b, 0, none⟩) n (fun _ => x) := fun j hj => ⟨b, 0, rfl, (Array.getElem?_eq_some_iff.1 h).1, by rw [Nat.zero_add]; exact h.cell hj⟩
set_option maxRecDepth 20000 in
set_option maxHeartbeats 4000000 in
theorem implUpper_any (x : Int) (s : Option Addr) (n c : Nat) (X : Nat → Int) (K : Nat → Nat) (V : Nat → Nat → Int) (t : Option Addr) (m d : Nat) (E : Nat → Int) (w : World) (hm : (m : Int) ≤ 1048576) (HR : Hid (RowGat w s n X K V)) (HE : Hid (RowI w t m E)) :
    Calls Try.prog 20 #[.agg #[.int .i64 x, .slice s n c], .slice t m d] w fun e w' => UpPost x n X K V m E w e w' := by
  go_enter Try.func20, Try.ntmps20
  go_wp2_with fail
  obtain ⟨wd, hwd⟩ : ∃ wd, wd = w.alloc (.cells #[.int .i64 x, .slice s n c] 30) := ⟨_, rfl⟩
  rw [← hwd]
  have B0 : Below w.heap.size w wd := by rw [hwd]; exact (by repeat (first | with_reducible exact Below.refl _ _ | with_reducible refine Below.setCell ?_ (by first | omega | (simp; done) | (simp; omega)) _ | with_reducible refine bDrewN ?_ _ | with_reducible refine Below.drew ?_ | with_reducible refine Below.alloc ?_ (by first | omega | (simp; done) | (simp; omega)) _))
  have p0 : wd.cell? ⟨w.heap.size, 0, none⟩ = some (.int .i64 x) := by rw [hwd]; simp [go_sem]
  have p1 : wd.cell? ⟨w.heap.size, 1, none⟩ = some (.slice s n c) := by rw [hwd]; simp [go_sem]
  have zd : w.heap.size < wd.heap.size := by rw [hwd]; simp
  clear hwd
  refine (implTreeOk_any x s n c X K V _ (HR.out.below B0)).mono ?_
  rintro e w1 ⟨rfl, h1⟩
  replace p0 := (h1.cell (p := ⟨w.heap.size, 0, none⟩) zd).trans p0
  replace p1 := (h1.cell (p := ⟨w.heap.size, 1, none⟩) zd).trans p1
  have z1 := Nat.lt_of_lt_of_le zd h1.size
  have B1 : Below w.heap.size w w1 := B0.trans (h1.mono B0.size)
  clear h1 B0 zd
  cases h0 : treeB x n X K V
  · have HO : Hid (eigB x n X K V m E = false) := by show _ = _; unfold eigB; rw [h0]; rfl
    go_wp2
    go_ret
    exact ⟨-1, rfl, up_no HO.out, (by repeat (first | with_reducible exact Below.refl _ _ | with_reducible exact B1 | with_reducible refine Below.setCell ?_ (by first | omega | (simp; done) | (simp; omega)) _ | with_reducible refine bDrewN ?_ _ | with_reducible refine Below.drew ?_ | with_reducible refine Below.alloc ?_ (by first | omega | (simp; done) | (simp; omega)) _))⟩
  have HE0 : Hid (eigB x n X K V m E = (decide ((m : Int) = x) && allInB 0 8 E m)) := by show _ = _; unfold eigB; rw [h0]; rfl
  have HT : Hid (treeB x n X K V = true) := h0
  clear h0
  go_wp2_with fail
  refine (areChances_any x s n c t m d E _ hm (HE.out.below B1)).mono ?_
  rintro e w2 ⟨rfl, h1⟩
  replace p0 := (h1.cell (p := ⟨w.heap.size, 0, none⟩) z1).trans p0
  replace p1 := (h1.cell (p := ⟨w.heap.size, 1, none⟩) z1).trans p1
  have z2 := Nat.lt_of_lt_of_le z1 h1.size
  have B2 : Below w.heap.size w w2 := B1.trans (h1.mono B1.size)
  clear h1 B1 z1
  cases h0 : (decide ((m : Int) = x) && allInB 0 8 E m)
  · have HO : Hid (eigB x n X K V m E = false) := by show _ = _; rw [HE0.out, h0]
    go_wp2
    go_ret
    exact ⟨-1, rfl, up_no HO.out, (by repeat (first | with_reducible exact Below.refl _ _ | with_reducible exact B2 | with_reducible refine Below.setCell ?_ (by first | omega | (simp; done) | (simp; omega)) _ | with_reducible refine bDrewN ?_ _ | with_reducible refine Below.drew ?_ | with_reducible refine Below.alloc ?_ (by first | omega | (simp; done) | (simp; omega)) _))⟩
  have HEG : Hid (eigB x n X K V m E = true) := HE0.out.trans h0
  obtain ⟨-, rfl, hE⟩ := eig_yes HEG.out
  have H8 : Hid (∀ i, i < m → 0 ≤ E i ∧ E i ≤ 8) := hE
  have H88 : Hid (∀ i, i < m → 0 ≤ (fun _ : Nat => (8 : Int)) i ∧ (fun _ : Nat => (8 : Int)) i ≤ 8) := all8 m
  obtain ⟨⟨x0, x1⟩, -, -⟩ := tree_yes HT.out
  clear h0 hE HE0
  have HP : Hid (w2.cell? ⟨w.heap.size, 0, none⟩ = some (.int .i64 (m : Int)) ∧ w2.cell? ⟨w.heap.size, 1, none⟩ = some (.slice s n c)) := ⟨p0, p1⟩
  clear p0 p1
  go_wp2_with fail
  obtain ⟨w3, hw3⟩ : ∃ w3, w3 = w2.alloc (.cells #[.int .i64 8] 2) := ⟨_, rfl⟩
  have e3 : w3.cell? ⟨w2.heap.size, 0, none⟩ = some (.int .i64 8) := by rw [hw3]; simp [go_sem]
  have z3 : w2.heap.size < w3.heap.size := by rw [hw3]; simp
  have B3 : Below w2.heap.size w2 w3 := by rw [hw3]; exact (by repeat (first | with_reducible exact Below.refl _ _ | with_reducible refine Below.setCell ?_ (by first | omega | (simp; done) | (simp; omega)) _ | with_reducible refine bDrewN ?_ _ | with_reducible refine Below.drew ?_ | with_reducible refine Below.alloc ?_ (by first | omega | (simp; done) | (simp; omega)) _))
  rw [← hw3]
  clear hw3
  refine (repeat_any w2.heap.size m 8 _ (by omega) z3 e3).mono ?_
  rintro e w4 ⟨rfl, R4, h4⟩
  have B4 : Below w2.heap.size w2 w4 := B3.trans (h4.mono B3.size)
  have HS4 : Hid (RowI w4 (some ⟨w3.heap.size, 0, none⟩) m (fun _ => 8)) := rep_row R4
  have q0 := (B4.cell (p := ⟨w.heap.size, 0, none⟩) z2).trans HP.out.1
  have q1 := (B4.cell (p := ⟨w.heap.size, 1, none⟩) z2).trans HP.out.2
  have z4 := Nat.lt_of_lt_of_le z2 B4.size
  have HB4 : Hid (Below w.heap.size w w4) := B2.trans (B4.mono B2.size)
  clear R4 h4 B4 B3 e3 B2 z2
  go_wp2_with fail
  refine (cuts_any m s n c X K V _ HT (HR.out.below HB4.out)).mono ?_
  rintro e w5 ⟨s1, c1, M, W, rfl, m5, O1, G1, h5⟩
  have HB5 : Hid (Below w.heap.size w w5) := HB4.out.trans (h5.mono HB4.out.size)
  have HRU : Hid (RowU w5 s1 M W) := O1.row
  have HG : Hid (CutG (mnB m n X K V) (2 ^ m) M W) := G1
  have HS5 : Hid (RowI w5 (some ⟨w3.heap.size, 0, none⟩) m (fun _ => 8)) := HS4.out.below h5
  have HE5 : Hid (RowI w5 t m E) := HE.out.below HB5.out
  have HY : Hid (2 ^ m ≤ 1024) := (Nat.pow_le_pow_right (by decide) (by omega) : 2 ^ m ≤ 2 ^ 10)
  clear h5 O1 G1 q0 q1 HS4
  go_wp2_with fail
  go_loopw [6, 25] (fun v i wr => ∃ k : Nat, k ≤ M ∧ i = .int .i64 k ∧ v = .int .i64 (upS m E W k) ∧ wr = w5) (fun _ i _ => M - (intOf i).toNat)
  case atStart => exact ⟨0, Nat.zero_le _, rfl, rfl, rfl⟩
  case round =>
    obtain ⟨k, hk, rfl, rfl, rfl⟩ := hrel
    rename_i w5 _
    by_cases h2 : k < M
    · obtain ⟨b, b1, b2, -⟩ := HG.out.2.1 k h2
      obtain ⟨g, o, rfl, hg, c0⟩ := HRU.out k h2
      rw [b2] at c0
      have k1 : (k : Int) < (M : Int) := by omega
      have cb := up_bound (x := m) (E := E) (W := W) H8.out (by omega) k
      have HQ : Hid (upS m E W (k + 1) = upS m E W k + prdV b E (fun _ => 8) m) := by show upS m E W k + prdV (W k).toNat E (fun _ => 8) m = _; rw [b2, Int.toNat_natCast]
      obtain ⟨S, hS⟩ : ∃ S, upS m E W k = S := ⟨_, rfl⟩
      rw [hS] at HQ cb ⊢
      have s0 : 0 ≤ S := cb.1
      have s1' : S ≤ 549755813888 := by omega
      have pb := prd_small (b := b) (k := m) H8.out H88.out (by omega)
      have H32 : Hid (b < 2 ^ 32) := by have := HY.out; show b < 2 ^ 32; omega
      clear cb hS b2 b1
      go_wp2_with fail
      refine (product_any b t m d E (some ⟨w3.heap.size, 0, none⟩) m (fun _ => 8) _ (by omega) H32 H8 H88 HE5 HS5).mono ?_
      rintro e w6 ⟨rfl, rfl⟩
      obtain ⟨p, hp⟩ : ∃ p, prdV b E (fun _ => 8) m = p := ⟨_, rfl⟩
      rw [hp] at HQ pb ⊢
      clear hp
      go_wp2
      go_roundw
      case rel => exact ⟨k + 1, by omega, by go_num, by rw [HQ.out], by first | rfl | trivial⟩
      case measure => first | (simp [intOf]; done) | (simp [intOf]; omega)
    · obtain rfl : k = M := by omega
      have HU : Hid (UpR (m : Int) n X K V m E (upS m E W k)) := up_yes HEG.out HG.out
      go_wp2
      go_ret
      exact ⟨_, rfl, HU.out, HB5.out⟩

end Go.Proofs.Ytljaidacaepmmaa
