/-
What is proved: weights, as the program says them.
-/
import Derived.Test.YtaagelnbkenbpaaWt
import Derived.Test.YtaagelnbkenbpaaChI
namespace Go.Proofs.Ytaagelnbkenbpaa
set_option maxRecDepth 40000
open Go.ChangeShapes Go.WideShapes Go.ChangeAt Go.RowKit
set_option linter.unusedVariables false
set_option linter.unusedSimpArgs false

set_option maxRecDepth 20000 in
set_option maxHeartbeats 8000000 in
theorem implWeight_any (x : Int) (s : Option Addr) (n c : Nat) (X : Nat → Int) (K : Nat → Nat) (V : Nat → Nat → Int) (t : Option Addr) (m d : Nat) (E : Nat → Int) (q : Int) (w : World) (hm : (m : Int) ≤ 1048576) (HR : Hid (RowGat w s n X K V)) (HE : Hid (RowI w t m E)) :
    Calls Try.prog 29 #[.agg #[.int .i64 x, .slice s n c], .slice t m d, .int .i64 q] w fun e w' => e = .returned (.int .i64 (weightV x n X K V m E q)) ∧ Below w.heap.size w w' := by
  go_enter Try.func29, Try.ntmps29
  go_wp2_with fail
  obtain ⟨wd, hwd⟩ : ∃ wd, wd = w.alloc (.cells #[.int .i64 x, .slice s n c] 29) := ⟨_, rfl⟩
  rw [← hwd]
  have B0 : Below w.heap.size w wd := by rw [hwd]; exact (by repeat (first | with_reducible exact Below.refl _ _ | with_reducible refine Below.setCell ?_ (by first | omega | (simp; done) | (simp; omega)) _ | with_reducible refine bDrewN ?_ _ | with_reducible refine Below.drew ?_ | with_reducible refine Below.alloc ?_ (by first | omega | (simp; done) | (simp; omega)) _))
  have p0 : wd.cell? ⟨w.heap.size, 0, none⟩ = some (.int .i64 x) := by rw [hwd]; simp [go_sem]
  have p1 : wd.cell? ⟨w.heap.size, 1, none⟩ = some (.slice s n c) := by rw [hwd]; simp [go_sem]
  have zd : w.heap.size < wd.heap.size := by rw [hwd]; simp
  clear hwd
  refine (implTreeOk_any x s n c X K V _ (HR.out.below B0)).mono ?_
  rintro e w1 ⟨rfl, h1⟩
  replace p0 := (h1.cell (p := ⟨w.heap.size, 0, none⟩) zd).trans p0
  replace p1 := (h1.cell (p := ⟨w.heap.size, 1, none⟩) zd).trans p1
  have z1 := Nat.lt_of_lt_of_le zd h1.size
  have B1 : Below w.heap.size w w1 := B0.trans (h1.mono B0.size)
  clear h1 B0 zd
  cases h0 : treeB x n X K V
  · have HO : Hid (weightV x n X K V m E q = -1) := by show _ = _; unfold weightV wtB; unfold eigB; rw [h0]; rfl
    go_wp2
    go_ret
    exact ⟨ret_int HO.out.symm, (by repeat (first | with_reducible exact Below.refl _ _ | with_reducible exact B1 | with_reducible refine Below.setCell ?_ (by first | omega | (simp; done) | (simp; omega)) _ | with_reducible refine bDrewN ?_ _ | with_reducible refine Below.drew ?_ | with_reducible refine Below.alloc ?_ (by first | omega | (simp; done) | (simp; omega)) _))⟩
  have HG0 : Hid (eigB x n X K V m E = (decide ((m : Int) = x) && allInB 0 8 E m)) := by show _ = _; unfold eigB; rw [h0]; rfl
  obtain ⟨⟨x0', x1'⟩, -, -⟩ := tree_yes h0
  clear h0
  go_wp2_with fail
  refine (areChances_any x s n c t m d E _ hm (HE.out.below B1)).mono ?_
  rintro e w2 ⟨rfl, h1⟩
  replace p0 := (h1.cell (p := ⟨w.heap.size, 0, none⟩) z1).trans p0
  replace p1 := (h1.cell (p := ⟨w.heap.size, 1, none⟩) z1).trans p1
  have z2 := Nat.lt_of_lt_of_le z1 h1.size
  have B2 : Below w.heap.size w w2 := B1.trans (h1.mono B1.size)
  clear h1 B1 z1
  cases h0 : (decide ((m : Int) = x) && allInB 0 8 E m)
  · have HO : Hid (weightV x n X K V m E q = -1) := by show _ = _; unfold weightV wtB; rw [HG0.out, h0]; rfl
    go_wp2
    go_ret
    exact ⟨ret_int HO.out.symm, (by repeat (first | with_reducible exact Below.refl _ _ | with_reducible exact B2 | with_reducible refine Below.setCell ?_ (by first | omega | (simp; done) | (simp; omega)) _ | with_reducible refine bDrewN ?_ _ | with_reducible refine Below.drew ?_ | with_reducible refine Below.alloc ?_ (by first | omega | (simp; done) | (simp; omega)) _))⟩
  have HG : Hid (eigB x n X K V m E = true) := HG0.out.trans h0
  clear h0
  go_wp2_with fail
  refine (isBasic_any x s n c q _ (by omega) (by omega)).mono ?_
  rintro e w3 ⟨rfl, h1⟩
  replace p0 := (h1.cell (p := ⟨w.heap.size, 0, none⟩) z2).trans p0
  replace p1 := (h1.cell (p := ⟨w.heap.size, 1, none⟩) z2).trans p1
  have z3 := Nat.lt_of_lt_of_le z2 h1.size
  have B3 : Below w.heap.size w w3 := B2.trans (h1.mono B2.size)
  clear h1 B2 z2
  cases hq : inB 0 (x - 1) q
  · have HO : Hid (weightV x n X K V m E q = -1) := by show _ = _; unfold weightV wtB; rw [HG.out, hq]; rfl
    go_wp2
    go_ret
    exact ⟨ret_int HO.out.symm, (by repeat (first | with_reducible exact Below.refl _ _ | with_reducible exact B3 | with_reducible refine Below.setCell ?_ (by first | omega | (simp; done) | (simp; omega)) _ | with_reducible refine bDrewN ?_ _ | with_reducible refine Below.drew ?_ | with_reducible refine Below.alloc ?_ (by first | omega | (simp; done) | (simp; omega)) _))⟩
  obtain ⟨ht, rfl, hE⟩ := eig_yes HG.out
  obtain ⟨⟨x0, x1⟩, -, -⟩ := tree_yes ht
  obtain ⟨q0, q1⟩ := inB_yes hq
  obtain ⟨q, rfl⟩ : ∃ y : Nat, q = (y : Int) := ⟨q.toNat, by omega⟩
  have qm : q < m := by omega
  have HT : Hid (treeB (m : Int) n X K V = true) := ht
  have H8 : Hid (∀ i, i < m → 0 ≤ E i ∧ E i ≤ 8) := hE
  have HO : Hid (weightV (m : Int) n X K V m E (q : Int) = chaV m n X K V (setE E q 8) (2 ^ m) - chaV m n X K V (setE E q 0) (2 ^ m)) := by show _ = _; unfold weightV wtB; rw [HG.out, hq, Int.toNat_natCast, Int.toNat_natCast]; rfl
  have c8 := cha_top (n := n) (X := X) (K := K) (V := V) (set_in (q := q) (v := 8) H8.out (by decide) (by decide)) (show m ≤ 10 by omega)
  have c0 := cha_top (n := n) (X := X) (K := K) (V := V) (set_in (q := q) (v := 0) H8.out (by decide) (by decide)) (show m ≤ 10 by omega)
  obtain ⟨ad, rfl⟩ : ∃ ad, t = some ad := by
    obtain ⟨b, o, e, _⟩ := HE.out 0 (by omega)
    exact ⟨_, e⟩
  have qi : (q : Int) < (m : Int) := by omega
  clear x0' x1' hq hE ht
  go_wp2_with fail
  refine (clone_any ad m d E _ (by omega) (HE.out.below B3)).mono ?_
  rintro e w4 ⟨s4, c4, rfl, O4, h1⟩
  replace p0 := (h1.cell (p := ⟨w.heap.size, 0, none⟩) z3).trans p0
  replace p1 := (h1.cell (p := ⟨w.heap.size, 1, none⟩) z3).trans p1
  have z4 := Nat.lt_of_lt_of_le z3 h1.size
  have B4 : Below w.heap.size w w4 := B3.trans (h1.mono B3.size)
  clear h1 B3
  obtain ⟨g, rfl, hg, zg, cq, fq⟩ := O4 q qm
  have HO4 : Hid (OwnI w3.heap.size w4 (some ⟨g, 0, none⟩) m E) := O4
  clear O4
  go_upto_region 5 with fail
  obtain ⟨w5, hw⟩ : ∃ y, y = w4.setCell ⟨g, q, none⟩ (.int .i64 8) := ⟨_, rfl⟩
  rw [← hw]
  have ng : w.heap.size ≠ g := by omega
  have r0 : w5.cell? ⟨w.heap.size, 0, none⟩ = some (.int .i64 (m : Int)) := by rw [hw]; simp [go_sem, p0, ng]
  have r1 : w5.cell? ⟨w.heap.size, 1, none⟩ = some (.slice s n c) := by rw [hw]; simp [go_sem, p1, ng]
  have z5 : w.heap.size < w5.heap.size := by rw [hw]; simpa using z4
  have zg5 : g < w5.heap.size := by rw [hw]; simpa using zg
  have O5 : Hid (OwnI w3.heap.size w5 (some ⟨g, 0, none⟩) m (setE E q 8)) := by rw [hw]; exact own_set HO4.out qm
  have B5 : Below w.heap.size w w5 := by rw [hw]; exact set_belowW B4 (by omega) (by omega)
  clear hw p0 p1 cq fq HO4 B4 zg z4
  go_wp2_with fail
  refine (chance_any m s n c X K V (some ⟨g, 0, none⟩) _ (setE E q 8) _ HT (set_in H8.out (by decide) (by decide)) (HR.out.below B5) O5.out.row).mono ?_
  rintro e w6 ⟨rfl, h1⟩
  replace r0 := (h1.cell (p := ⟨w.heap.size, 0, none⟩) z5).trans r0
  replace r1 := (h1.cell (p := ⟨w.heap.size, 1, none⟩) z5).trans r1
  have z6 := Nat.lt_of_lt_of_le z5 h1.size
  have B6 : Below w.heap.size w w6 := B5.trans (h1.mono B5.size)
  have O6 : OwnI w3.heap.size w6 (some ⟨g, 0, none⟩) m (setE E q 8) := O5.out.below h1
  clear h1 B5 z5 O5
  obtain ⟨g', e', -, zg, cq, fq⟩ := O6 q qm
  cases e'
  have HO6 : Hid (OwnI w3.heap.size w6 (some ⟨g, 0, none⟩) m (setE E q 8)) := O6
  clear O6
  obtain ⟨a8, h8⟩ : ∃ y, chaV m n X K V (setE E q 8) (2 ^ m) = y := ⟨_, rfl⟩
  rw [h8] at c8 HO ⊢
  clear h8
  go_upto_region 7 with fail
  obtain ⟨w7, hw⟩ : ∃ y, y = w6.setCell ⟨g, q, none⟩ (.int .i64 0) := ⟨_, rfl⟩
  rw [← hw]
  have p0 : w7.cell? ⟨w.heap.size, 0, none⟩ = some (.int .i64 (m : Int)) := by rw [hw]; simp [go_sem, r0, ng]
  have p1 : w7.cell? ⟨w.heap.size, 1, none⟩ = some (.slice s n c) := by rw [hw]; simp [go_sem, r1, ng]
  have z7 : w.heap.size < w7.heap.size := by rw [hw]; simpa using z6
  have O7 : Hid (RowI w7 (some ⟨g, 0, none⟩) m (setE E q 0)) := by rw [hw, ← set_twice E q 8 0]; exact (own_set HO6.out qm).row
  have B7 : Below w.heap.size w w7 := by rw [hw]; exact set_belowW B6 (by omega) (by omega)
  clear hw r0 r1 cq fq HO6 B6 zg z6
  go_wp2_with fail
  refine (chance_any m s n c X K V (some ⟨g, 0, none⟩) _ (setE E q 0) _ HT (set_in H8.out (by decide) (by decide)) (HR.out.below B7) O7).mono ?_
  rintro e w8 ⟨rfl, h1⟩
  have B8 : Below w.heap.size w w8 := B7.trans (h1.mono B7.size)
  obtain ⟨a0, h0⟩ : ∃ y, chaV m n X K V (setE E q 0) (2 ^ m) = y := ⟨_, rfl⟩
  rw [h0] at c0 HO ⊢
  clear h0 h1
  go_wp2
  go_ret
  exact ⟨ret_int HO.out.symm, (by repeat (first | with_reducible exact Below.refl _ _ | with_reducible exact B8 | with_reducible refine Below.setCell ?_ (by first | omega | (simp; done) | (simp; omega)) _ | with_reducible refine bDrewN ?_ _ | with_reducible refine Below.drew ?_ | with_reducible refine Below.alloc ?_ (by first | omega | (simp; done) | (simp; omega)) _))⟩
end Go.Proofs.Ytaagelnbkenbpaa
