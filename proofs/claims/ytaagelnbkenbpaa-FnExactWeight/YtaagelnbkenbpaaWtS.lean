/-
What is proved: weights, as the specification says them.
-/
import Derived.Test.YtaagelnbkenbpaaWt
import Derived.Test.YtaagelnbkenbpaaChS
import Derived.Deep.RegionHeld3
namespace Go.Proofs.Ytaagelnbkenbpaa
set_option maxRecDepth 40000
open Go.ChangeShapes Go.WideShapes Go.ChangeAt Go.RowKit
set_option linter.unusedVariables false
set_option linter.unusedSimpArgs false

theorem keepW {W W' : World} {p : Nat} {v0 v1 : Value} (h0 : W.cell? ⟨p, 0, none⟩ = some v0) (h1 : W.cell? ⟨p, 1, none⟩ = some v1) (z : p < W.heap.size) (hb : Below W.heap.size W W') : W'.cell? ⟨p, 0, none⟩ = some v0 ∧ W'.cell? ⟨p, 1, none⟩ = some v1 := ⟨(hb.cell (p := ⟨p, 0, none⟩) z).trans h0, (hb.cell (p := ⟨p, 1, none⟩) z).trans h1⟩
set_option maxRecDepth 20000 in
set_option maxHeartbeats 8000000 in
theorem specWeight_any (x : Int) (s : Option Addr) (n c : Nat) (X : Nat → Int) (K : Nat → Nat) (V : Nat → Nat → Int) (t : Option Addr) (m d : Nat) (E : Nat → Int) (q : Int) (w : World) (hm : (m : Int) ≤ 1048576) (HR : Hid (RowGat w s n X K V)) (HE : Hid (RowI w t m E)) :
    Calls Try.prog 28 #[.agg #[.int .i64 x, .slice s n c], .slice t m d, .int .i64 q] w fun e w' => e = .returned (.int .i64 (weightV x n X K V m E q)) ∧ Below w.heap.size w w' := by
  go_enter Try.func28, Try.ntmps28
  go_wp2_with fail
  obtain ⟨wd, hwd⟩ : ∃ wd, wd = w.alloc (.cells #[.int .i64 x, .slice s n c] 29) := ⟨_, rfl⟩
  rw [← hwd]
  have B0 : Below w.heap.size w wd := by rw [hwd]; exact (by repeat (first | with_reducible exact Below.refl _ _ | with_reducible refine Below.setCell ?_ (by first | omega | (simp; done) | (simp; omega)) _ | with_reducible refine bDrewN ?_ _ | with_reducible refine Below.drew ?_ | with_reducible refine Below.alloc ?_ (by first | omega | (simp; done) | (simp; omega)) _))
  have p0 : wd.cell? ⟨w.heap.size, 0, none⟩ = some (.int .i64 x) := by rw [hwd]; simp [go_sem]
  have p1 : wd.cell? ⟨w.heap.size, 1, none⟩ = some (.slice s n c) := by rw [hwd]; simp [go_sem]
  have zd : w.heap.size < wd.heap.size := by rw [hwd]; simp
  clear hwd
  refine (l23Eighths_any x s n c X K V t m d E _ hm (HR.out.below B0) (HE.out.below B0)).mono ?_
  rintro e w1 ⟨rfl, h1⟩
  replace p0 := (h1.cell (p := ⟨w.heap.size, 0, none⟩) zd).trans p0
  replace p1 := (h1.cell (p := ⟨w.heap.size, 1, none⟩) zd).trans p1
  have z1 := Nat.lt_of_lt_of_le zd h1.size
  have B1 : Below w.heap.size w w1 := B0.trans (h1.mono B0.size)
  clear h1 B0 zd
  cases h0 : eigB x n X K V m E
  · have HO : Hid (weightV x n X K V m E q = -1) := by show _ = _; unfold weightV wtB; rw [h0]; rfl
    go_wp2
    go_ret
    exact ⟨ret_int HO.out.symm, (by repeat (first | with_reducible exact Below.refl _ _ | with_reducible exact B1 | with_reducible refine Below.setCell ?_ (by first | omega | (simp; done) | (simp; omega)) _ | with_reducible refine bDrewN ?_ _ | with_reducible refine Below.drew ?_ | with_reducible refine Below.alloc ?_ (by first | omega | (simp; done) | (simp; omega)) _))⟩
  obtain ⟨ht', -, -⟩ := eig_yes h0
  obtain ⟨⟨x0', x1'⟩, -, -⟩ := tree_yes ht'
  have HG : Hid (eigB x n X K V m E = true) := h0
  clear h0 ht'
  go_wp2_with fail
  refine (l1In_is _ _ _ _).mono ?_
  rintro e w1 ⟨rfl, rfl⟩
  cases hq : inB 0 (x - 1) q
  · have HO : Hid (weightV x n X K V m E q = -1) := by show _ = _; unfold weightV wtB; rw [HG.out, hq]; rfl
    go_wp2
    go_ret
    exact ⟨ret_int HO.out.symm, (by repeat (first | with_reducible exact Below.refl _ _ | with_reducible exact B1 | with_reducible refine Below.setCell ?_ (by first | omega | (simp; done) | (simp; omega)) _ | with_reducible refine bDrewN ?_ _ | with_reducible refine Below.drew ?_ | with_reducible refine Below.alloc ?_ (by first | omega | (simp; done) | (simp; omega)) _))⟩
  obtain ⟨ht, rfl, hE⟩ := eig_yes HG.out
  obtain ⟨⟨x0, x1⟩, -, -⟩ := tree_yes ht
  obtain ⟨q0, q1⟩ := inB_yes hq
  obtain ⟨q, rfl⟩ : ∃ y : Nat, q = (y : Int) := ⟨q.toNat, by omega⟩
  have qm : q < m := by omega
  have HT : Hid (treeB (m : Int) n X K V = true) := ht
  have H8 : Hid (∀ i, i < m → 0 ≤ E i ∧ E i ≤ 8) := hE
  have HO : Hid (weightV (m : Int) n X K V m E (q : Int) = chaV m n X K V (setE E q 8) (2 ^ m) - chaV m n X K V (setE E q 0) (2 ^ m)) := by show _ = _; unfold weightV wtB; rw [HG.out, hq, Int.toNat_natCast, Int.toNat_natCast]; rfl
  have c8 := cha_top (n := n) (X := X) (K := K) (V := V) (set_in (q := q) (v := 8) H8.out (by decide) (by decide)) (show m ≤ 10 by omega)
  have c0 := cha_top (n := n) (X := X) (K := K) (V := V) (set_in (q := q) (v := 0) H8.out (by decide) (by decide)) (show m ≤ 10 by omega)
  obtain ⟨ad, rfl⟩ : ∃ ad, t = some ad := by
    obtain ⟨b, o, e, _⟩ := HE.out 0 (by omega)
    exact ⟨_, e⟩
  have qi : (q : Int) < (m : Int) := by omega
  have E8 : Hid (chanceV (m : Int) n X K V m (setE E q 8) = chaV m n X K V (setE E q 8) (2 ^ m)) := chance_set HG.out q 8 (by decide) (by decide)
  have E0 : Hid (chanceV (m : Int) n X K V m (setE E q 0) = chaV m n X K V (setE E q 0) (2 ^ m)) := chance_set HG.out q 0 (by decide) (by decide)
  clear x0' x1' hq hE ht
  have HL0 : Hid (RowI w1 (some ad) m E) := HE.out.below B1
  go_upto_region 4 with (first | (refine list_clone _ ad m d E _ _ (by rfl) (by rfl) (by rfl) (by rfl) (by first | rfl | simp) (by omega) HL0.out ?_; intro s0' k0 w2 O0 hc0))
  replace p0 := (hc0.cell (p := ⟨w.heap.size, 0, none⟩) z1).trans p0
  replace p1 := (hc0.cell (p := ⟨w.heap.size, 1, none⟩) z1).trans p1
  have y0 := Nat.lt_of_lt_of_le z1 hc0.size
  have A0 : Below w.heap.size w w2 := B1.trans (hc0.mono B1.size)
  obtain ⟨g0, rfl, hg0, zg0, cq0, fq0⟩ := O0 q qm
  have HO0 : Hid (OwnI w1.heap.size w2 (some ⟨g0, 0, none⟩) m E) := O0
  have lc0 := hc0.size
  clear O0 hc0 HL0
  have ng0 : w.heap.size ≠ g0 := by omega
  go_upto_region 5 with fail
  obtain ⟨w3, hw⟩ : ∃ y, y = w2.setCell ⟨g0, q, none⟩ (.int .i64 8) := ⟨_, rfl⟩
  rw [← hw]
  replace p0 : w3.cell? ⟨w.heap.size, 0, none⟩ = some (.int .i64 (m : Int)) := by rw [hw]; simp [go_sem, p0, ng0]
  replace p1 : w3.cell? ⟨w.heap.size, 1, none⟩ = some (.slice s n c) := by rw [hw]; simp [go_sem, p1, ng0]
  have v0 : w.heap.size < w3.heap.size := by rw [hw]; simpa using y0
  have zz0 : g0 < w3.heap.size := by rw [hw]; simpa using zg0
  have L0 : Hid (RowI w3 (some ⟨g0, 0, none⟩) m (setE E q 8)) := by rw [hw]; exact (own_set HO0.out qm).row
  have BB0 : Below w.heap.size w w3 := by rw [hw]; exact set_belowW A0 (by omega) (by omega)
  clear hw cq0 fq0 HO0 A0 zg0
  have HL1 : Hid (RowI w3 (some ad) m E) := HE.out.below BB0
  go_upto_region 6 with (first | (refine list_clone _ ad m d E _ _ (by rfl) (by rfl) (by rfl) (by rfl) (by first | rfl | simp) (by omega) HL1.out ?_; intro s1' k1 w4 O1 hc1))
  replace p0 := (hc1.cell (p := ⟨w.heap.size, 0, none⟩) v0).trans p0
  replace p1 := (hc1.cell (p := ⟨w.heap.size, 1, none⟩) v0).trans p1
  have y1 := Nat.lt_of_lt_of_le v0 hc1.size
  have A1 : Below w.heap.size w w4 := BB0.trans (hc1.mono BB0.size)
  replace L0 : Hid (RowI w4 (some ⟨g0, 0, none⟩) m (setE E q 8)) := L0.out.below hc1
  have zk0 := zz0
  replace zz0 : g0 < w4.heap.size := Nat.lt_of_lt_of_le zz0 hc1.size
  obtain ⟨g1, rfl, hg1, zg1, cq1, fq1⟩ := O1 q qm
  have HO1 : Hid (OwnI w3.heap.size w4 (some ⟨g1, 0, none⟩) m E) := O1
  have lc1 := hc1.size
  clear O1 hc1 HL1
  have ng1 : w.heap.size ≠ g1 := by omega
  go_upto_region 7 with fail
  obtain ⟨w5, hw⟩ : ∃ y, y = w4.setCell ⟨g1, q, none⟩ (.int .i64 0) := ⟨_, rfl⟩
  rw [← hw]
  replace p0 : w5.cell? ⟨w.heap.size, 0, none⟩ = some (.int .i64 (m : Int)) := by rw [hw]; simp [go_sem, p0, ng1]
  replace p1 : w5.cell? ⟨w.heap.size, 1, none⟩ = some (.slice s n c) := by rw [hw]; simp [go_sem, p1, ng1]
  have v1 : w.heap.size < w5.heap.size := by rw [hw]; simpa using y1
  have zz1 : g1 < w5.heap.size := by rw [hw]; simpa using zg1
  have L1 : Hid (RowI w5 (some ⟨g1, 0, none⟩) m (setE E q 0)) := by rw [hw]; exact (own_set HO1.out qm).row
  have BB1 : Below w.heap.size w w5 := by rw [hw]; exact set_belowW A1 (by omega) (by omega)
  have L0' : Hid (RowI w5 (some ⟨g0, 0, none⟩) m (setE E q 8)) := by
    rw [hw]
    exact fun i hi => by
      obtain ⟨b, o, e, hl, hc⟩ := L0.out i hi
      cases e
      exact ⟨g0, 0, rfl, by simpa using hl, by rw [World.cell?_setCell_other _ _ _ _ (by intro z; cases z; omega)]; exact hc⟩
  clear L0
  clear hw cq1 fq1 HO1 A1 zg1
  obtain ⟨a8, h8⟩ : ∃ y, chaV m n X K V (setE E q 8) (2 ^ m) = y := ⟨_, rfl⟩
  obtain ⟨a0, h0⟩ : ∃ y, chaV m n X K V (setE E q 0) (2 ^ m) = y := ⟨_, rfl⟩
  rw [h8] at c8 HO E8
  rw [h0] at c0 HO E0
  have HB : Hid (Below w.heap.size w w5) := BB1
  have C8 : Hid (∀ w', Below w5.heap.size w5 w' → Calls Try.prog 26 #[.agg #[.int .i64 (m : Int), .slice s n c], .slice (some ⟨g0, 0, none⟩) m k0] w' fun e w'' => e = .returned (.int .i64 a8) ∧ Below w'.heap.size w' w'') := fun w' hb => by
    rw [← E8.out]
    exact specChance_any (m : Int) s n c X K V (some ⟨g0, 0, none⟩) m k0 (setE E q 8) w' hm (HR.out.below (HB.out.trans (hb.mono HB.out.size))) (L0'.out.below hb)
  have C0 : Hid (∀ w', Below w5.heap.size w5 w' → Calls Try.prog 26 #[.agg #[.int .i64 (m : Int), .slice s n c], .slice (some ⟨g1, 0, none⟩) m k1] w' fun e w'' => e = .returned (.int .i64 a0) ∧ Below w'.heap.size w' w'') := fun w' hb => by
    rw [← E0.out]
    exact specChance_any (m : Int) s n c X K V (some ⟨g1, 0, none⟩) m k1 (setE E q 0) w' hm (HR.out.below (HB.out.trans (hb.mono HB.out.size))) (L1.out.below hb)
  clear h8 h0 L0' L1 BB1 BB0 E8 E0
  refine wp_region_held_drew (S := fun w' => w'.cell? ⟨w.heap.size, 0, none⟩ = some (.int .i64 (m : Int)) ∧ w'.cell? ⟨w.heap.size, 1, none⟩ = some (.slice s n c)) (by kernel_rfl) ?_ (fun hHeld => ?_)
  · exact keepW p0 p1 v1 (by repeat (first | with_reducible exact Below.refl _ _ | with_reducible refine Below.setCell ?_ (by first | omega | (simp; done) | (simp; omega)) _ | with_reducible refine bDrewN ?_ _ | with_reducible refine Below.drew ?_ | with_reducible refine Below.alloc ?_ (by first | omega | (simp; done) | (simp; omega)) _))
  refine wpAnyH_take (i := 0) (v := .agg #[.int .i64 (m : Int), .slice s n c]) rfl (by kernel_rfl) (by kernel_rfl) (by kernel_rfl) (fun _ _ _ h => h) (Or.inl ⟨by kernel_rfl, ?_⟩) hHeld ?_
  · intro w' hSw
    obtain ⟨s0, s1⟩ := hSw
    first | (go_simp; done) | (go_simp; with_reducible rfl) | (go_simp; rw [IntKind.wrap_i64]; omega)
  simp only [Act.put, List.setIfInBounds_toArray, List.set_cons_zero, List.set_cons_succ]
  refine wpAnyH_take (i := 1) (v := .slice (some ⟨g0, 0, none⟩) m k0) rfl (by kernel_rfl) (by kernel_rfl) (by kernel_rfl) (fun _ _ _ h => h) (Or.inl ⟨by kernel_rfl, ?_⟩) hHeld ?_
  · intro w' hSw
    obtain ⟨s0, s1⟩ := hSw
    first | (go_simp; done) | (go_simp; with_reducible rfl) | (go_simp; rw [IntKind.wrap_i64]; omega)
  simp only [Act.put, List.setIfInBounds_toArray, List.set_cons_zero, List.set_cons_succ]
  refine wpAnyH_take (i := 3) (v := .agg #[.int .i64 (m : Int), .slice s n c]) rfl (by kernel_rfl) (by kernel_rfl) (by kernel_rfl) (fun _ _ _ h => h) (Or.inl ⟨by kernel_rfl, ?_⟩) hHeld ?_
  · intro w' hSw
    obtain ⟨s0, s1⟩ := hSw
    first | (go_simp; done) | (go_simp; with_reducible rfl) | (go_simp; rw [IntKind.wrap_i64]; omega)
  simp only [Act.put, List.setIfInBounds_toArray, List.set_cons_zero, List.set_cons_succ]
  refine wpAnyH_take (i := 4) (v := .slice (some ⟨g1, 0, none⟩) m k1) rfl (by kernel_rfl) (by kernel_rfl) (by kernel_rfl) (fun _ _ _ h => h) (Or.inl ⟨by kernel_rfl, ?_⟩) hHeld ?_
  · intro w' hSw
    obtain ⟨s0, s1⟩ := hSw
    first | (go_simp; done) | (go_simp; with_reducible rfl) | (go_simp; rw [IntKind.wrap_i64]; omega)
  simp only [Act.put, List.setIfInBounds_toArray, List.set_cons_zero, List.set_cons_succ]
  refine wpAnyH_ready (rs := [2]) (by kernel_rfl) (by simp) ?_
  refine AllReadyH.cons rfl (fun KK hK => ?_) AllReadyH.nil
  go_simp
  go_wp2_with (first | (go_at_call 26; refine (C8.out _ ((by repeat (first | with_reducible exact Below.refl _ _ | with_reducible refine Below.setCell ?_ (by first | omega | (simp; done) | (simp; omega)) _ | with_reducible refine bDrewN ?_ _ | with_reducible refine Below.drew ?_ | with_reducible refine Below.alloc ?_ (by first | omega | (simp; done) | (simp; omega)) _)))).mono ?_; rintro e w6 ⟨rfl, hx⟩; have B6 : Below w5.heap.size w5 w6 := Below.trans (by repeat (first | with_reducible exact Below.refl _ _ | with_reducible refine Below.setCell ?_ (by first | omega | (simp; done) | (simp; omega)) _ | with_reducible refine bDrewN ?_ _ | with_reducible refine Below.drew ?_ | with_reducible refine Below.alloc ?_ (by first | omega | (simp; done) | (simp; omega)) _)) (hx.mono (by first | omega | (simp; done) | (simp; omega))); clear hx))
  refine hK.out _ _ (keepW p0 p1 v1 B6) (fun hHeld => ?_)
  clear hK KK
  refine wpAnyH_ready (rs := [5]) (by kernel_rfl) (by simp) ?_
  refine AllReadyH.cons rfl (fun KK hK => ?_) AllReadyH.nil
  go_simp
  go_wp2_with (first | (go_at_call 26; refine (C0.out _ (B6)).mono ?_; rintro e w7 ⟨rfl, hx⟩; have B7 : Below w5.heap.size w5 w7 := B6.trans (hx.mono B6.size); clear hx))
  refine hK.out _ _ (keepW p0 p1 v1 B7) (fun hHeld => ?_)
  clear hK KK
  refine wpAnyH_take (i := 6) (v := .int .i64 (a8 - a0)) rfl (by kernel_rfl) (by kernel_rfl) (by kernel_rfl) (fun _ _ _ h => h) (Or.inl ⟨by kernel_rfl, ?_⟩) hHeld ?_
  · intro w' hSw
    obtain ⟨s0, s1⟩ := hSw
    first | (go_simp; done) | (go_simp; with_reducible rfl) | (go_simp; rw [IntKind.wrap_i64]; omega)
  simp only [Act.put, List.setIfInBounds_toArray, List.set_cons_zero, List.set_cons_succ]
  refine wpAnyH_ready (rs := [7]) (by kernel_rfl) (by simp) ?_
  refine AllReadyH.cons rfl (fun KK hK => ?_) AllReadyH.nil
  go_simp
  refine hK.out _ _ hHeld (fun hHeld => ?_)
  clear hK KK
  refine wpAnyH_done (by kernel_rfl) ?_ _
  have B8 : Below w.heap.size w w7 := HB.out.trans (B7.mono HB.out.size)
  go_wp2
  go_ret
  exact ⟨ret_int HO.out.symm, (by repeat (first | with_reducible exact Below.refl _ _ | with_reducible exact B8 | with_reducible refine Below.setCell ?_ (by first | omega | (simp; done) | (simp; omega)) _ | with_reducible refine bDrewN ?_ _ | with_reducible refine Below.drew ?_ | with_reducible refine Below.alloc ?_ (by first | omega | (simp; done) | (simp; omega)) _))⟩
end Go.Proofs.Ytaagelnbkenbpaa
