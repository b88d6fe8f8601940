/-
What is proved: when a book is right, as the program says it: each permit could be granted behind those ahead of it.
-/
import Derived.Test.YtabmkklnbaomnaaBoI
namespace Go.Proofs.Ytabmkklnbaomnaa
set_option maxRecDepth 40000
open Go.ChangeShapes Go.WideShapes Go.ChangeAt Go.RowKit
set_option linter.unusedVariables false
set_option linter.unusedSimpArgs false

theorem ris_has {X : Nat → Int} {nb k : Nat} (h : risB X nb = true) (hk : k < nb) : hasB X k (X k) = false := by
  have hr := ris_yes h
  have hlt : ∀ i j, i < j → j < nb → X i < X j := by
    intro i j hij
    induction j with
    | zero => omega
    | succ j ih =>
      intro hj
      have h1 := hr j hj
      by_cases e : i = j
      · subst e; exact h1
      · have := ih (by omega) (by omega); omega
  exact decide_eq_false fun ⟨j, hj, e⟩ => by have := hlt j k hj hk; omega
theorem ris_ls {X : Nat → Int} {nb k : Nat} (h : risB X nb = true) (hk : k < nb) : lsB X k = true := decide_eq_true (by
  by_cases e : k = 0
  · exact Or.inl e
  · right
    have := ris_yes h (k - 1) (by omega)
    rw [show k - 1 + 1 = k by omega] at this
    exact this)
theorem ref_pm {p : Int} {n : Nat} {D : Nat → Int × Int} {m : Nat} {S : Nat → Int} {X Y : Nat → Int} {K : Nat → Nat} {V : Nat → Nat → Int} {nb k : Nat} (hr : risB X nb = true) (hk : k < nb) (h20 : k < 20) : refV p n D m S k X Y (X k) (Y k) (K k) (V k) = 0 ↔ pmB p n D m S X Y K V k = true := by
  unfold refV pmB
  rw [ris_has hr hk, ris_ls hr hk]
  cases fmB p n (X k) (Y k) (K k) (V k) <;> cases freeB Y k (Y k) <;> cases cutB p n D m S (K k) (V k) (Y k) <;> simp <;> omega
theorem ref_many {p : Int} {n : Nat} {D : Nat → Int × Int} {m : Nat} {S : Nat → Int} {X Y : Nat → Int} {K : Nat → Nat} {V : Nat → Nat → Int} {nb k : Nat} (hk : 20 ≤ k) : refV p n D m S k X Y (X k) (Y k) (K k) (V k) ≠ 0 := by
  unfold refV
  rw [if_pos hk]
  split
  · split
    · decide
    · split
      · split <;> decide
      · decide
  · decide
theorem bok_ris {p : Int} {n : Nat} {D : Nat → Int × Int} {m : Nat} {S : Nat → Int} {X Y : Nat → Int} {K : Nat → Nat} {V : Nat → Nat → Int} {nb : Nat} (h : risB X nb = false) : bokB p n D m S nb X Y K V = false := by
  cases q : bokB p n D m S nb X Y K V
  · rfl
  · obtain ⟨-, -, h3⟩ := bok_yes q
    have : risB X nb = true := decide_eq_true fun j _ hj => by
      have := of_decide_eq_true (pm_yes (h3 (j + 1) hj)).2.2.1
      rcases this with e | e
      · omega
      · simpa using e
    rw [h] at this
    cases this
theorem bok_many {p : Int} {n : Nat} {D : Nat → Int × Int} {m : Nat} {S : Nat → Int} {X Y : Nat → Int} {K : Nat → Nat} {V : Nat → Nat → Int} {nb : Nat} (h : 20 < nb) : bokB p n D m S nb X Y K V = false := by
  unfold bokB
  rw [decide_eq_false (by omega : ¬ nb ≤ 20)]
  simp
set_option maxRecDepth 20000 in
set_option maxHeartbeats 8000000 in
theorem implBookOk_any (p : Int) (s : Option Addr) (n c : Nat) (D : Nat → Int × Int) (t : Option Addr) (m d : Nat) (S : Nat → Int) (bs : Option Addr) (nb bc : Nat) (X Y : Nat → Int) (K : Nat → Nat) (V : Nat → Nat → Int) (w : World) (hn : (n : Int) ≤ 1048576) (hm : (m : Int) ≤ 1048576) (HD : Hid (RowDuct w s n D)) (HS : Hid (RowI w t m S)) (hb : (nb : Int) ≤ 1048576) (hc : nb ≤ bc) (hK : Hid (∀ i, i < nb → (K i : Int) ≤ 1048576)) (HB : Hid (RowPer w bs nb X Y K V)) :
    Calls Try.prog 20 #[.agg #[.int .i64 p, .slice s n c, .slice t m d], .agg #[.slice bs nb bc]] w fun e w' => e = .returned (.bool (bokB p n D m S nb X Y K V)) ∧ Below w.heap.size w w' := by
  go_enter Try.func20, Try.ntmps20
  go_wp2_with fail
  obtain ⟨wd, hwd⟩ : ∃ wd, wd = (w.alloc (.cells #[.int .i64 p, .slice s n c, .slice t m d] 30)).alloc (.cells #[.slice bs nb bc] 45) := ⟨_, rfl⟩
  rw [← hwd]
  have B0 : Below w.heap.size w wd := by rw [hwd]; exact (by repeat (first | with_reducible exact Below.refl _ _ | with_reducible refine Below.setCell ?_ (by first | omega | (simp; done) | (simp; omega)) _ | with_reducible refine bDrewN ?_ _ | with_reducible refine Below.drew ?_ | with_reducible refine Below.alloc ?_ (by first | omega | (simp; done) | (simp; omega)) _))
  have r0 : wd.cell? ⟨w.heap.size, 0, none⟩ = some (.int .i64 p) := by rw [hwd]; simp [go_sem]
  have r1 : wd.cell? ⟨w.heap.size, 1, none⟩ = some (.slice s n c) := by rw [hwd]; simp [go_sem]
  have r2 : wd.cell? ⟨w.heap.size, 2, none⟩ = some (.slice t m d) := by rw [hwd]; simp [go_sem]
  have rb : wd.cell? ⟨w.heap.size + 1, 0, none⟩ = some (.slice bs nb bc) := by rw [hwd]; simp [go_sem]
  have zd : w.heap.size + 1 < wd.heap.size := by rw [hwd]; simp
  have zn : w.heap.size < wd.heap.size := by omega
  clear hwd
  refine (implNetOk_any p s n c D t m d S _ hn hm (HD.out.below B0) (HS.out.below B0)).mono ?_
  rintro e w1 ⟨rfl, h1⟩
  obtain ⟨a0, a1, a2⟩ := keepN r0 r1 r2 zn h1
  have ab := keep1 rb zd h1
  have z1 : w.heap.size + 1 < w1.heap.size := Nat.lt_of_lt_of_le zd h1.size
  have B1 : Below w.heap.size w w1 := B0.trans (h1.mono B0.size)
  clear h1 r0 r1 r2 rb zd zn B0
  cases h0 : netB p n D m S
  · have HO : Hid (bokB p n D m S nb X Y K V = false) := by show _ = _; unfold bokB; rw [h0]; rfl
    go_wp2
    go_ret
    exact ⟨ret_bool HO.out.symm, (by repeat (first | with_reducible exact Below.refl _ _ | with_reducible exact B1 | with_reducible refine Below.setCell ?_ (by first | omega | (simp; done) | (simp; omega)) _ | with_reducible refine bDrewN ?_ _ | with_reducible refine Below.drew ?_ | with_reducible refine Below.alloc ?_ (by first | omega | (simp; done) | (simp; omega)) _))⟩
  have HNT : Hid (netB p n D m S = true) := h0
  clear h0
  go_wp2_with fail
  refine (ids_any bs nb bc X Y K V _ hb (HB.out.below B1)).mono ?_
  rintro e w2 ⟨g2, rfl, R2, h1⟩
  have HR2 : Hid (RowI w2 (some ⟨g2, 0, none⟩) nb X) := R2
  replace a0 := keep1 a0 (by omega) h1
  replace a1 := keep1 a1 (by omega) h1
  replace a2 := keep1 a2 (by omega) h1
  replace ab := keep1 ab z1 h1
  replace z1 : w.heap.size + 1 < w2.heap.size := Nat.lt_of_lt_of_le z1 h1.size
  replace B1 : Below w.heap.size w w2 := B1.trans (h1.mono B1.size)
  clear h1 R2
  go_wp2_with fail
  refine (rises_any (some ⟨g2, 0, none⟩) nb nb X _ hb HR2).mono ?_
  rintro e w3 ⟨rfl, h1⟩
  replace a0 := keep1 a0 (by omega) h1
  replace a1 := keep1 a1 (by omega) h1
  replace a2 := keep1 a2 (by omega) h1
  replace ab := keep1 ab z1 h1
  replace z1 : w.heap.size + 1 < w3.heap.size := Nat.lt_of_lt_of_le z1 h1.size
  replace B1 : Below w.heap.size w w3 := B1.trans (h1.mono B1.size)
  clear h1 HR2
  cases h0 : risB X nb
  · have HO : Hid (bokB p n D m S nb X Y K V = false) := bok_ris h0
    go_wp2
    go_ret
    exact ⟨ret_bool HO.out.symm, (by repeat (first | with_reducible exact Below.refl _ _ | with_reducible exact B1 | with_reducible refine Below.setCell ?_ (by first | omega | (simp; done) | (simp; omega)) _ | with_reducible refine bDrewN ?_ _ | with_reducible refine Below.drew ?_ | with_reducible refine Below.alloc ?_ (by first | omega | (simp; done) | (simp; omega)) _))⟩
  have HRX : Hid (risB X nb = true) := h0
  clear h0
  go_wp2_with fail
  go_loopw [20] (fun i wr => ∃ k : Nat, k ≤ nb ∧ k ≤ 20 ∧ i = .int .i64 k ∧ Hid (∀ j, j < k → pmB p n D m S X Y K V j = true) ∧ wr.cell? ⟨w.heap.size, 0, none⟩ = some (.int .i64 p) ∧ wr.cell? ⟨w.heap.size, 1, none⟩ = some (.slice s n c) ∧ wr.cell? ⟨w.heap.size, 2, none⟩ = some (.slice t m d) ∧ wr.cell? ⟨w.heap.size + 1, 0, none⟩ = some (.slice bs nb bc) ∧ w.heap.size + 1 < wr.heap.size ∧ Below w.heap.size w wr) (fun i _ => nb - (intOf i).toNat)
  case atStart => exact ⟨0, Nat.zero_le _, Nat.zero_le _, rfl, fun j hj => by omega, a0, a1, a2, ab, z1, B1⟩
  case round =>
    clear a0 a1 a2 ab z1 B1
    obtain ⟨k, hk, k20, rfl, HP, q0, q1, q2, qb, zp, hB⟩ := hrel
    by_cases h1 : k < nb
    · obtain ⟨g, o, a, e, rfl, hg, c0, c1, c2, hr⟩ := HB.out k h1
      replace c0 := (hB.cell (p := ⟨g, o + k * 3, none⟩) hg).trans c0
      replace c1 := (hB.cell (p := ⟨g, o + k * 3 + 1, none⟩) hg).trans c1
      replace c2 := (hB.cell (p := ⟨g, o + k * 3 + 2, none⟩) hg).trans c2
      have HBP : Hid (RowPer w (some ⟨g, o, none⟩) k X Y K V) := fun i hi => HB.out i (by omega)
      have HQ : Hid (k < 20 → (refV p n D m S k X Y (X k) (Y k) (K k) (V k) = 0 ↔ pmB p n D m S X Y K V k = true)) := fun h => ref_pm HRX.out h1 h
      have HQ2 : Hid (20 ≤ k → refV p n D m S k X Y (X k) (Y k) (K k) (V k) ≠ 0) := fun h => ref_many (nb := nb) h
      have kk := hK.out k h1
      obtain ⟨x, hx⟩ : ∃ x, X k = x := ⟨_, rfl⟩
      obtain ⟨y, hy⟩ : ∃ y, Y k = y := ⟨_, rfl⟩
      obtain ⟨l, hl⟩ : ∃ l, K k = l := ⟨_, rfl⟩
      rw [hx] at c0 HQ HQ2
      rw [hy] at c1 HQ HQ2
      rw [hl] at c2 hr HQ HQ2 kk
      have HI : Hid (RowI w a l (V k)) := hr
      have zg : g < wr.heap.size := Nat.lt_of_lt_of_le hg hB.size
      have k1 : (k : Int) < (nb : Int) := by omega
      have kc : (k : Int) ≤ (bc : Int) := by omega
      have HBW : Hid (Below w.heap.size w wr) := hB
      have zW : w.heap.size ≤ wr.heap.size := hB.size
      clear hx hy hl hr hg hB
      go_upto_region 6 with fail
      obtain ⟨wa, hwa⟩ : ∃ wa, wa = wr.alloc (.cells #[.int .i64 x, .int .i64 y, .slice a l e] 70) := ⟨_, rfl⟩
      rw [← hwa]
      have hb1 : Below wr.heap.size wr wa := by rw [hwa]; exact below0 _ _
      have v0 : wa.cell? ⟨wr.heap.size, 0, none⟩ = some (.int .i64 x) := by rw [hwa]; simp [go_sem]
      have v1 : wa.cell? ⟨wr.heap.size, 1, none⟩ = some (.int .i64 y) := by rw [hwa]; simp [go_sem]
      have v2 : wa.cell? ⟨wr.heap.size, 2, none⟩ = some (.slice a l e) := by rw [hwa]; simp [go_sem]
      have za : wr.heap.size < wa.heap.size := by rw [hwa]; simp
      replace q0 := keep1 q0 (show w.heap.size < wr.heap.size by omega) hb1
      replace q1 := keep1 q1 (show w.heap.size < wr.heap.size by omega) hb1
      replace q2 := keep1 q2 (show w.heap.size < wr.heap.size by omega) hb1
      replace qb := keep1 qb zp hb1
      have znn : w.heap.size < wa.heap.size := by omega
      have znb : w.heap.size + 1 < wa.heap.size := by omega
      replace HBW : Hid (Below w.heap.size w wa) := HBW.out.trans (hb1.mono zW)
      clear hwa hb1 c0 c1 c2 zg zW
      go_upto_region 7 with fail
      obtain ⟨wb, hwb⟩ : ∃ x, x = wa.alloc (.cells #[.slice (some ⟨g, o, none⟩) k bc] 45) := ⟨_, rfl⟩
      rw [← hwb]
      have hb1 : Below wa.heap.size wa wb := by rw [hwb]; exact below0 _ _
      have u0 : wb.cell? ⟨wa.heap.size, 0, none⟩ = some (.slice (some ⟨g, o, none⟩) k bc) := by rw [hwb]; simp [go_sem]
      replace q0 := keep1 q0 znn hb1
      replace q1 := keep1 q1 znn hb1
      replace q2 := keep1 q2 znn hb1
      replace qb := keep1 qb znb hb1
      replace v0 := keep1 v0 za hb1
      replace v1 := keep1 v1 za hb1
      replace v2 := keep1 v2 za hb1
      have zb1 : wa.heap.size < wb.heap.size := by rw [hwb]; simp
      replace HBW : Hid (Below w.heap.size w wb) := HBW.out.trans (hb1.mono HBW.out.size)
      clear hwb hb1
      go_wp2_with fail
      refine (refusal_any (some ⟨g, o, none⟩) k bc X Y K V p s n c D t m d S x y a l e (V k) _ HNT (by omega) kk hn hm (HD.out.below HBW.out) (HS.out.below HBW.out) (HBP.out.below HBW.out) (HI.out.below HBW.out)).mono ?_
      rintro e' w7 ⟨rfl, h7⟩
      replace q0 := keep1 q0 (show w.heap.size < wb.heap.size by omega) h7
      replace q1 := keep1 q1 (show w.heap.size < wb.heap.size by omega) h7
      replace q2 := keep1 q2 (show w.heap.size < wb.heap.size by omega) h7
      replace qb := keep1 qb (show w.heap.size + 1 < wb.heap.size by omega) h7
      have s7 := h7.size
      have B9 : Below w.heap.size w w7 := HBW.out.trans (h7.mono HBW.out.size)
      obtain ⟨r, hr⟩ : ∃ r, refV p n D m S k X Y x y l (V k) = r := ⟨_, rfl⟩
      rw [hr] at HQ HQ2 ⊢
      clear hr h7 v0 v1 v2 u0
      by_cases r0 : r = 0
      · have kl : k < 20 := by
          rcases Nat.lt_or_ge k 20 with h | h
          · exact h
          · exact absurd r0 (HQ2.out h)
        have HK : Hid (pmB p n D m S X Y K V k = true) := (HQ.out kl).1 r0
        have r1 : (r != 0) = false := by rw [r0]; rfl
        have r2 : (r == 0) = true := by rw [r0]; rfl
        clear r0
        go_wp2
        go_roundw
        case rel => exact ⟨k + 1, by omega, by omega, by go_num, ball_succ HP.out HK.out, q0, q1, q2, qb, by omega, (by repeat (first | with_reducible exact Below.refl _ _ | with_reducible exact B9 | with_reducible refine Below.setCell ?_ (by first | omega | (simp; done) | (simp; omega)) _ | with_reducible refine bDrewN ?_ _ | with_reducible refine Below.drew ?_ | with_reducible refine Below.alloc ?_ (by first | omega | (simp; done) | (simp; omega)) _))⟩
        case measure => first | (simp [intOf]; done) | (simp [intOf]; omega)
      · have r1 : (r != 0) = true := by simpa using r0
        have r2 : (r == 0) = false := by simpa using r0
        have HO : Hid (bokB p n D m S nb X Y K V = false) := by
          rcases Nat.lt_or_ge k 20 with h | h
          · refine bok_no h1 ?_
            cases e : pmB p n D m S X Y K V k
            · rfl
            · exact absurd ((HQ.out h).2 e) r0
          · exact bok_many (by omega)
        clear r0
        go_wp2
        go_ret
        exact ⟨ret_bool HO.out.symm, (by repeat (first | with_reducible exact Below.refl _ _ | with_reducible exact B9 | with_reducible refine Below.setCell ?_ (by first | omega | (simp; done) | (simp; omega)) _ | with_reducible refine bDrewN ?_ _ | with_reducible refine Below.drew ?_ | with_reducible refine Below.alloc ?_ (by first | omega | (simp; done) | (simp; omega)) _))⟩
    · obtain rfl : k = nb := by omega
      have HO : Hid (bokB p n D m S k X Y K V = true) := by show _ = _; unfold bokB; rw [HNT.out, decide_eq_true k20, decide_eq_true HP.out]; rfl
      go_wp2
      go_ret
      exact ⟨ret_bool HO.out.symm, (by repeat (first | with_reducible exact Below.refl _ _ | with_reducible exact hB | with_reducible refine Below.setCell ?_ (by first | omega | (simp; done) | (simp; omega)) _ | with_reducible refine bDrewN ?_ _ | with_reducible refine Below.drew ?_ | with_reducible refine Below.alloc ?_ (by first | omega | (simp; done) | (simp; omega)) _))⟩
end Go.Proofs.Ytabmkklnbaomnaa
