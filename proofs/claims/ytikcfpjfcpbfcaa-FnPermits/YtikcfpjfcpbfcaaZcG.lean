/-
What is proved: when a book is right, as the program says it: each permit could be granted behind those ahead of it.
-/
import Derived.Test.YtikcfpjfcpbfcaaBoIz
import Derived.Test.YtikcfpjfcpbfcaaFwLz
import Derived.Deep.DeepCutAuto
import Derived.Test.YtikcfpjfcpbfcaaZcE
import Derived.Test.YtikcfpjfcpbfcaaBcpz
import Derived.Test.YtikcfpjfcpbfcaaBcqz
import Derived.Test.YtikcfpjfcpbfcaaPtkz
import Derived.Laws.IdiomCopy
import Derived.ArgAppend
import Derived.Lib.AppendZerosOnto
namespace Go.Proofs.Ytikcfpjfcpbfcaa
set_option maxRecDepth 40000
open Go.ChangeShapes Go.WideShapes Go.ChangeAt Go.RowKit
set_option linter.unusedVariables false
set_option linter.unusedSimpArgs false

theorem ris_has {X : Nat → Int} {nb k : Nat} (h : risB X nb = true) (hk : k < nb) : hasB X k (X k) = false := by
  have hr := ris_yes h
  have hlt : ∀ i j, i < j → j < nb → X i < X j := by
    intro i j hij
    induction j with
    | zero => omega
    | succ j ih =>
      intro hj
      have h1 := hr j hj
      by_cases e : i = j
      · subst e; exact h1
      · have := ih (by omega) (by omega); omega
  exact decide_eq_false fun ⟨j, hj, e⟩ => by have := hlt j k hj hk; omega
theorem ris_ls {X : Nat → Int} {nb k : Nat} (h : risB X nb = true) (hk : k < nb) : lsB X k = true := decide_eq_true (by
  by_cases e : k = 0
  · exact Or.inl e
  · right
    have := ris_yes h (k - 1) (by omega)
    rw [show k - 1 + 1 = k by omega] at this
    exact this)
theorem ref_pm {p : Int} {n : Nat} {D : Nat → Int × Int} {m : Nat} {S : Nat → Int} {X Y : Nat → Int} {K : Nat → Nat} {V : Nat → Nat → Int} {nb k : Nat} (hr : risB X nb = true) (hk : k < nb) (h20 : k < 20) : refV p n D m S k X Y (X k) (Y k) (K k) (V k) = 0 ↔ pmB p n D m S X Y K V k = true := by
  unfold refV pmB
  rw [ris_has hr hk, ris_ls hr hk]
  cases fmB p n (X k) (Y k) (K k) (V k) <;> cases freeB Y k (Y k) <;> cases cutB p n D m S (K k) (V k) (Y k) <;> simp <;> omega
theorem ref_many {p : Int} {n : Nat} {D : Nat → Int × Int} {m : Nat} {S : Nat → Int} {X Y : Nat → Int} {K : Nat → Nat} {V : Nat → Nat → Int} {nb k : Nat} (hk : 20 ≤ k) : refV p n D m S k X Y (X k) (Y k) (K k) (V k) ≠ 0 := by
  unfold refV
  rw [if_pos hk]
  split
  · split
    · decide
    · split
      · split <;> decide
      · decide
  · decide
theorem bok_ris {p : Int} {n : Nat} {D : Nat → Int × Int} {m : Nat} {S : Nat → Int} {X Y : Nat → Int} {K : Nat → Nat} {V : Nat → Nat → Int} {nb : Nat} (h : risB X nb = false) : bokB p n D m S nb X Y K V = false := by
  cases q : bokB p n D m S nb X Y K V
  · rfl
  · obtain ⟨-, -, h3⟩ := bok_yes q
    have : risB X nb = true := decide_eq_true fun j _ hj => by
      have := of_decide_eq_true (pm_yes (h3 (j + 1) hj)).2.2.1
      rcases this with e | e
      · omega
      · simpa using e
    rw [h] at this
    cases this
theorem bok_many {p : Int} {n : Nat} {D : Nat → Int × Int} {m : Nat} {S : Nat → Int} {X Y : Nat → Int} {K : Nat → Nat} {V : Nat → Nat → Int} {nb : Nat} (h : 20 < nb) : bokB p n D m S nb X Y K V = false := by
  unfold bokB
  rw [decide_eq_false (by omega : ¬ nb ≤ 20)]
  simp
set_option maxRecDepth 20000 in
set_option maxHeartbeats 8000000 in
theorem implBookOk_any (p : Int) (s : Option Addr) (n c : Nat) (D : Nat → Int × Int) (t : Option Addr) (m d : Nat) (S : Nat → Int) (bs : Option Addr) (nb bc : Nat) (X Y : Nat → Int) (K : Nat → Nat) (V : Nat → Nat → Int) (w : World) (hn : (n : Int) ≤ 1048576) (hm : (m : Int) ≤ 1048576) (HD : Hid (RowDuct w s n D)) (HS : Hid (RowI w t m S)) (hb : (nb : Int) ≤ 1048576) (hc : nb ≤ bc) (hK : Hid (∀ i, i < nb → (K i : Int) ≤ 1048576)) (HB : Hid (RowPer w bs nb X Y K V)) :
    Calls Try.prog 38 #[.agg #[.int .i64 p, .slice s n c, .slice t m d], .agg #[.slice bs nb bc]] w fun e w' => e = .returned (.bool (bokB p n D m S nb X Y K V)) ∧ Below w.heap.size w w' := by
  go_enter Try.func38, Try.ntmps38
  go_wp2_with fail
  obtain ⟨wd, hwd⟩ : ∃ wd, wd = (w.alloc (.cells #[.int .i64 p, .slice s n c, .slice t m d] 41)).alloc (.cells #[.slice bs nb bc] 36) := ⟨_, rfl⟩
  rw [← hwd]
  have B0 : Below w.heap.size w wd := by rw [hwd]; exact (by repeat (first | with_reducible exact Below.refl _ _ | with_reducible refine Below.setCell ?_ (by first | omega | (simp; done) | (simp; omega)) _ | with_reducible refine bDrewN ?_ _ | with_reducible refine Below.drew ?_ | with_reducible refine Below.alloc ?_ (by first | omega | (simp; done) | (simp; omega)) _))
  have r0 : wd.cell? ⟨w.heap.size, 0, none⟩ = some (.int .i64 p) := by rw [hwd]; simp [go_sem]
  have r1 : wd.cell? ⟨w.heap.size, 1, none⟩ = some (.slice s n c) := by rw [hwd]; simp [go_sem]
  have r2 : wd.cell? ⟨w.heap.size, 2, none⟩ = some (.slice t m d) := by rw [hwd]; simp [go_sem]
  have rb : wd.cell? ⟨w.heap.size + 1, 0, none⟩ = some (.slice bs nb bc) := by rw [hwd]; simp [go_sem]
  have zd : w.heap.size + 1 < wd.heap.size := by rw [hwd]; simp
  have zn : w.heap.size < wd.heap.size := by omega
  clear hwd
  refine (implNetOk_any p s n c D t m d S _ hn hm (HD.out.below B0) (HS.out.below B0)).mono ?_
  rintro e w1 ⟨rfl, h1⟩
  obtain ⟨a0, a1, a2⟩ := keepN r0 r1 r2 zn h1
  have ab := keep1 rb zd h1
  have z1 : w.heap.size + 1 < w1.heap.size := Nat.lt_of_lt_of_le zd h1.size
  have B1 : Below w.heap.size w w1 := B0.trans (h1.mono B0.size)
  clear h1 r0 r1 r2 rb zd zn B0
  cases h0 : netB p n D m S
  · have HO : Hid (bokB p n D m S nb X Y K V = false) := by show _ = _; unfold bokB; rw [h0]; rfl
    go_wp2
    go_ret
    exact ⟨ret_bool HO.out.symm, (by repeat (first | with_reducible exact Below.refl _ _ | with_reducible exact B1 | with_reducible refine Below.setCell ?_ (by first | omega | (simp; done) | (simp; omega)) _ | with_reducible refine bDrewN ?_ _ | with_reducible refine Below.drew ?_ | with_reducible refine Below.alloc ?_ (by first | omega | (simp; done) | (simp; omega)) _))⟩
  have HNT : Hid (netB p n D m S = true) := h0
  clear h0
  go_wp2_with fail
  refine (ids_any bs nb bc X Y K V _ hb (HB.out.below B1)).mono ?_
  rintro e w2 ⟨g2, rfl, R2, h1⟩
  have HR2 : Hid (RowI w2 (some ⟨g2, 0, none⟩) nb X) := R2
  replace a0 := keep1 a0 (by omega) h1
  replace a1 := keep1 a1 (by omega) h1
  replace a2 := keep1 a2 (by omega) h1
  replace ab := keep1 ab z1 h1
  replace z1 : w.heap.size + 1 < w2.heap.size := Nat.lt_of_lt_of_le z1 h1.size
  replace B1 : Below w.heap.size w w2 := B1.trans (h1.mono B1.size)
  clear h1 R2
  go_wp2_with fail
  refine (rises_any (some ⟨g2, 0, none⟩) nb nb X _ hb HR2).mono ?_
  rintro e w3 ⟨rfl, h1⟩
  replace a0 := keep1 a0 (by omega) h1
  replace a1 := keep1 a1 (by omega) h1
  replace a2 := keep1 a2 (by omega) h1
  replace ab := keep1 ab z1 h1
  replace z1 : w.heap.size + 1 < w3.heap.size := Nat.lt_of_lt_of_le z1 h1.size
  replace B1 : Below w.heap.size w w3 := B1.trans (h1.mono B1.size)
  clear h1 HR2
  cases h0 : risB X nb
  · have HO : Hid (bokB p n D m S nb X Y K V = false) := bok_ris h0
    go_wp2
    go_ret
    exact ⟨ret_bool HO.out.symm, (by repeat (first | with_reducible exact Below.refl _ _ | with_reducible exact B1 | with_reducible refine Below.setCell ?_ (by first | omega | (simp; done) | (simp; omega)) _ | with_reducible refine bDrewN ?_ _ | with_reducible refine Below.drew ?_ | with_reducible refine Below.alloc ?_ (by first | omega | (simp; done) | (simp; omega)) _))⟩
  have HRX : Hid (risB X nb = true) := h0
  clear h0
  go_wp2_with fail
  go_loopw [20] (fun i wr => ∃ k : Nat, k ≤ nb ∧ k ≤ 20 ∧ i = .int .i64 k ∧ Hid (∀ j, j < k → pmB p n D m S X Y K V j = true) ∧ wr.cell? ⟨w.heap.size, 0, none⟩ = some (.int .i64 p) ∧ wr.cell? ⟨w.heap.size, 1, none⟩ = some (.slice s n c) ∧ wr.cell? ⟨w.heap.size, 2, none⟩ = some (.slice t m d) ∧ wr.cell? ⟨w.heap.size + 1, 0, none⟩ = some (.slice bs nb bc) ∧ w.heap.size + 1 < wr.heap.size ∧ Below w.heap.size w wr) (fun i _ => nb - (intOf i).toNat)
  case atStart => exact ⟨0, Nat.zero_le _, Nat.zero_le _, rfl, fun j hj => by omega, a0, a1, a2, ab, z1, B1⟩
  case round =>
    clear a0 a1 a2 ab z1 B1
    obtain ⟨k, hk, k20, rfl, HP, q0, q1, q2, qb, zp, hB⟩ := hrel
    by_cases h1 : k < nb
    · obtain ⟨g, o, a, e, rfl, hg, c0, c1, c2, hr⟩ := HB.out k h1
      replace c0 := (hB.cell (p := ⟨g, o + k * 3, none⟩) hg).trans c0
      replace c1 := (hB.cell (p := ⟨g, o + k * 3 + 1, none⟩) hg).trans c1
      replace c2 := (hB.cell (p := ⟨g, o + k * 3 + 2, none⟩) hg).trans c2
      have HBP : Hid (RowPer w (some ⟨g, o, none⟩) k X Y K V) := fun i hi => HB.out i (by omega)
      have HQ : Hid (k < 20 → (refV p n D m S k X Y (X k) (Y k) (K k) (V k) = 0 ↔ pmB p n D m S X Y K V k = true)) := fun h => ref_pm HRX.out h1 h
      have HQ2 : Hid (20 ≤ k → refV p n D m S k X Y (X k) (Y k) (K k) (V k) ≠ 0) := fun h => ref_many (nb := nb) h
      have kk := hK.out k h1
      obtain ⟨x, hx⟩ : ∃ x, X k = x := ⟨_, rfl⟩
      obtain ⟨y, hy⟩ : ∃ y, Y k = y := ⟨_, rfl⟩
      obtain ⟨l, hl⟩ : ∃ l, K k = l := ⟨_, rfl⟩
      rw [hx] at c0 HQ HQ2
      rw [hy] at c1 HQ HQ2
      rw [hl] at c2 hr HQ HQ2 kk
      have HI : Hid (RowI w a l (V k)) := hr
      have zg : g < wr.heap.size := Nat.lt_of_lt_of_le hg hB.size
      have k1 : (k : Int) < (nb : Int) := by omega
      have kc : (k : Int) ≤ (bc : Int) := by omega
      have HBW : Hid (Below w.heap.size w wr) := hB
      have zW : w.heap.size ≤ wr.heap.size := hB.size
      clear hx hy hl hr hg hB
      go_upto_region 6 with fail
      obtain ⟨wa, hwa⟩ : ∃ wa, wa = wr.alloc (.cells #[.int .i64 x, .int .i64 y, .slice a l e] 44) := ⟨_, rfl⟩
      rw [← hwa]
      have hb1 : Below wr.heap.size wr wa := by rw [hwa]; exact below0 _ _
      have v0 : wa.cell? ⟨wr.heap.size, 0, none⟩ = some (.int .i64 x) := by rw [hwa]; simp [go_sem]
      have v1 : wa.cell? ⟨wr.heap.size, 1, none⟩ = some (.int .i64 y) := by rw [hwa]; simp [go_sem]
      have v2 : wa.cell? ⟨wr.heap.size, 2, none⟩ = some (.slice a l e) := by rw [hwa]; simp [go_sem]
      have za : wr.heap.size < wa.heap.size := by rw [hwa]; simp
      replace q0 := keep1 q0 (show w.heap.size < wr.heap.size by omega) hb1
      replace q1 := keep1 q1 (show w.heap.size < wr.heap.size by omega) hb1
      replace q2 := keep1 q2 (show w.heap.size < wr.heap.size by omega) hb1
      replace qb := keep1 qb zp hb1
      have znn : w.heap.size < wa.heap.size := by omega
      have znb : w.heap.size + 1 < wa.heap.size := by omega
      replace HBW : Hid (Below w.heap.size w wa) := HBW.out.trans (hb1.mono zW)
      clear hwa hb1 c0 c1 c2 zg zW
      go_upto_region 7 with fail
      obtain ⟨wb, hwb⟩ : ∃ x, x = wa.alloc (.cells #[.slice (some ⟨g, o, none⟩) k bc] 36) := ⟨_, rfl⟩
      rw [← hwb]
      have hb1 : Below wa.heap.size wa wb := by rw [hwb]; exact below0 _ _
      have u0 : wb.cell? ⟨wa.heap.size, 0, none⟩ = some (.slice (some ⟨g, o, none⟩) k bc) := by rw [hwb]; simp [go_sem]
      replace q0 := keep1 q0 znn hb1
      replace q1 := keep1 q1 znn hb1
      replace q2 := keep1 q2 znn hb1
      replace qb := keep1 qb znb hb1
      replace v0 := keep1 v0 za hb1
      replace v1 := keep1 v1 za hb1
      replace v2 := keep1 v2 za hb1
      have zb1 : wa.heap.size < wb.heap.size := by rw [hwb]; simp
      replace HBW : Hid (Below w.heap.size w wb) := HBW.out.trans (hb1.mono HBW.out.size)
      clear hwb hb1
      go_wp2_with fail
      refine (refusal_any (some ⟨g, o, none⟩) k bc X Y K V p s n c D t m d S x y a l e (V k) _ HNT (by omega) kk hn hm (HD.out.below HBW.out) (HS.out.below HBW.out) (HBP.out.below HBW.out) (HI.out.below HBW.out)).mono ?_
      rintro e' w7 ⟨rfl, h7⟩
      replace q0 := keep1 q0 (show w.heap.size < wb.heap.size by omega) h7
      replace q1 := keep1 q1 (show w.heap.size < wb.heap.size by omega) h7
      replace q2 := keep1 q2 (show w.heap.size < wb.heap.size by omega) h7
      replace qb := keep1 qb (show w.heap.size + 1 < wb.heap.size by omega) h7
      have s7 := h7.size
      have B9 : Below w.heap.size w w7 := HBW.out.trans (h7.mono HBW.out.size)
      obtain ⟨r, hr⟩ : ∃ r, refV p n D m S k X Y x y l (V k) = r := ⟨_, rfl⟩
      rw [hr] at HQ HQ2 ⊢
      clear hr h7 v0 v1 v2 u0
      by_cases r0 : r = 0
      · have kl : k < 20 := by
          rcases Nat.lt_or_ge k 20 with h | h
          · exact h
          · exact absurd r0 (HQ2.out h)
        have HK : Hid (pmB p n D m S X Y K V k = true) := (HQ.out kl).1 r0
        have r1 : (r != 0) = false := by rw [r0]; rfl
        have r2 : (r == 0) = true := by rw [r0]; rfl
        clear r0
        go_wp2
        go_roundw
        case rel => exact ⟨k + 1, by omega, by omega, by go_num, ball_succ HP.out HK.out, q0, q1, q2, qb, by omega, (by repeat (first | with_reducible exact Below.refl _ _ | with_reducible exact B9 | with_reducible refine Below.setCell ?_ (by first | omega | (simp; done) | (simp; omega)) _ | with_reducible refine bDrewN ?_ _ | with_reducible refine Below.drew ?_ | with_reducible refine Below.alloc ?_ (by first | omega | (simp; done) | (simp; omega)) _))⟩
        case measure => first | (simp [intOf]; done) | (simp [intOf]; omega)
      · have r1 : (r != 0) = true := by simpa using r0
        have r2 : (r == 0) = false := by simpa using r0
        have HO : Hid (bokB p n D m S nb X Y K V = false) := by
          rcases Nat.lt_or_ge k 20 with h | h
          · refine bok_no h1 ?_
            cases e : pmB p n D m S X Y K V k
            · rfl
            · exact absurd ((HQ.out h).2 e) r0
          · exact bok_many (by omega)
        clear r0
        go_wp2
        go_ret
        exact ⟨ret_bool HO.out.symm, (by repeat (first | with_reducible exact Below.refl _ _ | with_reducible exact B9 | with_reducible refine Below.setCell ?_ (by first | omega | (simp; done) | (simp; omega)) _ | with_reducible refine bDrewN ?_ _ | with_reducible refine Below.drew ?_ | with_reducible refine Below.alloc ?_ (by first | omega | (simp; done) | (simp; omega)) _))⟩
    · obtain rfl : k = nb := by omega
      have HO : Hid (bokB p n D m S k X Y K V = true) := by show _ = _; unfold bokB; rw [HNT.out, decide_eq_true k20, decide_eq_true HP.out]; rfl
      go_wp2
      go_ret
      exact ⟨ret_bool HO.out.symm, (by repeat (first | with_reducible exact Below.refl _ _ | with_reducible exact hB | with_reducible refine Below.setCell ?_ (by first | omega | (simp; done) | (simp; omega)) _ | with_reducible refine bDrewN ?_ _ | with_reducible refine Below.drew ?_ | with_reducible refine Below.alloc ?_ (by first | omega | (simp; done) | (simp; omega)) _))⟩

open Go.ChangeShapes Go.WideShapes Go.ChangeAt Go.RowKit
set_option linter.unusedVariables false
set_option linter.unusedSimpArgs false

/-- Those of the first k whose count is 0. -/
def freL (V T : Nat → Int) : Nat → List Int
  | 0 => []
  | k + 1 => if T (V k).toNat = 0 then freL V T k ++ [V k] else freL V T k
theorem fre_len (V T : Nat → Int) : ∀ k, (freL V T k).length ≤ k := by
  intro k
  induction k with
  | zero => exact Nat.le_refl _
  | succ k ih =>
    unfold freL
    split
    · rw [List.length_append]; simp; omega
    · omega
set_option maxRecDepth 20000 in
set_option maxHeartbeats 4000000 in
theorem untagged_any (s t : Option Addr) (n c m d : Nat) (V T : Nat → Int) (w : World) (hn : (n : Int) ≤ 1000) (hm : (m : Int) ≤ 1000) (HV : Hid (∀ i, i < n → 0 ≤ V i ∧ V i < (m : Int))) (HS : Hid (RowI w s n V)) (HT : Hid (RowI w t m T)) :
    Calls Try.prog 64 #[.slice s n c, .slice t m d] w fun e w' => ∃ v, e = .returned v ∧ OwL w.heap.size w' v (freL V T n) ∧ Below w.heap.size w w' := by
  go_enter Try.func64, Try.ntmps64
  go_wp2_with fail
  go_loopw [5, 10] (fun v i wr => ∃ k : Nat, k ≤ n ∧ i = .int .i64 k ∧ Hid (OwL w.heap.size wr v (freL V T k)) ∧ Hid (Below w.heap.size w wr)) (fun _ i _ => n - (intOf i).toNat)
  case atStart => exact ⟨0, Nat.zero_le _, rfl, OwL.nil _ _, Below.refl _ _⟩
  case round =>
    obtain ⟨k, hk, rfl, HL, HW⟩ := hrel
    rename World => wr
    obtain ⟨L, hL⟩ : ∃ L, freL V T k = L := ⟨_, rfl⟩
    have HLk : Hid (L.length ≤ k) := by show _ ≤ _; rw [← hL]; exact fre_len V T k
    obtain ⟨ml, hml⟩ : ∃ ml, L.length = ml := ⟨_, rfl⟩
    have HML : Hid (L.length = ml) := hml
    have hmk : ml ≤ k := by rw [← hml]; exact HLk.out
    have zz := HW.out.size
    rw [hL] at HL
    obtain ⟨s_, c_, e_, -⟩ := HL.out.own
    rw [hml] at e_
    subst e_
    by_cases h2 : k < n
    case pos =>
      have k1 : (k : Int) < (n : Int) := by omega
      obtain ⟨v0, v1⟩ := HV.out k h2
      obtain ⟨x, hx⟩ : ∃ x : Nat, V k = (x : Int) := ⟨(V k).toNat, by omega⟩
      have xm : x < m := by omega
      have xmi : (x : Int) < (m : Int) := by omega
      obtain ⟨g, o, rfl, zg, cg⟩ := HS.out k h2
      obtain ⟨g2, o2, rfl, zg2, cg2⟩ := HT.out x xm
      replace cg := (HW.out.cell (p := ⟨g, o + k, none⟩) zg).trans cg
      replace cg2 := (HW.out.cell (p := ⟨g2, o2 + x, none⟩) zg2).trans cg2
      replace zg := Nat.lt_of_lt_of_le zg HW.out.size
      replace zg2 := Nat.lt_of_lt_of_le zg2 HW.out.size
      rw [hx] at cg
      have HX : Hid (V k = (x : Int)) := hx
      obtain ⟨y, hy⟩ : ∃ y, T x = y := ⟨_, rfl⟩
      have HY : Hid (T x = y) := hy
      rw [hy] at cg2
      clear hy hx hml v0 v1
      by_cases q : y = 0
      case pos =>
        have HN : Hid (freL V T (k + 1) = L ++ [(x : Int)]) := by show _ = _; unfold freL; rw [HX.out, Int.toNat_natCast, HY.out, if_pos q, hL]
        have qb : (y == 0) = true := by simp [q]
        clear hL q
        go_wp2_with (at_builtin; refine list_oneL w.heap.size (.slice s_ ml c_) ml L (.tmp 19) (.tmp 21) (by rfl) (by rfl) (by rfl) (by rfl) HML.out HL.out (by omega) (by omega) ?_; intro g9 cap9 w9 l9 b9)
        have HL9 : Hid (OwL w.heap.size w9 (.slice (some ⟨g9, 0, none⟩) (ml + 1) cap9) (freL V T (k + 1))) := by show OwL _ _ _ _; rw [HN.out]; exact l9
        have HW9 : Hid (Below w.heap.size w w9) := HW.out.trans b9
        clear l9 b9
        go_roundw
        case rel => exact ⟨k + 1, by omega, by go_num, HL9, HW9⟩
        case measure => first | (simp [intOf]; done) | (simp [intOf]; omega)
      case neg =>
        have HN : Hid (freL V T (k + 1) = L) := by show _ = _; unfold freL; rw [HX.out, Int.toNat_natCast, HY.out, if_neg q]; exact hL
        have qb : (y == 0) = false := by simp [q]
        clear hL q
        go_wp2
        go_roundw
        case rel => exact ⟨k + 1, by omega, by go_num, (by show OwL _ _ _ _; rw [HN.out]; exact HL.out), HW⟩
        case measure => first | (simp [intOf]; done) | (simp [intOf]; omega)
    case neg =>
      obtain rfl : k = n := by omega
      have HL9 : Hid (OwL w.heap.size wr (.slice s_ ml c_) (freL V T k)) := by show OwL _ _ _ _; rw [hL]; exact HL.out
      clear hL hml
      go_wp2
      go_ret
      exact ⟨_, rfl, HL9.out, HW.out⟩

open Go.ChangeShapes Go.WideShapes Go.ChangeAt Go.RowKit
set_option linter.unusedVariables false
set_option linter.unusedSimpArgs false

def sk (q i : Nat) : Nat := if i < q then i else i + 1
theorem sk_lt {q i : Nat} (h : i < q) : sk q i = i := if_pos h
theorem sk_ge {q i : Nat} (h : q ≤ i) : sk q i = i + 1 := if_neg (by omega)
/-- The place of the one with this Id, or the length where there is none. -/
def HitAt (nb : Nat) (X : Nat → Int) (id : Int) (q : Nat) : Prop := q ≤ nb ∧ ∀ j, j < nb → (X j = id ↔ j = q)
theorem hit_yes {nb : Nat} {X : Nat → Int} {id : Int} {q k : Nat} {f : Bool} (h : HitAt nb X id q) (hk : k ≤ nb) (h1 : ∀ j, j < k → X j < id) (h2 : ∀ j, k ≤ j → j < nb → id ≤ X j) (hf : f = true ↔ k < nb ∧ X k = id) (hq : q < nb) (hr : ∀ i j, i < j → j < nb → X i < X j) : f = true ∧ k = q := by
  have e := (h.2 q hq).2 rfl
  have hkq : k = q := by
    rcases Nat.lt_trichotomy k q with z | z | z
    · have a := h2 k (Nat.le_refl _) (by omega)
      have b := hr k q z hq
      omega
    · exact z
    · have := h1 q z; omega
  exact ⟨hf.2 ⟨by omega, by rw [hkq]; exact e⟩, hkq⟩
theorem hit_no {nb : Nat} {X : Nat → Int} {id : Int} {k : Nat} {f : Bool} (h : HitAt nb X id nb) (hf : f = true ↔ k < nb ∧ X k = id) : f = false := by
  cases f
  · rfl
  · obtain ⟨a, b⟩ := hf.1 rfl
    have := (h.2 k a).1 b
    omega
theorem bok_rises {p : Int} {n : Nat} {D : Nat → Int × Int} {m : Nat} {S : Nat → Int} {X Y : Nat → Int} {K : Nat → Nat} {V : Nat → Nat → Int} {nb : Nat} (h : bokB p n D m S nb X Y K V = true) : ∀ i j, i < j → j < nb → X i < X j := by
  obtain ⟨-, -, hP⟩ := bok_yes h
  intro i j hij hj
  have step : ∀ k, k + 1 < nb → X k < X (k + 1) := fun k hk => by
    have q : lsB X (k + 1) = true := (pm_yes (hP (k + 1) hk)).2.2.1
    rcases of_decide_eq_true q with z | z
    · omega
    · exact z
  obtain ⟨d, rfl⟩ : ∃ d, j = i + 1 + d := ⟨j - i - 1, by omega⟩
  clear hij
  induction d with
  | zero => exact step i hj
  | succ d ih => exact Int.lt_trans (ih (by omega)) (step (i + 1 + d) (by omega))

open Go.ChangeShapes Go.WideShapes Go.ChangeAt Go.RowKit
set_option linter.unusedVariables false
set_option linter.unusedSimpArgs false

theorem Beside.setCells (r : Nat) : ∀ (vs : List Value) (o : Nat) (w : World), Beside r w (w.setCells r o vs)
  | [], _, w => Beside.of (Below.refl _ _)
  | v :: vs, o, w => by
    rw [World.setCells]
    exact (Beside.setCell r w o v).trans (Beside.setCells r vs (o + 1) _)
theorem some_setCells (b : Nat) : ∀ (vs : List Value) (o : Nat) (w : World) (x : Addr), (w.cell? x).isSome = true → ((w.setCells b o vs).cell? x).isSome = true
  | [], _, _, _, h => h
  | v :: vs, o, w, x, h => by
    rw [World.setCells]
    refine some_setCells b vs (o + 1) _ x ?_
    by_cases e : x = ⟨b, o, none⟩
    · subst e
      obtain ⟨u, hu⟩ := Option.isSome_iff_exists.1 h
      rw [World.cell?_setCell_same _ _ _ hu]
      rfl
    · rw [World.cell?_setCell_other _ _ _ _ (fun z => e z.symm)]
      exact h
theorem ptC_one (X Y : Nat → Int) (K : Nat → Nat) (A : Nat → Option Addr) (C : Nat → Nat) : ∀ n, ∀ u ∈ ptC X Y K A C n, u.oneCell' = true := by
  intro n
  induction n with
  | zero => intro u h; cases h
  | succ n ih =>
    intro u h
    unfold ptC at h
    rw [List.mem_append] at h
    rcases h with h | h
    · exact ih u h
    · simp at h
      rcases h with rfl | rfl | rfl <;> rfl
theorem ptC_cells {w : World} {b o : Nat} {X Y : Nat → Int} {K : Nat → Nat} {A : Nat → Option Addr} {C : Nat → Nat} {n : Nat} (h : ∀ i, i < n → w.cell? ⟨b, o + i * 3, none⟩ = some (.int .i64 (X i)) ∧ w.cell? ⟨b, o + i * 3 + 1, none⟩ = some (.int .i64 (Y i)) ∧ w.cell? ⟨b, o + i * 3 + 2, none⟩ = some (.slice (A i) (K i) (C i))) : ∀ j u, (ptC X Y K A C n)[j]? = some u → w.cell? ⟨b, o + j, none⟩ = some u := by
  intro j u hu
  have hl := ptC_len X Y K A C n
  have hj : j < n * 3 := by rw [← hl]; exact (List.getElem?_eq_some_iff.1 hu).1
  have hi : j / 3 < n := by omega
  obtain ⟨a0, a1, a2⟩ := ptC_at X Y K A C n (j / 3) hi
  obtain ⟨b0, b1, b2⟩ := h (j / 3) hi
  rcases (by omega : j = j / 3 * 3 ∨ j = j / 3 * 3 + 1 ∨ j = j / 3 * 3 + 2) with e | e | e
  · rw [← e] at a0 b0; rw [a0] at hu; cases hu; exact b0
  · rw [← e] at a1; rw [a1] at hu; cases hu; rw [show o + j = o + j / 3 * 3 + 1 by omega]; exact b1
  · rw [← e] at a2; rw [a2] at hu; cases hu; rw [show o + j = o + j / 3 * 3 + 2 by omega]; exact b2
theorem PcK.pick {b n k : Nat} {w : World} {X Y : Nat → Int} {K : Nat → Nat} {V : Nat → Nat → Int} (h : PcK b w n k X Y K V) : ∃ (A : Nat → Option Addr) (C : Nat → Nat), ∀ i, i < k → w.cell? ⟨b, i * 3, none⟩ = some (.int .i64 (X i)) ∧ w.cell? ⟨b, i * 3 + 1, none⟩ = some (.int .i64 (Y i)) ∧ w.cell? ⟨b, i * 3 + 2, none⟩ = some (.slice (A i) (K i) (C i)) := by
  obtain ⟨_, _, ⟨G, h3, _⟩, _⟩ := h
  have h0 : ∀ i, ∃ z : Option Addr × Nat, i < k → w.cell? ⟨b, i * 3, none⟩ = some (.int .i64 (X i)) ∧ w.cell? ⟨b, i * 3 + 1, none⟩ = some (.int .i64 (Y i)) ∧ w.cell? ⟨b, i * 3 + 2, none⟩ = some (.slice z.1 (K i) z.2) := fun i => by
    by_cases hi : i < k
    · obtain ⟨a, c, r0, r1, r2, _⟩ := h3 i hi
      exact ⟨(a, c), fun _ => ⟨r0, r1, r2⟩⟩
    · exact ⟨(none, 0), fun q => absurd q hi⟩
  obtain ⟨f, hf⟩ := Classical.axiomOfChoice h0
  exact ⟨fun i => (f i).1, fun i => (f i).2, fun j hj => hf j hj⟩
/-- Of the cells behind place q, moved ahead by one, and the last one cleared. -/
theorem PcK.cut {b n q : Nat} {w : World} {X Y : Nat → Int} {K : Nat → Nat} {V : Nat → Nat → Int} {A : Nat → Option Addr} {C : Nat → Nat} (h : PcK b w n n X Y K V) (hq : q < n)
    (hp : ∀ i, i < n → w.cell? ⟨b, i * 3, none⟩ = some (.int .i64 (X i)) ∧ w.cell? ⟨b, i * 3 + 1, none⟩ = some (.int .i64 (Y i)) ∧ w.cell? ⟨b, i * 3 + 2, none⟩ = some (.slice (A i) (K i) (C i))) (z0 z1 z2 : Value) :
    PcK b ((w.setCells b (q * 3) (ptC (fun i => X (q + 1 + i)) (fun i => Y (q + 1 + i)) (fun i => K (q + 1 + i)) (fun i => A (q + 1 + i)) (fun i => C (q + 1 + i)) (n - q - 1))).setCells b ((n - 1) * 3) [z0, z1, z2]) n (n - 1) (fun i => X (sk q i)) (fun i => Y (sk q i)) (fun i => K (sk q i)) (fun i => V (sk q i)) ∧ ∀ i, i < n - 1 → ((w.setCells b (q * 3) (ptC (fun i => X (q + 1 + i)) (fun i => Y (q + 1 + i)) (fun i => K (q + 1 + i)) (fun i => A (q + 1 + i)) (fun i => C (q + 1 + i)) (n - q - 1))).setCells b ((n - 1) * 3) [z0, z1, z2]).cell? ⟨b, i * 3 + 2, none⟩ = w.cell? ⟨b, sk q i * 3 + 2, none⟩ := by
  obtain ⟨h1, h2, ⟨G, h3, h4⟩, h5⟩ := h
  obtain ⟨L, hL⟩ : ∃ L, L = ptC (fun i => X (q + 1 + i)) (fun i => Y (q + 1 + i)) (fun i => K (q + 1 + i)) (fun i => A (q + 1 + i)) (fun i => C (q + 1 + i)) (n - q - 1) := ⟨_, rfl⟩
  have hLl : L.length = (n - q - 1) * 3 := by rw [hL]; exact ptC_len _ _ _ _ _ _
  have hLat := ptC_at (fun i => X (q + 1 + i)) (fun i => Y (q + 1 + i)) (fun i => K (q + 1 + i)) (fun i => A (q + 1 + i)) (fun i => C (q + 1 + i)) (n - q - 1)
  rw [← hL] at hLat ⊢
  obtain ⟨W1, hW1⟩ : ∃ W1, W1 = w.setCells b (q * 3) L := ⟨_, rfl⟩
  obtain ⟨W2, hW2⟩ : ∃ W2, W2 = W1.setCells b ((n - 1) * 3) [z0, z1, z2] := ⟨_, rfl⟩
  rw [← hW1, ← hW2]
  have bs1 : Beside b w W1 := by rw [hW1]; exact Beside.setCells b _ _ _
  have bs2 : Beside b W1 W2 := by rw [hW2]; exact Beside.setCells b _ _ _
  have bs : Beside b w W2 := bs1.trans bs2
  have out2 : ∀ j, j < (n - 1) * 3 → W2.cell? ⟨b, j, none⟩ = W1.cell? ⟨b, j, none⟩ := fun j hj => by
    rw [hW2]; exact World.cell?_setCells_out b _ _ _ ⟨b, j, none⟩ (fun _ _ => Or.inl hj)
  have out1 : ∀ j, j < q * 3 → W1.cell? ⟨b, j, none⟩ = w.cell? ⟨b, j, none⟩ := fun j hj => by
    rw [hW1]; exact World.cell?_setCells_out b _ _ _ ⟨b, j, none⟩ (fun _ _ => Or.inl hj)
  have in1 : ∀ j u, L[j]? = some u → W1.cell? ⟨b, q * 3 + j, none⟩ = some u := fun j u hu => by
    have hj := (List.getElem?_eq_some_iff.1 hu).1
    have e := (List.getElem?_eq_some_iff.1 hu).2
    rw [hW1, World.cell?_setCells_in b _ _ _ (fun i hi => h5 _ (by omega)) j hj, e]
  have cells : ∀ i, i < n - 1 → W2.cell? ⟨b, i * 3, none⟩ = some (.int .i64 (X (sk q i))) ∧ W2.cell? ⟨b, i * 3 + 1, none⟩ = some (.int .i64 (Y (sk q i))) ∧ W2.cell? ⟨b, i * 3 + 2, none⟩ = some (.slice (A (sk q i)) (K (sk q i)) (C (sk q i))) := fun i hi => by
    by_cases e : i < q
    · rw [sk_lt e, out2 _ (by omega), out2 _ (by omega), out2 _ (by omega), out1 _ (by omega), out1 _ (by omega), out1 _ (by omega)]
      exact hp i (by omega)
    · rw [sk_ge (by omega), out2 _ (by omega), out2 _ (by omega), out2 _ (by omega)]
      obtain ⟨r0, r1, r2⟩ := hLat (i - q) (by omega)
      have t0 := in1 _ _ r0
      have t1 := in1 _ _ r1
      have t2 := in1 _ _ r2
      rw [show q * 3 + (i - q) * 3 = i * 3 by omega, show q + 1 + (i - q) = i + 1 by omega] at t0
      rw [show q * 3 + ((i - q) * 3 + 1) = i * 3 + 1 by omega, show q + 1 + (i - q) = i + 1 by omega] at t1
      rw [show q * 3 + ((i - q) * 3 + 2) = i * 3 + 2 by omega, show q + 1 + (i - q) = i + 1 by omega] at t2
      exact ⟨t0, t1, t2⟩
  have skn : ∀ i, i < n - 1 → sk q i < n := fun i hi => by unfold sk; split <;> omega
  have inj : ∀ i i', sk q i = sk q i' → i = i' := fun i i' e => by unfold sk at e; split at e <;> split at e <;> omega
  refine ⟨?_, fun i hi => (cells i hi).2.2.trans (hp _ (skn i hi)).2.2.symm⟩
  refine ⟨Nat.lt_of_lt_of_le h1 bs.2.2.2.1, fun o => ?_, ⟨fun i => G (sk q i), fun i hi => ?_, fun i i' hi hi' q1 q2 e => inj i i' (h4 _ _ (skn i hi) (skn i' hi') q1 q2 e)⟩, fun j hj => ?_⟩
  · rw [hW2, World.frozen?_setCells, hW1, World.frozen?_setCells]; exact h2 o
  · obtain ⟨c0, c1, c2⟩ := cells i hi
    refine ⟨A (sk q i), C (sk q i), c0, c1, c2, fun hk => ?_⟩
    obtain ⟨a, c, d0, d1, d2, r⟩ := h3 (sk q i) (skn i hi)
    obtain ⟨r1, r2, r3, r4⟩ := r hk
    have d2' := (hp (sk q i) (skn i hi)).2.2
    rw [d2] at d2'
    cases d2'
    have ne : G (sk q i) ≠ b := by omega
    exact ⟨r1, r2, Nat.lt_of_lt_of_le r3 bs.2.2.2.1, fun j hj => ⟨(bs.cell (p := ⟨G (sk q i), j, none⟩) r3 ne).trans (r4 j hj).1, (bs.frozen (p := ⟨G (sk q i), j, none⟩) r3 ne).trans (r4 j hj).2⟩⟩
  · rw [hW2, hW1]; exact some_setCells _ _ _ _ _ (some_setCells _ _ _ _ _ (h5 j hj))
theorem PcK.perK {b n k : Nat} {w : World} {X Y : Nat → Int} {K : Nat → Nat} {V : Nat → Nat → Int} {B : Nat} (h : PcK b w n k X Y K V) (hB : B ≤ b) : PerR (fun k => B ≤ k ∧ k < w.heap.size) w (some ⟨b, 0, none⟩) k X Y K V := by
  obtain ⟨z1, z2, ⟨G, g3, g4⟩, g5⟩ := h
  refine ⟨G, fun i hi => ?_, g4⟩
  obtain ⟨a, c, c0, c1, c2, r⟩ := g3 i hi
  refine ⟨b, a, c, rfl, ⟨hB, z1⟩, z1, z2, c0, c1, c2, fun q => ?_⟩
  obtain ⟨r1, r2, r3, r4⟩ := r q
  exact ⟨r1, by omega, ⟨by omega, r3⟩, r3, r4⟩
theorem PcK.inner {b n k : Nat} {w : World} {X Y : Nat → Int} {K : Nat → Nat} {V : Nat → Nat → Int} (h : PcK b w n k X Y K V) : ∀ (i : Nat) (a : Addr) (k' c : Nat), i < k → w.cell? ⟨b, i * 3 + 2, none⟩ = some (.slice (some a) k' c) → 0 < k' → a.block < w.heap.size := fun i a k' c hi hc hk => by
  obtain ⟨_, _, ⟨G, h3, _⟩, _⟩ := h
  obtain ⟨a0, c0, _, _, d2, r⟩ := h3 i hi
  rw [hc] at d2
  simp only [Option.some.injEq, Value.slice.injEq] at d2
  obtain ⟨e1, e2, _⟩ := d2
  obtain ⟨r1, _, r3, _⟩ := r (by omega)
  rw [r1] at e1
  cases e1
  exact r3
theorem PcK.besideH {b n k r : Nat} {w w' : World} {X Y : Nat → Int} {K : Nat → Nat} {V : Nat → Nat → Int} (h : PcK b w n k X Y K V) (hb : Beside r w w') (hr : b ≠ r) (hin : ∀ (i : Nat) (a : Addr) (k' c : Nat), i < k → w.cell? ⟨b, i * 3 + 2, none⟩ = some (.slice (some a) k' c) → 0 < k' → a.block ≠ r) : PcK b w' n k X Y K V := by
  obtain ⟨h1, h2, ⟨G, h3, h4⟩, h5⟩ := h
  have ce : ∀ j, w'.cell? ⟨b, j, none⟩ = w.cell? ⟨b, j, none⟩ := fun j => hb.cell (p := ⟨b, j, none⟩) h1 hr
  refine ⟨Nat.lt_of_lt_of_le h1 hb.2.2.2.1, fun o => (hb.frozen (p := ⟨b, o, none⟩) h1 hr).trans (h2 o), ⟨G, fun i hi => ?_, h4⟩, fun j hj => by rw [ce]; exact h5 j hj⟩
  obtain ⟨a, c, c0, c1, c2, q⟩ := h3 i hi
  refine ⟨a, c, (ce _).trans c0, (ce _).trans c1, (ce _).trans c2, fun z => ?_⟩
  obtain ⟨r1, r2, r3, r4⟩ := q z
  have ne : G i ≠ r := by rw [r1] at c2; exact hin i _ _ _ hi c2 z
  exact ⟨r1, r2, Nat.lt_of_lt_of_le r3 hb.2.2.2.1, fun j hj => ⟨(hb.cell (p := ⟨G i, j, none⟩) r3 ne).trans (r4 j hj).1, (hb.frozen (p := ⟨G i, j, none⟩) r3 ne).trans (r4 j hj).2⟩⟩
theorem clear_one {w : World} {b o c : Nat} (hc : ∀ j, j < 3 → (w.cell? ⟨b, o + j, none⟩).isSome = true) (hf : ∀ j, j < 3 → w.frozen? ⟨b, o + j, none⟩ = false) (ty : TypeId) :
    (Builtin.clear_ #[34] ty #[.slice (some ⟨b, o, none⟩) 1 c]).run Try.prog w = .ok (.tuple #[]) (w.setCells b o [.int .i64 0, .int .i64 0, .slice none 0 0]) := by
  have hz : (zeroValue 44).run Try.prog w = .ok (.agg #[.int .i64 0, .int .i64 0, .slice none 0 0]) w := by kernel_rfl
  have hst := run_storeCells_cells (P := Try.prog) b o [.int .i64 0, .int .i64 0, .slice none 0 0] 0 w (by simpa using hc) (by simpa using hf) (by intro u hu; simp at hu; rcases hu with rfl | rfl | rfl <;> rfl)
  simp only [Nat.add_zero] at hst
  have hzc : (Builtin.zeroCells (Value.agg #[.int .i64 0, .int .i64 0, .slice none 0 0]).cells 1).toList = [.int .i64 0, .int .i64 0, .slice none 0 0] := by kernel_rfl
  simp [Builtin.clear_, run_underlying Try.underlying34, hz, hzc, hst]

open Go.ChangeShapes Go.WideShapes Go.ChangeAt Go.RowKit
set_option linter.unusedVariables false
set_option linter.unusedSimpArgs false

def inF {α : Type} (q : Nat) (x : α) (F : Nat → α) (i : Nat) : α := if i < q then F i else if i = q then x else F (i - 1)
theorem inF_lt {α : Type} {q i : Nat} {x : α} {F : Nat → α} (h : i < q) : inF q x F i = F i := if_pos h
theorem inF_eq {α : Type} {q : Nat} {x : α} {F : Nat → α} : inF q x F q = x := by unfold inF; rw [if_neg (Nat.lt_irrefl _), if_pos rfl]
theorem inF_gt {α : Type} {q i : Nat} {x : α} {F : Nat → α} (h : q < i) : inF q x F i = F (i - 1) := by unfold inF; rw [if_neg (by omega), if_neg (by omega)]
def InsP (w : World) (n q : Nat) (X Y : Nat → Int) (K : Nat → Nat) (AA : Nat → Option Addr) (CC : Nat → Nat) (x y : Int) (a : Option Addr) (k c : Nat) (g : Nat) (w' : World) : Prop := w.heap.size ≤ g ∧ g < w'.heap.size ∧ (∀ o, w'.frozen? ⟨g, o, none⟩ = false) ∧ (∀ i, i < n + 1 → w'.cell? ⟨g, i * 3, none⟩ = some (.int .i64 (inF q x X i)) ∧ w'.cell? ⟨g, i * 3 + 1, none⟩ = some (.int .i64 (inF q y Y i)) ∧ w'.cell? ⟨g, i * 3 + 2, none⟩ = some (.slice (inF q a AA i) (inF q k K i) (inF q c CC i))) ∧ Below w.heap.size w w'
theorem run_copy3 (w : World) (b o dLen dCap : Nat) (a : Addr) (sLen sCap m : Nat) (cs : List Value) (hl : cs.length = m * 3) (hm : Nat.min sLen dLen = m)
    (hsrc : ∀ j v, cs[j]? = some v → w.cell? (a.add j) = some v) (hc : ∀ j, j < cs.length → (w.cell? ⟨b, o + j, none⟩).isSome = true) (hf : ∀ j, j < cs.length → w.frozen? ⟨b, o + j, none⟩ = false) (h1 : ∀ v ∈ cs, v.oneCell' = true) (ty : TypeId) :
    (Builtin.copy_ #[34, 34] ty #[.slice (some ⟨b, o, none⟩) dLen dCap, .slice (some a) sLen sCap]).run Try.prog w = .ok (goInt m) (w.setCells b o cs) := by
  obtain ⟨i0, hi, hz0, hz1, hz2⟩ := info_parts info_PermitP
  have hld := run_loadCells_list (P := Try.prog) w a cs hsrc
  rw [hl] at hld
  have hst := run_storeCells_cells (P := Try.prog) b o cs 0 w (by simpa using hc) (by simpa using hf) h1
  simp [Builtin.copy_, run_underlying Try.underlying34, Builtin.lenOf, Builtin.firstCells, sizeOf, typeInfo, hi, hz1, hm, hld, hst]
theorem three_one (x y : Int) (a : Option Addr) (k c : Nat) : ∀ u ∈ [Value.int .i64 x, .int .i64 y, .slice a k c], u.oneCell' = true := by
  intro u hu
  simp at hu
  rcases hu with rfl | rfl | rfl <;> rfl
theorem list_growP {ops : Array Oper} {rest : List Oper} {o : Oper} {a : Act} {Q : Exit → Act → World → Prop} {W : World} (s z : Operand) (k : Nat) (v0 v : Value) (w' : World) (hgd : o.guard = none)
    (ho : o.op = .call { callee := .builtin .append, args := #[s, z], argTypes := #[34, 3] }) (hs : a.eval s = v0) (hx : a.eval z = .int .i64 (k : Int)) (hr : (Builtin.append_ #[34, 3] o.type #[v0, .int .i64 (k : Int)]).run Try.prog W = .ok v w')
    (h : wpList Try.prog ops Q rest (a.put o.dst v) w') : wpList Try.prog ops Q (o :: rest) a W := by
  refine wpList_plain hgd fun K hK => ?_
  unfold Oper.wp execOp
  simp only [ho, resolve, invoke, builtin, Sem.run_bind, Sem.run_pure, Result.andThen_ok, List.map_toArray, List.map_cons, List.map_nil, hs, hx, hr]
  exact hK _ _ h
theorem list_appP {ops : Array Oper} {rest : List Oper} {o : Oper} {a : Act} {Q : Exit → Act → World → Prop} {W : World} (s z : Operand) (v0 v1 v : Value) (w' : World) (hgd : o.guard = none)
    (ho : o.op = .call { callee := .builtin .append, args := #[s, z], argTypes := #[34, 34] }) (hs : a.eval s = v0) (hx : a.eval z = v1) (hr : (Builtin.append_ #[34, 34] o.type #[v0, v1]).run Try.prog W = .ok v w')
    (h : wpList Try.prog ops Q rest (a.put o.dst v) w') : wpList Try.prog ops Q (o :: rest) a W := by
  refine wpList_plain hgd fun K hK => ?_
  unfold Oper.wp execOp
  simp only [ho, resolve, invoke, builtin, Sem.run_bind, Sem.run_pure, Result.andThen_ok, List.map_toArray, List.map_cons, List.map_nil, hs, hx, hr]
  exact hK _ _ h
theorem list_copyP {ops : Array Oper} {rest : List Oper} {o : Oper} {a : Act} {Q : Exit → Act → World → Prop} {W : World} (s z : Operand) (v0 v1 v : Value) (w' : World) (hgd : o.guard = none)
    (ho : o.op = .call { callee := .builtin .copy, args := #[s, z], argTypes := #[34, 34] }) (hs : a.eval s = v0) (hx : a.eval z = v1) (hr : (Builtin.copy_ #[34, 34] o.type #[v0, v1]).run Try.prog W = .ok v w')
    (h : wpList Try.prog ops Q rest (a.put o.dst v) w') : wpList Try.prog ops Q (o :: rest) a W := by
  refine wpList_plain hgd fun K hK => ?_
  unfold Oper.wp execOp
  simp only [ho, resolve, invoke, builtin, Sem.run_bind, Sem.run_pure, Result.andThen_ok, List.map_toArray, List.map_cons, List.map_nil, hs, hx, hr]
  exact hK _ _ h
/-- The first places copied, the rest made. -/
theorem ins_grow {w : World} (b n q k1 N : Nat) (X Y : Nat → Int) (K : Nat → Nat) (AA : Nat → Option Addr) (CC : Nat → Nat) (hn : n ≤ 1000) (hq : q < n) (hk : q + k1 = N) (hN : N = n + 1) (hp : ∀ i, i < n → w.cell? ⟨b, i * 3, none⟩ = some (.int .i64 (X i)) ∧ w.cell? ⟨b, i * 3 + 1, none⟩ = some (.int .i64 (Y i)) ∧ w.cell? ⟨b, i * 3 + 2, none⟩ = some (.slice (AA i) (K i) (CC i))) :
    ∃ g cap W2, (∀ ty, (Builtin.append_ #[34, 3] ty #[.slice (some ⟨b, 0, none⟩) q n, .int .i64 (k1 : Int)]).run Try.prog w = .ok (.slice (some ⟨g, 0, none⟩) N cap) W2) ∧ N ≤ cap ∧ g = w.heap.size ∧ g < W2.heap.size ∧ (∀ o, W2.frozen? ⟨g, o, none⟩ = false) ∧ (∀ j, j < N * 3 → (W2.cell? ⟨g, j, none⟩).isSome = true) ∧ (∀ j u, (ptC X Y K AA CC q)[j]? = some u → W2.cell? ⟨g, j, none⟩ = some u) ∧ Below w.heap.size w W2 := by
  obtain ⟨i0, hi, hz0, hz1, hz2⟩ := info_parts info_PermitP
  have hl := ptC_len X Y K AA CC q
  have hold : (Builtin.firstCells i0.size q (.slice (some ⟨b, 0, none⟩) q n)).run Try.prog w.drew = .ok (ptC X Y K AA CC q).toArray w.drew := run_firstCells_some (P := Try.prog) w.drew i0.size q ⟨b, 0, none⟩ q n (ptC X Y K AA CC q) (by rw [hl, hz1]) (fun j u hu => by
    rw [Addr.add_lit]
    have t := ptC_cells (w := w) (b := b) (o := 0) (X := X) (Y := Y) (K := K) (A := AA) (C := CC) (n := q) (fun i hi => by simp only [Nat.zero_add]; exact hp i (by omega)) j u hu
    simpa using t)
  have hg : n < q + k1 := by omega
  have hr := fun ty => Lib.run_append_grow_zeros (P := Try.prog) w 34 3 ty 44 i0 (.agg #[.int .i64 0, .int .i64 0, .slice none 0 0]) .i64 .i64 Try.underlying34 Try.underlying3 hi hz0 (some ⟨b, 0, none⟩) q n (ptC X Y K AA CC q) hold k1 (by omega) (by rw [hz1]; decide) hg (by omega) (by rw [hz2]; omega) (growslice_fits hg (by rw [hz2]; omega))
  have hge := grownCap_ge w (q + k1) n 44
  rw [hk] at hr hge
  obtain ⟨cap, hcap⟩ : ∃ cap, grownCap w N n 44 = cap := ⟨_, rfl⟩
  rw [hcap] at hge
  have hzs : (Builtin.zeroCells (Value.agg #[.int .i64 0, .int .i64 0, .slice none 0 0]).cells k1).size = k1 * 3 := by
    have e : (Value.agg #[.int .i64 0, .int .i64 0, .slice none 0 0]).cells.size = 3 := rfl
    unfold Builtin.zeroCells
    rw [Array.size_map, Array.size_range, e]
  refine ⟨w.heap.size, cap, _, fun ty => by rw [← hcap]; exact hr ty, hge, rfl, by simp, fun o => by simp [go_sem], fun j hj => ?_, fun j u hu => ?_, Below.alloc (Below.drew (Below.refl _ _)) (by simp) _⟩
  · have hs : (((ptC X Y K AA CC q).toArray ++ Builtin.zeroCells (Value.agg #[.int .i64 0, .int .i64 0, .slice none 0 0]).cells k1 ++ Builtin.zeroCells (Value.agg #[.int .i64 0, .int .i64 0, .slice none 0 0]).cells (grownCap w N n 44 - N))[j]?).isSome = true := by
      have : j < ((ptC X Y K AA CC q).toArray ++ Builtin.zeroCells (Value.agg #[.int .i64 0, .int .i64 0, .slice none 0 0]).cells k1 ++ Builtin.zeroCells (Value.agg #[.int .i64 0, .int .i64 0, .slice none 0 0]).cells (grownCap w N n 44 - N)).size := by
        rw [Array.size_append, Array.size_append, hzs]
        simp only [List.size_toArray, hl]
        omega
      rw [Array.getElem?_eq_getElem this]
      rfl
    simpa [go_sem] using hs
  · have hj := (List.getElem?_eq_some_iff.1 hu).1
    have hs : ((ptC X Y K AA CC q).toArray ++ Builtin.zeroCells (Value.agg #[.int .i64 0, .int .i64 0, .slice none 0 0]).cells k1 ++ Builtin.zeroCells (Value.agg #[.int .i64 0, .int .i64 0, .slice none 0 0]).cells (grownCap w N n 44 - N))[j]? = some u := by
      rw [Array.getElem?_append_left (by rw [Array.size_append]; simp only [List.size_toArray]; omega), Array.getElem?_append_left (by simp only [List.size_toArray]; omega)]
      simpa using hu
    simpa [go_sem] using hs
/-- What an insertion ahead of the end does. -/
theorem ins_worlds {w : World} (b n q k1 k2 r N lb : Nat) (X Y : Nat → Int) (K : Nat → Nat) (AA : Nat → Option Addr) (CC : Nat → Nat) (x y : Int) (a : Option Addr) (k c : Nat) (hn : n ≤ 1000) (hq : q < n) (hk : q + k1 = N) (hk2 : k2 = n - q) (hr : r = q + 1) (hN : N = n + 1) (hp : ∀ i, i < n → w.cell? ⟨b, i * 3, none⟩ = some (.int .i64 (X i)) ∧ w.cell? ⟨b, i * 3 + 1, none⟩ = some (.int .i64 (Y i)) ∧ w.cell? ⟨b, i * 3 + 2, none⟩ = some (.slice (AA i) (K i) (CC i))) (hb : b < w.heap.size) (hlb : lb < w.heap.size)
    (h0 : w.cell? ⟨lb, 0, none⟩ = some (.int .i64 x)) (h1 : w.cell? ⟨lb, 1, none⟩ = some (.int .i64 y)) (h2 : w.cell? ⟨lb, 2, none⟩ = some (.slice a k c)) :
    ∃ g cap W2 W3 W4, (∀ ty, (Builtin.append_ #[34, 3] ty #[.slice (some ⟨b, 0, none⟩) q n, .int .i64 (k1 : Int)]).run Try.prog w = .ok (.slice (some ⟨g, 0, none⟩) N cap) W2) ∧ N ≤ cap ∧
      (∀ ty c', (Builtin.copy_ #[34, 34] ty #[.slice (some ⟨g, q * 3, none⟩) k1 c', .slice (some ⟨lb, 0, none⟩) 1 1]).run Try.prog W2 = .ok (goInt (1 : Nat)) W3) ∧
      (∀ ty c', (Builtin.copy_ #[34, 34] ty #[.slice (some ⟨g, r * 3, none⟩) k2 c', .slice (some ⟨b, q * 3, none⟩) k2 k2]).run Try.prog W3.drew = .ok (goInt k2) W4) ∧ InsP w n q X Y K AA CC x y a k c g W4 := by
  obtain ⟨g, cap, W2, g1, g2, rfl, g3, g4, g5, g6, g7⟩ := ins_grow b n q k1 N X Y K AA CC hn hq hk hN hp
  obtain ⟨g, hg⟩ : ∃ g, w.heap.size = g := ⟨_, rfl⟩
  rw [hg] at g1 g3 g4 g5 g6
  obtain ⟨W3, hW3⟩ : ∃ W3, W3 = W2.setCells g (q * 3) [.int .i64 x, .int .i64 y, .slice a k c] := ⟨_, rfl⟩
  have bs3 : Beside g W2 W3 := by rw [hW3]; exact Beside.setCells _ _ _ _
  have b3 : Below w.heap.size w W3 := g7.trans (bs3.below (by omega) g7.size)
  have hcp : ∀ ty c', (Builtin.copy_ #[34, 34] ty #[.slice (some ⟨g, q * 3, none⟩) k1 c', .slice (some ⟨lb, 0, none⟩) 1 1]).run Try.prog W2 = .ok (goInt (1 : Nat)) W3 := fun ty c' => by
    rw [hW3]
    refine run_copy3 W2 g (q * 3) k1 c' ⟨lb, 0, none⟩ 1 1 1 [.int .i64 x, .int .i64 y, .slice a k c] rfl (Nat.min_eq_left (by omega)) (fun j u hu => ?_) (fun j hj => g5 _ (by simp at hj; omega)) (fun j hj => g4 _) (three_one _ _ _ _ _) ty
    rw [Addr.add_lit, Nat.zero_add]
    match j, hu with
    | 0, hu => cases hu; exact (g7.cell (p := ⟨lb, 0, none⟩) hlb).trans h0
    | 1, hu => cases hu; exact (g7.cell (p := ⟨lb, 1, none⟩) hlb).trans h1
    | 2, hu => cases hu; exact (g7.cell (p := ⟨lb, 2, none⟩) hlb).trans h2
  have hl := ptC_len (fun i => X (q + i)) (fun i => Y (q + i)) (fun i => K (q + i)) (fun i => AA (q + i)) (fun i => CC (q + i)) (n - q)
  have hsrc : ∀ j u, (ptC (fun i => X (q + i)) (fun i => Y (q + i)) (fun i => K (q + i)) (fun i => AA (q + i)) (fun i => CC (q + i)) (n - q))[j]? = some u → W3.cell? ⟨b, q * 3 + j, none⟩ = some u := fun j u hu => by
    refine ptC_cells (w := W3) (b := b) (o := q * 3) (fun i hi => ?_) j u hu
    obtain ⟨t0, t1, t2⟩ := hp (q + i) (by omega)
    have e0 := (b3.cell (p := ⟨b, (q + i) * 3, none⟩) hb).trans t0
    have e1 := (b3.cell (p := ⟨b, (q + i) * 3 + 1, none⟩) hb).trans t1
    have e2 := (b3.cell (p := ⟨b, (q + i) * 3 + 2, none⟩) hb).trans t2
    rw [show q * 3 + i * 3 = (q + i) * 3 by omega]
    exact ⟨e0, e1, e2⟩
  have is3 : ∀ j, j < N * 3 → (W3.cell? ⟨g, j, none⟩).isSome = true := fun j hj => by rw [hW3]; exact some_setCells _ _ _ _ _ (g5 j hj)
  have fr3 : ∀ o, W3.frozen? ⟨g, o, none⟩ = false := fun o => by rw [hW3, World.frozen?_setCells]; exact g4 o
  have c3 : ∀ j u, [Value.int .i64 x, .int .i64 y, .slice a k c][j]? = some u → W3.cell? ⟨g, q * 3 + j, none⟩ = some u := fun j u hu => by
    have hj := (List.getElem?_eq_some_iff.1 hu).1
    have e := (List.getElem?_eq_some_iff.1 hu).2
    rw [hW3, World.cell?_setCells_in _ _ _ _ (fun i hi => g5 _ (by simp at hi; omega)) j hj, e]
  have o3 : ∀ j, j < q * 3 → W3.cell? ⟨g, j, none⟩ = W2.cell? ⟨g, j, none⟩ := fun j hj => by
    rw [hW3]; exact World.cell?_setCells_out _ _ _ _ ⟨g, j, none⟩ (fun _ _ => Or.inl hj)
  obtain ⟨W4, hW4⟩ : ∃ W4, W4 = W3.drew.setCells g (r * 3) (ptC (fun i => X (q + i)) (fun i => Y (q + i)) (fun i => K (q + i)) (fun i => AA (q + i)) (fun i => CC (q + i)) (n - q)) := ⟨_, rfl⟩
  have bs4 : Beside g W3.drew W4 := by rw [hW4]; exact Beside.setCells _ _ _ _
  have o4 : ∀ j, j < r * 3 → W4.cell? ⟨g, j, none⟩ = W3.cell? ⟨g, j, none⟩ := fun j hj => by
    rw [hW4, World.cell?_setCells_out _ _ _ _ ⟨g, j, none⟩ (fun _ _ => Or.inl hj)]; rfl
  have i4 : ∀ j u, (ptC (fun i => X (q + i)) (fun i => Y (q + i)) (fun i => K (q + i)) (fun i => AA (q + i)) (fun i => CC (q + i)) (n - q))[j]? = some u → W4.cell? ⟨g, r * 3 + j, none⟩ = some u := fun j u hu => by
    have hj := (List.getElem?_eq_some_iff.1 hu).1
    have e := (List.getElem?_eq_some_iff.1 hu).2
    have is4 : ∀ i, i < (ptC (fun i => X (q + i)) (fun i => Y (q + i)) (fun i => K (q + i)) (fun i => AA (q + i)) (fun i => CC (q + i)) (n - q)).length → (W3.drew.cell? ⟨g, r * 3 + i, none⟩).isSome = true := fun i hi => is3 _ (by rw [hl] at hi; omega)
    rw [hW4, World.cell?_setCells_in g (ptC (fun i => X (q + i)) (fun i => Y (q + i)) (fun i => K (q + i)) (fun i => AA (q + i)) (fun i => CC (q + i)) (n - q)) (r * 3) W3.drew is4 j hj, e]
  have hcp2 : ∀ ty c', (Builtin.copy_ #[34, 34] ty #[.slice (some ⟨g, r * 3, none⟩) k2 c', .slice (some ⟨b, q * 3, none⟩) k2 k2]).run Try.prog W3.drew = .ok (goInt k2) W4 := fun ty c' => by
    rw [hW4]
    exact run_copy3 W3.drew g (r * 3) k2 c' ⟨b, q * 3, none⟩ k2 k2 k2 (ptC (fun i => X (q + i)) (fun i => Y (q + i)) (fun i => K (q + i)) (fun i => AA (q + i)) (fun i => CC (q + i)) (n - q)) (by rw [hl, hk2]) (Nat.min_self _) (fun j u hu => by rw [Addr.add_lit]; exact hsrc j u hu) (fun j hj => is3 _ (by rw [hl] at hj; omega)) (fun j hj => fr3 _) (ptC_one _ _ _ _ _ _) ty
  refine ⟨g, cap, W2, W3, W4, g1, g2, hcp, hcp2, by omega, ?_, fun o => ?_, fun i hi => ?_, b3.trans ((Beside.of (by exact Below.drew (Below.refl _ _)) : Beside g W3 W3.drew).trans bs4 |>.below (by omega) b3.size)⟩
  · have := bs4.2.2.2.1; have := bs3.2.2.2.1; simp at *; omega
  · rw [hW4, World.frozen?_setCells]; exact fr3 o
  · by_cases z : i < q
    · obtain ⟨r0, r1, r2⟩ := ptC_at X Y K AA CC q i z
      rw [inF_lt z, inF_lt z, inF_lt z, inF_lt z, inF_lt z, o4 _ (by omega), o4 _ (by omega), o4 _ (by omega), o3 _ (by omega), o3 _ (by omega), o3 _ (by omega)]
      exact ⟨g6 _ _ r0, g6 _ _ r1, g6 _ _ r2⟩
    · by_cases z2 : i = q
      · subst z2
        rw [inF_eq, inF_eq, inF_eq, inF_eq, inF_eq, o4 _ (by omega), o4 _ (by omega), o4 _ (by omega)]
        exact ⟨c3 0 _ rfl, c3 1 _ rfl, c3 2 _ rfl⟩
      · have z3 : q < i := by omega
        rw [inF_gt z3, inF_gt z3, inF_gt z3, inF_gt z3, inF_gt z3]
        obtain ⟨r0, r1, r2⟩ := ptC_at (fun i => X (q + i)) (fun i => Y (q + i)) (fun i => K (q + i)) (fun i => AA (q + i)) (fun i => CC (q + i)) (n - q) (i - 1 - q) (by omega)
        have t0 := i4 _ _ r0
        have t1 := i4 _ _ r1
        have t2 := i4 _ _ r2
        rw [show r * 3 + (i - 1 - q) * 3 = i * 3 by omega, show q + (i - 1 - q) = i - 1 by omega] at t0
        rw [show r * 3 + ((i - 1 - q) * 3 + 1) = i * 3 + 1 by omega, show q + (i - 1 - q) = i - 1 by omega] at t1
        rw [show r * 3 + ((i - 1 - q) * 3 + 2) = i * 3 + 2 by omega, show q + (i - 1 - q) = i - 1 by omega] at t2
        exact ⟨t0, t1, t2⟩

end Go.Proofs.Ytikcfpjfcpbfcaa
