/-
What is proved: the specification's sets as lists, least sets, and the order of two lists as long.
-/
import Derived.Test.YtpaiajeigdifcaaCxIz
import Derived.Test.YtpaiajeigdifcaaQcC
import Derived.BigQuiet
import Derived.Deep.DeepCutAuto
namespace Go.Proofs.Ytpaiajeigdifcaa
set_option maxRecDepth 40000
open Go.ChangeShapes Go.WideShapes Go.ChangeAt Go.RowKit
set_option linter.unusedVariables false
set_option linter.unusedSimpArgs false

theorem bit_i64u (b k : Nat) (hb : b < 2 ^ 62) : (bits .and .i64 ((b : Int) / 2 ^ k) 1 == (1 : Int)) = b.testBit k := bit_i64 b k hb
set_option maxRecDepth 20000 in
set_option maxHeartbeats 2000000 in
theorem l23Set_any (x b : Nat) (s : Option Addr) (n c : Nat) (w : World) (x1 : x ≤ 10) (hb : b < 1024) (HX : Hid (b < 2 ^ x)) :
    Calls Try.prog 50 #[.agg #[.int .i64 (x : Int), .slice s n c], .int .i64 (b : Int)] w fun e w' => ∃ s c, e = .returned (.slice s (popS b) c) ∧ OwnI w.heap.size w' s (popS b) (nthI (lsT b 10)) ∧ Below w.heap.size w w' := by
  go_enter Try.func50, Try.ntmps50
  go_upto_region 1 with fail
  obtain ⟨wd, hwd⟩ : ∃ wd, wd = w.alloc (.cells #[.int .i64 (x : Int), .slice s n c] 26) := ⟨_, rfl⟩
  rw [← hwd]
  have HB : Hid (Below w.heap.size w wd) := by rw [hwd]; exact ((by repeat (first | with_reducible exact Below.refl _ _ | with_reducible refine Below.setCell ?_ (by first | omega | (simp; done) | (simp; omega)) _ | with_reducible refine bDrewN ?_ _ | with_reducible refine Below.drew ?_ | with_reducible refine Below.alloc ?_ (by first | omega | (simp; done) | (simp; omega)) _)) : Below w.heap.size w (w.alloc (.cells #[.int .i64 (x : Int), .slice s n c] 26)))
  have p0 : wd.cell? ⟨w.heap.size, 0, none⟩ = some (.int .i64 (x : Int)) := by rw [hwd]; simp [go_sem]
  have zd : w.heap.size < wd.heap.size := by rw [hwd]; simp
  have HP : Hid (wd.cell? ⟨w.heap.size, 0, none⟩ = some (.int .i64 (x : Int))) := p0
  clear hwd
  have HM0 : Hid (MadeL wd.heap.size 0 0 wd (wd.alloc (.cells #[] 2)) (.slice (some ⟨wd.heap.size, 0, none⟩) 0 0) []) := madeL_lit wd (Nat.le_refl _)
  clear p0
  go_wp2_with fail
  go_loopw [5, 6] (fun v i wr => ∃ k : Nat, k ≤ x ∧ i = .int .i64 k ∧ Hid (MadeL wd.heap.size 0 0 wd wr v (lsT b k))) (fun _ i _ => x - (intOf i).toNat)
  case atStart => exact ⟨0, Nat.zero_le _, rfl, HM0⟩
  case round =>
    clear HM0
    obtain ⟨k, hk, rfl, HM⟩ := hrel
    have hBr : Below wd.heap.size wd wr := HM.out.2.1
    have zr : wd.heap.size ≤ wr.heap.size := hBr.size
    have q0 := (hBr.cell (p := ⟨w.heap.size, 0, none⟩) zd).trans HP.out
    have zp : w.heap.size < wr.heap.size := by omega
    clear hBr
    by_cases h1 : k < x
    · have k1 : (k : Int) < (x : Int) := by omega
      have hbit := bit_i64 b k (by omega)
      cases q : b.testBit k
      · have HE : Hid (lsT b (k + 1) = lsT b k) := by show (if b.testBit k = true then lsT b k ++ [(k : Int)] else lsT b k) = _; rw [q]; rfl
        rw [q] at hbit
        go_wp2
        go_roundw
        case rel => exact ⟨k + 1, by omega, by go_num, by rw [HE.out]; exact HM.out⟩
        case measure => first | (simp [intOf]; done) | (simp [intOf]; omega)
      · have HE : Hid (lsT b (k + 1) = lsT b k ++ [(k : Int)]) := by show (if b.testBit k = true then lsT b k ++ [(k : Int)] else lsT b k) = _; rw [q]; rfl
        rw [q] at hbit
        have LL := ls_len b k
        obtain ⟨l, hl⟩ : ∃ l, lsT b k = l := ⟨_, rfl⟩
        rw [hl] at LL HE HM
        have HOH : Hid (wr.ownsRow wd.heap.size 2 1 u5 l.length (cellsOf l)) := HM.out.1
        clear hl
        go_wp2_with (at_builtin; refine list_i64h wd.heap.size u5 l.length (cellsOf l) (.tmp 20) (.tmp 22) (by rfl) (by rfl) (by rfl) (by rfl) HOH.out (by omega) (by omega) ?_; intro g' cap' w9 hown9 hgrow9 hlt9 hat9)
        go_roundw
        case rel => exact ⟨k + 1, by omega, by go_num, by rw [HE.out]; exact madeL_on HM.out (Below.refl _ _) (by omega) (by omega) hown9 hgrow9 hat9⟩
        case measure => first | (simp [intOf]; done) | (simp [intOf]; omega)
    · obtain rfl : k = x := by omega
      obtain ⟨s', cap, rfl, ho, -⟩ := madeL_own HM.out
      have HLn : Hid (popS b = (lsT b k).length) := by show _ = _; rw [(rev_at hb).2, ls_all HX.out x1]
      have HP2 : Hid (OwnI w.heap.size wr s' (popS b) (nthI (lsT b 10)) ∧ Below w.heap.size w wr) := ⟨by rw [HLn.out, ls_all HX.out x1]; exact ho.mono (Nat.le_of_lt zd), HB.out.trans (HM.out.2.1.mono HB.out.size)⟩
      clear ho HM
      obtain ⟨m, hm⟩ : ∃ m, (lsT b k).length = m := ⟨_, rfl⟩
      rw [hm] at HLn ⊢
      go_wp2
      go_ret
      exact ⟨s', cap, (by rw [HLn.out]; rfl), HP2.out.1, HP2.out.2⟩
set_option maxRecDepth 20000 in
set_option maxHeartbeats 4000000 in
theorem l23Minimal_any (b x : Nat) (s : Option Addr) (n c : Nat) (X : Nat → Int) (K : Nat → Nat) (V : Nat → Nat → Int) (w : World) (HT : Hid (treeB (x : Int) n X K V = true)) (HX : Hid (b < 2 ^ x)) (HR : Hid (RowGat w s n X K V)) :
    Calls Try.prog 51 #[.agg #[.int .i64 (x : Int), .slice s n c], .int .i64 (b : Int)] w fun e w' => e = .returned (.bool (mnB x n X K V b)) ∧ Below w.heap.size w w' := by
  obtain ⟨⟨x0, x1⟩, -, -⟩ := tree_yes HT.out
  have b10 : b < 1024 := Nat.lt_of_lt_of_le HX.out (Nat.pow_le_pow_right (by decide) (by omega) : 2 ^ x ≤ 2 ^ 10)
  go_enter Try.func51, Try.ntmps51
  go_upto_region 1 with fail
  obtain ⟨wd, hwd⟩ : ∃ wd, wd = w.alloc (.cells #[.int .i64 (x : Int), .slice s n c] 26) := ⟨_, rfl⟩
  rw [← hwd]
  have B0 : Below w.heap.size w wd := by rw [hwd]; exact (by repeat (first | with_reducible exact Below.refl _ _ | with_reducible refine Below.setCell ?_ (by first | omega | (simp; done) | (simp; omega)) _ | with_reducible refine bDrewN ?_ _ | with_reducible refine Below.drew ?_ | with_reducible refine Below.alloc ?_ (by first | omega | (simp; done) | (simp; omega)) _))
  have p0 : wd.cell? ⟨w.heap.size, 0, none⟩ = some (.int .i64 (x : Int)) := by rw [hwd]; simp [go_sem]
  have p1 : wd.cell? ⟨w.heap.size, 1, none⟩ = some (.slice s n c) := by rw [hwd]; simp [go_sem]
  have zd : w.heap.size < wd.heap.size := by rw [hwd]; simp
  clear hwd
  go_wp2_with fail
  refine (l23Fails_any b x s n c X K V _ HT HX (HR.out.below B0)).mono ?_
  rintro e w1 ⟨rfl, h1⟩
  replace p0 := (h1.cell (p := ⟨w.heap.size, 0, none⟩) zd).trans p0
  replace p1 := (h1.cell (p := ⟨w.heap.size, 1, none⟩) zd).trans p1
  have z1 := Nat.lt_of_lt_of_le zd h1.size
  have B1 : Below w.heap.size w w1 := B0.trans (h1.mono B0.size)
  clear h1 B0 zd
  cases h0 : faB b x n X K V
  · have HO : Hid (mnB x n X K V b = false) := by show _ = _; unfold mnB; rw [h0]; rfl
    go_wp2
    go_ret
    exact ⟨ret_bool HO.out.symm, (by repeat (first | with_reducible exact Below.refl _ _ | with_reducible exact B1 | with_reducible refine Below.setCell ?_ (by first | omega | (simp; done) | (simp; omega)) _ | with_reducible refine bDrewN ?_ _ | with_reducible refine Below.drew ?_ | with_reducible refine Below.alloc ?_ (by first | omega | (simp; done) | (simp; omega)) _))⟩
  have HO : Hid (mnB x n X K V b = lsB x n X K V b) := by show _ = _; unfold mnB; rw [h0]; rfl
  clear h0
  have HP : Hid (w1.cell? ⟨w.heap.size, 0, none⟩ = some (.int .i64 (x : Int)) ∧ w1.cell? ⟨w.heap.size, 1, none⟩ = some (.slice s n c) ∧ w.heap.size < w1.heap.size) := ⟨p0, p1, z1⟩
  have HB1 : Hid (Below w.heap.size w w1) := B1
  clear p0 p1 z1 B1
  go_wp2_with fail
  go_loopw [5] (fun i wr => ∃ k : Nat, k ≤ x ∧ i = .int .i64 k ∧ Hid (Below w1.heap.size w1 wr) ∧ Hid (∀ i, i < k → b.testBit i = true → faB (b - 2 ^ i) x n X K V = false)) (fun i _ => x - (intOf i).toNat)
  case atStart => exact ⟨0, Nat.zero_le _, rfl, Below.refl _ _, fun i h => by omega⟩
  case round =>
    obtain ⟨k, hk, rfl, HB, HA⟩ := hrel
    have q0 := (HB.out.cell (p := ⟨w.heap.size, 0, none⟩) HP.out.2.2).trans HP.out.1
    have q1 := (HB.out.cell (p := ⟨w.heap.size, 1, none⟩) HP.out.2.2).trans HP.out.2.1
    have zp : w.heap.size < wr.heap.size := Nat.lt_of_lt_of_le HP.out.2.2 HB.out.size
    have HBw : Hid (Below w.heap.size w wr) := HB1.out.trans (HB.out.mono HB1.out.size)
    by_cases h1 : k < x
    · have k1 : (k : Int) < (x : Int) := by omega
      have hbit := bit_i64 b k (by omega)
      cases q : b.testBit k
      · rw [q] at hbit
        have HA2 : Hid (∀ i, i < k + 1 → b.testBit i = true → faB (b - 2 ^ i) x n X K V = false) := fun i hi hb => by
          by_cases e : i = k
          · subst e; rw [q] at hb; cases hb
          · exact HA.out i (by omega) hb
        clear q
        go_wp2
        go_roundw
        case rel => exact ⟨k + 1, by omega, by go_num, HB, HA2⟩
        case measure => first | (simp [intOf]; done) | (simp [intOf]; omega)
      · rw [q] at hbit
        have HQ : Hid (b.testBit k = true) := q
        have hle := bit_le q
        have hw : wrap64 ((2 : Int) ^ k) = ((2 ^ k : Nat) : Int) := wpow k (by omega)
        obtain ⟨P, hP⟩ : ∃ P, 2 ^ k = P := ⟨_, rfl⟩
        rw [hP] at hw hle
        obtain ⟨D, hD⟩ : ∃ D, b - P = D := ⟨_, rfl⟩
        have HD : Hid (b - 2 ^ k = D) := by show b - 2 ^ k = D; rw [hP]; exact hD
        have hd : (b : Int) - (P : Int) = (D : Int) := by omega
        have hd1 : IntKind.i64.wrap ((b : Int) - (P : Int)) = (D : Int) := by rw [hd, IntKind.wrap_i64]; omega
        have HDX : Hid (D < 2 ^ x) := by have := HX.out; show D < 2 ^ x; omega
        have dl : (D : Int) < 1024 := by omega
        clear q hP hD
        go_wp2_with fail
        refine (l23Fails_any D x s n c X K V _ HT HDX (HR.out.below HBw.out)).mono ?_
        rintro e w3 ⟨rfl, h3⟩
        have HB3 : Hid (Below w1.heap.size w1 w3) := HB.out.trans (h3.mono HB.out.size)
        have HBw3 : Hid (Below w.heap.size w w3) := HBw.out.trans (h3.mono HBw.out.size)
        clear h3 q0 q1
        cases q2 : faB D x n X K V
        · have HA2 : Hid (∀ i, i < k + 1 → b.testBit i = true → faB (b - 2 ^ i) x n X K V = false) := fun i hi hb => by
            by_cases e : i = k
            · subst e; rw [HD.out]; exact q2
            · exact HA.out i (by omega) hb
          clear q2 hw
          go_wp2
          go_roundw
          case rel => exact ⟨k + 1, by omega, by go_num, HB3, HA2⟩
          case measure => first | (simp [intOf]; done) | (simp [intOf]; omega)
        · have HZ : Hid (mnB x n X K V b = false) := by
            show _ = _
            rw [HO.out]
            refine decide_eq_false fun h => ?_
            have := h k h1 HQ.out
            rw [HD.out, q2] at this
            cases this
          clear hw
          go_wp2
          go_ret
          exact ⟨ret_bool HZ.out.symm, HBw3.out⟩
    · obtain rfl : k = x := by omega
      have HZ : Hid (mnB k n X K V b = true) := by show _ = _; rw [HO.out]; exact decide_eq_true HA.out
      go_wp2
      go_ret
      exact ⟨ret_bool HZ.out.symm, HBw.out⟩
def LesPost (A B : Nat → Int) (m : Nat) (w : World) (e : Ending) (w' : World) : Prop := ∃ r : Bool, e = .returned (.bool r) ∧ (r = true ↔ lesL A B m) ∧ ∃ q, w' = w.drewN q
set_option maxRecDepth 20000 in
set_option maxHeartbeats 2000000 in
theorem l23Less_any (s t : Option Addr) (m c d : Nat) (A B : Nat → Int) (w : World) (m1 : m ≤ 10) (HA : Hid (RowI w s m A)) (HB : Hid (RowI w t m B)) :
    Calls Try.prog 52 #[.slice s m c, .slice t m d] w fun e w' => LesPost A B m w e w' := by
  go_enter Try.func52, Try.ntmps52
  go_wp2_with fail
  go_loopw [5] (fun i wr => ∃ k : Nat, k ≤ m ∧ i = .int .i64 k ∧ Hid (∃ q, wr = w.drewN q) ∧ Hid (∀ i, i < k → A i = B i)) (fun i _ => m - (intOf i).toNat)
  case atStart => exact ⟨0, Nat.zero_le _, rfl, ⟨0, rfl⟩, fun i h => by omega⟩
  case round =>
    obtain ⟨k, hk, rfl, HD, HE⟩ := hrel
    by_cases h1 : k < m
    · have k1 : (k : Int) < (m : Int) := by omega
      obtain ⟨ba, oa, rfl, ha, c0⟩ := HA.out k h1
      obtain ⟨bb, ob, rfl, hb, d0⟩ := HB.out k h1
      have e0 : wr.cell? ⟨ba, oa + k, none⟩ = some (.int .i64 (A k)) := by obtain ⟨q, e⟩ := HD.out; rw [e]; simpa [go_sem] using c0
      have e1 : wr.cell? ⟨bb, ob + k, none⟩ = some (.int .i64 (B k)) := by obtain ⟨q, e⟩ := HD.out; rw [e]; simpa [go_sem] using d0
      have za : ba < wr.heap.size := by obtain ⟨q, e⟩ := HD.out; rw [e]; simpa using ha
      have zb : bb < wr.heap.size := by obtain ⟨q, e⟩ := HD.out; rw [e]; simpa using hb
      obtain ⟨y, hy⟩ : ∃ y, A k = y := ⟨_, rfl⟩
      obtain ⟨z, hz⟩ : ∃ z, B k = z := ⟨_, rfl⟩
      have HY : Hid (A k = y) := hy
      have HZ : Hid (B k = z) := hz
      rw [hy] at e0
      rw [hz] at e1
      clear c0 d0 hy hz
      by_cases h2 : y = z
      · have HE2 : Hid (∀ i, i < k + 1 → A i = B i) := fun i hi => by
          by_cases e : i = k
          · subst e; rw [HY.out, HZ.out]; exact h2
          · exact HE.out i (by omega)
        subst h2
        have hne : (y != y) = false := by simp
        go_wp2_with fail
        go_quiet (fail)
        go_wp2
        go_roundw
        case rel => exact ⟨k + 1, by omega, by go_num, (by obtain ⟨q, e⟩ := HD.out; rw [e]; simp only [World.drewN_drewN]; exact ⟨_, rfl⟩), HE2⟩
        case measure => first | (simp [intOf]; done) | (simp [intOf]; omega)
      · have hne : (y != z) = true := by simpa using h2
        have HL : Hid (decide (y < z) = true ↔ lesL A B m) := by
          show _ ↔ _
          constructor
          · intro q
            exact ⟨k, h1, HE.out, by rw [HY.out, HZ.out]; exact of_decide_eq_true q⟩
          · rintro ⟨p, p1, p2, p3⟩
            rcases Nat.lt_trichotomy p k with e | e | e
            · have := HE.out p e; omega
            · subst e; rw [HY.out, HZ.out] at p3; exact decide_eq_true p3
            · have := p2 k e; rw [HY.out, HZ.out] at this; exact absurd this h2
        go_wp2_with fail
        go_quiet (fail)
        go_wp2_with fail
        first | go_quiet (fail) | skip
        go_wp2
        go_ret
        obtain ⟨q, e⟩ := HD.out
        subst e
        exact ⟨_, rfl, HL.out, (by simp only [World.drewN_drewN]; exact ⟨_, rfl⟩)⟩
    · obtain rfl : k = m := by omega
      have HL : Hid (false = true ↔ lesL A B k) := ⟨fun q => (by cases q), fun ⟨p, p1, p2, p3⟩ => (by have := HE.out p p1; omega)⟩
      go_wp2
      go_ret
      exact ⟨_, rfl, HL.out, HD.out⟩
end Go.Proofs.Ytpaiajeigdifcaa
