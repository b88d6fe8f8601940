/-
What is proved: what was counted and what is left of it, as both packages say it.
-/
import Derived.Test.YtnachghfgaaefaaIsW
import Derived.Test.YtnachghfgaaefaaRdgR
import Derived.Deep.RegionHeld3
import Derived.Deep.DeepCutAuto
import Derived.BigQuiet
namespace Go.Proofs.Ytnachghfgaaefaa
set_option maxRecDepth 40000
open Go.ChangeShapes Go.WideShapes Go.ChangeAt Go.RowKit
set_option linter.unusedVariables false
set_option linter.unusedSimpArgs false

theorem ball_succ0 {p : Nat → Prop} {k : Nat} (h : ∀ j, j < k → p j) (hk : p k) : ∀ j, j < k + 1 → p j := fun j hj => by
  by_cases e : j = k
  · exact e ▸ hk
  · exact h j (by omega)
def rdgB (z : Int × Int) : Bool := inB 0 99999 z.1 && inB 0 99999 z.2
def rdgC (z : Int × Int) : Int := (z.2 - z.1 + 100000) % 100000
theorem rdg_yes {z : Int × Int} (h : rdgB z = true) : (0 ≤ z.1 ∧ z.1 ≤ 99999) ∧ (0 ≤ z.2 ∧ z.2 ≤ 99999) := by
  unfold rdgB at h
  simp only [Bool.and_eq_true] at h
  exact ⟨inB_yes h.1, inB_yes h.2⟩
theorem rdg_in (z : Int × Int) : 0 ≤ rdgC z ∧ rdgC z ≤ 99999 := by unfold rdgC; omega
theorem rdg_rem {a b : Int} (a0 : 0 ≤ a ∧ a ≤ 99999) (b0 : 0 ≤ b ∧ b ≤ 99999) : Int.tmod (b - a + 100000) 100000 = rdgC (a, b) := by
  unfold rdgC
  exact Int.tmod_eq_emod_of_nonneg (by omega)
def metS (V : Nat → Int × Int) : Nat → Int
  | 0 => 0
  | k + 1 => metS V k + rdgC (V k)
theorem met_in (V : Nat → Int × Int) (k : Nat) : 0 ≤ metS V k ∧ metS V k ≤ k * 99999 := by
  induction k with
  | zero => exact ⟨Int.le_refl _, (by decide : (0 : Int) ≤ ((0 : Nat) : Int) * 99999)⟩
  | succ k ih =>
    have := rdg_in (V k)
    unfold metS
    omega
def metB (n : Nat) (V : Nat → Int × Int) (p : Int) : Bool := decide (n ≤ 300) && (inB 0 1000 p && decide (∀ j, j < n → rdgB (V j) = true))
def metC (n : Nat) (V : Nat → Int × Int) (p : Int) : Int := if metB n V p = true then metS V n else -1
def metL (n : Nat) (V : Nat → Int × Int) (p : Int) : Int := if metB n V p = true then metS V n - metS V n * p / 1000 else -1
theorem met_no {n : Nat} {V : Nat → Int × Int} {p : Int} (h : metB n V p = false) : metC n V p = -1 ∧ metL n V p = -1 := by unfold metC metL; rw [h]; exact ⟨rfl, rfl⟩
theorem met_yes {n : Nat} {V : Nat → Int × Int} {p : Int} (h : metB n V p = true) : metC n V p = metS V n ∧ metL n V p = metS V n - metS V n * p / 1000 := by unfold metC metL; rw [h]; exact ⟨rfl, rfl⟩
theorem met_off {n k : Nat} {V : Nat → Int × Int} {p : Int} (hk : k < n) (h : rdgB (V k) = false) : metB n V p = false := by
  unfold metB
  have : decide (∀ j, j < n → rdgB (V j) = true) = false := decide_eq_false (fun q => by have := q k hk; rw [h] at this; cases this)
  rw [this]
  simp
theorem met_mul {S p : Int} (s0 : 0 ≤ S) (s1 : S ≤ 30000000) (p0 : 0 ≤ p) (p1 : p ≤ 1000) : 0 ≤ S * p ∧ S * p ≤ 30000000000 := ⟨Int.mul_nonneg s0 p0, by
  have := Int.mul_le_mul s1 p1 p0 (by decide : (0 : Int) ≤ 30000000)
  omega⟩
theorem ret_two {a b c d : Int} (h1 : a = c) (h2 : b = d) : Ending.returned (.tuple #[.int .i64 a, .int .i64 b]) = Ending.returned (.tuple #[.int .i64 c, .int .i64 d]) := by rw [h1, h2]
set_option maxHeartbeats 800000 in
theorem right_any (a b : Int) (w : World) : Calls Try.prog 15 #[.agg #[.int .i64 a, .int .i64 b]] w fun e w' => e = .returned (.bool (rdgB (a, b))) ∧ Below w.heap.size w w' := by
  go_enter Try.func15, Try.ntmps15
  go_wp2_with fail
  refine (within_is _ _ _ _).mono ?_
  rintro e w1 ⟨rfl, rfl⟩
  cases e0 : inB 0 99999 a
  · go_wp2
    go_ret
    exact ⟨ret_bool (by unfold rdgB; rw [e0]; rfl), (by repeat (first | with_reducible exact Below.refl _ _ | with_reducible refine Below.setCell ?_ (by first | omega | (simp; done) | (simp; omega)) _ | with_reducible refine bDrewN ?_ _ | with_reducible refine Below.drew ?_ | with_reducible refine Below.alloc ?_ (by first | omega | (simp; done) | (simp; omega)) _))⟩
  go_wp2_with fail
  refine (within_is _ _ _ _).mono ?_
  rintro e w1 ⟨rfl, rfl⟩
  go_wp2
  go_ret
  exact ⟨ret_bool (by unfold rdgB; rw [e0]; rfl), (by repeat (first | with_reducible exact Below.refl _ _ | with_reducible refine Below.setCell ?_ (by first | omega | (simp; done) | (simp; omega)) _ | with_reducible refine bDrewN ?_ _ | with_reducible refine Below.drew ?_ | with_reducible refine Below.alloc ?_ (by first | omega | (simp; done) | (simp; omega)) _))⟩
set_option maxHeartbeats 800000 in
theorem counted_any (a b : Int) (w : World) (a0 : 0 ≤ a) (a1 : a ≤ 99999) (b0 : 0 ≤ b) (b1 : b ≤ 99999) : Calls Try.prog 16 #[.agg #[.int .i64 a, .int .i64 b]] w fun e w' => e = .returned (.int .i64 (rdgC (a, b))) ∧ Below w.heap.size w w' := by
  have hr := rdg_rem ⟨a0, a1⟩ ⟨b0, b1⟩
  have hs : (b - a + 100000) % 100000 = rdgC (a, b) := rfl
  go_enter Try.func16, Try.ntmps16
  go_wp2
  go_ret
  exact ⟨ret_int (by first | rfl | exact hr | exact hs), (by repeat (first | with_reducible exact Below.refl _ _ | with_reducible refine Below.setCell ?_ (by first | omega | (simp; done) | (simp; omega)) _ | with_reducible refine bDrewN ?_ _ | with_reducible refine Below.drew ?_ | with_reducible refine Below.alloc ?_ (by first | omega | (simp; done) | (simp; omega)) _))⟩
set_option maxRecDepth 20000 in
set_option maxHeartbeats 4000000 in
theorem specMetered_any (s : Option Addr) (n c : Nat) (V : Nat → Int × Int) (p : Int) (w : World) (hn : (n : Int) ≤ 1048576) (HR : Hid (RowReading w s n V)) :
    Calls Try.prog 6 #[.slice s n c, .int .i64 p] w fun e w' => e = .returned (.tuple #[.int .i64 (metC n V p), .int .i64 (metL n V p)]) ∧ Below w.heap.size w w' := by
  go_enter Try.func6, Try.ntmps6
  by_cases n1 : 300 < n
  · have b1 : (300 : Int) < (n : Int) := by omega
    have HO : Hid (metC n V p = -1 ∧ metL n V p = -1) := met_no (by unfold metB; rw [decide_eq_false (by omega)]; rfl)
    have B2 : Below w.heap.size w w := Below.refl _ _
    go_wp2
    exact bodyPost_ret (v := .tuple #[.int .i64 (-1), .int .i64 (-1)]) (by simp [results, Try.results6, go_sem]) rfl ⟨ret_two HO.out.1.symm HO.out.2.symm, (by repeat (first | with_reducible exact Below.refl _ _ | with_reducible exact B2 | with_reducible refine Below.setCell ?_ (by first | omega | (simp; done) | (simp; omega)) _ | with_reducible refine bDrewN ?_ _ | with_reducible refine Below.drew ?_ | with_reducible refine Below.alloc ?_ (by first | omega | (simp; done) | (simp; omega)) _))⟩
  have b1 : decide ((300 : Int) < (n : Int)) = false := decide_eq_false (by omega)
  have n2 : (n : Int) ≤ 300 := by omega
  go_wp2_with fail
  refine (l1In_is _ _ _ _).mono ?_
  rintro e w ⟨rfl, rfl⟩
  cases h0 : inB 0 1000 p
  · have HO : Hid (metC n V p = -1 ∧ metL n V p = -1) := met_no (by unfold metB; rw [h0]; simp)
    have B2 : Below w.heap.size w w := Below.refl _ _
    go_wp2
    exact bodyPost_ret (v := .tuple #[.int .i64 (-1), .int .i64 (-1)]) (by simp [results, Try.results6, go_sem]) rfl ⟨ret_two HO.out.1.symm HO.out.2.symm, (by repeat (first | with_reducible exact Below.refl _ _ | with_reducible exact B2 | with_reducible refine Below.setCell ?_ (by first | omega | (simp; done) | (simp; omega)) _ | with_reducible refine bDrewN ?_ _ | with_reducible refine Below.drew ?_ | with_reducible refine Below.alloc ?_ (by first | omega | (simp; done) | (simp; omega)) _))⟩
  obtain ⟨p0, p1⟩ := inB_yes h0
  have HF : Hid ((∀ j, j < n → rdgB (V j) = true) → metC n V p = metS V n ∧ metL n V p = metS V n - metS V n * p / 1000) := fun h => met_yes (by unfold metB; rw [decide_eq_true (by omega : n ≤ 300), h0, decide_eq_true h]; rfl)
  clear h0 n1 hn
  go_wp2_with fail
  go_loopw [6, 7] (fun v i wr => ∃ k : Nat, k ≤ n ∧ i = .int .i64 k ∧ v = .int .i64 (metS V k) ∧ Hid (∀ j, j < k → rdgB (V j) = true) ∧ Below w.heap.size w wr) (fun _ i _ => n - (intOf i).toNat)
  case atStart => exact ⟨0, Nat.zero_le _, rfl, rfl, fun j hj => by omega, Below.refl _ _⟩
  case round =>
    obtain ⟨k, hk, rfl, rfl, HP, hB⟩ := hrel
    have sb := met_in V k
    by_cases h1 : k < n
    · obtain ⟨g, o, rfl, hg, c0, c1⟩ := HR.out k h1
      replace c0 := (hB.cell (p := ⟨g, o + k * 2, none⟩) hg).trans c0
      replace c1 := (hB.cell (p := ⟨g, o + k * 2 + 1, none⟩) hg).trans c1
      have HS : Hid (metS V (k + 1) = metS V k + rdgC (V k)) := rfl
      have rb := rdg_in (V k)
      obtain ⟨⟨a, b⟩, hV⟩ : ∃ z, V k = z := ⟨_, rfl⟩
      rw [hV] at c0 c1 HS rb
      simp only at c0 c1
      have HV : Hid (V k = (a, b)) := hV
      have zg : g < wr.heap.size := Nat.lt_of_lt_of_le hg hB.size
      have k1 : (k : Int) < (n : Int) := by omega
      obtain ⟨S, hS⟩ : ∃ S, metS V k = S := ⟨_, rfl⟩
      rw [hS] at HS sb ⊢
      have s0 : 0 ≤ S := sb.1
      have s1 : S ≤ 30000000 := by omega
      clear hV hg sb hS
      go_wp2_with fail
      refine (l1In_is _ _ _ _).mono ?_
      rintro e wr ⟨rfl, rfl⟩
      cases e0 : inB 0 99999 a
      · have HO : Hid (metC n V p = -1 ∧ metL n V p = -1) := met_no (met_off h1 (by rw [HV.out]; unfold rdgB; rw [e0]; rfl))
        go_wp2
        exact bodyPost_ret (v := .tuple #[.int .i64 (-1), .int .i64 (-1)]) (by simp [results, Try.results6, go_sem]) rfl ⟨ret_two HO.out.1.symm HO.out.2.symm, (by repeat (first | with_reducible exact Below.refl _ _ | with_reducible exact hB | with_reducible refine Below.setCell ?_ (by first | omega | (simp; done) | (simp; omega)) _ | with_reducible refine bDrewN ?_ _ | with_reducible refine Below.drew ?_ | with_reducible refine Below.alloc ?_ (by first | omega | (simp; done) | (simp; omega)) _))⟩
      go_wp2_with fail
      refine (l1In_is _ _ _ _).mono ?_
      rintro e wr ⟨rfl, rfl⟩
      cases e1 : inB 0 99999 b
      · have HO : Hid (metC n V p = -1 ∧ metL n V p = -1) := met_no (met_off h1 (by rw [HV.out]; unfold rdgB; rw [e1]; simp))
        go_wp2
        exact bodyPost_ret (v := .tuple #[.int .i64 (-1), .int .i64 (-1)]) (by simp [results, Try.results6, go_sem]) rfl ⟨ret_two HO.out.1.symm HO.out.2.symm, (by repeat (first | with_reducible exact Below.refl _ _ | with_reducible exact hB | with_reducible refine Below.setCell ?_ (by first | omega | (simp; done) | (simp; omega)) _ | with_reducible refine bDrewN ?_ _ | with_reducible refine Below.drew ?_ | with_reducible refine Below.alloc ?_ (by first | omega | (simp; done) | (simp; omega)) _))⟩
      obtain ⟨a0, a1⟩ := inB_yes e0
      obtain ⟨d0, d1⟩ := inB_yes e1
      have HK : Hid (rdgB (V k) = true) := by show _ = _; rw [HV.out]; unfold rdgB; rw [e0, e1]; rfl
      have hr := rdg_rem ⟨a0, a1⟩ ⟨d0, d1⟩
      obtain ⟨r, hq⟩ : ∃ r, rdgC (a, b) = r := ⟨_, rfl⟩
      rw [hq] at hr rb HS
      have hs : (b - a + 100000) % 100000 = r := hq
      clear hq e0 e1
      go_wp2_with fail
      go_quiet (fail)
      go_wp2
      go_roundw
      case rel => exact ⟨k + 1, by omega, by go_num, by rw [HS.out], ball_succ0 HP.out HK.out, (by repeat (first | with_reducible exact Below.refl _ _ | with_reducible exact hB | with_reducible refine Below.setCell ?_ (by first | omega | (simp; done) | (simp; omega)) _ | with_reducible refine bDrewN ?_ _ | with_reducible refine Below.drew ?_ | with_reducible refine Below.alloc ?_ (by first | omega | (simp; done) | (simp; omega)) _))⟩
      case measure => first | (simp [intOf]; done) | (simp [intOf]; omega)
    · obtain rfl : k = n := by omega
      have HO : Hid (metC k V p = metS V k ∧ metL k V p = metS V k - metS V k * p / 1000) := HF.out HP.out
      obtain ⟨S, hS⟩ : ∃ S, metS V k = S := ⟨_, rfl⟩
      rw [hS] at HO sb ⊢
      have s0 : 0 ≤ S := sb.1
      have s1 : S ≤ 30000000 := by omega
      have mm := met_mul s0 s1 p0 p1
      obtain ⟨M, hM⟩ : ∃ M, S * p = M := ⟨_, rfl⟩
      rw [hM] at mm HO
      have ht : Int.tdiv M 1000 = M / 1000 := Int.tdiv_eq_ediv_of_nonneg mm.1
      clear sb hS
      go_wp2
      exact bodyPost_ret (v := .tuple #[.int .i64 S, .int .i64 (S - M / 1000)]) (by simp [results, Try.results6, go_sem]) rfl ⟨ret_two HO.out.1.symm HO.out.2.symm, (by repeat (first | with_reducible exact Below.refl _ _ | with_reducible exact hB | with_reducible refine Below.setCell ?_ (by first | omega | (simp; done) | (simp; omega)) _ | with_reducible refine bDrewN ?_ _ | with_reducible refine Below.drew ?_ | with_reducible refine Below.alloc ?_ (by first | omega | (simp; done) | (simp; omega)) _))⟩
set_option maxRecDepth 20000 in
set_option maxHeartbeats 4000000 in
theorem implMetered_any (s : Option Addr) (n c : Nat) (V : Nat → Int × Int) (p : Int) (w : World) (hn : (n : Int) ≤ 1048576) (HR : Hid (RowReading w s n V)) :
    Calls Try.prog 8 #[.slice s n c, .int .i64 p] w fun e w' => e = .returned (.tuple #[.int .i64 (metC n V p), .int .i64 (metL n V p)]) ∧ Below w.heap.size w w' := by
  go_enter Try.func8, Try.ntmps8
  by_cases n1 : 300 < n
  · have b1 : (300 : Int) < (n : Int) := by omega
    have HO : Hid (metC n V p = -1 ∧ metL n V p = -1) := met_no (by unfold metB; rw [decide_eq_false (by omega)]; rfl)
    have B2 : Below w.heap.size w w := Below.refl _ _
    go_wp2
    exact bodyPost_ret (v := .tuple #[.int .i64 (-1), .int .i64 (-1)]) (by simp [results, Try.results8, go_sem]) rfl ⟨ret_two HO.out.1.symm HO.out.2.symm, (by repeat (first | with_reducible exact Below.refl _ _ | with_reducible exact B2 | with_reducible refine Below.setCell ?_ (by first | omega | (simp; done) | (simp; omega)) _ | with_reducible refine bDrewN ?_ _ | with_reducible refine Below.drew ?_ | with_reducible refine Below.alloc ?_ (by first | omega | (simp; done) | (simp; omega)) _))⟩
  have b1 : decide ((300 : Int) < (n : Int)) = false := decide_eq_false (by omega)
  have n2 : (n : Int) ≤ 300 := by omega
  go_wp2_with fail
  refine (within_is _ _ _ _).mono ?_
  rintro e w ⟨rfl, rfl⟩
  cases h0 : inB 0 1000 p
  · have HO : Hid (metC n V p = -1 ∧ metL n V p = -1) := met_no (by unfold metB; rw [h0]; simp)
    have B2 : Below w.heap.size w w := Below.refl _ _
    go_wp2
    exact bodyPost_ret (v := .tuple #[.int .i64 (-1), .int .i64 (-1)]) (by simp [results, Try.results8, go_sem]) rfl ⟨ret_two HO.out.1.symm HO.out.2.symm, (by repeat (first | with_reducible exact Below.refl _ _ | with_reducible exact B2 | with_reducible refine Below.setCell ?_ (by first | omega | (simp; done) | (simp; omega)) _ | with_reducible refine bDrewN ?_ _ | with_reducible refine Below.drew ?_ | with_reducible refine Below.alloc ?_ (by first | omega | (simp; done) | (simp; omega)) _))⟩
  obtain ⟨p0, p1⟩ := inB_yes h0
  have HF : Hid ((∀ j, j < n → rdgB (V j) = true) → metC n V p = metS V n ∧ metL n V p = metS V n - metS V n * p / 1000) := fun h => met_yes (by unfold metB; rw [decide_eq_true (by omega : n ≤ 300), h0, decide_eq_true h]; rfl)
  clear h0 n1 hn
  go_wp2_with fail
  go_loopw [6, 19] (fun v i wr => ∃ k : Nat, k ≤ n ∧ i = .int .i64 k ∧ v = .int .i64 (metS V k) ∧ Hid (∀ j, j < k → rdgB (V j) = true) ∧ Below w.heap.size w wr) (fun _ i _ => n - (intOf i).toNat)
  case atStart => exact ⟨0, Nat.zero_le _, rfl, rfl, fun j hj => by omega, Below.refl _ _⟩
  case round =>
    obtain ⟨k, hk, rfl, rfl, HP, hB⟩ := hrel
    have sb := met_in V k
    by_cases h1 : k < n
    · obtain ⟨g, o, rfl, hg, c0, c1⟩ := HR.out k h1
      replace c0 := (hB.cell (p := ⟨g, o + k * 2, none⟩) hg).trans c0
      replace c1 := (hB.cell (p := ⟨g, o + k * 2 + 1, none⟩) hg).trans c1
      have HS : Hid (metS V (k + 1) = metS V k + rdgC (V k)) := rfl
      have rb := rdg_in (V k)
      obtain ⟨⟨a, b⟩, hV⟩ : ∃ z, V k = z := ⟨_, rfl⟩
      rw [hV] at c0 c1 HS rb
      simp only at c0 c1
      have HV : Hid (V k = (a, b)) := hV
      have zg : g < wr.heap.size := Nat.lt_of_lt_of_le hg hB.size
      have k1 : (k : Int) < (n : Int) := by omega
      obtain ⟨S, hS⟩ : ∃ S, metS V k = S := ⟨_, rfl⟩
      rw [hS] at HS sb ⊢
      have s0 : 0 ≤ S := sb.1
      have s1 : S ≤ 30000000 := by omega
      clear hV hg sb hS
      go_upto_region 7 with fail
      obtain ⟨wa, hwa⟩ : ∃ wa, wa = wr.alloc (.cells #[.int .i64 a, .int .i64 b] 37) := ⟨_, rfl⟩
      rw [← hwa]
      have hb : Below wr.heap.size wr wa := by rw [hwa]; exact below0 _ _
      have a0 : wa.cell? ⟨wr.heap.size, 0, none⟩ = some (.int .i64 a) := by rw [hwa]; simp [go_sem]
      have a1 : wa.cell? ⟨wr.heap.size, 1, none⟩ = some (.int .i64 b) := by rw [hwa]; simp [go_sem]
      have za : wr.heap.size < wa.heap.size := by rw [hwa]; simp
      have B2 : Below w.heap.size w wa := hB.trans (hb.mono hB.size)
      clear hwa hb c0 c1 zg
      go_wp2_with fail
      refine (right_any a b _).mono ?_
      rintro e w2 ⟨rfl, h2⟩
      replace a0 := (h2.cell (p := ⟨wr.heap.size, 0, none⟩) za).trans a0
      replace a1 := (h2.cell (p := ⟨wr.heap.size, 1, none⟩) za).trans a1
      replace za := Nat.lt_of_lt_of_le za h2.size
      replace B2 : Below w.heap.size w w2 := B2.trans (h2.mono B2.size)
      clear h2
      cases e0 : rdgB (a, b)
      · have HO : Hid (metC n V p = -1 ∧ metL n V p = -1) := met_no (met_off h1 (by rw [HV.out]; exact e0))
        go_wp2
        exact bodyPost_ret (v := .tuple #[.int .i64 (-1), .int .i64 (-1)]) (by simp [results, Try.results8, go_sem]) rfl ⟨ret_two HO.out.1.symm HO.out.2.symm, (by repeat (first | with_reducible exact Below.refl _ _ | with_reducible exact B2 | with_reducible refine Below.setCell ?_ (by first | omega | (simp; done) | (simp; omega)) _ | with_reducible refine bDrewN ?_ _ | with_reducible refine Below.drew ?_ | with_reducible refine Below.alloc ?_ (by first | omega | (simp; done) | (simp; omega)) _))⟩
      obtain ⟨⟨u0, u1⟩, v0, v1⟩ := rdg_yes e0
      have HK : Hid (rdgB (V k) = true) := by show _ = _; rw [HV.out]; exact e0
      clear e0
      simp only at u0 u1 v0 v1
      go_wp2_with fail
      refine (counted_any a b _ u0 u1 v0 v1).mono ?_
      rintro e w3 ⟨rfl, h2⟩
      replace B2 : Below w.heap.size w w3 := B2.trans (h2.mono B2.size)
      obtain ⟨r, hq⟩ : ∃ r, rdgC (a, b) = r := ⟨_, rfl⟩
      rw [hq] at rb HS ⊢
      clear hq h2
      go_wp2
      go_roundw
      case rel => exact ⟨k + 1, by omega, by go_num, by rw [HS.out], ball_succ0 HP.out HK.out, (by repeat (first | with_reducible exact Below.refl _ _ | with_reducible exact B2 | with_reducible refine Below.setCell ?_ (by first | omega | (simp; done) | (simp; omega)) _ | with_reducible refine bDrewN ?_ _ | with_reducible refine Below.drew ?_ | with_reducible refine Below.alloc ?_ (by first | omega | (simp; done) | (simp; omega)) _))⟩
      case measure => first | (simp [intOf]; done) | (simp [intOf]; omega)
    · obtain rfl : k = n := by omega
      have HO : Hid (metC k V p = metS V k ∧ metL k V p = metS V k - metS V k * p / 1000) := HF.out HP.out
      obtain ⟨S, hS⟩ : ∃ S, metS V k = S := ⟨_, rfl⟩
      rw [hS] at HO sb ⊢
      have s0 : 0 ≤ S := sb.1
      have s1 : S ≤ 30000000 := by omega
      have mm := met_mul s0 s1 p0 p1
      obtain ⟨M, hM⟩ : ∃ M, S * p = M := ⟨_, rfl⟩
      rw [hM] at mm HO
      have ht : Int.tdiv M 1000 = M / 1000 := Int.tdiv_eq_ediv_of_nonneg mm.1
      clear sb hS
      go_wp2
      exact bodyPost_ret (v := .tuple #[.int .i64 S, .int .i64 (S - M / 1000)]) (by simp [results, Try.results8, go_sem]) rfl ⟨ret_two HO.out.1.symm HO.out.2.symm, (by repeat (first | with_reducible exact Below.refl _ _ | with_reducible exact hB | with_reducible refine Below.setCell ?_ (by first | omega | (simp; done) | (simp; omega)) _ | with_reducible refine bDrewN ?_ _ | with_reducible refine Below.drew ?_ | with_reducible refine Below.alloc ?_ (by first | omega | (simp; done) | (simp; omega)) _))⟩
end Go.Proofs.Ytnachghfgaaefaa
