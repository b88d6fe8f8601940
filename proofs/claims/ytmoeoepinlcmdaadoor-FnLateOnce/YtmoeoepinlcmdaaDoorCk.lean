/-
What is proved: a clock's step in numbers, and as impl.stepped and impl.whatToTell say it.
-/
import Derived.Test.YtmoeoepinlcmdaaDoorClI
import Derived.Test.YtmoeoepinlcmdaaDoorClS
import Derived.Test.YtmoeoepinlcmdaaDoorClkX
import Derived.Test.YtmoeoepinlcmdaaDoorNteX
import Derived.Test.YtmoeoepinlcmdaaDoorBoN
import Derived.Deep.RegionHeld3
import Derived.Deep.DeepCutAuto
import Derived.BigQuiet
namespace Go.Proofs.YtmoeoepinlcmdaaDoor
set_option maxRecDepth 40000
open Go.ChangeShapes Go.WideShapes Go.ChangeAt Go.RowKit
set_option linter.unusedVariables false
set_option linter.unusedSimpArgs false

def bitM (m t : Int) : Bool := bits BinOp.and IntKind.i64 (m / 2 ^ t.toNat) 1 == 1
def lesR (a r : Int) : Int := if r + 1 < a then r + 1 else a
def nxtC (a r : Int) (c : Bool) : Int × Bool := if c = true then (lesR a r, decide (lesR a r = a)) else (-1, false)
def whtC (a r : Int) (c : Bool) : Int := if c = true then (if r < 0 then 1 else if r + 1 = a then 3 else 0) else (if 0 ≤ r then 2 else 0)
theorem les_is (a r : Int) : lesR a r = if a < r + 1 then a else r + 1 := by unfold lesR; split <;> split <;> omega
set_option maxHeartbeats 2000000 in
theorem stepped_any (r : Int) (l : Bool) (m a : Int) (c : Bool) (w : World) (r0 : -1 ≤ r) (r1 : r ≤ 10000) (a1 : 1 ≤ a) (a2 : a ≤ 10000) :
    Calls Tryd.prog 34 #[.agg #[.int .i64 r, .bool l], .agg #[.int .i64 m, .int .i64 a], .bool c] w fun e w' => e = .returned (.agg #[.int .i64 (nxtC a r c).1, .bool (nxtC a r c).2]) ∧ Below w.heap.size w w' := by
  cases c
  · go_enter Tryd.func34, Tryd.ntmps34
    go_wp2
    exact bodyPost_ret (v := .agg #[.int .i64 (-1), .bool false]) (by simp [results, Tryd.results34, go_sem]) rfl ⟨rfl, (by repeat (first | with_reducible exact Below.refl _ _ | with_reducible refine Below.setCell ?_ (by first | omega | (simp; done) | (simp; omega)) _ | with_reducible refine bDrewN ?_ _ | with_reducible refine Below.drew ?_ | with_reducible refine Below.alloc ?_ (by first | omega | (simp; done) | (simp; omega)) _))⟩
  · have HO : Hid (nxtC a r true = (lesR a r, decide (lesR a r = a))) := rfl
    have HL := les_is a r
    by_cases t : a < r + 1
    · rw [if_pos t] at HL
      have HV : Hid ((nxtC a r true).1 = a ∧ (nxtC a r true).2 = true) := by rw [HO.out, HL]; exact ⟨rfl, decide_eq_true rfl⟩
      clear HL HO
      go_enter Tryd.func34, Tryd.ntmps34
      go_wp2
      exact bodyPost_ret (v := .agg #[.int .i64 a, .bool true]) (by simp [results, Tryd.results34, go_sem]) rfl ⟨by rw [HV.out.1, HV.out.2], (by repeat (first | with_reducible exact Below.refl _ _ | with_reducible refine Below.setCell ?_ (by first | omega | (simp; done) | (simp; omega)) _ | with_reducible refine bDrewN ?_ _ | with_reducible refine Below.drew ?_ | with_reducible refine Below.alloc ?_ (by first | omega | (simp; done) | (simp; omega)) _))⟩
    · rw [if_neg t] at HL
      have HV : Hid ((nxtC a r true).1 = r + 1 ∧ (nxtC a r true).2 = decide (r + 1 = a)) := by rw [HO.out, HL]; exact ⟨rfl, rfl⟩
      clear HL HO
      go_enter Tryd.func34, Tryd.ntmps34
      go_wp2
      exact bodyPost_ret (v := .agg #[.int .i64 (r + 1), .bool (r + 1 == a)]) (by simp [results, Tryd.results34, go_sem]) rfl ⟨by rw [HV.out.1, HV.out.2]; rfl, (by repeat (first | with_reducible exact Below.refl _ _ | with_reducible refine Below.setCell ?_ (by first | omega | (simp; done) | (simp; omega)) _ | with_reducible refine bDrewN ?_ _ | with_reducible refine Below.drew ?_ | with_reducible refine Below.alloc ?_ (by first | omega | (simp; done) | (simp; omega)) _))⟩
theorem wht_is {a r : Int} {l c : Bool} (r0 : -1 ≤ r) (ra : r ≤ a) (a1 : 1 ≤ a) (hl : l = decide (r = a)) :
    whtC a r c = if (!decide (r = -1)) && !(!decide ((nxtC a r c).1 = -1)) then 2 else if !(!decide (r = -1)) && (!decide ((nxtC a r c).1 = -1)) then 1 else if (!l) && (nxtC a r c).2 then 3 else 0 := by
  subst hl
  cases c
  · have e : nxtC a r false = (-1, false) := rfl
    rw [e]
    unfold whtC
    by_cases h : r = -1
    · subst h; simp
    · have : 0 ≤ r := by omega
      simp [h, this]
  · have e : nxtC a r true = (lesR a r, decide (lesR a r = a)) := rfl
    have hle : lesR a r = if r + 1 < a then r + 1 else a := rfl
    have hp : ¬ lesR a r = -1 := by rw [hle]; split <;> omega
    rw [e]
    unfold whtC
    by_cases h : r = -1
    · subst h; simp [hp]
    · have h2 : ¬ r < 0 := by omega
      simp only [h, hp, decide_false, Bool.not_false, Bool.true_and, Bool.not_true, Bool.false_and, if_neg h2]
      by_cases q : r + 1 = a
      · have e1 : lesR a r = a := by rw [hle]; split <;> omega
        have e2 : ¬ r = a := by omega
        simp [q, e1, e2]
      · by_cases q2 : r = a
        · subst q2
          simp
          try omega
        · have e1 : ¬ lesR a r = a := by rw [hle]; split <;> omega
          simp [q, e1]
set_option maxHeartbeats 4000000 in
theorem whatToTell_any (r : Int) (l : Bool) (r2 : Int) (l2 : Bool) (w : World) :
    Calls Tryd.prog 35 #[.agg #[.int .i64 r, .bool l], .agg #[.int .i64 r2, .bool l2]] w fun e w' => e = .returned (.int .i64 (if (!decide (r = -1)) && !(!decide (r2 = -1)) then 2 else if !(!decide (r = -1)) && (!decide (r2 = -1)) then 1 else if (!l) && l2 then 3 else 0)) ∧ Below w.heap.size w w' := by
  have RA : ∀ w1, Calls Tryd.prog 41 #[.agg #[.int .i64 r, .bool l]] w1 fun e w' => e = .returned (.bool (!decide (r = -1))) ∧ Below w1.heap.size w1 w' := fun w1 => runs_any r l w1
  have RB : ∀ w1, Calls Tryd.prog 41 #[.agg #[.int .i64 r2, .bool l2]] w1 fun e w' => e = .returned (.bool (!decide (r2 = -1))) ∧ Below w1.heap.size w1 w' := fun w1 => runs_any r2 l2 w1
  obtain ⟨p, hp⟩ : ∃ p, (!decide (r = -1)) = p := ⟨_, rfl⟩
  obtain ⟨q, hq⟩ : ∃ q, (!decide (r2 = -1)) = q := ⟨_, rfl⟩
  rw [hp] at RA ⊢
  rw [hq] at RB ⊢
  have HRA : Hid (∀ w1, Calls Tryd.prog 41 #[.agg #[.int .i64 r, .bool l]] w1 fun e w' => e = .returned (.bool p) ∧ Below w1.heap.size w1 w') := RA
  have HRB : Hid (∀ w1, Calls Tryd.prog 41 #[.agg #[.int .i64 r2, .bool l2]] w1 fun e w' => e = .returned (.bool q) ∧ Below w1.heap.size w1 w') := RB
  clear hp hq RA RB
  go_enter Tryd.func35, Tryd.ntmps35
  go_upto_region 1 with fail
  obtain ⟨wa, hwa⟩ : ∃ wa, wa = (w.alloc (.cells #[.int .i64 r, .bool l] 29)).alloc (.cells #[.int .i64 r2, .bool l2] 29) := ⟨_, rfl⟩
  rw [← hwa]
  have B0 : Below w.heap.size w wa := by rw [hwa]; exact (by repeat (first | with_reducible exact Below.refl _ _ | with_reducible refine Below.setCell ?_ (by first | omega | (simp; done) | (simp; omega)) _ | with_reducible refine bDrewN ?_ _ | with_reducible refine Below.drew ?_ | with_reducible refine Below.alloc ?_ (by first | omega | (simp; done) | (simp; omega)) _))
  have a0 : wa.cell? ⟨w.heap.size, 0, none⟩ = some (.int .i64 r) := by rw [hwa]; simp [go_sem]
  have a1 : wa.cell? ⟨w.heap.size, 1, none⟩ = some (.bool l) := by rw [hwa]; simp [go_sem]
  have b0 : wa.cell? ⟨w.heap.size + 1, 0, none⟩ = some (.int .i64 r2) := by rw [hwa]; simp [go_sem]
  have b1 : wa.cell? ⟨w.heap.size + 1, 1, none⟩ = some (.bool l2) := by rw [hwa]; simp [go_sem]
  have za : w.heap.size < wa.heap.size := by rw [hwa]; simp; try omega
  have zb : w.heap.size + 1 < wa.heap.size := by rw [hwa]; simp
  clear hwa
  go_wp2_with fail
  refine (HRA.out _).mono ?_
  rintro e w1 ⟨rfl, hs⟩
  replace a0 := (hs.cell (p := ⟨w.heap.size, 0, none⟩) za).trans a0
  replace a1 := (hs.cell (p := ⟨w.heap.size, 1, none⟩) za).trans a1
  replace b0 := (hs.cell (p := ⟨w.heap.size + 1, 0, none⟩) zb).trans b0
  replace b1 := (hs.cell (p := ⟨w.heap.size + 1, 1, none⟩) zb).trans b1
  replace B0 : Below w.heap.size w w1 := B0.trans (hs.mono B0.size)
  replace za := Nat.lt_of_lt_of_le za hs.size
  replace zb := Nat.lt_of_lt_of_le zb hs.size
  clear hs
  cases p
  · skip
    go_wp2_with fail
    refine (HRA.out _).mono ?_
    rintro e w2 ⟨rfl, hs⟩
    replace a0 := (hs.cell (p := ⟨w.heap.size, 0, none⟩) za).trans a0
    replace a1 := (hs.cell (p := ⟨w.heap.size, 1, none⟩) za).trans a1
    replace b0 := (hs.cell (p := ⟨w.heap.size + 1, 0, none⟩) zb).trans b0
    replace b1 := (hs.cell (p := ⟨w.heap.size + 1, 1, none⟩) zb).trans b1
    replace B0 : Below w.heap.size w w2 := B0.trans (hs.mono B0.size)
    replace za := Nat.lt_of_lt_of_le za hs.size
    replace zb := Nat.lt_of_lt_of_le zb hs.size
    clear hs
    go_wp2_with fail
    refine (HRB.out _).mono ?_
    rintro e w3 ⟨rfl, hs⟩
    replace a0 := (hs.cell (p := ⟨w.heap.size, 0, none⟩) za).trans a0
    replace a1 := (hs.cell (p := ⟨w.heap.size, 1, none⟩) za).trans a1
    replace b0 := (hs.cell (p := ⟨w.heap.size + 1, 0, none⟩) zb).trans b0
    replace b1 := (hs.cell (p := ⟨w.heap.size + 1, 1, none⟩) zb).trans b1
    replace B0 : Below w.heap.size w w3 := B0.trans (hs.mono B0.size)
    replace za := Nat.lt_of_lt_of_le za hs.size
    replace zb := Nat.lt_of_lt_of_le zb hs.size
    clear hs
    cases q
    · cases l <;> cases l2
      all_goals
        go_wp2
        go_ret
        exact ⟨by first | rfl | simp, (by repeat (first | with_reducible exact Below.refl _ _ | with_reducible exact B0 | with_reducible refine Below.setCell ?_ (by first | omega | (simp; done) | (simp; omega)) _ | with_reducible refine bDrewN ?_ _ | with_reducible refine Below.drew ?_ | with_reducible refine Below.alloc ?_ (by first | omega | (simp; done) | (simp; omega)) _))⟩
    · skip
      go_wp2
      go_ret
      exact ⟨by first | rfl | simp, (by repeat (first | with_reducible exact Below.refl _ _ | with_reducible exact B0 | with_reducible refine Below.setCell ?_ (by first | omega | (simp; done) | (simp; omega)) _ | with_reducible refine bDrewN ?_ _ | with_reducible refine Below.drew ?_ | with_reducible refine Below.alloc ?_ (by first | omega | (simp; done) | (simp; omega)) _))⟩
  · skip
    go_wp2_with fail
    refine (HRB.out _).mono ?_
    rintro e w2 ⟨rfl, hs⟩
    replace a0 := (hs.cell (p := ⟨w.heap.size, 0, none⟩) za).trans a0
    replace a1 := (hs.cell (p := ⟨w.heap.size, 1, none⟩) za).trans a1
    replace b0 := (hs.cell (p := ⟨w.heap.size + 1, 0, none⟩) zb).trans b0
    replace b1 := (hs.cell (p := ⟨w.heap.size + 1, 1, none⟩) zb).trans b1
    replace B0 : Below w.heap.size w w2 := B0.trans (hs.mono B0.size)
    replace za := Nat.lt_of_lt_of_le za hs.size
    replace zb := Nat.lt_of_lt_of_le zb hs.size
    clear hs
    cases q
    · skip
      go_wp2
      go_ret
      exact ⟨by first | rfl | simp, (by repeat (first | with_reducible exact Below.refl _ _ | with_reducible exact B0 | with_reducible refine Below.setCell ?_ (by first | omega | (simp; done) | (simp; omega)) _ | with_reducible refine bDrewN ?_ _ | with_reducible refine Below.drew ?_ | with_reducible refine Below.alloc ?_ (by first | omega | (simp; done) | (simp; omega)) _))⟩
    · skip
      go_wp2_with fail
      refine (HRA.out _).mono ?_
      rintro e w3 ⟨rfl, hs⟩
      replace a0 := (hs.cell (p := ⟨w.heap.size, 0, none⟩) za).trans a0
      replace a1 := (hs.cell (p := ⟨w.heap.size, 1, none⟩) za).trans a1
      replace b0 := (hs.cell (p := ⟨w.heap.size + 1, 0, none⟩) zb).trans b0
      replace b1 := (hs.cell (p := ⟨w.heap.size + 1, 1, none⟩) zb).trans b1
      replace B0 : Below w.heap.size w w3 := B0.trans (hs.mono B0.size)
      replace za := Nat.lt_of_lt_of_le za hs.size
      replace zb := Nat.lt_of_lt_of_le zb hs.size
      clear hs
      cases l <;> cases l2
      all_goals
        go_wp2
        go_ret
        exact ⟨by first | rfl | simp, (by repeat (first | with_reducible exact Below.refl _ _ | with_reducible exact B0 | with_reducible refine Below.setCell ?_ (by first | omega | (simp; done) | (simp; omega)) _ | with_reducible refine bDrewN ?_ _ | with_reducible refine Below.drew ?_ | with_reducible refine Below.alloc ?_ (by first | omega | (simp; done) | (simp; omega)) _))⟩
end Go.Proofs.YtmoeoepinlcmdaaDoor
