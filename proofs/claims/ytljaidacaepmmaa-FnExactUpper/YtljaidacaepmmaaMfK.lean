/-
What is proved: cmp.Compare of ints and of uint32s, cmp.Or of two ints.
-/
import Derived.Test.YtljaidacaepmmaaMfO
import Derived.BigQuiet
import Derived.Deep.DeepCutAuto
namespace Go.Proofs.Ytljaidacaepmmaa
set_option maxRecDepth 40000
open Go.ChangeShapes Go.WideShapes Go.ChangeAt Go.RowKit
set_option linter.unusedVariables false
set_option linter.unusedSimpArgs false

def cmpV (a b : Int) : Int := if a < b then -1 else if b < a then 1 else 0
theorem cmp_lt {a b : Int} (h : a < b) : cmpV a b = -1 := by unfold cmpV; rw [if_pos h]
theorem cmp_ge {a b : Int} (h : b ≤ a) : 0 ≤ cmpV a b ∧ cmpV a b ≤ 1 := by
  unfold cmpV
  rw [if_neg (by omega)]
  split <;> omega
theorem cmp_neg (a b : Int) : cmpV a b < 0 ↔ a < b := by
  unfold cmpV
  split
  · omega
  · split <;> omega
set_option maxHeartbeats 400000 in
theorem isNaN_i64 (a : Int) (w : World) : Calls Try.prog 86 #[.int .i64 a] w fun e w' => e = .returned (.bool false) ∧ w' = w := by
  have h : (a != a) = false := bne_self_eq_false a
  go_enter Try.func86, Try.ntmps86
  go_wp2
  go_ret
  exact ⟨rfl, rfl⟩
set_option maxHeartbeats 800000 in
theorem compare_i64 (a b : Int) (w : World) : Calls Try.prog 79 #[.int .i64 a, .int .i64 b] w fun e w' => e = .returned (.int .i64 (cmpV a b)) ∧ w' = w := by
  go_enter Try.func79, Try.ntmps79
  go_wp2_with fail
  refine (isNaN_i64 a _).mono ?_
  rintro e w ⟨rfl, rfl⟩
  go_wp2_with fail
  refine (isNaN_i64 b _).mono ?_
  rintro e w ⟨rfl, rfl⟩
  by_cases h1 : a < b
  · have HO : Hid (cmpV a b = -1) := cmp_lt h1
    go_wp2
    go_ret
    exact ⟨ret_int HO.out.symm, rfl⟩
  have h1' : decide (a < b) = false := decide_eq_false h1
  by_cases h2 : b < a
  · have HO : Hid (cmpV a b = 1) := by show _ = _; unfold cmpV; rw [if_neg h1, if_pos h2]
    go_wp2
    go_ret
    exact ⟨ret_int HO.out.symm, rfl⟩
  have h2' : decide (b < a) = false := decide_eq_false h2
  have HO : Hid (cmpV a b = 0) := by show _ = _; unfold cmpV; rw [if_neg h1, if_neg h2]
  clear h1 h2
  go_wp2
  go_ret
  exact ⟨ret_int HO.out.symm, rfl⟩
set_option maxHeartbeats 400000 in
theorem isNaN_u32 (a : Int) (w : World) : Calls Try.prog 87 #[.int .u32 a] w fun e w' => e = .returned (.bool false) ∧ w' = w := by
  have h : (a != a) = false := bne_self_eq_false a
  go_enter Try.func87, Try.ntmps87
  go_wp2
  go_ret
  exact ⟨rfl, rfl⟩
set_option maxHeartbeats 800000 in
theorem compare_u32 (a b : Int) (w : World) : Calls Try.prog 81 #[.int .u32 a, .int .u32 b] w fun e w' => e = .returned (.int .i64 (cmpV a b)) ∧ w' = w := by
  go_enter Try.func81, Try.ntmps81
  go_wp2_with fail
  refine (isNaN_u32 a _).mono ?_
  rintro e w ⟨rfl, rfl⟩
  go_wp2_with fail
  refine (isNaN_u32 b _).mono ?_
  rintro e w ⟨rfl, rfl⟩
  by_cases h1 : a < b
  · have HO : Hid (cmpV a b = -1) := cmp_lt h1
    go_wp2
    go_ret
    exact ⟨ret_int HO.out.symm, rfl⟩
  have h1' : decide (a < b) = false := decide_eq_false h1
  by_cases h2 : b < a
  · have HO : Hid (cmpV a b = 1) := by show _ = _; unfold cmpV; rw [if_neg h1, if_pos h2]
    go_wp2
    go_ret
    exact ⟨ret_int HO.out.symm, rfl⟩
  have h2' : decide (b < a) = false := decide_eq_false h2
  have HO : Hid (cmpV a b = 0) := by show _ = _; unfold cmpV; rw [if_neg h1, if_neg h2]
  clear h1 h2
  go_wp2
  go_ret
  exact ⟨ret_int HO.out.symm, rfl⟩
def orV (a b : Int) : Int := if a = 0 then b else a
def OrZ (a b : Int) (j : Nat) : Prop := (0 < j → a = 0) ∧ (1 < j → b = 0)
set_option maxHeartbeats 800000 in
theorem or_any (g : Nat) (a b : Int) (w : World) (zg : g < w.heap.size) (c0 : w.cell? ⟨g, 0, none⟩ = some (.int .i64 a)) (c1 : w.cell? ⟨g, 1, none⟩ = some (.int .i64 b)) :
    Calls Try.prog 78 #[.slice (some ⟨g, 0, none⟩) 2 2] w fun e w' => e = .returned (.int .i64 (orV a b)) ∧ Below w.heap.size w w' := by
  go_enter Try.func78, Try.ntmps78
  go_wp2_with fail
  go_loopw [8] (fun i wr => ∃ j : Nat, j ≤ 2 ∧ i = .int .i64 j ∧ Hid (OrZ a b j) ∧ Hid (Below w.heap.size w wr)) (fun i _ => 2 - (intOf i).toNat)
  case atStart => exact ⟨0, by omega, rfl, ⟨fun h => by omega, fun h => by omega⟩, Below.refl _ _⟩
  case round =>
    obtain ⟨j, hj, rfl, HZ, HB⟩ := hrel
    rename World => wr
    have B1 := HB.out
    have d0 := (B1.cell (p := ⟨g, 0, none⟩) zg).trans c0
    have d1 := (B1.cell (p := ⟨g, 1, none⟩) zg).trans c1
    have z1 := Nat.lt_of_lt_of_le zg B1.size
    by_cases q0 : j = 0
    · subst q0
      by_cases h0 : a = 0
      · have HN : Hid (OrZ a b 1) := ⟨fun _ => h0, fun h => by omega⟩
        have h0b : (a != 0) = false := by simpa using h0
        clear h0
        go_wp2
        go_roundw
        case rel => exact ⟨1, by omega, by first | rfl | go_num, HN, HB⟩
        case measure => first | (simp [intOf]; done) | (simp [intOf]; omega)
      · have h1 : (a != 0) = true := by simpa using h0
        have HO : Hid (orV a b = a) := if_neg h0
        go_wp2
        go_ret
        exact ⟨by rw [HO.out]; rfl, B1⟩
    · by_cases q1 : j = 1
      · subst q1
        have ha := HZ.out.1 (by omega)
        have HO : Hid (orV a b = b) := if_pos ha
        clear ha
        by_cases h0 : b = 0
        · have HN : Hid (OrZ a b 2) := ⟨fun _ => HZ.out.1 (by omega), fun h => h0⟩
          have h0b : (b != 0) = false := by simpa using h0
          clear h0
          go_wp2
          go_roundw
          case rel => exact ⟨2, by omega, by first | rfl | go_num, HN, HB⟩
          case measure => first | (simp [intOf]; done) | (simp [intOf]; omega)
        · have h1 : (b != 0) = true := by simpa using h0
          go_wp2
          go_ret
          exact ⟨by rw [HO.out]; rfl, B1⟩
      · obtain rfl : j = 2 := by omega
        have HO : Hid (orV a b = 0) := by
          show _ = _
          unfold orV
          rw [if_pos (HZ.out.1 (by omega)), HZ.out.2 (by omega)]
        go_wp2
        go_ret
        exact ⟨by rw [HO.out]; rfl, B1⟩
end Go.Proofs.Ytljaidacaepmmaa
