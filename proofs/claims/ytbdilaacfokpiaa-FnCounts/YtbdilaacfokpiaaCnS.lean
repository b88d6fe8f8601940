/-
What is proved: the count that the specification tells of a number.
-/
import Derived.Test.YtbdilaacfokpiaaCnN
import Derived.Test.YtbdilaacfokpiaaSeS
import Derived.Deep.RegionHeld3
import Derived.Deep.DeepCutAuto
namespace Go.Proofs.Ytbdilaacfokpiaa
set_option maxRecDepth 40000
open Go.ChangeShapes Go.WideShapes Go.ChangeAt Go.RowKit
set_option linter.unusedVariables false
set_option linter.unusedSimpArgs false

set_option maxRecDepth 20000 in
set_option maxHeartbeats 2000000 in
theorem specCountOf_any (a b x : Nat) (la : a < 18446744073709551616) (lb : b < 18446744073709551616) (X : Option Nat) (hx : Fl x X) (w : World) :
    Calls Try.prog 6 #[.agg #[.float .f64 a, .float .f64 b], .float .f64 x] w fun e w' => ∃ c, CntV a b X c ∧ e = .returned (.int .i64 c) ∧ Below w.heap.size w w' := by
  have HX : Hid (Fl x X) := hx
  have HR : Hid (∀ (c : Int) (w : World), Calls Try.prog 9 #[.agg #[.float .f64 a, .float .f64 b], .int .i64 c] w fun e w' => ∃ r, e = .returned (.float .f64 r) ∧ Fl r (readO a b c) ∧ Below w.heap.size w w') := fun c w => specRead_any a b la lb c w
  clear hx la lb
  go_enter Try.func6, Try.ntmps6
  go_upto_region 1 with fail
  obtain ⟨wa, hwa⟩ : ∃ wa, wa = w.alloc (.cells #[.float .f64 a, .float .f64 b] 26) := ⟨_, rfl⟩
  rw [← hwa]
  have B1 : Below w.heap.size w wa := by rw [hwa]; exact below0 _ _
  have c0 : wa.cell? ⟨w.heap.size, 0, none⟩ = some (.float .f64 a) := by rw [hwa]; simp [go_sem]
  have c1 : wa.cell? ⟨w.heap.size, 1, none⟩ = some (.float .f64 b) := by rw [hwa]; simp [go_sem]
  have z1 : w.heap.size < wa.heap.size := by rw [hwa]; simp
  have HC : Hid (wa.cell? ⟨w.heap.size, 0, none⟩ = some (.float .f64 a) ∧ wa.cell? ⟨w.heap.size, 1, none⟩ = some (.float .f64 b) ∧ w.heap.size < wa.heap.size) := ⟨c0, c1, z1⟩
  clear hwa c0 c1 z1
  go_wp2_with fail
  go_loopw [5] (fun i wr => ∃ c : Int, 40 ≤ c ∧ c ≤ 4056 ∧ i = .int .i64 c ∧ Hid (∀ k, 40 ≤ k → k < c → rchB a b X k = false) ∧ Below wa.heap.size wa wr) (fun i _ => (4056 - intOf i).toNat)
  case atStart => exact ⟨40, by omega, by omega, rfl, fun k h1 h2 => by omega, Below.refl _ _⟩
  case round =>
    obtain ⟨c, h1, h2, rfl, HP, hB⟩ := hrel
    by_cases hc : c ≤ 4055
    · obtain ⟨c0, c1, z1⟩ := HC.out
      have d0 := (hB.cell (p := ⟨w.heap.size, 0, none⟩) z1).trans c0
      have d1 := (hB.cell (p := ⟨w.heap.size, 1, none⟩) z1).trans c1
      have z2 : w.heap.size < wr.heap.size := Nat.lt_of_lt_of_le z1 hB.size
      have HBr : Hid (Below wa.heap.size wa wr) := hB
      clear c0 c1 z1 hB
      go_wp2_with fail
      refine (HR.out c _).mono ?_
      rintro e w3 ⟨r, rfl, hr, h3⟩
      have B3 : Below wa.heap.size wa w3 := HBr.out.trans (h3.mono HBr.out.size)
      have HB3 : Hid (Below wa.heap.size wa w3) := B3
      have BW : Below w.heap.size w w3 := B1.trans (B3.mono B1.size)
      clear h3 d0 d1 z2 B3 HBr
      cases hb : rchB a b X c
      · have HN : Hid (∀ k, 40 ≤ k → k < c + 1 → rchB a b X k = false) := fun k k0 k1 => by
          by_cases q : k = c
          · rw [q]; exact hb
          · exact HP.out k k0 (by omega)
        rcases ge_no hr HX.out hb with ho | ho
        all_goals
          clear hb hr BW
          go_wp2
          go_roundw
          case rel => exact ⟨c + 1, by omega, by omega, by go_num, HN, HB3.out⟩
          case measure => simp [intOf]; omega
      · have HV : Hid (CntV a b X c) := Or.inr ⟨h1, hc, hb, HP.out⟩
        rcases ge_yes hr HX.out hb with ho | ho
        all_goals
          clear hb hr
          go_wp2
          go_ret
          exact ⟨c, HV.out, rfl, BW⟩
    · have HV : Hid (CntV a b X (-1)) := Or.inl ⟨rfl, fun k k0 k1 => HP.out k k0 (by omega)⟩
      have BW : Below w.heap.size w wr := B1.trans (hB.mono B1.size)
      have hc2 : decide (c ≤ 4055) = false := decide_eq_false hc
      go_wp2
      go_ret
      exact ⟨-1, HV.out, rfl, BW⟩
end Go.Proofs.Ytbdilaacfokpiaa
