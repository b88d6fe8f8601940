/-
What is proved: four floats that are drawn for a calibration: any.
-/
import Derived.Test.YtpnhliijkepbbaaTeK
import Derived.Test.YtpnhliijkepbbaaRdC
import Derived.Deep.DeepCutAuto
namespace Go.Proofs.Ytpnhliijkepbbaa
set_option maxRecDepth 40000
open Go.ChangeShapes Go.WideShapes Go.ChangeAt Go.RowKit
set_option linter.unusedVariables false
set_option linter.unusedSimpArgs false

set_option maxHeartbeats 4000000 in
theorem drawCal_any {s : Option Addr} {n c : Nat} {w : World} (HC : Hid (Code8 w s n)) : Calls Try.prog 7 #[.slice s n c] w fun e w' => ∃ a b l h, e = .returned (.tuple #[.float .f64 a, .float .f64 b, .float .f64 l, .float .f64 h]) ∧ a < 18446744073709551616 ∧ b < 18446744073709551616 ∧ l < 18446744073709551616 ∧ h < 18446744073709551616 ∧ Below w.heap.size w w' := by
  go_enter Try.func7, Try.ntmps7
  go_wp2_with fail
  refine (open_any HC).mono ?_
  rintro e w1 ⟨rfl, R, b1⟩
  obtain ⟨r, hr0⟩ : ∃ r, r = w.heap.size := ⟨_, rfl⟩
  rw [← hr0] at R ⊢
  have HR : Hid (Rd w1 r s n c 0) := R
  have HS : Hid (Beside r w1 w1) := Beside.of (Below.refl _ _)
  have HB : Hid (Below w.heap.size w w1) := b1
  have hr : w.heap.size ≤ r := by omega
  clear R b1 hr0
  go_wp2_with fail
  refine (tenth_any HR (-900) 900 (by omega) (by omega) (by omega)).mono ?_
  rintro e w2 ⟨a, p2, rfl, la, R, bb⟩
  replace HR : Hid (Rd w2 r s n c p2) := R
  replace HS : Hid (Beside r w1 w2) := HS.out.trans bb
  clear R bb
  go_wp2_with fail
  refine (tenth_any HR (-900) 900 (by omega) (by omega) (by omega)).mono ?_
  rintro e w3 ⟨b, p3, rfl, lb, R, bb⟩
  replace HR : Hid (Rd w3 r s n c p3) := R
  replace HS : Hid (Beside r w1 w3) := HS.out.trans bb
  clear R bb
  go_wp2_with fail
  refine (once_any 8 (by omega) (by omega) HR).mono ?_
  rintro e w4 ⟨q, p4, rfl, R, bb⟩
  replace HR : Hid (Rd w4 r s n c p4) := R
  replace HS : Hid (Beside r w1 w4) := HS.out.trans bb
  clear R bb
  cases q
  case false =>
    go_wp2_with fail
    refine (once_any 8 (by omega) (by omega) HR).mono ?_
    rintro e w5 ⟨q2, p5, rfl, R, bb⟩
    replace HR : Hid (Rd w5 r s n c p5) := R
    replace HS : Hid (Beside r w1 w5) := HS.out.trans bb
    clear R bb
    cases q2
    case false =>
      go_wp2_with fail
      refine (tenth_any HR (-900) 900 (by omega) (by omega) (by omega)).mono ?_
      rintro e w6 ⟨x, p6, rfl, lx, R, bb⟩
      replace HR : Hid (Rd w6 r s n c p6) := R
      replace HS : Hid (Beside r w1 w6) := HS.out.trans bb
      clear R bb
      go_wp2_with fail
      refine (tenth_any HR (-900) 900 (by omega) (by omega) (by omega)).mono ?_
      rintro e w7 ⟨y, p7, rfl, ly, R, bb⟩
      replace HR : Hid (Rd w7 r s n c p7) := R
      replace HS : Hid (Beside r w1 w7) := HS.out.trans bb
      clear R bb
      go_wp2
      exact bodyPost_ret (v := .tuple #[.float .f64 a, .float .f64 b, .float .f64 x, .float .f64 y]) (by simp [results, Try.results7, go_sem]) rfl ⟨a, b, x, y, rfl, la, lb, lx, ly, HB.out.trans (HS.out.below hr HB.out.size)⟩
    case true =>
      go_wp2_with fail
      refine (float_any HR).mono ?_
      rintro e w8 ⟨x, p8, rfl, lx, R, bb⟩
      replace HR : Hid (Rd w8 r s n c p8) := R
      replace HS : Hid (Beside r w1 w8) := HS.out.trans bb
      clear R bb
      go_wp2_with fail
      refine (float_any HR).mono ?_
      rintro e w9 ⟨y, p9, rfl, ly, R, bb⟩
      replace HR : Hid (Rd w9 r s n c p9) := R
      replace HS : Hid (Beside r w1 w9) := HS.out.trans bb
      clear R bb
      go_wp2
      exact bodyPost_ret (v := .tuple #[.float .f64 a, .float .f64 b, .float .f64 x, .float .f64 y]) (by simp [results, Try.results7, go_sem]) rfl ⟨a, b, x, y, rfl, la, lb, lx, ly, HB.out.trans (HS.out.below hr HB.out.size)⟩
  case true =>
    go_wp2_with fail
    refine (once_any 8 (by omega) (by omega) HR).mono ?_
    rintro e w10 ⟨q2, p10, rfl, R, bb⟩
    replace HR : Hid (Rd w10 r s n c p10) := R
    replace HS : Hid (Beside r w1 w10) := HS.out.trans bb
    clear R bb
    cases q2
    case false =>
      go_wp2_with fail
      refine (tenth_any HR (-900) 900 (by omega) (by omega) (by omega)).mono ?_
      rintro e w11 ⟨x, p11, rfl, lx, R, bb⟩
      replace HR : Hid (Rd w11 r s n c p11) := R
      replace HS : Hid (Beside r w1 w11) := HS.out.trans bb
      clear R bb
      go_wp2_with fail
      refine (tenth_any HR (-900) 900 (by omega) (by omega) (by omega)).mono ?_
      rintro e w12 ⟨y, p12, rfl, ly, R, bb⟩
      replace HR : Hid (Rd w12 r s n c p12) := R
      replace HS : Hid (Beside r w1 w12) := HS.out.trans bb
      clear R bb
      go_wp2
      exact bodyPost_ret (v := .tuple #[.float .f64 a, .float .f64 a, .float .f64 x, .float .f64 y]) (by simp [results, Try.results7, go_sem]) rfl ⟨a, a, x, y, rfl, la, la, lx, ly, HB.out.trans (HS.out.below hr HB.out.size)⟩
    case true =>
      go_wp2_with fail
      refine (float_any HR).mono ?_
      rintro e w13 ⟨x, p13, rfl, lx, R, bb⟩
      replace HR : Hid (Rd w13 r s n c p13) := R
      replace HS : Hid (Beside r w1 w13) := HS.out.trans bb
      clear R bb
      go_wp2_with fail
      refine (float_any HR).mono ?_
      rintro e w14 ⟨y, p14, rfl, ly, R, bb⟩
      replace HR : Hid (Rd w14 r s n c p14) := R
      replace HS : Hid (Beside r w1 w14) := HS.out.trans bb
      clear R bb
      go_wp2
      exact bodyPost_ret (v := .tuple #[.float .f64 a, .float .f64 a, .float .f64 x, .float .f64 y]) (by simp [results, Try.results7, go_sem]) rfl ⟨a, a, x, y, rfl, la, la, lx, ly, HB.out.trans (HS.out.below hr HB.out.size)⟩
end Go.Proofs.Ytpnhliijkepbbaa
