/-
What is proved: a word's bits turned round, by math/bits; what (impl.faults).compare answers.
-/
import Derived.Test.YtljaidacaepmmaaMfP
import Derived.BigQuiet
import Derived.Deep.DeepCutAuto
namespace Go.Proofs.Ytljaidacaepmmaa
set_option maxRecDepth 40000
open Go.ChangeShapes Go.WideShapes Go.ChangeAt Go.RowKit
set_option linter.unusedVariables false
set_option linter.unusedSimpArgs false

def mixF (s m y : Int) : Int := bits .or .u32 (bits .and .u32 (y / s) m) (bits .and .u32 y m * s % 4294967296)
def rbF (x : Int) : Int := bits .or .u32 (mixF 256 16711935 x / 65536) (mixF 256 16711935 x * 65536 % 4294967296)
def revF (x : Int) : Int := rbF (mixF 16 252645135 (mixF 4 858993459 (mixF 2 1431655765 x)))
set_option maxRecDepth 20000 in
set_option maxHeartbeats 1600000 in
theorem revBytes_any (x : Int) (w : World) :
    Calls Try.prog 88 #[.int .u32 x] w fun e w' => e = .returned (.int .u32 (rbF x)) ∧ w' = w := by
  go_enter Try.func88, Try.ntmps88
  go_wp2
  go_ret
  exact ⟨rfl, rfl⟩
set_option maxRecDepth 20000 in
set_option maxHeartbeats 1600000 in
theorem rev_any (x : Int) (w : World) :
    Calls Try.prog 82 #[.int .u32 x] w fun e w' => e = .returned (.int .u32 (revF x)) ∧ w' = w := by
  go_enter Try.func82, Try.ntmps82
  go_wp2_with fail
  refine (revBytes_any _ _).mono ?_
  rintro e w1 ⟨rfl, rfl⟩
  go_wp2
  go_ret
  exact ⟨rfl, rfl⟩
theorem or_neg (a b : Int) : orV a b < 0 ↔ a < 0 ∨ (a = 0 ∧ b < 0) := by
  unfold orV
  split
  · rename_i h; subst h; simp
  · omega
theorem cmp_zero (a b : Int) : cmpV a b = 0 ↔ a = b := by
  unfold cmpV
  split
  · omega
  · split <;> omega
def popS (x : Nat) : Nat := popN 8 (x / 256) + popN 8 (x % 256)
set_option maxRecDepth 20000 in
set_option maxHeartbeats 1600000 in
theorem compareF_any (x y : Nat) (hx : x < 1024) (hy : y < 1024) (w : World) :
    Calls Try.prog 67 #[.int .u32 (x : Int), .int .u32 (y : Int)] w fun e w' => e = .returned (.int .i64 (orV (cmpV (popS x : Int) (popS y : Int)) (cmpV (revF (y : Int)) (revF (x : Int))))) ∧ Below w.heap.size w w' := by
  have HX : Hid (∀ w, Calls Try.prog 80 #[.int .u32 (x : Int)] w fun e w' => e = .returned (.int .i64 (popS x : Int)) ∧ Below w.heap.size w w') := fun w => ones_any x (x / 256) (x % 256) (by omega) (by omega) (by omega) w
  have HY : Hid (∀ w, Calls Try.prog 80 #[.int .u32 (y : Int)] w fun e w' => e = .returned (.int .i64 (popS y : Int)) ∧ Below w.heap.size w w') := fun w => ones_any y (y / 256) (y % 256) (by omega) (by omega) (by omega) w
  obtain ⟨p, hp⟩ : ∃ p : Int, (popS x : Int) = p := ⟨_, rfl⟩
  obtain ⟨q, hq⟩ : ∃ q : Int, (popS y : Int) = q := ⟨_, rfl⟩
  obtain ⟨r, hr⟩ : ∃ r : Int, revF (x : Int) = r := ⟨_, rfl⟩
  obtain ⟨t, ht⟩ : ∃ t : Int, revF (y : Int) = t := ⟨_, rfl⟩
  have HRX : Hid (∀ w, Calls Try.prog 82 #[.int .u32 (x : Int)] w fun e w' => e = .returned (.int .u32 r) ∧ w' = w) := fun w => by rw [← hr]; exact rev_any _ w
  have HRY : Hid (∀ w, Calls Try.prog 82 #[.int .u32 (y : Int)] w fun e w' => e = .returned (.int .u32 t) ∧ w' = w) := fun w => by rw [← ht]; exact rev_any _ w
  rw [hp] at HX ⊢
  rw [hq] at HY ⊢
  rw [hr, ht]
  clear hp hq hr ht
  obtain ⟨A, hA⟩ : ∃ A, cmpV p q = A := ⟨_, rfl⟩
  obtain ⟨C, hC⟩ : ∃ C, cmpV t r = C := ⟨_, rfl⟩
  have HCA : Hid (∀ w, Calls Try.prog 79 #[.int .i64 p, .int .i64 q] w fun e w' => e = .returned (.int .i64 A) ∧ w' = w) := fun w => by rw [← hA]; exact compare_i64 p q w
  have HCC : Hid (∀ w, Calls Try.prog 81 #[.int .u32 t, .int .u32 r] w fun e w' => e = .returned (.int .i64 C) ∧ w' = w) := fun w => by rw [← hC]; exact compare_u32 t r w
  rw [hA, hC]
  clear hA hC
  go_enter Try.func67, Try.ntmps67
  go_wp2_with fail
  refine (HX.out _).mono ?_
  rintro e w1 ⟨rfl, b1⟩
  have HB : Hid (Below w.heap.size w w1) := b1
  clear b1
  go_wp2_with fail
  refine (HY.out _).mono ?_
  rintro e w2 ⟨rfl, b2⟩
  replace HB : Hid (Below w.heap.size w w2) := HB.out.trans (b2.mono HB.out.size)
  clear b2
  go_wp2_with fail
  refine (HCA.out _).mono ?_
  rintro e w2 ⟨rfl, rfl⟩
  go_wp2_with fail
  refine (HRY.out _).mono ?_
  rintro e w2 ⟨rfl, rfl⟩
  go_wp2_with fail
  refine (HRX.out _).mono ?_
  rintro e w2 ⟨rfl, rfl⟩
  go_wp2_with fail
  refine (HCC.out _).mono ?_
  rintro e w2 ⟨rfl, rfl⟩
  have B2 := HB.out
  go_wp2_with fail
  refine (or_any w2.heap.size A C _ (by simp) (by simp [go_sem]) (by simp [go_sem])).mono ?_
  rintro e w3 ⟨rfl, b3⟩
  have HB3 : Hid (Below w.heap.size w w3) := (HB.out.trans ((below0 _ _).mono HB.out.size)).trans (b3.mono (by have := HB.out.size; simp; omega))
  clear b3
  go_wp2
  go_ret
  exact ⟨rfl, HB3.out⟩
end Go.Proofs.Ytljaidacaepmmaa
