/-
What is proved: the gain and the offset of a calibration, as both packages tell them.
-/
import Derived.Test.YtpnhliijkepbbaaSeK
import Derived.Test.YtpnhliijkepbbaaKn
namespace Go.Proofs.Ytpnhliijkepbbaa
set_option maxRecDepth 40000
open Go.RowKit
set_option linter.unusedVariables false
set_option linter.unusedSimpArgs false

def calB (a b l h : Nat) : Bool := knownB a && (knownB b && (knownB l && (knownB h && !(FloatKind.f64.format.order a b == some .eq))))
def gainO (a b l h : Nat) : Option Nat := opO .quo (opO .sub (some h) (some l)) (opO .sub (some b) (some a))
def offO (a b l h : Nat) : Option Nat := opO .sub (some l) (opO .mul (gainO a b l h) (some a))
def calG (a b l h : Nat) : Option Nat := if calB a b l h = true then gainO a b l h else some 0
def calO (a b l h : Nat) : Option Nat := if calB a b l h = true then offO a b l h else some 0
def kin (a b l h : Nat) (j : Nat) : Option Nat := if j = 0 then ofW a else if j = 1 then ofW b else if j = 2 then ofW l else ofW h
theorem kn_of (x : Nat) : knO (ofW x) = knownB x := by
  unfold ofW
  split
  · exact (decide_eq_false (by omega)).symm
  · rfl
theorem kin_all (a b l h : Nat) : kAll (kin a b l h) 4 = (knownB a && (knownB b && (knownB l && knownB h))) := by
  simp [kAll, kin, kn_of, Bool.and_assoc]
set_option maxHeartbeats 4000000 in
theorem specCal_any (a b l h : Nat) (la : a < 18446744073709551616) (lb : b < 18446744073709551616) (ll : l < 18446744073709551616) (lh : h < 18446744073709551616) (w : World) : Calls Try.prog 8 #[.float .f64 a, .float .f64 b, .float .f64 l, .float .f64 h] w fun e w' => ∃ x y, e = .returned (.tuple #[.float .f64 x, .float .f64 y, .bool (calB a b l h)]) ∧ Fl x (calG a b l h) ∧ Fl y (calO a b l h) ∧ Below w.heap.size w w' := by
  go_enter Try.func8, Try.ntmps8
  go_wp2_with fail
  refine (specKnown_any _ _).mono ?_
  rintro e w1 ⟨rfl, n1, rfl⟩
  cases k0 : knownB a
  · have HC : calB a b l h = false := by unfold calB; simp [k0]
    have HG : Hid (calG a b l h = some 0 ∧ calO a b l h = some 0) := show calG a b l h = some 0 ∧ calO a b l h = some 0 by unfold calG calO; simp [HC]
    have HD : Hid (calB a b l h = false) := HC
    clear HC
    go_wp2
    exact bodyPost_ret (v := .tuple #[.float .f64 0, .float .f64 0, .bool false]) (by simp [results, Try.results8, go_sem]) rfl ⟨0, 0, by rw [HD.out], by rw [HG.out.1]; exact fl_zero, by rw [HG.out.2]; exact fl_zero, (by repeat (first | with_reducible exact Below.refl _ _ | with_reducible refine Below.setCell ?_ (by first | omega | (simp; done) | (simp; omega)) _ | with_reducible refine bDrewN ?_ _ | with_reducible refine Below.drew ?_ | with_reducible refine Below.alloc ?_ (by first | omega | (simp; done) | (simp; omega)) _))⟩
  go_wp2_with fail
  refine (specKnown_any _ _).mono ?_
  rintro e w2 ⟨rfl, n2, rfl⟩
  cases k1 : knownB b
  · have HC : calB a b l h = false := by unfold calB; simp [k0, k1]
    have HG : Hid (calG a b l h = some 0 ∧ calO a b l h = some 0) := show calG a b l h = some 0 ∧ calO a b l h = some 0 by unfold calG calO; simp [HC]
    have HD : Hid (calB a b l h = false) := HC
    clear HC
    go_wp2
    exact bodyPost_ret (v := .tuple #[.float .f64 0, .float .f64 0, .bool false]) (by simp [results, Try.results8, go_sem]) rfl ⟨0, 0, by rw [HD.out], by rw [HG.out.1]; exact fl_zero, by rw [HG.out.2]; exact fl_zero, (by repeat (first | with_reducible exact Below.refl _ _ | with_reducible refine Below.setCell ?_ (by first | omega | (simp; done) | (simp; omega)) _ | with_reducible refine bDrewN ?_ _ | with_reducible refine Below.drew ?_ | with_reducible refine Below.alloc ?_ (by first | omega | (simp; done) | (simp; omega)) _))⟩
  go_wp2_with fail
  refine (specKnown_any _ _).mono ?_
  rintro e w3 ⟨rfl, n3, rfl⟩
  cases k2 : knownB l
  · have HC : calB a b l h = false := by unfold calB; simp [k0, k1, k2]
    have HG : Hid (calG a b l h = some 0 ∧ calO a b l h = some 0) := show calG a b l h = some 0 ∧ calO a b l h = some 0 by unfold calG calO; simp [HC]
    have HD : Hid (calB a b l h = false) := HC
    clear HC
    go_wp2
    exact bodyPost_ret (v := .tuple #[.float .f64 0, .float .f64 0, .bool false]) (by simp [results, Try.results8, go_sem]) rfl ⟨0, 0, by rw [HD.out], by rw [HG.out.1]; exact fl_zero, by rw [HG.out.2]; exact fl_zero, (by repeat (first | with_reducible exact Below.refl _ _ | with_reducible refine Below.setCell ?_ (by first | omega | (simp; done) | (simp; omega)) _ | with_reducible refine bDrewN ?_ _ | with_reducible refine Below.drew ?_ | with_reducible refine Below.alloc ?_ (by first | omega | (simp; done) | (simp; omega)) _))⟩
  go_wp2_with fail
  refine (specKnown_any _ _).mono ?_
  rintro e w4 ⟨rfl, n4, rfl⟩
  cases k3 : knownB h
  · have HC : calB a b l h = false := by unfold calB; simp [k0, k1, k2, k3]
    have HG : Hid (calG a b l h = some 0 ∧ calO a b l h = some 0) := show calG a b l h = some 0 ∧ calO a b l h = some 0 by unfold calG calO; simp [HC]
    have HD : Hid (calB a b l h = false) := HC
    clear HC
    go_wp2
    exact bodyPost_ret (v := .tuple #[.float .f64 0, .float .f64 0, .bool false]) (by simp [results, Try.results8, go_sem]) rfl ⟨0, 0, by rw [HD.out], by rw [HG.out.1]; exact fl_zero, by rw [HG.out.2]; exact fl_zero, (by repeat (first | with_reducible exact Below.refl _ _ | with_reducible refine Below.setCell ?_ (by first | omega | (simp; done) | (simp; omega)) _ | with_reducible refine bDrewN ?_ _ | with_reducible refine Below.drew ?_ | with_reducible refine Below.alloc ?_ (by first | omega | (simp; done) | (simp; omega)) _))⟩
  cases k4 : (FloatKind.f64.format.order a b == some .eq)
  case true =>
    have HC : calB a b l h = false := by unfold calB; simp [k0, k1, k2, k3, k4]
    have HG : Hid (calG a b l h = some 0 ∧ calO a b l h = some 0) := show calG a b l h = some 0 ∧ calO a b l h = some 0 by unfold calG calO; simp [HC]
    have HD : Hid (calB a b l h = false) := HC
    clear HC
    go_wp2
    exact bodyPost_ret (v := .tuple #[.float .f64 0, .float .f64 0, .bool false]) (by simp [results, Try.results8, go_sem]) rfl ⟨0, 0, by rw [HD.out], by rw [HG.out.1]; exact fl_zero, by rw [HG.out.2]; exact fl_zero, (by repeat (first | with_reducible exact Below.refl _ _ | with_reducible refine Below.setCell ?_ (by first | omega | (simp; done) | (simp; omega)) _ | with_reducible refine bDrewN ?_ _ | with_reducible refine Below.drew ?_ | with_reducible refine Below.alloc ?_ (by first | omega | (simp; done) | (simp; omega)) _))⟩
  have HC : calB a b l h = true := by unfold calB; simp [k0, k1, k2, k3, k4]
  have HG : Hid (calG a b l h = gainO a b l h ∧ calO a b l h = offO a b l h) := show calG a b l h = gainO a b l h ∧ calO a b l h = offO a b l h by unfold calG calO; simp [HC]
  have fa := fl_known la k0
  have fb := fl_known lb k1
  have fl := fl_known ll k2
  have fh := fl_known lh k3
  have HD : Hid (calB a b l h = true) := HC
  clear HC k0 k1 k2 k3
  go_wp2_with (first
    | (refine list_fop .sub rfl _ _ _ _ (by rfl) (by rfl) (by rfl) (by rfl) fh fl ?_; intro x1 n1 f1)
    | (refine list_fop .sub rfl _ _ _ _ (by rfl) (by rfl) (by rfl) (by rfl) fb fa ?_; intro x2 n2 f2)
    | (refine list_fop .quo rfl _ _ _ _ (by rfl) (by rfl) (by rfl) (by rfl) f1 f2 ?_; intro x3 n3 f3)
    | (refine list_fop .mul rfl _ _ _ _ (by rfl) (by rfl) (by rfl) (by rfl) f3 fa ?_; intro x4 n4 f4)
    | (refine list_fop .sub rfl _ _ _ _ (by rfl) (by rfl) (by rfl) (by rfl) fl f4 ?_; intro x5 n5 f5))
  exact bodyPost_ret (v := .tuple #[.float .f64 x3, .float .f64 x5, .bool true]) (by simp [results, Try.results8, go_sem]) rfl ⟨x3, x5, by rw [HD.out], by rw [HG.out.1]; exact f3, by rw [HG.out.2]; exact f5, (by repeat (first | with_reducible exact Below.refl _ _ | with_reducible refine Below.setCell ?_ (by first | omega | (simp; done) | (simp; omega)) _ | with_reducible refine bDrewN ?_ _ | with_reducible refine Below.drew ?_ | with_reducible refine Below.alloc ?_ (by first | omega | (simp; done) | (simp; omega)) _))⟩
set_option maxHeartbeats 4000000 in
theorem implCal_any (a b l h : Nat) (la : a < 18446744073709551616) (lb : b < 18446744073709551616) (ll : l < 18446744073709551616) (lh : h < 18446744073709551616) (w : World) : Calls Try.prog 9 #[.float .f64 a, .float .f64 b, .float .f64 l, .float .f64 h] w fun e w' => ∃ x y, e = .returned (.tuple #[.float .f64 x, .float .f64 y, .bool (calB a b l h)]) ∧ Fl x (calG a b l h) ∧ Fl y (calO a b l h) ∧ Below w.heap.size w w' := by
  have HR : Hid (RowF (w.alloc (.cells #[.float .f64 a, .float .f64 b, .float .f64 l, .float .f64 h] 24)) (some ⟨w.heap.size, 0, none⟩) 4 (kin a b l h)) := fun j hj => by
    have : j = 0 ∨ j = 1 ∨ j = 2 ∨ j = 3 := by omega
    rcases this with rfl | rfl | rfl | rfl
    · exact ⟨w.heap.size, 0, a, rfl, by simp, by simp [go_sem], fl_of a la⟩
    · exact ⟨w.heap.size, 0, b, rfl, by simp, by simp [go_sem], fl_of b lb⟩
    · exact ⟨w.heap.size, 0, l, rfl, by simp, by simp [go_sem], fl_of l ll⟩
    · exact ⟨w.heap.size, 0, h, rfl, by simp, by simp [go_sem], fl_of h lh⟩
  go_enter Try.func9, Try.ntmps9
  go_wp2_with fail
  refine (allKnown_any _ 4 _ (kin a b l h) _ (by decide) HR.out).mono ?_
  rintro e w1 ⟨rfl, h1⟩
  have B1 : Below w.heap.size w w1 := Below.trans (by repeat (first | with_reducible exact Below.refl _ _ | with_reducible refine Below.setCell ?_ (by first | omega | (simp; done) | (simp; omega)) _ | with_reducible refine bDrewN ?_ _ | with_reducible refine Below.drew ?_ | with_reducible refine Below.alloc ?_ (by first | omega | (simp; done) | (simp; omega)) _)) (h1.mono (by first | omega | (simp; done) | (simp; omega)))
  clear h1 HR
  rw [kin_all]
  cases kk : (knownB a && (knownB b && (knownB l && knownB h)))
  · have kk2 : (knownB a && (knownB b && (knownB l && (knownB h && !(FloatKind.f64.format.order a b == some .eq))))) = false := by
      cases hx : knownB a <;> cases hy : knownB b <;> cases hz : knownB l <;> cases hu : knownB h <;> simp_all
    have HC : calB a b l h = false := by unfold calB; simp [kk2]
    have HG : Hid (calG a b l h = some 0 ∧ calO a b l h = some 0) := show calG a b l h = some 0 ∧ calO a b l h = some 0 by unfold calG calO; simp [HC]
    have HD : Hid (calB a b l h = false) := HC
    clear HC
    go_wp2
    exact bodyPost_ret (v := .tuple #[.float .f64 0, .float .f64 0, .bool false]) (by simp [results, Try.results9, go_sem]) rfl ⟨0, 0, by rw [HD.out], by rw [HG.out.1]; exact fl_zero, by rw [HG.out.2]; exact fl_zero, (by repeat (first | with_reducible exact Below.refl _ _ | with_reducible exact B1 | with_reducible refine Below.setCell ?_ (by first | omega | (simp; done) | (simp; omega)) _ | with_reducible refine bDrewN ?_ _ | with_reducible refine Below.drew ?_ | with_reducible refine Below.alloc ?_ (by first | omega | (simp; done) | (simp; omega)) _))⟩
  simp only [Bool.and_eq_true] at kk
  obtain ⟨k0, k1, k2, k3⟩ := kk
  cases k4 : (FloatKind.f64.format.order a b == some .eq)
  case true =>
    have HC : calB a b l h = false := by unfold calB; simp [k0, k1, k2, k3, k4]
    have HG : Hid (calG a b l h = some 0 ∧ calO a b l h = some 0) := show calG a b l h = some 0 ∧ calO a b l h = some 0 by unfold calG calO; simp [HC]
    have HD : Hid (calB a b l h = false) := HC
    clear HC
    go_wp2
    exact bodyPost_ret (v := .tuple #[.float .f64 0, .float .f64 0, .bool false]) (by simp [results, Try.results9, go_sem]) rfl ⟨0, 0, by rw [HD.out], by rw [HG.out.1]; exact fl_zero, by rw [HG.out.2]; exact fl_zero, (by repeat (first | with_reducible exact Below.refl _ _ | with_reducible exact B1 | with_reducible refine Below.setCell ?_ (by first | omega | (simp; done) | (simp; omega)) _ | with_reducible refine bDrewN ?_ _ | with_reducible refine Below.drew ?_ | with_reducible refine Below.alloc ?_ (by first | omega | (simp; done) | (simp; omega)) _))⟩
  have HC : calB a b l h = true := by unfold calB; simp [k0, k1, k2, k3, k4]
  have HG : Hid (calG a b l h = gainO a b l h ∧ calO a b l h = offO a b l h) := show calG a b l h = gainO a b l h ∧ calO a b l h = offO a b l h by unfold calG calO; simp [HC]
  have fa := fl_known la k0
  have fb := fl_known lb k1
  have fl := fl_known ll k2
  have fh := fl_known lh k3
  have HD : Hid (calB a b l h = true) := HC
  clear HC k0 k1 k2 k3
  go_wp2_with (first
    | (refine list_fop .sub rfl _ _ _ _ (by rfl) (by rfl) (by rfl) (by rfl) fh fl ?_; intro x1 n1 f1)
    | (refine list_fop .sub rfl _ _ _ _ (by rfl) (by rfl) (by rfl) (by rfl) fb fa ?_; intro x2 n2 f2)
    | (refine list_fop .quo rfl _ _ _ _ (by rfl) (by rfl) (by rfl) (by rfl) f1 f2 ?_; intro x3 n3 f3)
    | (refine list_fop .mul rfl _ _ _ _ (by rfl) (by rfl) (by rfl) (by rfl) f3 fa ?_; intro x4 n4 f4)
    | (refine list_fop .sub rfl _ _ _ _ (by rfl) (by rfl) (by rfl) (by rfl) fl f4 ?_; intro x5 n5 f5))
  exact bodyPost_ret (v := .tuple #[.float .f64 x3, .float .f64 x5, .bool true]) (by simp [results, Try.results9, go_sem]) rfl ⟨x3, x5, by rw [HD.out], by rw [HG.out.1]; exact f3, by rw [HG.out.2]; exact f5, (by repeat (first | with_reducible exact Below.refl _ _ | with_reducible exact B1 | with_reducible refine Below.setCell ?_ (by first | omega | (simp; done) | (simp; omega)) _ | with_reducible refine bDrewN ?_ _ | with_reducible refine Below.drew ?_ | with_reducible refine Below.alloc ?_ (by first | omega | (simp; done) | (simp; omega)) _))⟩
end Go.Proofs.Ytpnhliijkepbbaa
