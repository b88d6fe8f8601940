/-
What is proved: a float, 64 bits and 32 bits that are drawn from a code: any ones.
-/
import Derived.Test.YtpeelhkmipgacaaFlD
import Derived.Test.YtpeelhkmipgacaaSBits
import Derived.Test.YtpeelhkmipgacaaLgV
import Derived.Test.YtpeelhkmipgacaaRdCZ
namespace Go.Proofs.Ytpeelhkmipgacaa
set_option maxRecDepth 40000
open Go.ChangeShapes Go.WideShapes Go.ChangeAt Go.RowKit
set_option linter.unusedVariables false
set_option linter.unusedSimpArgs false

set_option maxHeartbeats 2000000 in
theorem drawBitsOf_any {s : Option Addr} {n c : Nat} {w : World} (h : Hid (Code8 w s n)) :
    Calls Try.prog 10 #[.slice s n c] w fun e w' => ∃ x : Nat, e = .returned (.float .f64 x) ∧ x < 18446744073709551616 ∧ Below w.heap.size w w' := by
  go_enter Try.func10, Try.ntmps10
  go_wp2_with fail
  refine (open_any (h.out.below (by repeat (first | with_reducible exact Below.refl _ _ | with_reducible refine Below.setCell ?_ (by first | omega | (simp; done) | (simp; omega)) _ | with_reducible refine bDrewN ?_ _ | with_reducible refine Below.drew ?_ | with_reducible refine Below.alloc ?_ (by first | omega | (simp; done) | (simp; omega)) _)))).mono ?_
  rintro e w1 ⟨rfl, R_, b_⟩
  obtain ⟨r, hr⟩ : ∃ r, r = w.heap.size := ⟨_, rfl⟩
  have HR : Hid (Rd w1 r s n c 0) := by show Rd _ _ _ _ _ _; rw [hr]; simpa using R_
  have HB : Hid (Below w.heap.size w w1) := (show Below w.heap.size w _ from (by repeat (first | with_reducible exact Below.refl _ _ | with_reducible refine Below.setCell ?_ (by first | omega | (simp; done) | (simp; omega)) _ | with_reducible refine bDrewN ?_ _ | with_reducible refine Below.drew ?_ | with_reducible refine Below.alloc ?_ (by first | omega | (simp; done) | (simp; omega)) _))).trans (b_.mono (by first | omega | (simp; done) | (simp; omega)))
  have zr : w.heap.size ≤ r := by omega
  try rw [show w.heap.size = r by rw [hr]; simp]
  try rw [← hr]
  clear R_ b_ h hr
  go_wp2_with fail
  refine (float_any (HR.out.below (by repeat (first | with_reducible exact Below.refl _ _ | with_reducible refine Below.setCell ?_ (by first | omega | (simp; done) | (simp; omega)) _ | with_reducible refine bDrewN ?_ _ | with_reducible refine Below.drew ?_ | with_reducible refine Below.alloc ?_ (by first | omega | (simp; done) | (simp; omega)) _)))).mono ?_
  rintro e w2 ⟨x, px, rfl, hx, R_, b_⟩
  have sz_ : w.heap.size ≤ w1.heap.size := HB.out.size
  have zr_ : r < w1.heap.size := HR.out.1
  have bb : Beside r w1 w2 := (Beside.of (show Below w1.heap.size w1 _ from (by repeat (first | with_reducible exact Below.refl _ _ | with_reducible refine Below.setCell ?_ (by first | omega | (simp; done) | (simp; omega)) _ | with_reducible refine bDrewN ?_ _ | with_reducible refine Below.drew ?_ | with_reducible refine Below.alloc ?_ (by first | omega | (simp; done) | (simp; omega)) _)))).trans b_
  replace HB : Hid (Below w.heap.size w w2) := HB.out.trans (bb.below (by omega) HB.out.size)
  replace HR : Hid (Rd w2 r s n c px) := R_
  clear R_
  clear bb b_ sz_ zr_ 
  have BF := HB.out
  go_wp2
  go_ret
  exact ⟨x, rfl, hx, (by repeat (first | with_reducible exact Below.refl _ _ | with_reducible exact BF | with_reducible refine Below.setCell ?_ (by first | omega | (simp; done) | (simp; omega)) _ | with_reducible refine bDrewN ?_ _ | with_reducible refine Below.drew ?_ | with_reducible refine Below.alloc ?_ (by first | omega | (simp; done) | (simp; omega)) _))⟩
theorem bits_lt {y : Nat} (h : y < 18446744073709551616) : bitsB y < 18446744073709551616 := by unfold bitsB; split <;> omega
set_option maxRecDepth 20000 in
set_option maxHeartbeats 2000000 in
theorem drawFloatOf_any {s : Option Addr} {n c : Nat} {w : World} (h : Hid (Code8 w s n)) :
    Calls Try.prog 11 #[.slice s n c] w fun e w' => ∃ b : Nat, e = .returned (.int .u64 (b : Int)) ∧ b < 18446744073709551616 ∧ Below w.heap.size w w' := by
  go_enter Try.func11, Try.ntmps11
  go_wp2_with fail
  refine (open_any (h.out.below (by repeat (first | with_reducible exact Below.refl _ _ | with_reducible refine Below.setCell ?_ (by first | omega | (simp; done) | (simp; omega)) _ | with_reducible refine bDrewN ?_ _ | with_reducible refine Below.drew ?_ | with_reducible refine Below.alloc ?_ (by first | omega | (simp; done) | (simp; omega)) _)))).mono ?_
  rintro e w1 ⟨rfl, R_, b_⟩
  obtain ⟨r, hr⟩ : ∃ r, r = w.heap.size := ⟨_, rfl⟩
  have HR : Hid (Rd w1 r s n c 0) := by show Rd _ _ _ _ _ _; rw [hr]; simpa using R_
  have HB : Hid (Below w.heap.size w w1) := (show Below w.heap.size w _ from (by repeat (first | with_reducible exact Below.refl _ _ | with_reducible refine Below.setCell ?_ (by first | omega | (simp; done) | (simp; omega)) _ | with_reducible refine bDrewN ?_ _ | with_reducible refine Below.drew ?_ | with_reducible refine Below.alloc ?_ (by first | omega | (simp; done) | (simp; omega)) _))).trans (b_.mono (by first | omega | (simp; done) | (simp; omega)))
  have zr : w.heap.size ≤ r := by omega
  try rw [show w.heap.size = r by rw [hr]; simp]
  try rw [← hr]
  clear R_ b_ h hr
  go_wp2_with fail
  refine (word_any (HR.out.below (by repeat (first | with_reducible exact Below.refl _ _ | with_reducible refine Below.setCell ?_ (by first | omega | (simp; done) | (simp; omega)) _ | with_reducible refine bDrewN ?_ _ | with_reducible refine Below.drew ?_ | with_reducible refine Below.alloc ?_ (by first | omega | (simp; done) | (simp; omega)) _)))).mono ?_
  rintro e w2 ⟨x, px, rfl, xw, R_, b_⟩
  have sz_ : w.heap.size ≤ w1.heap.size := HB.out.size
  have zr_ : r < w1.heap.size := HR.out.1
  have bb : Beside r w1 w2 := (Beside.of (show Below w1.heap.size w1 _ from (by repeat (first | with_reducible exact Below.refl _ _ | with_reducible refine Below.setCell ?_ (by first | omega | (simp; done) | (simp; omega)) _ | with_reducible refine bDrewN ?_ _ | with_reducible refine Below.drew ?_ | with_reducible refine Below.alloc ?_ (by first | omega | (simp; done) | (simp; omega)) _)))).trans b_
  replace HB : Hid (Below w.heap.size w w2) := HB.out.trans (bb.below (by omega) HB.out.size)
  replace HR : Hid (Rd w2 r s n c px) := R_
  clear R_
  clear bb b_ sz_ zr_ 
  obtain ⟨xw0, xw1⟩ := wf_u64 xw
  obtain ⟨b, rfl⟩ : ∃ b : Nat, x = (b : Int) := ⟨x.toNat, by omega⟩
  have b64 : b < 18446744073709551616 := by omega
  clear xw xw0 xw1
  go_wp2_with fail
  refine (below_any 5 (HR.out.below (by repeat (first | with_reducible exact Below.refl _ _ | with_reducible refine Below.setCell ?_ (by first | omega | (simp; done) | (simp; omega)) _ | with_reducible refine bDrewN ?_ _ | with_reducible refine Below.drew ?_ | with_reducible refine Below.alloc ?_ (by first | omega | (simp; done) | (simp; omega)) _)))).mono ?_
  rintro e w3 ⟨kk, pk, rfl, kk0, kk1, kk2, R_, b_⟩
  have sz_ : w.heap.size ≤ w2.heap.size := HB.out.size
  have zr_ : r < w2.heap.size := HR.out.1
  have bb : Beside r w2 w3 := (Beside.of (show Below w2.heap.size w2 _ from (by repeat (first | with_reducible exact Below.refl _ _ | with_reducible refine Below.setCell ?_ (by first | omega | (simp; done) | (simp; omega)) _ | with_reducible refine bDrewN ?_ _ | with_reducible refine Below.drew ?_ | with_reducible refine Below.alloc ?_ (by first | omega | (simp; done) | (simp; omega)) _)))).trans b_
  replace HB : Hid (Below w.heap.size w w3) := HB.out.trans (bb.below (by omega) HB.out.size)
  replace HR : Hid (Rd w3 r s n c pk) := R_
  clear R_
  clear bb b_ sz_ zr_ 
  clear kk1 kk2
  by_cases e0 : kk = 0
  case pos =>
    subst e0
    go_wp2_with fail
    refine (float_any (HR.out.below (by repeat (first | with_reducible exact Below.refl _ _ | with_reducible refine Below.setCell ?_ (by first | omega | (simp; done) | (simp; omega)) _ | with_reducible refine bDrewN ?_ _ | with_reducible refine Below.drew ?_ | with_reducible refine Below.alloc ?_ (by first | omega | (simp; done) | (simp; omega)) _)))).mono ?_
    rintro e w4 ⟨y, py, rfl, hy, R_, b_⟩
    have sz_ : w.heap.size ≤ w3.heap.size := HB.out.size
    have zr_ : r < w3.heap.size := HR.out.1
    have bb : Beside r w3 w4 := (Beside.of (show Below w3.heap.size w3 _ from (by repeat (first | with_reducible exact Below.refl _ _ | with_reducible refine Below.setCell ?_ (by first | omega | (simp; done) | (simp; omega)) _ | with_reducible refine bDrewN ?_ _ | with_reducible refine Below.drew ?_ | with_reducible refine Below.alloc ?_ (by first | omega | (simp; done) | (simp; omega)) _)))).trans b_
    replace HB : Hid (Below w.heap.size w w4) := HB.out.trans (bb.below (by omega) HB.out.size)
    replace HR : Hid (Rd w4 r s n c py) := R_
    clear R_
    clear bb b_ sz_ zr_ 
    go_wp2_with fail
    refine (specBitsOf_any y hy _).mono ?_
    rintro e w9 ⟨rfl, q, hw⟩
    have b9 : Below w4.heap.size w4 w9 := by rw [hw]; exact (by repeat (first | with_reducible exact Below.refl _ _ | with_reducible refine Below.setCell ?_ (by first | omega | (simp; done) | (simp; omega)) _ | with_reducible refine bDrewN ?_ _ | with_reducible refine Below.drew ?_ | with_reducible refine Below.alloc ?_ (by first | omega | (simp; done) | (simp; omega)) _))
    have BF := HB.out.trans (b9.mono HB.out.size)
    clear hw b9
    go_wp2
    go_ret
    exact ⟨bitsB y, rfl, bits_lt hy, (by repeat (first | with_reducible exact Below.refl _ _ | with_reducible exact BF | with_reducible refine Below.setCell ?_ (by first | omega | (simp; done) | (simp; omega)) _ | with_reducible refine bDrewN ?_ _ | with_reducible refine Below.drew ?_ | with_reducible refine Below.alloc ?_ (by first | omega | (simp; done) | (simp; omega)) _))⟩
  have ne0 : (kk == 0) = false := by simpa using e0
  by_cases e1 : kk = 1
  case pos =>
    subst e1
    have ha := u64_and_nat b 9227875636482146303 b64 (by omega)
    have hl : b &&& 9227875636482146303 < 18446744073709551616 := Nat.lt_of_le_of_lt Nat.and_le_left b64
    obtain ⟨v, hv⟩ : ∃ v, b &&& 9227875636482146303 = v := ⟨_, rfl⟩
    rw [hv] at ha hl
    clear hv
    have ha2 : bits .and .u64 (b : Int) 9227875636482146303 = (v : Int) := ha
    have BF := HB.out
    go_wp2
    go_ret
    exact ⟨v, rfl, hl, (by repeat (first | with_reducible exact Below.refl _ _ | with_reducible exact BF | with_reducible refine Below.setCell ?_ (by first | omega | (simp; done) | (simp; omega)) _ | with_reducible refine bDrewN ?_ _ | with_reducible refine Below.drew ?_ | with_reducible refine Below.alloc ?_ (by first | omega | (simp; done) | (simp; omega)) _))⟩
  have ne1 : (kk == 1) = false := by simpa using e1
  by_cases e2 : kk = 2
  case pos =>
    subst e2
    have ha := u64_or_nat b 9218868437227405312 b64 (by omega)
    have hl : b ||| 9218868437227405312 < 18446744073709551616 := Nat.or_lt_two_pow (n := 64) b64 (by omega)
    obtain ⟨v, hv⟩ : ∃ v, b ||| 9218868437227405312 = v := ⟨_, rfl⟩
    rw [hv] at ha hl
    clear hv
    have ha2 : bits .or .u64 (b : Int) 9218868437227405312 = (v : Int) := ha
    have BF := HB.out
    go_wp2
    go_ret
    exact ⟨v, rfl, hl, (by repeat (first | with_reducible exact Below.refl _ _ | with_reducible exact BF | with_reducible refine Below.setCell ?_ (by first | omega | (simp; done) | (simp; omega)) _ | with_reducible refine bDrewN ?_ _ | with_reducible refine Below.drew ?_ | with_reducible refine Below.alloc ?_ (by first | omega | (simp; done) | (simp; omega)) _))⟩
  have ne2 : (kk == 2) = false := by simpa using e2
  have BF := HB.out
  go_wp2
  go_ret
  exact ⟨b, rfl, b64, (by repeat (first | with_reducible exact Below.refl _ _ | with_reducible exact BF | with_reducible refine Below.setCell ?_ (by first | omega | (simp; done) | (simp; omega)) _ | with_reducible refine bDrewN ?_ _ | with_reducible refine Below.drew ?_ | with_reducible refine Below.alloc ?_ (by first | omega | (simp; done) | (simp; omega)) _))⟩
theorem short_lt (y : Nat) : shortB y < 4294967296 := by
  unfold shortB
  have := Nat.min_le_right (rung32 (rg y)) 2139095040
  split
  · omega
  · split <;> split <;> omega
set_option maxRecDepth 20000 in
set_option maxHeartbeats 2000000 in
theorem drawLong_any {s : Option Addr} {n c : Nat} {w : World} (h : Hid (Code8 w s n)) :
    Calls Try.prog 12 #[.slice s n c] w fun e w' => ∃ b : Nat, e = .returned (.int .u32 (b : Int)) ∧ b < 4294967296 ∧ Below w.heap.size w w' := by
  go_enter Try.func12, Try.ntmps12
  go_wp2_with fail
  refine (open_any (h.out.below (by repeat (first | with_reducible exact Below.refl _ _ | with_reducible refine Below.setCell ?_ (by first | omega | (simp; done) | (simp; omega)) _ | with_reducible refine bDrewN ?_ _ | with_reducible refine Below.drew ?_ | with_reducible refine Below.alloc ?_ (by first | omega | (simp; done) | (simp; omega)) _)))).mono ?_
  rintro e w1 ⟨rfl, R_, b_⟩
  obtain ⟨r, hr⟩ : ∃ r, r = w.heap.size := ⟨_, rfl⟩
  have HR : Hid (Rd w1 r s n c 0) := by show Rd _ _ _ _ _ _; rw [hr]; simpa using R_
  have HB : Hid (Below w.heap.size w w1) := (show Below w.heap.size w _ from (by repeat (first | with_reducible exact Below.refl _ _ | with_reducible refine Below.setCell ?_ (by first | omega | (simp; done) | (simp; omega)) _ | with_reducible refine bDrewN ?_ _ | with_reducible refine Below.drew ?_ | with_reducible refine Below.alloc ?_ (by first | omega | (simp; done) | (simp; omega)) _))).trans (b_.mono (by first | omega | (simp; done) | (simp; omega)))
  have zr : w.heap.size ≤ r := by omega
  try rw [show w.heap.size = r by rw [hr]; simp]
  try rw [← hr]
  clear R_ b_ h hr
  go_wp2_with fail
  refine (word_any (HR.out.below (by repeat (first | with_reducible exact Below.refl _ _ | with_reducible refine Below.setCell ?_ (by first | omega | (simp; done) | (simp; omega)) _ | with_reducible refine bDrewN ?_ _ | with_reducible refine Below.drew ?_ | with_reducible refine Below.alloc ?_ (by first | omega | (simp; done) | (simp; omega)) _)))).mono ?_
  rintro e w2 ⟨x, px, rfl, xw, R_, b_⟩
  have sz_ : w.heap.size ≤ w1.heap.size := HB.out.size
  have zr_ : r < w1.heap.size := HR.out.1
  have bb : Beside r w1 w2 := (Beside.of (show Below w1.heap.size w1 _ from (by repeat (first | with_reducible exact Below.refl _ _ | with_reducible refine Below.setCell ?_ (by first | omega | (simp; done) | (simp; omega)) _ | with_reducible refine bDrewN ?_ _ | with_reducible refine Below.drew ?_ | with_reducible refine Below.alloc ?_ (by first | omega | (simp; done) | (simp; omega)) _)))).trans b_
  replace HB : Hid (Below w.heap.size w w2) := HB.out.trans (bb.below (by omega) HB.out.size)
  replace HR : Hid (Rd w2 r s n c px) := R_
  clear R_
  clear bb b_ sz_ zr_ 
  obtain ⟨xw0, xw1⟩ := wf_u64 xw
  obtain ⟨b0, hb0, hb1⟩ : ∃ b : Nat, IntKind.u32.wrap (x / 65536) = (b : Int) ∧ b < 4294967296 := ⟨(IntKind.u32.wrap (x / 65536)).toNat, by rw [IntKind.wrap_u32]; omega, by rw [IntKind.wrap_u32]; omega⟩
  clear xw
  have xd0 : 0 ≤ x / 65536 := by omega
  go_wp2_with fail
  refine (below_any 4 (HR.out.below (by repeat (first | with_reducible exact Below.refl _ _ | with_reducible refine Below.setCell ?_ (by first | omega | (simp; done) | (simp; omega)) _ | with_reducible refine bDrewN ?_ _ | with_reducible refine Below.drew ?_ | with_reducible refine Below.alloc ?_ (by first | omega | (simp; done) | (simp; omega)) _)))).mono ?_
  rintro e w3 ⟨kk, pk, rfl, kk0, kk1, kk2, R_, b_⟩
  have sz_ : w.heap.size ≤ w2.heap.size := HB.out.size
  have zr_ : r < w2.heap.size := HR.out.1
  have bb : Beside r w2 w3 := (Beside.of (show Below w2.heap.size w2 _ from (by repeat (first | with_reducible exact Below.refl _ _ | with_reducible refine Below.setCell ?_ (by first | omega | (simp; done) | (simp; omega)) _ | with_reducible refine bDrewN ?_ _ | with_reducible refine Below.drew ?_ | with_reducible refine Below.alloc ?_ (by first | omega | (simp; done) | (simp; omega)) _)))).trans b_
  replace HB : Hid (Below w.heap.size w w3) := HB.out.trans (bb.below (by omega) HB.out.size)
  replace HR : Hid (Rd w3 r s n c pk) := R_
  clear R_
  clear bb b_ sz_ zr_ 
  clear kk1 kk2
  by_cases e0 : kk = 0
  case pos =>
    subst e0
    go_wp2_with fail
    refine (float_any (HR.out.below (by repeat (first | with_reducible exact Below.refl _ _ | with_reducible refine Below.setCell ?_ (by first | omega | (simp; done) | (simp; omega)) _ | with_reducible refine bDrewN ?_ _ | with_reducible refine Below.drew ?_ | with_reducible refine Below.alloc ?_ (by first | omega | (simp; done) | (simp; omega)) _)))).mono ?_
    rintro e w4 ⟨y, py, rfl, hy, R_, b_⟩
    have sz_ : w.heap.size ≤ w3.heap.size := HB.out.size
    have zr_ : r < w3.heap.size := HR.out.1
    have bb : Beside r w3 w4 := (Beside.of (show Below w3.heap.size w3 _ from (by repeat (first | with_reducible exact Below.refl _ _ | with_reducible refine Below.setCell ?_ (by first | omega | (simp; done) | (simp; omega)) _ | with_reducible refine bDrewN ?_ _ | with_reducible refine Below.drew ?_ | with_reducible refine Below.alloc ?_ (by first | omega | (simp; done) | (simp; omega)) _)))).trans b_
    replace HB : Hid (Below w.heap.size w w4) := HB.out.trans (bb.below (by omega) HB.out.size)
    replace HR : Hid (Rd w4 r s n c py) := R_
    clear R_
    clear bb b_ sz_ zr_ 
    go_wp2_with fail
    refine (specShort_any y hy _).mono ?_
    rintro e w9 ⟨rfl, q, hw⟩
    have b9 : Below w4.heap.size w4 w9 := by rw [hw]; exact (by repeat (first | with_reducible exact Below.refl _ _ | with_reducible refine Below.setCell ?_ (by first | omega | (simp; done) | (simp; omega)) _ | with_reducible refine bDrewN ?_ _ | with_reducible refine Below.drew ?_ | with_reducible refine Below.alloc ?_ (by first | omega | (simp; done) | (simp; omega)) _))
    have BF := HB.out.trans (b9.mono HB.out.size)
    clear hw b9
    go_wp2
    go_ret
    exact ⟨shortB y, rfl, short_lt y, (by repeat (first | with_reducible exact Below.refl _ _ | with_reducible exact BF | with_reducible refine Below.setCell ?_ (by first | omega | (simp; done) | (simp; omega)) _ | with_reducible refine bDrewN ?_ _ | with_reducible refine Below.drew ?_ | with_reducible refine Below.alloc ?_ (by first | omega | (simp; done) | (simp; omega)) _))⟩
  have ne0 : (kk == 0) = false := by simpa using e0
  by_cases e1 : kk = 1
  case pos =>
    subst e1
    have ha := u32_and_nat b0 2155872255 hb1 (by omega)
    have hl : b0 &&& 2155872255 < 4294967296 := Nat.lt_of_le_of_lt Nat.and_le_left hb1
    obtain ⟨v, hv⟩ : ∃ v, b0 &&& 2155872255 = v := ⟨_, rfl⟩
    rw [hv] at ha hl
    clear hv
    have ha2 : bits .and .u32 (b0 : Int) 2155872255 = (v : Int) := ha
    have BF := HB.out
    go_wp2
    go_ret
    exact ⟨v, rfl, hl, (by repeat (first | with_reducible exact Below.refl _ _ | with_reducible exact BF | with_reducible refine Below.setCell ?_ (by first | omega | (simp; done) | (simp; omega)) _ | with_reducible refine bDrewN ?_ _ | with_reducible refine Below.drew ?_ | with_reducible refine Below.alloc ?_ (by first | omega | (simp; done) | (simp; omega)) _))⟩
  have ne1 : (kk == 1) = false := by simpa using e1
  have BF := HB.out
  go_wp2
  go_ret
  exact ⟨b0, rfl, hb1, (by repeat (first | with_reducible exact Below.refl _ _ | with_reducible exact BF | with_reducible refine Below.setCell ?_ (by first | omega | (simp; done) | (simp; omega)) _ | with_reducible refine bDrewN ?_ _ | with_reducible refine Below.drew ?_ | with_reducible refine Below.alloc ?_ (by first | omega | (simp; done) | (simp; omega)) _))⟩
end Go.Proofs.Ytpeelhkmipgacaa
