/-
What is proved: machines and a number that are drawn from a code: any int64s, at most 61 machines.
-/
import Derived.Test.YtcialcejmjggeaaMhD
import Derived.Deep.DeepCutAuto
import Derived.RegionTactic
namespace Go.Proofs.Ytcialcejmjggeaa
set_option maxRecDepth 40000
open Go.ChangeShapes Go.WideShapes Go.ChangeAt Go.RowKit
set_option linter.unusedVariables false
set_option linter.unusedSimpArgs false

theorem row_besM {r : Nat} {w w' : World} {t : Option Addr} {m : Nat} {V : Nat → Int} (h : RowI w t m V) (hb : Beside r w w') (hn : ∀ g o, t = some ⟨g, o, none⟩ → g ≠ r) : RowI w' t m V := fun j hj => by
  obtain ⟨b, o, e, hl, hc⟩ := h j hj
  exact ⟨b, o, e, Nat.lt_of_lt_of_le hl hb.2.2.2.1, (hb.cell (p := ⟨b, o + j, none⟩) hl (hn b o e)).trans hc⟩
def DmsPost (w : World) (e : Ending) (w' : World) : Prop := ∃ (t : Option Addr) (m cap : Nat) (U : Nat → Int) (mo : Int), e = .returned (.tuple #[.slice t m cap, .int .i64 mo]) ∧ m ≤ 61 ∧ RowI w' t (m * 4) U ∧ Below w.heap.size w w'
set_option maxRecDepth 20000 in
set_option maxHeartbeats 2000000 in
theorem l11Sum_any (t : Option Addr) (m cap : Nat) (U : Nat → Int) (w : World) (hm : m ≤ 61) (HR : Hid (RowI w t (m * 4) U)) :
    Calls Try.prog 45 #[.slice t m cap] w fun e w' => ∃ sm, e = .returned (.int .i64 sm) ∧ 0 ≤ sm ∧ sm ≤ 61000000 ∧ w' = w := by
  go_enter Try.func45, Try.ntmps45
  go_wp2_with fail
  go_loopw [3, 4] (fun q i wr => ∃ (k : Nat) (sm : Int), k ≤ m ∧ i = .int .i64 k ∧ q = .int .i64 sm ∧ 0 ≤ sm ∧ sm ≤ 1000000 * (k : Int) ∧ wr = w) (fun _ i _ => m - (intOf i).toNat)
  case atStart => exact ⟨0, 0, Nat.zero_le _, rfl, rfl, by omega, by omega, rfl⟩
  case round =>
    obtain ⟨k, sm, hk, rfl, rfl, s0, s1, rfl⟩ := hrel
    by_cases h1 : k < m
    · have k1 : (k : Int) < (m : Int) := by omega
      obtain ⟨g, o, rfl, hg, c0⟩ := HR.out (k * 4) (by omega)
      obtain ⟨x, hx⟩ : ∃ z, U (k * 4) = z := ⟨_, rfl⟩
      rw [hx] at c0
      clear hx
      obtain ⟨y, hy, y0⟩ : ∃ z : Int, (if (0 : Int) < x then x else 0) = z ∧ 0 ≤ z := ⟨_, rfl, by split <;> omega⟩
      obtain ⟨z, hz, z0, z1⟩ : ∃ z : Int, (if y < (1000000 : Int) then y else 1000000) = z ∧ 0 ≤ z ∧ z ≤ 1000000 := ⟨_, rfl, by split <;> omega, by split <;> omega⟩
      have ew : IntKind.i64.wrap (sm + z) = sm + z := by rw [IntKind.wrap_i64]; omega
      go_wp2
      go_roundw
      case rel => exact ⟨k + 1, sm + z, by omega, by go_num, by first | rfl | trivial, by omega, by omega, by first | rfl | trivial⟩
      case measure => simp [intOf]; omega
    · obtain rfl : k = m := by omega
      go_wp2
      go_ret
      exact ⟨sm, rfl, by omega, by omega, rfl⟩
set_option maxRecDepth 20000 in
set_option maxHeartbeats 4000000 in
theorem drawShed_any {s : Option Addr} {n c : Nat} {w : World} (h : Hid (Code8 w s n)) :
    Calls Try.prog 20 #[.slice s n c] w fun e w' => DmsPost w e w' := by
  unfold DmsPost
  go_enter Try.func20, Try.ntmps20
  go_wp2_with fail
  refine (open_any (h.out.below (by repeat (first | with_reducible exact Below.refl _ _ | with_reducible refine Below.setCell ?_ (by first | omega | (simp; done) | (simp; omega)) _ | with_reducible refine bDrewN ?_ _ | with_reducible refine Below.drew ?_ | with_reducible refine Below.alloc ?_ (by first | omega | (simp; done) | (simp; omega)) _)))).mono ?_
  rintro e w1 ⟨rfl, R_, b_⟩
  obtain ⟨r, hr⟩ : ∃ r, r = w.heap.size := ⟨_, rfl⟩
  have HR : Hid (Rd w1 r s n c 0) := by show Rd _ _ _ _ _ _; rw [hr]; simpa using R_
  have HB : Hid (Below w.heap.size w w1) := (show Below w.heap.size w _ from (by repeat (first | with_reducible exact Below.refl _ _ | with_reducible refine Below.setCell ?_ (by first | omega | (simp; done) | (simp; omega)) _ | with_reducible refine bDrewN ?_ _ | with_reducible refine Below.drew ?_ | with_reducible refine Below.alloc ?_ (by first | omega | (simp; done) | (simp; omega)) _))).trans (b_.mono (by first | omega | (simp; done) | (simp; omega)))
  have zr : w.heap.size ≤ r := by omega
  try rw [show w.heap.size = r by rw [hr]; simp]
  try rw [← hr]
  clear R_ b_ h hr
  have zrr : r < w1.heap.size := HR.out.1
  go_wp2_with fail
  refine (machines_any (HR.out.below (by repeat (first | with_reducible exact Below.refl _ _ | with_reducible refine Below.setCell ?_ (by first | omega | (simp; done) | (simp; omega)) _ | with_reducible refine bDrewN ?_ _ | with_reducible refine Below.drew ?_ | with_reducible refine Below.alloc ?_ (by first | omega | (simp; done) | (simp; omega)) _)))).mono ?_
  rintro e w2 ⟨t, m, cap, U, p1, rfl, hm, RW_, LB_, R_, b_⟩
  have sz_ : w.heap.size ≤ w1.heap.size := HB.out.size
  have zr_ : r < w1.heap.size := HR.out.1
  have bb : Beside r w1 w2 := (Beside.of (show Below w1.heap.size w1 _ from (by repeat (first | with_reducible exact Below.refl _ _ | with_reducible refine Below.setCell ?_ (by first | omega | (simp; done) | (simp; omega)) _ | with_reducible refine bDrewN ?_ _ | with_reducible refine Below.drew ?_ | with_reducible refine Below.alloc ?_ (by first | omega | (simp; done) | (simp; omega)) _)))).trans b_
  replace HB : Hid (Below w.heap.size w w2) := HB.out.trans (bb.below (by omega) HB.out.size)
  replace HR : Hid (Rd w2 r s n c p1) := R_
  clear R_
  clear bb b_ sz_ zr_ 
  have RW : Hid (RowI w2 t (m * 4) U) := RW_
  clear RW_
  have NB : Hid (∀ g o, t = some ⟨g, o, none⟩ → g ≠ r) := fun g o e => by have := LB_ g o e; omega
  clear LB_ zrr
  go_wp2_with fail
  refine (l11Sum_any t m cap U _ hm RW).mono ?_
  rintro e wz ⟨sm, rfl, sm0, sm1, rfl⟩
  rename World => wz
  obtain ⟨hi, hhi, hi0, hi1⟩ : ∃ z : Int, (if (1 : Int) < sm then sm else 1) = z ∧ 1 ≤ z ∧ z ≤ 100000000 := ⟨_, rfl, by split <;> omega, by split <;> omega⟩
  have hmx : max (1 : Int) (sm) = hi := by rw [← hhi]; split <;> omega
  have H1 : Hid (1 ≤ hi ∧ hi ≤ 100000000) := ⟨hi0, hi1⟩
  go_wp2_with fail
  refine (off_any 0 hi (by omega) (by have := H1.out.1; omega) (by have := H1.out.2; omega) (HR.out.below (by repeat (first | with_reducible exact Below.refl _ _ | with_reducible refine Below.setCell ?_ (by first | omega | (simp; done) | (simp; omega)) _ | with_reducible refine bDrewN ?_ _ | with_reducible refine Below.drew ?_ | with_reducible refine Below.alloc ?_ (by first | omega | (simp; done) | (simp; omega)) _)))).mono ?_
  rintro e w3 ⟨mo, pm, rfl, -, R_, b_⟩
  have sz_ : w.heap.size ≤ wz.heap.size := HB.out.size
  have zr_ : r < wz.heap.size := HR.out.1
  have bb : Beside r wz w3 := (Beside.of (show Below wz.heap.size wz _ from (by repeat (first | with_reducible exact Below.refl _ _ | with_reducible refine Below.setCell ?_ (by first | omega | (simp; done) | (simp; omega)) _ | with_reducible refine bDrewN ?_ _ | with_reducible refine Below.drew ?_ | with_reducible refine Below.alloc ?_ (by first | omega | (simp; done) | (simp; omega)) _)))).trans b_
  replace HB : Hid (Below w.heap.size w w3) := HB.out.trans (bb.below (by omega) HB.out.size)
  replace HR : Hid (Rd w3 r s n c pm) := R_
  clear R_
  replace RW : Hid (RowI w3 t (m * 4) U) := row_besM RW.out bb NB.out
  clear bb b_ sz_ zr_ 
  have BF := HB.out
  have szBF := BF.size
  clear hhi hmx hi0 hi1
  go_wp2
  exact bodyPost_ret (v := .tuple #[.slice t m cap, .int .i64 mo]) (by simp [results, Try.results20, go_sem]) rfl ⟨t, m, cap, U, mo, rfl, hm, RW.out, (by repeat (first | with_reducible exact Below.refl _ _ | with_reducible exact BF | with_reducible refine Below.setCell ?_ (by first | omega | (simp; done) | (simp; omega)) _ | with_reducible refine bDrewN ?_ _ | with_reducible refine Below.drew ?_ | with_reducible refine Below.alloc ?_ (by first | omega | (simp; done) | (simp; omega)) _))⟩
end Go.Proofs.Ytcialcejmjggeaa
