/-
What is proved: when a frame's parts are right, as both packages tell it.
-/
import Derived.Test.YtkocbklkiehdiaaAllIn
import Derived.Test.YtkocbklkiehdiaaIsW
namespace Go.Proofs.Ytkocbklkiehdiaa
set_option maxRecDepth 40000
open Go.RowKit
set_option linter.unusedVariables false
set_option linter.unusedSimpArgs false

set_option maxHeartbeats 400000 in
theorem trainOk_any (x : Int) (w : World) : Calls Try.prog 71 #[.int .i64 x] w fun e w' => e = .returned (.bool (inB 1 4 x)) ∧ w' = w := by
  go_enter Try.func71, Try.ntmps71
  go_wp2_with fail
  refine (within_is _ _ _ _).mono ?_
  rintro e w1 ⟨rfl, rfl⟩
  go_wp2
  go_ret
  exact ⟨rfl, rfl⟩
theorem row_1 {w : World} {s : Option Addr} {n : Nat} {V : Nat → Int} {o : Obj} (h : RowI w s n V) : RowI (w.alloc o) s n V := h.below (by repeat (first | with_reducible exact Below.refl _ _ | with_reducible refine Below.setCell ?_ (by first | omega | (simp; done) | (simp; omega)) _ | with_reducible refine bDrewN ?_ _ | with_reducible refine Below.drew ?_ | with_reducible refine Below.alloc ?_ (by first | omega | (simp; done) | (simp; omega)) _))
def valsB (n : Nat) (V : Nat → Int) : Bool := decide ((n : Int) ≤ 20) && allInB 0 65535 V n
def frameB (t q : Int) (n : Nat) (V : Nat → Int) : Bool := inB 1 4 t && (inB 0 65535 q && valsB n V)
set_option maxRecDepth 20000 in
set_option maxHeartbeats 1000000 in
theorem l13Values_any (s : Option Addr) (n c : Nat) (V : Nat → Int) (w : World) (HR : Hid (RowI w s n V)) :
    Calls Try.prog 69 #[.slice s n c] w fun e w' => e = .returned (.bool (valsB n V)) ∧ w' = w := by
  go_enter Try.func69, Try.ntmps69
  by_cases hn : (20 : Int) < n
  · have HO : Hid (valsB n V = false) := show valsB n V = false by unfold valsB; rw [decide_eq_false (by omega)]; rfl
    go_wp2
    go_ret
    exact ⟨ret_bool HO.out.symm, rfl⟩
  have HO : Hid (valsB n V = allInB 0 65535 V n) := show valsB n V = _ by unfold valsB; rw [decide_eq_true (by omega)]; rfl
  go_wp2_with fail
  go_loop [3] (fun i => ∃ k : Nat, k ≤ n ∧ i = .int .i64 k ∧ Hid (∀ j, j < k → 0 ≤ V j ∧ V j ≤ 65535)) (fun i => n - (intOf i).toNat)
  case atStart => exact ⟨0, Nat.zero_le _, rfl, fun j hj => by omega⟩
  case round =>
    obtain ⟨k, hk, rfl, hP⟩ := hrel
    by_cases hlt : k < n
    · obtain ⟨g, o, rfl, hg, c0⟩ := HR.out k hlt
      have k1 : (k : Int) < (n : Int) := by omega
      go_wp2_with fail
      refine (l1In_is _ _ _ _).mono ?_
      rintro e w2 ⟨rfl, rfl⟩
      cases q : inB 0 65535 (V k)
      · go_wp2
        go_ret
        exact ⟨ret_bool (by rw [HO.out]; exact (decide_eq_false (fun h => by have := inB_no q; have := h k hlt; omega)).symm), rfl⟩
      · go_wp2
        go_round
        case rel => exact ⟨k + 1, by omega, by go_num, ball_succ hP.out (inB_yes q)⟩
        case measure => simp [intOf]; omega
    · obtain rfl : k = n := by omega
      go_wp2
      go_ret
      exact ⟨ret_bool (by rw [HO.out]; exact (decide_eq_true hP.out).symm), rfl⟩
set_option maxHeartbeats 4000000 in
theorem frameRight_any (t q : Int) (s : Option Addr) (n c : Nat) (V : Nat → Int) (w : World) (hn : (n : Int) ≤ 1048576) (HR : Hid (RowI w s n V)) :
    Calls Try.prog 56 #[.agg #[.int .i64 t, .int .i64 q, .slice s n c]] w fun e w' => e = .returned (.bool (frameB t q n V)) ∧ Below w.heap.size w w' := by
  go_enter Try.func56, Try.ntmps56
  go_wp2_with fail
  refine (trainOk_any _ _).mono ?_
  rintro e w1 ⟨rfl, rfl⟩
  cases k0 : inB 1 4 t
  · go_wp2
    go_ret
    exact ⟨ret_bool (by simp [frameB, k0]), (by repeat (first | with_reducible exact Below.refl _ _ | with_reducible refine Below.setCell ?_ (by first | omega | (simp; done) | (simp; omega)) _ | with_reducible refine bDrewN ?_ _ | with_reducible refine Below.drew ?_ | with_reducible refine Below.alloc ?_ (by first | omega | (simp; done) | (simp; omega)) _))⟩
  go_wp2_with fail
  refine (within_is _ _ _ _).mono ?_
  rintro e w1 ⟨rfl, rfl⟩
  cases k1 : inB 0 65535 q
  · go_wp2
    go_ret
    exact ⟨ret_bool (by simp [frameB, k0, k1]), (by repeat (first | with_reducible exact Below.refl _ _ | with_reducible refine Below.setCell ?_ (by first | omega | (simp; done) | (simp; omega)) _ | with_reducible refine bDrewN ?_ _ | with_reducible refine Below.drew ?_ | with_reducible refine Below.alloc ?_ (by first | omega | (simp; done) | (simp; omega)) _))⟩
  by_cases k2 : (n : Int) ≤ 20
  case neg =>
    go_wp2
    go_ret
    exact ⟨ret_bool (by simp [frameB, valsB, k0, k1, k2]; intro h; omega), (by repeat (first | with_reducible exact Below.refl _ _ | with_reducible refine Below.setCell ?_ (by first | omega | (simp; done) | (simp; omega)) _ | with_reducible refine bDrewN ?_ _ | with_reducible refine Below.drew ?_ | with_reducible refine Below.alloc ?_ (by first | omega | (simp; done) | (simp; omega)) _))⟩
  go_wp2_with fail
  refine (allWithin_any s n c V 0 65535 _ hn (row_1 HR.out)).mono ?_
  rintro e w1 ⟨rfl, rfl⟩
  go_wp2
  go_ret
  exact ⟨ret_bool (by simp [frameB, valsB, k0, k1, k2]), (by repeat (first | with_reducible exact Below.refl _ _ | with_reducible refine Below.setCell ?_ (by first | omega | (simp; done) | (simp; omega)) _ | with_reducible refine bDrewN ?_ _ | with_reducible refine Below.drew ?_ | with_reducible refine Below.alloc ?_ (by first | omega | (simp; done) | (simp; omega)) _))⟩
end Go.Proofs.Ytkocbklkiehdiaa
