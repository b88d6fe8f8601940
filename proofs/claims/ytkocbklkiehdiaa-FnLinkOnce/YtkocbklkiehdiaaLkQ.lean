/-
What is proved: when a link is right, as both packages tell it.
-/
import Derived.Test.YtkocbklkiehdiaaFmR
namespace Go.Proofs.Ytkocbklkiehdiaa
set_option maxRecDepth 40000
open Go.RowKit
set_option linter.unusedVariables false
set_option linter.unusedSimpArgs false

def untB (q a l : Int) (n : Nat) : Bool := decide (q = 0) && (decide (l = 0) && (decide ((n : Int) = 0) && decide (a = 100)))
def linkB (t : Int) (h : Bool) (q a l : Int) (n : Nat) (V : Nat → Int) : Bool := frameB t q n V && (inB 0 100 a && (inB 0 1000000000 l && (h || untB q a l n)))
set_option maxHeartbeats 4000000 in
theorem l13Link_any (t : Int) (h : Bool) (q a l : Int) (s : Option Addr) (n c : Nat) (V : Nat → Int) (w : World) (HR : Hid (RowI w s n V)) :
    Calls Try.prog 43 #[.agg #[.int .i64 t, .bool h, .int .i64 q, .int .i64 a, .int .i64 l, .slice s n c]] w fun e w' => e = .returned (.bool (linkB t h q a l n V)) ∧ Below w.heap.size w w' := by
  go_enter Try.func43, Try.ntmps43
  go_wp2_with fail
  refine (l1In_is _ _ _ _).mono ?_
  rintro e w1 ⟨rfl, rfl⟩
  cases k0 : inB 1 4 t
  · go_wp2
    go_ret
    exact ⟨ret_bool (by simp [linkB, frameB, k0]), (by repeat (first | with_reducible exact Below.refl _ _ | with_reducible refine Below.setCell ?_ (by first | omega | (simp; done) | (simp; omega)) _ | with_reducible refine bDrewN ?_ _ | with_reducible refine Below.drew ?_ | with_reducible refine Below.alloc ?_ (by first | omega | (simp; done) | (simp; omega)) _))⟩
  go_wp2_with fail
  refine (l1In_is _ _ _ _).mono ?_
  rintro e w1 ⟨rfl, rfl⟩
  cases k1 : inB 0 100 a
  · go_wp2
    go_ret
    exact ⟨ret_bool (by simp [linkB, frameB, k0, k1]), (by repeat (first | with_reducible exact Below.refl _ _ | with_reducible refine Below.setCell ?_ (by first | omega | (simp; done) | (simp; omega)) _ | with_reducible refine bDrewN ?_ _ | with_reducible refine Below.drew ?_ | with_reducible refine Below.alloc ?_ (by first | omega | (simp; done) | (simp; omega)) _))⟩
  go_wp2_with fail
  refine (l1In_is _ _ _ _).mono ?_
  rintro e w1 ⟨rfl, rfl⟩
  cases k2 : inB 0 1000000000 l
  · go_wp2
    go_ret
    exact ⟨ret_bool (by simp [linkB, frameB, k0, k1, k2]), (by repeat (first | with_reducible exact Below.refl _ _ | with_reducible refine Below.setCell ?_ (by first | omega | (simp; done) | (simp; omega)) _ | with_reducible refine bDrewN ?_ _ | with_reducible refine Below.drew ?_ | with_reducible refine Below.alloc ?_ (by first | omega | (simp; done) | (simp; omega)) _))⟩
  go_wp2_with fail
  refine (l1In_is _ _ _ _).mono ?_
  rintro e w1 ⟨rfl, rfl⟩
  cases k3 : inB 0 65535 q
  · go_wp2
    go_ret
    exact ⟨ret_bool (by simp [linkB, frameB, k0, k1, k2, k3]), (by repeat (first | with_reducible exact Below.refl _ _ | with_reducible refine Below.setCell ?_ (by first | omega | (simp; done) | (simp; omega)) _ | with_reducible refine bDrewN ?_ _ | with_reducible refine Below.drew ?_ | with_reducible refine Below.alloc ?_ (by first | omega | (simp; done) | (simp; omega)) _))⟩
  go_wp2_with fail
  refine (l13Values_any s n c V _ (row_1 HR.out)).mono ?_
  rintro e w1 ⟨rfl, rfl⟩
  cases k4 : valsB n V
  · go_wp2
    go_ret
    exact ⟨ret_bool (by simp [linkB, frameB, k0, k1, k2, k3, k4]), (by repeat (first | with_reducible exact Below.refl _ _ | with_reducible refine Below.setCell ?_ (by first | omega | (simp; done) | (simp; omega)) _ | with_reducible refine bDrewN ?_ _ | with_reducible refine Below.drew ?_ | with_reducible refine Below.alloc ?_ (by first | omega | (simp; done) | (simp; omega)) _))⟩
  have HO : Hid (linkB t h q a l n V = (h || untB q a l n)) := show linkB t h q a l n V = _ by simp [linkB, frameB, k0, k1, k2, k3, k4]
  clear k0 k1 k2 k3 k4
  cases h
  case true =>
    go_wp2
    go_ret
    exact ⟨ret_bool (by rw [HO.out]; rfl), (by repeat (first | with_reducible exact Below.refl _ _ | with_reducible refine Below.setCell ?_ (by first | omega | (simp; done) | (simp; omega)) _ | with_reducible refine bDrewN ?_ _ | with_reducible refine Below.drew ?_ | with_reducible refine Below.alloc ?_ (by first | omega | (simp; done) | (simp; omega)) _))⟩
  by_cases e0 : q = 0
  case neg =>
    go_wp2
    go_ret
    exact ⟨ret_bool (by rw [HO.out]; first | (simp [untB, e0]; done) | (simp [untB, e0]; intro h; omega)), (by repeat (first | with_reducible exact Below.refl _ _ | with_reducible refine Below.setCell ?_ (by first | omega | (simp; done) | (simp; omega)) _ | with_reducible refine bDrewN ?_ _ | with_reducible refine Below.drew ?_ | with_reducible refine Below.alloc ?_ (by first | omega | (simp; done) | (simp; omega)) _))⟩
  by_cases e1 : l = 0
  case neg =>
    go_wp2
    go_ret
    exact ⟨ret_bool (by rw [HO.out]; first | (simp [untB, e0, e1]; done) | (simp [untB, e0, e1]; intro h; omega)), (by repeat (first | with_reducible exact Below.refl _ _ | with_reducible refine Below.setCell ?_ (by first | omega | (simp; done) | (simp; omega)) _ | with_reducible refine bDrewN ?_ _ | with_reducible refine Below.drew ?_ | with_reducible refine Below.alloc ?_ (by first | omega | (simp; done) | (simp; omega)) _))⟩
  by_cases e2 : (n : Int) = 0
  case neg =>
    go_wp2
    go_ret
    exact ⟨ret_bool (by rw [HO.out]; first | (simp [untB, e0, e1, e2]; done) | (simp [untB, e0, e1, e2]; intro h; omega)), (by repeat (first | with_reducible exact Below.refl _ _ | with_reducible refine Below.setCell ?_ (by first | omega | (simp; done) | (simp; omega)) _ | with_reducible refine bDrewN ?_ _ | with_reducible refine Below.drew ?_ | with_reducible refine Below.alloc ?_ (by first | omega | (simp; done) | (simp; omega)) _))⟩
  by_cases e3 : a = 100
  case neg =>
    go_wp2
    go_ret
    exact ⟨ret_bool (by rw [HO.out]; first | (simp [untB, e0, e1, e2, e3]; done) | (simp [untB, e0, e1, e2, e3]; intro h; omega)), (by repeat (first | with_reducible exact Below.refl _ _ | with_reducible refine Below.setCell ?_ (by first | omega | (simp; done) | (simp; omega)) _ | with_reducible refine bDrewN ?_ _ | with_reducible refine Below.drew ?_ | with_reducible refine Below.alloc ?_ (by first | omega | (simp; done) | (simp; omega)) _))⟩
  go_wp2
  go_ret
  exact ⟨ret_bool (by rw [HO.out]; simp [untB, e0, e1, e2, e3]), (by repeat (first | with_reducible exact Below.refl _ _ | with_reducible refine Below.setCell ?_ (by first | omega | (simp; done) | (simp; omega)) _ | with_reducible refine bDrewN ?_ _ | with_reducible refine Below.drew ?_ | with_reducible refine Below.alloc ?_ (by first | omega | (simp; done) | (simp; omega)) _))⟩
set_option maxHeartbeats 4000000 in
theorem untouched_any (t : Int) (h : Bool) (q a l : Int) (s : Option Addr) (n c : Nat) (w : World) :
    Calls Try.prog 70 #[.agg #[.int .i64 t, .bool h, .int .i64 q, .int .i64 a, .int .i64 l, .slice s n c]] w fun e w' => e = .returned (.bool (untB q a l n)) ∧ Below w.heap.size w w' := by
  go_enter Try.func70, Try.ntmps70
  by_cases e0 : q = 0
  case neg =>
    go_wp2
    go_ret
    exact ⟨ret_bool (by first | (simp [untB, e0]; done) | (simp [untB, e0]; intro h; omega)), (by repeat (first | with_reducible exact Below.refl _ _ | with_reducible refine Below.setCell ?_ (by first | omega | (simp; done) | (simp; omega)) _ | with_reducible refine bDrewN ?_ _ | with_reducible refine Below.drew ?_ | with_reducible refine Below.alloc ?_ (by first | omega | (simp; done) | (simp; omega)) _))⟩
  by_cases e1 : l = 0
  case neg =>
    go_wp2
    go_ret
    exact ⟨ret_bool (by first | (simp [untB, e0, e1]; done) | (simp [untB, e0, e1]; intro h; omega)), (by repeat (first | with_reducible exact Below.refl _ _ | with_reducible refine Below.setCell ?_ (by first | omega | (simp; done) | (simp; omega)) _ | with_reducible refine bDrewN ?_ _ | with_reducible refine Below.drew ?_ | with_reducible refine Below.alloc ?_ (by first | omega | (simp; done) | (simp; omega)) _))⟩
  by_cases e2 : (n : Int) = 0
  case neg =>
    go_wp2
    go_ret
    exact ⟨ret_bool (by first | (simp [untB, e0, e1, e2]; done) | (simp [untB, e0, e1, e2]; intro h; omega)), (by repeat (first | with_reducible exact Below.refl _ _ | with_reducible refine Below.setCell ?_ (by first | omega | (simp; done) | (simp; omega)) _ | with_reducible refine bDrewN ?_ _ | with_reducible refine Below.drew ?_ | with_reducible refine Below.alloc ?_ (by first | omega | (simp; done) | (simp; omega)) _))⟩
  by_cases e3 : a = 100
  case neg =>
    go_wp2
    go_ret
    exact ⟨ret_bool (by first | (simp [untB, e0, e1, e2, e3]; done) | (simp [untB, e0, e1, e2, e3]; intro h; omega)), (by repeat (first | with_reducible exact Below.refl _ _ | with_reducible refine Below.setCell ?_ (by first | omega | (simp; done) | (simp; omega)) _ | with_reducible refine bDrewN ?_ _ | with_reducible refine Below.drew ?_ | with_reducible refine Below.alloc ?_ (by first | omega | (simp; done) | (simp; omega)) _))⟩
  go_wp2
  go_ret
  exact ⟨ret_bool (by simp [untB, e0, e1, e2, e3]), (by repeat (first | with_reducible exact Below.refl _ _ | with_reducible refine Below.setCell ?_ (by first | omega | (simp; done) | (simp; omega)) _ | with_reducible refine bDrewN ?_ _ | with_reducible refine Below.drew ?_ | with_reducible refine Below.alloc ?_ (by first | omega | (simp; done) | (simp; omega)) _))⟩
set_option maxHeartbeats 4000000 in
theorem linkRight_any (t : Int) (h : Bool) (q a l : Int) (s : Option Addr) (n c : Nat) (V : Nat → Int) (w : World) (hn : (n : Int) ≤ 1048576) (HR : Hid (RowI w s n V)) :
    Calls Try.prog 45 #[.agg #[.int .i64 t, .bool h, .int .i64 q, .int .i64 a, .int .i64 l, .slice s n c]] w fun e w' => e = .returned (.bool (linkB t h q a l n V)) ∧ Below w.heap.size w w' := by
  go_enter Try.func45, Try.ntmps45
  go_wp2_with fail
  refine (frameRight_any t q s n c V _ hn (row_1 (row_1 HR.out))).mono ?_
  rintro e w1 ⟨rfl, h1⟩
  obtain ⟨hc, hf⟩ := bcell h1
  have q0 := hc w.heap.size 0 (by first | omega | (simp; done) | (simp; omega))
  have q1 := hc w.heap.size 1 (by first | omega | (simp; done) | (simp; omega))
  have q2 := hc w.heap.size 2 (by first | omega | (simp; done) | (simp; omega))
  have q3 := hc w.heap.size 3 (by first | omega | (simp; done) | (simp; omega))
  have q4 := hc w.heap.size 4 (by first | omega | (simp; done) | (simp; omega))
  have q5 := hc w.heap.size 5 (by first | omega | (simp; done) | (simp; omega))
  simp [go_sem] at q0 q1 q2 q3 q4 q5
  have z1 : w.heap.size < w1.heap.size := by have := h1.size; simp at this; omega
  have B1 : Below w.heap.size w w1 := Below.trans (by repeat (first | with_reducible exact Below.refl _ _ | with_reducible refine Below.setCell ?_ (by first | omega | (simp; done) | (simp; omega)) _ | with_reducible refine bDrewN ?_ _ | with_reducible refine Below.drew ?_ | with_reducible refine Below.alloc ?_ (by first | omega | (simp; done) | (simp; omega)) _)) (h1.mono (by first | omega | (simp; done) | (simp; omega)))
  clear hc hf h1
  cases k0 : frameB t q n V
  · go_wp2
    go_ret
    exact ⟨ret_bool (by simp [linkB, k0]), (by repeat (first | with_reducible exact Below.refl _ _ | with_reducible exact B1 | with_reducible refine Below.setCell ?_ (by first | omega | (simp; done) | (simp; omega)) _ | with_reducible refine bDrewN ?_ _ | with_reducible refine Below.drew ?_ | with_reducible refine Below.alloc ?_ (by first | omega | (simp; done) | (simp; omega)) _))⟩
  go_wp2_with fail
  refine (within_is _ _ _ _).mono ?_
  rintro e w1 ⟨rfl, rfl⟩
  cases k1 : inB 0 100 a
  · go_wp2
    go_ret
    exact ⟨ret_bool (by simp [linkB, k0, k1]), (by repeat (first | with_reducible exact Below.refl _ _ | with_reducible exact B1 | with_reducible refine Below.setCell ?_ (by first | omega | (simp; done) | (simp; omega)) _ | with_reducible refine bDrewN ?_ _ | with_reducible refine Below.drew ?_ | with_reducible refine Below.alloc ?_ (by first | omega | (simp; done) | (simp; omega)) _))⟩
  go_wp2_with fail
  refine (within_is _ _ _ _).mono ?_
  rintro e w1 ⟨rfl, rfl⟩
  cases k2 : inB 0 1000000000 l
  · go_wp2
    go_ret
    exact ⟨ret_bool (by simp [linkB, k0, k1, k2]), (by repeat (first | with_reducible exact Below.refl _ _ | with_reducible exact B1 | with_reducible refine Below.setCell ?_ (by first | omega | (simp; done) | (simp; omega)) _ | with_reducible refine bDrewN ?_ _ | with_reducible refine Below.drew ?_ | with_reducible refine Below.alloc ?_ (by first | omega | (simp; done) | (simp; omega)) _))⟩
  have HO : Hid (linkB t h q a l n V = (h || untB q a l n)) := show linkB t h q a l n V = _ by simp [linkB, k0, k1, k2]
  clear k0 k1 k2
  cases h
  case true =>
    go_wp2
    go_ret
    exact ⟨ret_bool (by rw [HO.out]; rfl), (by repeat (first | with_reducible exact Below.refl _ _ | with_reducible exact B1 | with_reducible refine Below.setCell ?_ (by first | omega | (simp; done) | (simp; omega)) _ | with_reducible refine bDrewN ?_ _ | with_reducible refine Below.drew ?_ | with_reducible refine Below.alloc ?_ (by first | omega | (simp; done) | (simp; omega)) _))⟩
  go_wp2_with fail
  refine (untouched_any t false q a l s n c _).mono ?_
  rintro e w2 ⟨rfl, h2⟩
  have B2 : Below w.heap.size w w2 := B1.trans (h2.mono B1.size)
  go_wp2
  go_ret
  exact ⟨ret_bool (by rw [HO.out]; rfl), (by repeat (first | with_reducible exact Below.refl _ _ | with_reducible exact B2 | with_reducible refine Below.setCell ?_ (by first | omega | (simp; done) | (simp; omega)) _ | with_reducible refine bDrewN ?_ _ | with_reducible refine Below.drew ?_ | with_reducible refine Below.alloc ?_ (by first | omega | (simp; done) | (simp; omega)) _))⟩
end Go.Proofs.Ytkocbklkiehdiaa
