/-
What is proved: an alarm that is seen, leaves, comes, stands, is heard, as the program tells it.
-/
import Derived.Test.YtlbbdifmjdpfiaaBsNz
namespace Go.Proofs.Ytlbbdifmjdpfiaa
set_option maxRecDepth 40000
open Go.ChangeShapes Go.WideShapes Go.ChangeAt Go.RowKit
set_option linter.unusedVariables false
set_option linter.unusedSimpArgs false

set_option maxHeartbeats 2000000 in
theorem quieted_any (G O T U : Int) (F : Bool) (w : World) : Calls Try.prog 89 #[.agg #[.int .i64 G, .int .i64 O, .int .i64 T, .bool F, .int .i64 U]] w fun e w' => e = .returned (.agg #[.int .i64 G, .int .i64 O, .int .i64 0, .bool false, .int .i64 U]) ∧ Below w.heap.size w w' := by
  go_enter Try.func89, Try.ntmps89
  go_wp2
  exact bodyPost_ret (v := .agg #[.int .i64 G, .int .i64 O, .int .i64 0, .bool false, .int .i64 U]) (by simp [results, Try.results89, go_sem]) rfl ⟨rfl, (by repeat (first | with_reducible exact Below.refl _ _ | with_reducible refine Below.setCell ?_ (by first | omega | (simp; done) | (simp; omega)) _ | with_reducible refine bDrewN ?_ _ | with_reducible refine Below.drew ?_ | with_reducible refine Below.alloc ?_ (by first | omega | (simp; done) | (simp; omega)) _))⟩
set_option maxHeartbeats 4000000 in
theorem seen_any (G O T U : Int) (F : Bool) (w : World) : Calls Try.prog 78 #[.agg #[.int .i64 G, .int .i64 O, .int .i64 T, .bool F, .int .i64 U]] w fun e w' => e = .returned (.agg #[.int .i64 (seenF (G, O, T, F, U)).1, .int .i64 (seenF (G, O, T, F, U)).2.1, .int .i64 (seenF (G, O, T, F, U)).2.2.1, .bool (seenF (G, O, T, F, U)).2.2.2.1, .int .i64 (seenF (G, O, T, F, U)).2.2.2.2]) ∧ Below w.heap.size w w' := by
  by_cases t1 : T = 1
  · subst t1
    have HO : Hid (seenF (G, O, (1 : Int), F, U) = (G, O, 2, F, U)) := by show _ = _; simp [seenF]
    go_enter Try.func78, Try.ntmps78
    go_wp2
    exact bodyPost_ret (v := .agg #[.int .i64 G, .int .i64 O, .int .i64 2, .bool F, .int .i64 U]) (by simp [results, Try.results78, go_sem]) rfl ⟨by rw [HO.out], (by repeat (first | with_reducible exact Below.refl _ _ | with_reducible refine Below.setCell ?_ (by first | omega | (simp; done) | (simp; omega)) _ | with_reducible refine bDrewN ?_ _ | with_reducible refine Below.drew ?_ | with_reducible refine Below.alloc ?_ (by first | omega | (simp; done) | (simp; omega)) _))⟩
  have t1' : (T == 1) = false := by simpa using t1
  by_cases t2 : T = 3
  · subst t2
    have HO : Hid (seenF (G, O, (3 : Int), F, U) = (G, O, 0, false, U)) := by show _ = _; simp [seenF]
    clear t1 t1'
    go_enter Try.func78, Try.ntmps78
    go_wp2_with fail
    refine (quieted_any _ _ _ _ _ _).mono ?_
    rintro e w1 ⟨rfl, h1⟩
    obtain ⟨hc, hf⟩ := bcell h1
    have a0 := hc (w.heap.size + 1) 0 (by first | omega | (simp; done) | (simp; omega))
    have a1 := hc (w.heap.size + 1) 1 (by first | omega | (simp; done) | (simp; omega))
    have a2 := hc (w.heap.size + 1) 2 (by first | omega | (simp; done) | (simp; omega))
    have a3 := hc (w.heap.size + 1) 3 (by first | omega | (simp; done) | (simp; omega))
    have a4 := hc (w.heap.size + 1) 4 (by first | omega | (simp; done) | (simp; omega))
    have e0 := hf (w.heap.size + 1) 0 (by first | omega | (simp; done) | (simp; omega))
    have e1 := hf (w.heap.size + 1) 1 (by first | omega | (simp; done) | (simp; omega))
    have e2 := hf (w.heap.size + 1) 2 (by first | omega | (simp; done) | (simp; omega))
    have e3 := hf (w.heap.size + 1) 3 (by first | omega | (simp; done) | (simp; omega))
    have e4 := hf (w.heap.size + 1) 4 (by first | omega | (simp; done) | (simp; omega))
    simp [go_sem] at a0 a1 a2 a3 a4 e0 e1 e2 e3 e4
    have B1 : Below w.heap.size w w1 := Below.trans (by repeat (first | with_reducible exact Below.refl _ _ | with_reducible refine Below.setCell ?_ (by first | omega | (simp; done) | (simp; omega)) _ | with_reducible refine bDrewN ?_ _ | with_reducible refine Below.drew ?_ | with_reducible refine Below.alloc ?_ (by first | omega | (simp; done) | (simp; omega)) _)) (h1.mono (by first | omega | (simp; done) | (simp; omega)))
    have s1 := B1.size
    clear hc hf h1
    go_wp2
    exact bodyPost_ret (v := .agg #[.int .i64 G, .int .i64 O, .int .i64 0, .bool false, .int .i64 U]) (by simp [results, Try.results78, go_sem, a0, a1, a2, a3, a4]) rfl ⟨by rw [HO.out], (by repeat (first | with_reducible exact Below.refl _ _ | with_reducible exact B1 | with_reducible refine Below.setCell ?_ (by first | omega | (simp; done) | (simp; omega)) _ | with_reducible refine bDrewN ?_ _ | with_reducible refine Below.drew ?_ | with_reducible refine Below.alloc ?_ (by first | omega | (simp; done) | (simp; omega)) _))⟩
  have t2' : (T == 3) = false := by simpa using t2
  have HO : Hid (seenF (G, O, T, F, U) = (G, O, T, F, U)) := by show _ = _; simp [seenF, t1, t2]
  clear t1 t2
  go_enter Try.func78, Try.ntmps78
  go_wp2
  exact bodyPost_ret (v := .agg #[.int .i64 G, .int .i64 O, .int .i64 T, .bool F, .int .i64 U]) (by simp [results, Try.results78, go_sem]) rfl ⟨by rw [HO.out], (by repeat (first | with_reducible exact Below.refl _ _ | with_reducible refine Below.setCell ?_ (by first | omega | (simp; done) | (simp; omega)) _ | with_reducible refine bDrewN ?_ _ | with_reducible refine Below.drew ?_ | with_reducible refine Below.alloc ?_ (by first | omega | (simp; done) | (simp; omega)) _))⟩
set_option maxHeartbeats 4000000 in
theorem left_any (G O T U : Int) (F : Bool) (w : World) : Calls Try.prog 80 #[.agg #[.int .i64 G, .int .i64 O, .int .i64 T, .bool F, .int .i64 U]] w fun e w' => e = .returned (.agg #[.int .i64 (lisF (G, O, T, F, U) false false).1, .int .i64 (lisF (G, O, T, F, U) false false).2.1, .int .i64 (lisF (G, O, T, F, U) false false).2.2.1, .bool (lisF (G, O, T, F, U) false false).2.2.2.1, .int .i64 (lisF (G, O, T, F, U) false false).2.2.2.2]) ∧ Below w.heap.size w w' := by
  by_cases t1 : T = 1
  · subst t1
    have HO : Hid (lisF (G, O, (1 : Int), F, U) false false = (G, O, 3, F, U)) := by show _ = _; simp [lisF]
    go_enter Try.func80, Try.ntmps80
    go_wp2
    exact bodyPost_ret (v := .agg #[.int .i64 G, .int .i64 O, .int .i64 3, .bool F, .int .i64 U]) (by simp [results, Try.results80, go_sem]) rfl ⟨by rw [HO.out], (by repeat (first | with_reducible exact Below.refl _ _ | with_reducible refine Below.setCell ?_ (by first | omega | (simp; done) | (simp; omega)) _ | with_reducible refine bDrewN ?_ _ | with_reducible refine Below.drew ?_ | with_reducible refine Below.alloc ?_ (by first | omega | (simp; done) | (simp; omega)) _))⟩
  have t1' : (T == 1) = false := by simpa using t1
  by_cases t2 : T = 2
  · subst t2
    have HO : Hid (lisF (G, O, (2 : Int), F, U) false false = (G, O, 0, false, U)) := by show _ = _; simp [lisF]
    clear t1 t1'
    go_enter Try.func80, Try.ntmps80
    go_wp2_with fail
    refine (quieted_any _ _ _ _ _ _).mono ?_
    rintro e w1 ⟨rfl, h1⟩
    obtain ⟨hc, hf⟩ := bcell h1
    have a0 := hc (w.heap.size + 1) 0 (by first | omega | (simp; done) | (simp; omega))
    have a1 := hc (w.heap.size + 1) 1 (by first | omega | (simp; done) | (simp; omega))
    have a2 := hc (w.heap.size + 1) 2 (by first | omega | (simp; done) | (simp; omega))
    have a3 := hc (w.heap.size + 1) 3 (by first | omega | (simp; done) | (simp; omega))
    have a4 := hc (w.heap.size + 1) 4 (by first | omega | (simp; done) | (simp; omega))
    have e0 := hf (w.heap.size + 1) 0 (by first | omega | (simp; done) | (simp; omega))
    have e1 := hf (w.heap.size + 1) 1 (by first | omega | (simp; done) | (simp; omega))
    have e2 := hf (w.heap.size + 1) 2 (by first | omega | (simp; done) | (simp; omega))
    have e3 := hf (w.heap.size + 1) 3 (by first | omega | (simp; done) | (simp; omega))
    have e4 := hf (w.heap.size + 1) 4 (by first | omega | (simp; done) | (simp; omega))
    simp [go_sem] at a0 a1 a2 a3 a4 e0 e1 e2 e3 e4
    have B1 : Below w.heap.size w w1 := Below.trans (by repeat (first | with_reducible exact Below.refl _ _ | with_reducible refine Below.setCell ?_ (by first | omega | (simp; done) | (simp; omega)) _ | with_reducible refine bDrewN ?_ _ | with_reducible refine Below.drew ?_ | with_reducible refine Below.alloc ?_ (by first | omega | (simp; done) | (simp; omega)) _)) (h1.mono (by first | omega | (simp; done) | (simp; omega)))
    have s1 := B1.size
    clear hc hf h1
    go_wp2
    exact bodyPost_ret (v := .agg #[.int .i64 G, .int .i64 O, .int .i64 0, .bool false, .int .i64 U]) (by simp [results, Try.results80, go_sem, a0, a1, a2, a3, a4]) rfl ⟨by rw [HO.out], (by repeat (first | with_reducible exact Below.refl _ _ | with_reducible exact B1 | with_reducible refine Below.setCell ?_ (by first | omega | (simp; done) | (simp; omega)) _ | with_reducible refine bDrewN ?_ _ | with_reducible refine Below.drew ?_ | with_reducible refine Below.alloc ?_ (by first | omega | (simp; done) | (simp; omega)) _))⟩
  have t2' : (T == 2) = false := by simpa using t2
  have HO : Hid (lisF (G, O, T, F, U) false false = (G, O, T, F, U)) := by show _ = _; simp [lisF, t1, t2]
  clear t1 t2
  go_enter Try.func80, Try.ntmps80
  go_wp2
  exact bodyPost_ret (v := .agg #[.int .i64 G, .int .i64 O, .int .i64 T, .bool F, .int .i64 U]) (by simp [results, Try.results80, go_sem]) rfl ⟨by rw [HO.out], (by repeat (first | with_reducible exact Below.refl _ _ | with_reducible refine Below.setCell ?_ (by first | omega | (simp; done) | (simp; omega)) _ | with_reducible refine bDrewN ?_ _ | with_reducible refine Below.drew ?_ | with_reducible refine Below.alloc ?_ (by first | omega | (simp; done) | (simp; omega)) _))⟩
set_option maxHeartbeats 1000000 in
theorem stands_any (G O T U : Int) (F : Bool) (w : World) : Calls Try.prog 81 #[.agg #[.int .i64 G, .int .i64 O, .int .i64 T, .bool F, .int .i64 U]] w fun e w' => e = .returned (.bool (decide (T = 1) || decide (T = 2))) ∧ Below w.heap.size w w' := by
  by_cases t1 : T = 1
  · subst t1
    go_enter Try.func81, Try.ntmps81
    go_wp2
    go_ret
    exact ⟨ret_bool (by simp), (by repeat (first | with_reducible exact Below.refl _ _ | with_reducible refine Below.setCell ?_ (by first | omega | (simp; done) | (simp; omega)) _ | with_reducible refine bDrewN ?_ _ | with_reducible refine Below.drew ?_ | with_reducible refine Below.alloc ?_ (by first | omega | (simp; done) | (simp; omega)) _))⟩
  have t1' : (T == 1) = false := by simpa using t1
  have HO : Hid ((decide (T = 1) || decide (T = 2)) = (T == 2)) := by show _ = _; rw [decide_eq_false t1, Bool.beq_eq_decide_eq]; rfl
  clear t1
  go_enter Try.func81, Try.ntmps81
  go_wp2
  go_ret
  exact ⟨ret_bool HO.out.symm, (by repeat (first | with_reducible exact Below.refl _ _ | with_reducible refine Below.setCell ?_ (by first | omega | (simp; done) | (simp; omega)) _ | with_reducible refine bDrewN ?_ _ | with_reducible refine Below.drew ?_ | with_reducible refine Below.alloc ?_ (by first | omega | (simp; done) | (simp; omega)) _))⟩
set_option maxHeartbeats 2000000 in
theorem come_any (G O T U : Int) (F a : Bool) (w : World) : Calls Try.prog 82 #[.agg #[.int .i64 G, .int .i64 O, .int .i64 T, .bool F, .int .i64 U], .bool a] w fun e w' => e = .returned (.agg #[.int .i64 G, .int .i64 O, .int .i64 1, .bool (F || a), .int .i64 U]) ∧ Below w.heap.size w w' := by
  cases F
  all_goals
    go_enter Try.func82, Try.ntmps82
    go_wp2
  · exact bodyPost_ret (v := .agg #[.int .i64 G, .int .i64 O, .int .i64 1, .bool a, .int .i64 U]) (by simp [results, Try.results82, go_sem]) rfl ⟨rfl, (by repeat (first | with_reducible exact Below.refl _ _ | with_reducible refine Below.setCell ?_ (by first | omega | (simp; done) | (simp; omega)) _ | with_reducible refine bDrewN ?_ _ | with_reducible refine Below.drew ?_ | with_reducible refine Below.alloc ?_ (by first | omega | (simp; done) | (simp; omega)) _))⟩
  · exact bodyPost_ret (v := .agg #[.int .i64 G, .int .i64 O, .int .i64 1, .bool true, .int .i64 U]) (by simp [results, Try.results82, go_sem]) rfl ⟨rfl, (by repeat (first | with_reducible exact Below.refl _ _ | with_reducible refine Below.setCell ?_ (by first | omega | (simp; done) | (simp; omega)) _ | with_reducible refine bDrewN ?_ _ | with_reducible refine Below.drew ?_ | with_reducible refine Below.alloc ?_ (by first | omega | (simp; done) | (simp; omega)) _))⟩
set_option maxHeartbeats 2000000 in
theorem heard_any (G O T U : Int) (F th : Bool) (mo x : Int) (w : World) (m0 : 0 ≤ mo) (m1 : mo ≤ 7) (o0 : 0 ≤ O) (o1 : O ≤ 255) : Calls Try.prog 79 #[.agg #[.int .i64 G, .int .i64 O, .int .i64 T, .bool F, .int .i64 U], .bool th, .int .i64 mo, .int .i64 x] w fun e w' => e = .returned (.bool (heaB (G, O, T, F, U) th mo x)) ∧ Below w.heap.size w w' := by
  cases th
  · go_enter Try.func79, Try.ntmps79
    go_wp2
    go_ret
    exact ⟨rfl, (by repeat (first | with_reducible exact Below.refl _ _ | with_reducible refine Below.setCell ?_ (by first | omega | (simp; done) | (simp; omega)) _ | with_reducible refine bDrewN ?_ _ | with_reducible refine Below.drew ?_ | with_reducible refine Below.alloc ?_ (by first | omega | (simp; done) | (simp; omega)) _))⟩
  cases hb : (bits BinOp.and IntKind.i64 (O / 2 ^ mo.toNat) 1 == 0)
  all_goals
    have HO : Hid (heaB (G, O, T, F, U) true mo x = ((bits BinOp.and IntKind.i64 (O / 2 ^ mo.toNat) 1 == 0) && decide (U < x))) := rfl
    go_enter Try.func79, Try.ntmps79
    go_wp2
    go_ret
    exact ⟨ret_bool (by rw [HO.out, hb]; rfl), (by repeat (first | with_reducible exact Below.refl _ _ | with_reducible refine Below.setCell ?_ (by first | omega | (simp; done) | (simp; omega)) _ | with_reducible refine bDrewN ?_ _ | with_reducible refine Below.drew ?_ | with_reducible refine Below.alloc ?_ (by first | omega | (simp; done) | (simp; omega)) _))⟩
end Go.Proofs.Ytlbbdifmjdpfiaa
