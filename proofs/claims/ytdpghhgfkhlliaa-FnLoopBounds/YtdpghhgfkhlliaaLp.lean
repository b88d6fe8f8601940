/-
What is proved: when a loop is right and a hold belongs to it, as both packages say it; a loop and a hold of the laws as the program's own.
-/
import Derived.Test.YtdpghhgfkhlliaaIs
import Derived.Deep.RegionHeld3
namespace Go.Proofs.Ytdpghhgfkhlliaa
set_option maxRecDepth 40000
open Go.RowKit
set_option linter.unusedVariables false
set_option linter.unusedSimpArgs false

def loopB (P I D S L H B : Int) : Bool := inB 0 1000 P && (inB 0 1000 I && (inB 0 1000 D && (inB 1 1000 S && (inB 0 10 B && (inB (-1000000) H L && decide (H ≤ 1000000))))))
def holdB (L H : Int) (on : Bool) (u v o : Int) : Bool := if on = true then inB (-1000000000) 1000000000 u && (inB (-2000000) 2000000 v && inB L H o) else (decide (u = 0) && (decide (v = 0) && decide (o = 0)))
theorem eq_hold (on : Bool) (u v o : Int) (on2 : Bool) (u2 v2 o2 : Int) (w : World) : (binOp .eql 29 (.agg #[.bool on, .int .i64 u, .int .i64 v, .int .i64 o]) (.agg #[.bool on2, .int .i64 u2, .int .i64 v2, .int .i64 o2])).run Try.prog w = .ok (.bool (on == on2 && (u == u2 && (v == v2 && o == o2)))) w := by
  have u3 := Try.underlying2
  have a3 := Try.isAgg2
  have z3 := Try.sizeOf2
  have u4 := Try.underlying4
  have a4 := Try.isAgg4
  have z4 := Try.sizeOf4
  have hS : Try.prog.underlying 29 = some (.struct (Try.prog.fieldsOf 29)) := by kernel_rfl
  have hp : Try.prog.stoodInHeld 29 = false := by kernel_rfl
  rw [run_eql_struct, show (10000 : Nat) = 9999 + 1 from rfl, run_equalIn_agg w 9999 29 _ _ hS hp]
  simp only [Program.fieldsOf, Try.underlying29]
  go_simp
  cases on <;> cases on2 <;> by_cases h1 : u = u2 <;> by_cases h2 : v = v2 <;> by_cases h3 : o = o2 <;> simp [h1, h2, h3]
set_option maxHeartbeats 2000000 in
theorem right_any (P I D S L H B : Int) (w : World) : Calls Try.prog 23 #[.agg #[.int .i64 P, .int .i64 I, .int .i64 D, .int .i64 S, .int .i64 L, .int .i64 H, .int .i64 B]] w fun e w' => e = .returned (.bool (loopB P I D S L H B)) ∧ Below w.heap.size w w' := by
  go_enter Try.func23, Try.ntmps23
  go_wp2_with fail
  refine (within_is _ _ _ _).mono ?_
  rintro e w1 ⟨rfl, rfl⟩
  cases h0 : inB 0 1000 P
  · go_wp2
    go_ret
    exact ⟨ret_bool (by unfold loopB; simp [h0]), (by repeat (first | with_reducible exact Below.refl _ _ | with_reducible refine Below.setCell ?_ (by first | omega | (simp; done) | (simp; omega)) _ | with_reducible refine bDrewN ?_ _ | with_reducible refine Below.drew ?_ | with_reducible refine Below.alloc ?_ (by first | omega | (simp; done) | (simp; omega)) _))⟩
  go_wp2_with fail
  refine (within_is _ _ _ _).mono ?_
  rintro e w1 ⟨rfl, rfl⟩
  cases h1 : inB 0 1000 I
  · go_wp2
    go_ret
    exact ⟨ret_bool (by unfold loopB; simp [h0, h1]), (by repeat (first | with_reducible exact Below.refl _ _ | with_reducible refine Below.setCell ?_ (by first | omega | (simp; done) | (simp; omega)) _ | with_reducible refine bDrewN ?_ _ | with_reducible refine Below.drew ?_ | with_reducible refine Below.alloc ?_ (by first | omega | (simp; done) | (simp; omega)) _))⟩
  go_wp2_with fail
  refine (within_is _ _ _ _).mono ?_
  rintro e w1 ⟨rfl, rfl⟩
  cases h2 : inB 0 1000 D
  · go_wp2
    go_ret
    exact ⟨ret_bool (by unfold loopB; simp [h0, h1, h2]), (by repeat (first | with_reducible exact Below.refl _ _ | with_reducible refine Below.setCell ?_ (by first | omega | (simp; done) | (simp; omega)) _ | with_reducible refine bDrewN ?_ _ | with_reducible refine Below.drew ?_ | with_reducible refine Below.alloc ?_ (by first | omega | (simp; done) | (simp; omega)) _))⟩
  go_wp2_with fail
  refine (within_is _ _ _ _).mono ?_
  rintro e w1 ⟨rfl, rfl⟩
  cases h3 : inB 1 1000 S
  · go_wp2
    go_ret
    exact ⟨ret_bool (by unfold loopB; simp [h0, h1, h2, h3]), (by repeat (first | with_reducible exact Below.refl _ _ | with_reducible refine Below.setCell ?_ (by first | omega | (simp; done) | (simp; omega)) _ | with_reducible refine bDrewN ?_ _ | with_reducible refine Below.drew ?_ | with_reducible refine Below.alloc ?_ (by first | omega | (simp; done) | (simp; omega)) _))⟩
  go_wp2_with fail
  refine (within_is _ _ _ _).mono ?_
  rintro e w1 ⟨rfl, rfl⟩
  cases h4 : inB 0 10 B
  · go_wp2
    go_ret
    exact ⟨ret_bool (by unfold loopB; simp [h0, h1, h2, h3, h4]), (by repeat (first | with_reducible exact Below.refl _ _ | with_reducible refine Below.setCell ?_ (by first | omega | (simp; done) | (simp; omega)) _ | with_reducible refine bDrewN ?_ _ | with_reducible refine Below.drew ?_ | with_reducible refine Below.alloc ?_ (by first | omega | (simp; done) | (simp; omega)) _))⟩
  by_cases l1 : -1000000 ≤ L
  · have b1 : decide (-1000000 ≤ L) = true := by simpa using l1
    by_cases l2 : L ≤ H
    · have b2 : decide (L ≤ H) = true := by simpa using l2
      go_wp2
      go_ret
      exact ⟨ret_bool (by unfold loopB inB; simp [h0, h1, h2, h3, h4, l1, l2, inB] <;> simp_all [inB]), (by repeat (first | with_reducible exact Below.refl _ _ | with_reducible refine Below.setCell ?_ (by first | omega | (simp; done) | (simp; omega)) _ | with_reducible refine bDrewN ?_ _ | with_reducible refine Below.drew ?_ | with_reducible refine Below.alloc ?_ (by first | omega | (simp; done) | (simp; omega)) _))⟩
    · have b2 : decide (L ≤ H) = false := by simpa using l2
      go_wp2
      go_ret
      exact ⟨ret_bool (by unfold loopB; simp_all [inB] <;> omega), (by repeat (first | with_reducible exact Below.refl _ _ | with_reducible refine Below.setCell ?_ (by first | omega | (simp; done) | (simp; omega)) _ | with_reducible refine bDrewN ?_ _ | with_reducible refine Below.drew ?_ | with_reducible refine Below.alloc ?_ (by first | omega | (simp; done) | (simp; omega)) _))⟩
  · have b1 : decide (-1000000 ≤ L) = false := by simpa using l1
    go_wp2
    go_ret
    exact ⟨ret_bool (by unfold loopB; simp_all [inB] <;> omega), (by repeat (first | with_reducible exact Below.refl _ _ | with_reducible refine Below.setCell ?_ (by first | omega | (simp; done) | (simp; omega)) _ | with_reducible refine bDrewN ?_ _ | with_reducible refine Below.drew ?_ | with_reducible refine Below.alloc ?_ (by first | omega | (simp; done) | (simp; omega)) _))⟩
set_option maxHeartbeats 2000000 in
theorem owns_any (P I D S L H B : Int) (on : Bool) (u v o : Int) (w : World) : Calls Try.prog 24 #[.agg #[.int .i64 P, .int .i64 I, .int .i64 D, .int .i64 S, .int .i64 L, .int .i64 H, .int .i64 B], .agg #[.bool on, .int .i64 u, .int .i64 v, .int .i64 o]] w fun e w' => e = .returned (.bool (holdB L H on u v o)) ∧ Below w.heap.size w w' := by
  have EQ : ∀ w, (binOp .eql 29 (.agg #[.bool false, .int .i64 u, .int .i64 v, .int .i64 o]) (.agg #[.bool false, .int .i64 0, .int .i64 0, .int .i64 0])).run Try.prog w = .ok (.bool (false == false && (u == 0 && (v == 0 && o == 0)))) w := fun w => eq_hold _ _ _ _ _ _ _ _ w
  have hg : Try.prog.eqGuardType Try.prog.depth 29 = false := by kernel_rfl
  cases on
  · go_enter Try.func24, Try.ntmps24
    go_wp2
    go_ret
    exact ⟨ret_bool (by unfold holdB; simp [Bool.beq_eq_decide_eq]), (by repeat (first | with_reducible exact Below.refl _ _ | with_reducible refine Below.setCell ?_ (by first | omega | (simp; done) | (simp; omega)) _ | with_reducible refine bDrewN ?_ _ | with_reducible refine Below.drew ?_ | with_reducible refine Below.alloc ?_ (by first | omega | (simp; done) | (simp; omega)) _))⟩
  · go_enter Try.func24, Try.ntmps24
    go_wp2_with fail
    refine (within_is _ _ _ _).mono ?_
    rintro e w1 ⟨rfl, rfl⟩
    cases h0 : inB (-1000000000) 1000000000 u
    · go_wp2
      go_ret
      exact ⟨ret_bool (by unfold holdB; simp [h0]), (by repeat (first | with_reducible exact Below.refl _ _ | with_reducible refine Below.setCell ?_ (by first | omega | (simp; done) | (simp; omega)) _ | with_reducible refine bDrewN ?_ _ | with_reducible refine Below.drew ?_ | with_reducible refine Below.alloc ?_ (by first | omega | (simp; done) | (simp; omega)) _))⟩
    go_wp2_with fail
    refine (within_is _ _ _ _).mono ?_
    rintro e w1 ⟨rfl, rfl⟩
    cases h1 : inB (-2000000) 2000000 v
    · go_wp2
      go_ret
      exact ⟨ret_bool (by unfold holdB; simp [h0, h1]), (by repeat (first | with_reducible exact Below.refl _ _ | with_reducible refine Below.setCell ?_ (by first | omega | (simp; done) | (simp; omega)) _ | with_reducible refine bDrewN ?_ _ | with_reducible refine Below.drew ?_ | with_reducible refine Below.alloc ?_ (by first | omega | (simp; done) | (simp; omega)) _))⟩
    go_wp2_with fail
    refine (within_is _ _ _ _).mono ?_
    rintro e w1 ⟨rfl, rfl⟩
    go_wp2
    go_ret
    exact ⟨ret_bool (by unfold holdB; simp [h0, h1]), (by repeat (first | with_reducible exact Below.refl _ _ | with_reducible refine Below.setCell ?_ (by first | omega | (simp; done) | (simp; omega)) _ | with_reducible refine bDrewN ?_ _ | with_reducible refine Below.drew ?_ | with_reducible refine Below.alloc ?_ (by first | omega | (simp; done) | (simp; omega)) _))⟩
def okB (P I D S L H B : Int) (on : Bool) (u v o : Int) : Bool := loopB P I D S L H B && holdB L H on u v o
set_option maxHeartbeats 2000000 in
theorem implOk_any (P I D S L H B : Int) (on : Bool) (u v o : Int) (w : World) : Calls Try.prog 10 #[.agg #[.int .i64 P, .int .i64 I, .int .i64 D, .int .i64 S, .int .i64 L, .int .i64 H, .int .i64 B], .agg #[.bool on, .int .i64 u, .int .i64 v, .int .i64 o]] w fun e w' => e = .returned (.bool (okB P I D S L H B on u v o)) ∧ Below w.heap.size w w' := by
  go_enter Try.func10, Try.ntmps10
  go_wp2_with fail
  refine (right_any _ _ _ _ _ _ _ _).mono ?_
  rintro e w1 ⟨rfl, h1⟩
  have B1 : Below w.heap.size w w1 := Below.trans (by repeat (first | with_reducible exact Below.refl _ _ | with_reducible refine Below.setCell ?_ (by first | omega | (simp; done) | (simp; omega)) _ | with_reducible refine bDrewN ?_ _ | with_reducible refine Below.drew ?_ | with_reducible refine Below.alloc ?_ (by first | omega | (simp; done) | (simp; omega)) _)) (h1.mono (by first | omega | (simp; done) | (simp; omega)))
  obtain ⟨hc, hf⟩ := bcell h1
  have s1 := h1.size
  simp at s1
  cases h0 : loopB P I D S L H B
  · go_wp2
    go_ret
    exact ⟨ret_bool (by unfold okB; simp [h0]), B1⟩
  have c0 := hc w.heap.size 0 (by first | omega | (simp; done) | (simp; omega))
  have c1 := hc w.heap.size 1 (by first | omega | (simp; done) | (simp; omega))
  have c2 := hc w.heap.size 2 (by first | omega | (simp; done) | (simp; omega))
  have c3 := hc w.heap.size 3 (by first | omega | (simp; done) | (simp; omega))
  have c4 := hc w.heap.size 4 (by first | omega | (simp; done) | (simp; omega))
  have c5 := hc w.heap.size 5 (by first | omega | (simp; done) | (simp; omega))
  have c6 := hc w.heap.size 6 (by first | omega | (simp; done) | (simp; omega))
  have d0 := hc (w.heap.size + 1) 0 (by first | omega | (simp; done) | (simp; omega))
  have d1 := hc (w.heap.size + 1) 1 (by first | omega | (simp; done) | (simp; omega))
  have d2 := hc (w.heap.size + 1) 2 (by first | omega | (simp; done) | (simp; omega))
  have d3 := hc (w.heap.size + 1) 3 (by first | omega | (simp; done) | (simp; omega))
  simp [go_sem] at c0 c1 c2 c3 c4 c5 c6 d0 d1 d2 d3
  clear hc hf
  go_wp2_with fail
  refine (owns_any _ _ _ _ _ _ _ _ _ _ _ _).mono ?_
  rintro e w2 ⟨rfl, h2⟩
  have B2 : Below w.heap.size w w2 := Below.trans B1 (h2.mono (by first | omega | (simp; done) | (simp; omega)))
  go_wp2
  go_ret
  exact ⟨ret_bool (by unfold okB; simp [h0]), B2⟩
set_option maxHeartbeats 4000000 in
theorem specOk_any (P I D S L H B : Int) (on : Bool) (u v o : Int) (w : World) : Calls Try.prog 7 #[.agg #[.int .i64 P, .int .i64 I, .int .i64 D, .int .i64 S, .int .i64 L, .int .i64 H, .int .i64 B], .agg #[.bool on, .int .i64 u, .int .i64 v, .int .i64 o]] w fun e w' => e = .returned (.bool (okB P I D S L H B on u v o)) ∧ Below w.heap.size w w' := by
  have EQ : ∀ w, (binOp .eql 29 (.agg #[.bool false, .int .i64 u, .int .i64 v, .int .i64 o]) (.agg #[.bool false, .int .i64 0, .int .i64 0, .int .i64 0])).run Try.prog w = .ok (.bool (false == false && (u == 0 && (v == 0 && o == 0)))) w := fun w => eq_hold _ _ _ _ _ _ _ _ w
  have hg : Try.prog.eqGuardType Try.prog.depth 29 = false := by kernel_rfl
  go_enter Try.func7, Try.ntmps7
  go_wp2_with fail
  refine (l1In_is _ _ _ _).mono ?_
  rintro e w1 ⟨rfl, rfl⟩
  cases h0 : inB 0 1000 P
  · go_wp2
    go_ret
    exact ⟨ret_bool (by unfold okB loopB; simp [h0]), (by repeat (first | with_reducible exact Below.refl _ _ | with_reducible refine Below.setCell ?_ (by first | omega | (simp; done) | (simp; omega)) _ | with_reducible refine bDrewN ?_ _ | with_reducible refine Below.drew ?_ | with_reducible refine Below.alloc ?_ (by first | omega | (simp; done) | (simp; omega)) _))⟩
  go_wp2_with fail
  refine (l1In_is _ _ _ _).mono ?_
  rintro e w1 ⟨rfl, rfl⟩
  cases h1 : inB 0 1000 I
  · go_wp2
    go_ret
    exact ⟨ret_bool (by unfold okB loopB; simp [h0, h1]), (by repeat (first | with_reducible exact Below.refl _ _ | with_reducible refine Below.setCell ?_ (by first | omega | (simp; done) | (simp; omega)) _ | with_reducible refine bDrewN ?_ _ | with_reducible refine Below.drew ?_ | with_reducible refine Below.alloc ?_ (by first | omega | (simp; done) | (simp; omega)) _))⟩
  go_wp2_with fail
  refine (l1In_is _ _ _ _).mono ?_
  rintro e w1 ⟨rfl, rfl⟩
  cases h2 : inB 0 1000 D
  · go_wp2
    go_ret
    exact ⟨ret_bool (by unfold okB loopB; simp [h0, h1, h2]), (by repeat (first | with_reducible exact Below.refl _ _ | with_reducible refine Below.setCell ?_ (by first | omega | (simp; done) | (simp; omega)) _ | with_reducible refine bDrewN ?_ _ | with_reducible refine Below.drew ?_ | with_reducible refine Below.alloc ?_ (by first | omega | (simp; done) | (simp; omega)) _))⟩
  go_wp2_with fail
  refine (l1In_is _ _ _ _).mono ?_
  rintro e w1 ⟨rfl, rfl⟩
  cases h3 : inB 1 1000 S
  · go_wp2
    go_ret
    exact ⟨ret_bool (by unfold okB loopB; simp [h0, h1, h2, h3]), (by repeat (first | with_reducible exact Below.refl _ _ | with_reducible refine Below.setCell ?_ (by first | omega | (simp; done) | (simp; omega)) _ | with_reducible refine bDrewN ?_ _ | with_reducible refine Below.drew ?_ | with_reducible refine Below.alloc ?_ (by first | omega | (simp; done) | (simp; omega)) _))⟩
  go_wp2_with fail
  refine (l1In_is _ _ _ _).mono ?_
  rintro e w1 ⟨rfl, rfl⟩
  cases h4 : inB 0 10 B
  · go_wp2
    go_ret
    exact ⟨ret_bool (by unfold okB loopB; simp [h0, h1, h2, h3, h4]), (by repeat (first | with_reducible exact Below.refl _ _ | with_reducible refine Below.setCell ?_ (by first | omega | (simp; done) | (simp; omega)) _ | with_reducible refine bDrewN ?_ _ | with_reducible refine Below.drew ?_ | with_reducible refine Below.alloc ?_ (by first | omega | (simp; done) | (simp; omega)) _))⟩
  go_wp2_with fail
  refine (l1In_is _ _ _ _).mono ?_
  rintro e w1 ⟨rfl, rfl⟩
  cases h5 : inB (-1000000) H L
  · go_wp2
    go_ret
    exact ⟨ret_bool (by unfold okB loopB; simp [h0, h1, h2, h3, h4, h5]), (by repeat (first | with_reducible exact Below.refl _ _ | with_reducible refine Below.setCell ?_ (by first | omega | (simp; done) | (simp; omega)) _ | with_reducible refine bDrewN ?_ _ | with_reducible refine Below.drew ?_ | with_reducible refine Below.alloc ?_ (by first | omega | (simp; done) | (simp; omega)) _))⟩
  by_cases l1 : H ≤ 1000000
  · cases on
    · go_wp2
      go_ret
      exact ⟨ret_bool (by unfold okB loopB holdB; simp [h0, h1, h2, h3, h4, h5, l1, Bool.beq_eq_decide_eq]), (by repeat (first | with_reducible exact Below.refl _ _ | with_reducible refine Below.setCell ?_ (by first | omega | (simp; done) | (simp; omega)) _ | with_reducible refine bDrewN ?_ _ | with_reducible refine Below.drew ?_ | with_reducible refine Below.alloc ?_ (by first | omega | (simp; done) | (simp; omega)) _))⟩
    · go_wp2_with fail
      refine (l1In_is _ _ _ _).mono ?_
      rintro e w1 ⟨rfl, rfl⟩
      cases h6 : inB (-1000000000) 1000000000 u
      · go_wp2
        go_ret
        exact ⟨ret_bool (by unfold okB holdB; simp [h6]), (by repeat (first | with_reducible exact Below.refl _ _ | with_reducible refine Below.setCell ?_ (by first | omega | (simp; done) | (simp; omega)) _ | with_reducible refine bDrewN ?_ _ | with_reducible refine Below.drew ?_ | with_reducible refine Below.alloc ?_ (by first | omega | (simp; done) | (simp; omega)) _))⟩
      go_wp2_with fail
      refine (l1In_is _ _ _ _).mono ?_
      rintro e w1 ⟨rfl, rfl⟩
      cases h7 : inB (-2000000) 2000000 v
      · go_wp2
        go_ret
        exact ⟨ret_bool (by unfold okB holdB; simp [h6, h7]), (by repeat (first | with_reducible exact Below.refl _ _ | with_reducible refine Below.setCell ?_ (by first | omega | (simp; done) | (simp; omega)) _ | with_reducible refine bDrewN ?_ _ | with_reducible refine Below.drew ?_ | with_reducible refine Below.alloc ?_ (by first | omega | (simp; done) | (simp; omega)) _))⟩
      go_wp2_with fail
      refine (l1In_is _ _ _ _).mono ?_
      rintro e w1 ⟨rfl, rfl⟩
      go_wp2
      go_ret
      exact ⟨ret_bool (by unfold okB loopB holdB; simp [h0, h1, h2, h3, h4, h5, l1, h6, h7]), (by repeat (first | with_reducible exact Below.refl _ _ | with_reducible refine Below.setCell ?_ (by first | omega | (simp; done) | (simp; omega)) _ | with_reducible refine bDrewN ?_ _ | with_reducible refine Below.drew ?_ | with_reducible refine Below.alloc ?_ (by first | omega | (simp; done) | (simp; omega)) _))⟩
  · have l2 : 1000000 < H := by omega
    go_wp2
    go_ret
    have l3 : decide (H ≤ 1000000) = false := by simp; omega
    exact ⟨ret_bool (by unfold okB loopB; simp [l3]), (by repeat (first | with_reducible exact Below.refl _ _ | with_reducible refine Below.setCell ?_ (by first | omega | (simp; done) | (simp; omega)) _ | with_reducible refine bDrewN ?_ _ | with_reducible refine Below.drew ?_ | with_reducible refine Below.alloc ?_ (by first | omega | (simp; done) | (simp; omega)) _))⟩
set_option maxHeartbeats 1000000 in
theorem toLoop_any (P I D S L H B : Int) (w : World) : Calls Try.prog 8 #[.agg #[.int .i64 P, .int .i64 I, .int .i64 D, .int .i64 S, .int .i64 L, .int .i64 H, .int .i64 B]] w fun e w' => e = .returned (.agg #[.int .i64 P, .int .i64 I, .int .i64 D, .int .i64 S, .int .i64 L, .int .i64 H, .int .i64 B]) ∧ Below w.heap.size w w' := by
  go_enter Try.func8, Try.ntmps8
  go_wp2
  exact bodyPost_ret (v := .agg #[.int .i64 P, .int .i64 I, .int .i64 D, .int .i64 S, .int .i64 L, .int .i64 H, .int .i64 B]) (by simp [results, Try.results8, go_sem]) rfl ⟨rfl, (by repeat (first | with_reducible exact Below.refl _ _ | with_reducible refine Below.setCell ?_ (by first | omega | (simp; done) | (simp; omega)) _ | with_reducible refine bDrewN ?_ _ | with_reducible refine Below.drew ?_ | with_reducible refine Below.alloc ?_ (by first | omega | (simp; done) | (simp; omega)) _))⟩
set_option maxHeartbeats 1000000 in
theorem toHold_any (on : Bool) (u v o : Int) (w : World) : Calls Try.prog 9 #[.agg #[.bool on, .int .i64 u, .int .i64 v, .int .i64 o]] w fun e w' => e = .returned (.agg #[.bool on, .int .i64 u, .int .i64 v, .int .i64 o]) ∧ Below w.heap.size w w' := by
  go_enter Try.func9, Try.ntmps9
  go_wp2
  exact bodyPost_ret (v := .agg #[.bool on, .int .i64 u, .int .i64 v, .int .i64 o]) (by simp [results, Try.results9, go_sem]) rfl ⟨rfl, (by repeat (first | with_reducible exact Below.refl _ _ | with_reducible refine Below.setCell ?_ (by first | omega | (simp; done) | (simp; omega)) _ | with_reducible refine bDrewN ?_ _ | with_reducible refine Below.drew ?_ | with_reducible refine Below.alloc ?_ (by first | omega | (simp; done) | (simp; omega)) _))⟩
end Go.Proofs.Ytdpghhgfkhlliaa
