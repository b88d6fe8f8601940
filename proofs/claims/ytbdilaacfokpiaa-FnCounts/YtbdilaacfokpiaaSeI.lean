/-
What is proved: what a count of a sensor reads, as the program tells it.
-/
import Derived.Test.YtbdilaacfokpiaaSe
namespace Go.Proofs.Ytbdilaacfokpiaa
set_option maxRecDepth 40000
open Go.RowKit
set_option linter.unusedVariables false
set_option linter.unusedSimpArgs false

set_option maxHeartbeats 2000000 in
theorem senRight_any (a b : Nat) (la : a < 18446744073709551616) (lb : b < 18446744073709551616) (w : World) : Calls Try.prog 19 #[.agg #[.float .f64 a, .float .f64 b]] w fun e w' => e = .returned (.bool (senB a b)) ∧ Below w.heap.size w w' := by
  go_enter Try.func19, Try.ntmps19
  go_wp2_with fail
  refine (implKnown_any _ (by assumption) _).mono ?_
  rintro e w1 ⟨rfl, n1, rfl⟩
  cases h0 : knownB a
  · go_wp2
    go_ret
    exact ⟨ret_bool (by unfold senB; simp [h0]), (by repeat (first | with_reducible exact Below.refl _ _ | with_reducible refine Below.setCell ?_ (by first | omega | (simp; done) | (simp; omega)) _ | with_reducible refine bDrewN ?_ _ | with_reducible refine Below.drew ?_ | with_reducible refine Below.alloc ?_ (by first | omega | (simp; done) | (simp; omega)) _))⟩
  go_wp2_with fail
  refine (implKnown_any _ (by assumption) _).mono ?_
  rintro e w1 ⟨rfl, n2, rfl⟩
  cases h1 : knownB b
  · go_wp2
    go_ret
    exact ⟨ret_bool (by unfold senB; simp [h0, h1]), (by repeat (first | with_reducible exact Below.refl _ _ | with_reducible refine Below.setCell ?_ (by first | omega | (simp; done) | (simp; omega)) _ | with_reducible refine bDrewN ?_ _ | with_reducible refine Below.drew ?_ | with_reducible refine Below.alloc ?_ (by first | omega | (simp; done) | (simp; omega)) _))⟩
  go_wp2
  go_ret
  exact ⟨ret_bool (by unfold senB; simp [h0, h1]), (by repeat (first | with_reducible exact Below.refl _ _ | with_reducible refine Below.setCell ?_ (by first | omega | (simp; done) | (simp; omega)) _ | with_reducible refine bDrewN ?_ _ | with_reducible refine Below.drew ?_ | with_reducible refine Below.alloc ?_ (by first | omega | (simp; done) | (simp; omega)) _))⟩
set_option maxHeartbeats 4000000 in
theorem implRead_any (a b : Nat) (la : a < 18446744073709551616) (lb : b < 18446744073709551616) (c : Int) (w : World) : Calls Try.prog 10 #[.agg #[.float .f64 a, .float .f64 b], .int .i64 c] w fun e w' => ∃ r, e = .returned (.float .f64 r) ∧ Fl r (readO a b c) ∧ Below w.heap.size w w' := by
  have CV := conv64
  go_enter Try.func10, Try.ntmps10
  go_wp2_with fail
  refine (senRight_any a b la lb _).mono ?_
  rintro e w1 ⟨rfl, h1⟩
  obtain ⟨hc, hf⟩ := bcell h1
  have q0 := hc w.heap.size 0 (by first | omega | (simp; done) | (simp; omega))
  have q1 := hc w.heap.size 1 (by first | omega | (simp; done) | (simp; omega))
  simp [go_sem] at q0 q1
  have z1 : w.heap.size < w1.heap.size := by have := h1.size; simp at this; omega
  have B1 : Below w.heap.size w w1 := Below.trans (by repeat (first | with_reducible exact Below.refl _ _ | with_reducible refine Below.setCell ?_ (by first | omega | (simp; done) | (simp; omega)) _ | with_reducible refine bDrewN ?_ _ | with_reducible refine Below.drew ?_ | with_reducible refine Below.alloc ?_ (by first | omega | (simp; done) | (simp; omega)) _)) (h1.mono (by first | omega | (simp; done) | (simp; omega)))
  clear hc hf h1
  cases h0 : senB a b
  · have HO : Hid (readO a b c = none) := show readO a b c = none by unfold readO readB; simp [h0]
    go_wp2_with fail
    refine (nan_any _).mono ?_
    rintro e w3 ⟨r, rfl, hr, rfl⟩
    go_wp2
    go_ret
    exact ⟨r, rfl, by rw [HO.out]; exact hr, (by repeat (first | with_reducible exact Below.refl _ _ | with_reducible exact B1 | with_reducible refine Below.setCell ?_ (by first | omega | (simp; done) | (simp; omega)) _ | with_reducible refine bDrewN ?_ _ | with_reducible refine Below.drew ?_ | with_reducible refine Below.alloc ?_ (by first | omega | (simp; done) | (simp; omega)) _))⟩
  go_wp2_with fail
  refine (within_is _ _ _ _).mono ?_
  rintro e w2 ⟨rfl, rfl⟩
  cases h2 : inB 40 4055 c
  · have HO : Hid (readO a b c = none) := show readO a b c = none by unfold readO readB; simp [h2]
    go_wp2_with fail
    refine (nan_any _).mono ?_
    rintro e w3 ⟨r, rfl, hr, rfl⟩
    go_wp2
    go_ret
    exact ⟨r, rfl, by rw [HO.out]; exact hr, (by repeat (first | with_reducible exact Below.refl _ _ | with_reducible exact B1 | with_reducible refine Below.setCell ?_ (by first | omega | (simp; done) | (simp; omega)) _ | with_reducible refine bDrewN ?_ _ | with_reducible refine Below.drew ?_ | with_reducible refine Below.alloc ?_ (by first | omega | (simp; done) | (simp; omega)) _))⟩
  have HO : Hid (readO a b c = rdO a b c) := show readO a b c = rdO a b c by unfold readO readB; simp [h0, h2]
  obtain ⟨fa, fb⟩ := sen_yes la lb h0
  obtain ⟨c1, c2⟩ := inB_yes h2
  have fc := itg_fl (c - 40)
  clear h0 h2
  go_wp2_with (first
    | (refine list_fop .quo rfl _ _ _ _ (by rfl) (by rfl) (by rfl) (by rfl) fc span_fl ?_; intro x1 n1 f1)
    | (refine list_fop .sub rfl _ _ _ _ (by rfl) (by rfl) (by rfl) (by rfl) fb fa ?_; intro x2 n2 f2)
    | (refine list_fop .mul rfl _ _ _ _ (by rfl) (by rfl) (by rfl) (by rfl) f2 f1 ?_; intro x3 n3 f3)
    | (refine list_fop .add rfl _ _ _ _ (by rfl) (by rfl) (by rfl) (by rfl) fa f3 ?_; intro x4 n4 f4))
  go_ret
  exact ⟨x4, rfl, by rw [HO.out]; exact f4, (by repeat (first | with_reducible exact Below.refl _ _ | with_reducible exact B1 | with_reducible refine Below.setCell ?_ (by first | omega | (simp; done) | (simp; omega)) _ | with_reducible refine bDrewN ?_ _ | with_reducible refine Below.drew ?_ | with_reducible refine Below.alloc ?_ (by first | omega | (simp; done) | (simp; omega)) _))⟩
end Go.Proofs.Ytbdilaacfokpiaa
