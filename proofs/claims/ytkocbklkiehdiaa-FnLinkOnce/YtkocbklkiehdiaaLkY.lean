/-
What is proved: a link copied, its list in memory of its own, as both packages do it.
-/
import Derived.Test.YtkocbklkiehdiaaLkC
import Derived.Test.YtkocbklkiehdiaaLkT
namespace Go.Proofs.Ytkocbklkiehdiaa
set_option maxRecDepth 40000
open Go.RowKit
set_option linter.unusedVariables false
set_option linter.unusedSimpArgs false

theorem copy_own {w w1 : World} {o p : Obj} {s : Option Addr} {n : Nat} {V : Nat → Int} (O : OwnI ((w.alloc o).alloc p).heap.size w1 s n V) : OwnI (w.heap.size + 1 + 1) w1 s n V := by
  have e3 : ((w.alloc o).alloc p).heap.size = w.heap.size + 1 + 1 := by simp
  rw [e3] at O
  exact O
set_option maxHeartbeats 4000000 in
theorem l13Copy_any (t : Int) (h : Bool) (q a l : Int) (ad : Addr) (n c : Nat) (V : Nat → Int) (w : World) (hn : (n : Int) ≤ 1048576) (HR : Hid (RowI w (some ad) n V)) :
    Calls Try.prog 44 #[.agg #[.int .i64 t, .bool h, .int .i64 q, .int .i64 a, .int .i64 l, .slice (some ad) n c]] w fun e w' => ∃ s' c', e = .returned (.agg #[.int .i64 t, .bool h, .int .i64 q, .int .i64 a, .int .i64 l, .slice s' n c']) ∧ OwnI w.heap.size w' s' n V ∧ Below w.heap.size w w' := by
  have sto := store_sl
  have R2 : Hid (RowI ((w.alloc (.cells #[.int .i64 t, .bool h, .int .i64 q, .int .i64 a, .int .i64 l, .slice (some ad) n c] 26)).alloc (.cells #[.int .i64 0, .bool false, .int .i64 0, .int .i64 0, .int .i64 0, .slice none 0 0] 26)) (some ad) n V) := HR.out.below (by repeat (first | with_reducible exact Below.refl _ _ | with_reducible refine Below.setCell ?_ (by first | omega | (simp; done) | (simp; omega)) _ | with_reducible refine bDrewN ?_ _ | with_reducible refine Below.drew ?_ | with_reducible refine Below.alloc ?_ (by first | omega | (simp; done) | (simp; omega)) _))
  go_enter Try.func44, Try.ntmps44
  go_wp2_with (first | (refine list_clone _ ad n c V _ _ (by rfl) (by rfl) (by rfl) (by rfl) (by simp) (by omega) R2.out ?_; intro s' cap w1 O1 h1; obtain ⟨hc, hf⟩ := bcell h1; have c0 := hc w.heap.size 0 (by first | omega | (simp; done) | (simp; omega)); have c1 := hc w.heap.size 1 (by first | omega | (simp; done) | (simp; omega)); have c2 := hc w.heap.size 2 (by first | omega | (simp; done) | (simp; omega)); have c3 := hc w.heap.size 3 (by first | omega | (simp; done) | (simp; omega)); have c4 := hc w.heap.size 4 (by first | omega | (simp; done) | (simp; omega)); have c5 := hc w.heap.size 5 (by first | omega | (simp; done) | (simp; omega)); have d0 := hc (w.heap.size + 1) 0 (by first | omega | (simp; done) | (simp; omega)); have d1 := hc (w.heap.size + 1) 1 (by first | omega | (simp; done) | (simp; omega)); have d2 := hc (w.heap.size + 1) 2 (by first | omega | (simp; done) | (simp; omega)); have d3 := hc (w.heap.size + 1) 3 (by first | omega | (simp; done) | (simp; omega)); have d4 := hc (w.heap.size + 1) 4 (by first | omega | (simp; done) | (simp; omega)); have d5 := hc (w.heap.size + 1) 5 (by first | omega | (simp; done) | (simp; omega)); have e0 := hf w.heap.size 0 (by first | omega | (simp; done) | (simp; omega)); have e1 := hf w.heap.size 1 (by first | omega | (simp; done) | (simp; omega)); have e2 := hf w.heap.size 2 (by first | omega | (simp; done) | (simp; omega)); have e3 := hf w.heap.size 3 (by first | omega | (simp; done) | (simp; omega)); have e4 := hf w.heap.size 4 (by first | omega | (simp; done) | (simp; omega)); have e5 := hf w.heap.size 5 (by first | omega | (simp; done) | (simp; omega)); have f0 := hf (w.heap.size + 1) 0 (by first | omega | (simp; done) | (simp; omega)); have f1 := hf (w.heap.size + 1) 1 (by first | omega | (simp; done) | (simp; omega)); have f2 := hf (w.heap.size + 1) 2 (by first | omega | (simp; done) | (simp; omega)); have f3 := hf (w.heap.size + 1) 3 (by first | omega | (simp; done) | (simp; omega)); have f4 := hf (w.heap.size + 1) 4 (by first | omega | (simp; done) | (simp; omega)); have f5 := hf (w.heap.size + 1) 5 (by first | omega | (simp; done) | (simp; omega)); simp [go_sem] at c0 c1 c2 c3 c4 c5 d0 d1 d2 d3 d4 d5 e0 e1 e2 e3 e4 e5 f0 f1 f2 f3 f4 f5; have B1 : Below w.heap.size w w1 := Below.trans (by repeat (first | with_reducible exact Below.refl _ _ | with_reducible refine Below.setCell ?_ (by first | omega | (simp; done) | (simp; omega)) _ | with_reducible refine bDrewN ?_ _ | with_reducible refine Below.drew ?_ | with_reducible refine Below.alloc ?_ (by first | omega | (simp; done) | (simp; omega)) _)) (h1.mono (by first | omega | (simp; done) | (simp; omega))); have s1 : w.heap.size + 1 + 1 ≤ w1.heap.size := (by have := h1.size; simp at this; exact this); have O2 : Hid (OwnI (w.heap.size + 1 + 1) w1 s' n V) := copy_own O1; clear hc hf h1 O1))
  exact bodyPost_ret (v := .agg #[.int .i64 t, .bool h, .int .i64 q, .int .i64 a, .int .i64 l, .slice s' n cap]) (by simp [results, Try.results44, go_sem, d0, d1, d2, d3, d4, d5]) rfl ⟨s', cap, rfl, (OwnI.set (OwnI.set (OwnI.set (OwnI.set (OwnI.set (OwnI.set (OwnI.set O2.out (by omega)) (by omega)) (by omega)) (by omega)) (by omega)) (by omega)) (by omega)).mono (by omega), (by repeat (first | with_reducible exact Below.refl _ _ | with_reducible exact B1 | with_reducible refine Below.setCell ?_ (by first | omega | (simp; done) | (simp; omega)) _ | with_reducible refine bDrewN ?_ _ | with_reducible refine Below.drew ?_ | with_reducible refine Below.alloc ?_ (by first | omega | (simp; done) | (simp; omega)) _))⟩
set_option maxHeartbeats 4000000 in
theorem copied_any (t : Int) (h : Bool) (q a l : Int) (ad : Addr) (n c : Nat) (V : Nat → Int) (w : World) (hn : (n : Int) ≤ 1048576) (HR : Hid (RowI w (some ad) n V)) :
    Calls Try.prog 46 #[.agg #[.int .i64 t, .bool h, .int .i64 q, .int .i64 a, .int .i64 l, .slice (some ad) n c]] w fun e w' => ∃ s' c', e = .returned (.agg #[.int .i64 t, .bool h, .int .i64 q, .int .i64 a, .int .i64 l, .slice s' n c']) ∧ OwnI w.heap.size w' s' n V ∧ Below w.heap.size w w' := by
  have sto := store_sl
  have R2 : Hid (RowI ((w.alloc (.cells #[.int .i64 t, .bool h, .int .i64 q, .int .i64 a, .int .i64 l, .slice (some ad) n c] 26)).alloc (.cells #[.int .i64 0, .bool false, .int .i64 0, .int .i64 0, .int .i64 0, .slice none 0 0] 26)) (some ad) n V) := HR.out.below (by repeat (first | with_reducible exact Below.refl _ _ | with_reducible refine Below.setCell ?_ (by first | omega | (simp; done) | (simp; omega)) _ | with_reducible refine bDrewN ?_ _ | with_reducible refine Below.drew ?_ | with_reducible refine Below.alloc ?_ (by first | omega | (simp; done) | (simp; omega)) _))
  go_enter Try.func46, Try.ntmps46
  go_wp2_with fail
  refine (clone_any ad n c V _ (by omega) R2.out).mono ?_
  rintro e w1 ⟨s', cap, rfl, O1, h1⟩
  obtain ⟨hc, hf⟩ := bcell h1
  have c0 := hc w.heap.size 0 (by first | omega | (simp; done) | (simp; omega))
  have c1 := hc w.heap.size 1 (by first | omega | (simp; done) | (simp; omega))
  have c2 := hc w.heap.size 2 (by first | omega | (simp; done) | (simp; omega))
  have c3 := hc w.heap.size 3 (by first | omega | (simp; done) | (simp; omega))
  have c4 := hc w.heap.size 4 (by first | omega | (simp; done) | (simp; omega))
  have c5 := hc w.heap.size 5 (by first | omega | (simp; done) | (simp; omega))
  have d0 := hc (w.heap.size + 1) 0 (by first | omega | (simp; done) | (simp; omega))
  have d1 := hc (w.heap.size + 1) 1 (by first | omega | (simp; done) | (simp; omega))
  have d2 := hc (w.heap.size + 1) 2 (by first | omega | (simp; done) | (simp; omega))
  have d3 := hc (w.heap.size + 1) 3 (by first | omega | (simp; done) | (simp; omega))
  have d4 := hc (w.heap.size + 1) 4 (by first | omega | (simp; done) | (simp; omega))
  have d5 := hc (w.heap.size + 1) 5 (by first | omega | (simp; done) | (simp; omega))
  have e0 := hf w.heap.size 0 (by first | omega | (simp; done) | (simp; omega))
  have e1 := hf w.heap.size 1 (by first | omega | (simp; done) | (simp; omega))
  have e2 := hf w.heap.size 2 (by first | omega | (simp; done) | (simp; omega))
  have e3 := hf w.heap.size 3 (by first | omega | (simp; done) | (simp; omega))
  have e4 := hf w.heap.size 4 (by first | omega | (simp; done) | (simp; omega))
  have e5 := hf w.heap.size 5 (by first | omega | (simp; done) | (simp; omega))
  have f0 := hf (w.heap.size + 1) 0 (by first | omega | (simp; done) | (simp; omega))
  have f1 := hf (w.heap.size + 1) 1 (by first | omega | (simp; done) | (simp; omega))
  have f2 := hf (w.heap.size + 1) 2 (by first | omega | (simp; done) | (simp; omega))
  have f3 := hf (w.heap.size + 1) 3 (by first | omega | (simp; done) | (simp; omega))
  have f4 := hf (w.heap.size + 1) 4 (by first | omega | (simp; done) | (simp; omega))
  have f5 := hf (w.heap.size + 1) 5 (by first | omega | (simp; done) | (simp; omega))
  simp [go_sem] at c0 c1 c2 c3 c4 c5 d0 d1 d2 d3 d4 d5 e0 e1 e2 e3 e4 e5 f0 f1 f2 f3 f4 f5
  have B1 : Below w.heap.size w w1 := Below.trans (by repeat (first | with_reducible exact Below.refl _ _ | with_reducible refine Below.setCell ?_ (by first | omega | (simp; done) | (simp; omega)) _ | with_reducible refine bDrewN ?_ _ | with_reducible refine Below.drew ?_ | with_reducible refine Below.alloc ?_ (by first | omega | (simp; done) | (simp; omega)) _)) (h1.mono (by first | omega | (simp; done) | (simp; omega)))
  have s1 : w.heap.size + 1 + 1 ≤ w1.heap.size := by have := h1.size; simp at this; exact this
  have O2 : Hid (OwnI (w.heap.size + 1 + 1) w1 s' n V) := copy_own O1
  clear hc hf h1 O1
  go_wp2
  exact bodyPost_ret (v := .agg #[.int .i64 t, .bool h, .int .i64 q, .int .i64 a, .int .i64 l, .slice s' n cap]) (by simp [results, Try.results46, go_sem, d0, d1, d2, d3, d4, d5]) rfl ⟨s', cap, rfl, (OwnI.set (OwnI.set (OwnI.set (OwnI.set (OwnI.set (OwnI.set (OwnI.set O2.out (by omega)) (by omega)) (by omega)) (by omega)) (by omega)) (by omega)) (by omega)).mono (by omega), (by repeat (first | with_reducible exact Below.refl _ _ | with_reducible exact B1 | with_reducible refine Below.setCell ?_ (by first | omega | (simp; done) | (simp; omega)) _ | with_reducible refine bDrewN ?_ _ | with_reducible refine Below.drew ?_ | with_reducible refine Below.alloc ?_ (by first | omega | (simp; done) | (simp; omega)) _))⟩
end Go.Proofs.Ytkocbklkiehdiaa
