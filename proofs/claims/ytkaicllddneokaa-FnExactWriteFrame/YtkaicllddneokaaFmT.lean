/-
What is proved: a frame copied over from the law's own kind of one, and its size.
-/
import Derived.Test.YtkaicllddneokaaSli
namespace Go.Proofs.Ytkaicllddneokaa
set_option maxRecDepth 40000
open Go.RowKit
set_option linter.unusedVariables false
set_option linter.unusedSimpArgs false

theorem szInt64S_on (s : Option Addr) (n c : Nat) (l : Int) (w : World) (h0 : 0 ≤ l) (h1 : l ≤ 1048576) (hn : (n : Int) ≤ l) : Calls Try.prog 21 #[.slice s n c, .int .i64 l] w fun e w' => e = .returned (.int .i64 (l - n)) ∧ w' = w := by
  go_enter Try.func21, Try.ntmps21
  go_wp2
  go_ret
  exact ⟨rfl, rfl⟩
theorem szInt64S_off (s : Option Addr) (n c : Nat) (l : Int) (w : World) (h0 : 0 ≤ l) (h1 : l ≤ 1048576) (hn : l < (n : Int)) (hn' : (n : Int) ≤ 9223372036854775807) : Calls Try.prog 21 #[.slice s n c, .int .i64 l] w fun e w' => e = .returned (.int .i64 (-1)) ∧ w' = w := by
  go_enter Try.func21, Try.ntmps21
  go_wp2
  go_ret
  exact ⟨rfl, rfl⟩
set_option maxHeartbeats 800000 in
theorem szFrame_on (t q : Int) (s : Option Addr) (n c : Nat) (k : Int) (w : World) (h0 : 0 ≤ k) (h1 : k ≤ 1048576) (hn : (n : Int) ≤ k) : Calls Try.prog 10 #[.agg #[.int .i64 t, .int .i64 q, .slice s n c], .int .i64 k] w fun e w' => e = .returned (.int .i64 (k - n)) ∧ Below w.heap.size w w' := by
  go_enter Try.func10, Try.ntmps10
  go_wp2_with fail
  refine (szInt64S_on _ n _ _ _ h0 h1 hn).mono ?_
  rintro e w1 ⟨rfl, rfl⟩
  go_wp2
  go_ret
  exact ⟨rfl, (by repeat (first | with_reducible exact Below.refl _ _ | with_reducible refine Below.setCell ?_ (by first | omega | (simp; done) | (simp; omega)) _ | with_reducible refine bDrewN ?_ _ | with_reducible refine Below.drew ?_ | with_reducible refine Below.alloc ?_ (by first | omega | (simp; done) | (simp; omega)) _))⟩
set_option maxHeartbeats 800000 in
theorem szFrame_off (t q : Int) (s : Option Addr) (n c : Nat) (k : Int) (w : World) (h0 : 0 ≤ k) (h1 : k ≤ 1048576) (hn : k < (n : Int)) (hn' : (n : Int) ≤ 9223372036854775807) : Calls Try.prog 10 #[.agg #[.int .i64 t, .int .i64 q, .slice s n c], .int .i64 k] w fun e w' => e = .returned (.int .i64 (-1)) ∧ Below w.heap.size w w' := by
  go_enter Try.func10, Try.ntmps10
  go_wp2_with fail
  refine (szInt64S_off _ n _ _ _ h0 h1 hn hn').mono ?_
  rintro e w1 ⟨rfl, rfl⟩
  go_wp2
  go_ret
  exact ⟨rfl, (by repeat (first | with_reducible exact Below.refl _ _ | with_reducible refine Below.setCell ?_ (by first | omega | (simp; done) | (simp; omega)) _ | with_reducible refine bDrewN ?_ _ | with_reducible refine Below.drew ?_ | with_reducible refine Below.alloc ?_ (by first | omega | (simp; done) | (simp; omega)) _))⟩
set_option maxHeartbeats 4000000 in
theorem toFrame_any (t q : Int) (s : Option Addr) (n c : Nat) (V : Nat → Int) (w : World) (hn : (n : Int) ≤ 1048576) (HR : Hid (RowI w s n V)) :
    Calls Try.prog 12 #[.agg #[.int .i64 t, .int .i64 q, .slice s n c]] w fun e w' => ∃ b, e = .returned (.agg #[.int .i64 t, .int .i64 q, .slice (some ⟨b, 0, none⟩) n n]) ∧ w.heap.size ≤ b ∧ b < w'.heap.size ∧ OwnI w.heap.size w' (some ⟨b, 0, none⟩) n V ∧ Below w.heap.size w w' := by
  have sto := store_sl
  go_enter Try.func12, Try.ntmps12
  go_wp2_with fail
  refine (toInt64S_any s n c V _ hn (HR.out.below (by repeat (first | with_reducible exact Below.refl _ _ | with_reducible refine Below.setCell ?_ (by first | omega | (simp; done) | (simp; omega)) _ | with_reducible refine bDrewN ?_ _ | with_reducible refine Below.drew ?_ | with_reducible refine Below.alloc ?_ (by first | omega | (simp; done) | (simp; omega)) _)))).mono ?_
  rintro e w1 ⟨rfl, z1, O1, h1⟩
  obtain ⟨hc, hf⟩ := bcell h1
  have c0 := hc (w.heap.size + 1) 0 (by first | omega | (simp; done) | (simp; omega))
  have c1 := hc (w.heap.size + 1) 1 (by first | omega | (simp; done) | (simp; omega))
  have c2 := hc (w.heap.size + 1) 2 (by first | omega | (simp; done) | (simp; omega))
  have d0 := hc (w.heap.size + 1 + 1) 0 (by first | omega | (simp; done) | (simp; omega))
  have d1 := hc (w.heap.size + 1 + 1) 1 (by first | omega | (simp; done) | (simp; omega))
  have d2 := hc (w.heap.size + 1 + 1) 2 (by first | omega | (simp; done) | (simp; omega))
  have e0 := hf (w.heap.size + 1) 0 (by first | omega | (simp; done) | (simp; omega))
  have e1 := hf (w.heap.size + 1) 1 (by first | omega | (simp; done) | (simp; omega))
  have e2 := hf (w.heap.size + 1) 2 (by first | omega | (simp; done) | (simp; omega))
  have f0 := hf (w.heap.size + 1 + 1) 0 (by first | omega | (simp; done) | (simp; omega))
  have f1 := hf (w.heap.size + 1 + 1) 1 (by first | omega | (simp; done) | (simp; omega))
  have f2 := hf (w.heap.size + 1 + 1) 2 (by first | omega | (simp; done) | (simp; omega))
  simp [go_sem] at c0 c1 c2 d0 d1 d2 e0 e1 e2 f0 f1 f2
  simp at z1
  have B1 : Below w.heap.size w w1 := Below.trans (by repeat (first | with_reducible exact Below.refl _ _ | with_reducible refine Below.setCell ?_ (by first | omega | (simp; done) | (simp; omega)) _ | with_reducible refine bDrewN ?_ _ | with_reducible refine Below.drew ?_ | with_reducible refine Below.alloc ?_ (by first | omega | (simp; done) | (simp; omega)) _)) (h1.mono (by first | omega | (simp; done) | (simp; omega)))
  have s1 := B1.size
  have O2 : Hid (OwnI (w.heap.size + 1 + 1 + 1) w1 (some ⟨w.heap.size + 1 + 1 + 1, 0, none⟩) n V) := by
    have e3 : (((w.alloc (.cells #[.int .i64 t, .int .i64 q, .slice s n c] 29)).alloc (.cells #[.int .i64 0, .int .i64 0, .slice none 0 0] 32)).alloc (.cells #[.int .i64 t, .int .i64 q, .slice none 0 0] 32)).heap.size = w.heap.size + 1 + 1 + 1 := by simp
    rw [e3] at O1
    exact O1
  clear hc hf h1 O1
  go_wp2
  exact bodyPost_ret (v := .agg #[.int .i64 t, .int .i64 q, .slice (some ⟨w.heap.size + 1 + 1 + 1, 0, none⟩) n n]) (by simp [results, Try.results12, go_sem, c0, c1, c2]) rfl ⟨w.heap.size + 1 + 1 + 1, rfl, by omega, by simp; omega, (OwnI.set (OwnI.set (OwnI.set (OwnI.set O2.out (by omega)) (by omega)) (by omega)) (by omega)).mono (by omega), (by repeat (first | with_reducible exact Below.refl _ _ | with_reducible exact B1 | with_reducible refine Below.setCell ?_ (by first | omega | (simp; done) | (simp; omega)) _ | with_reducible refine bDrewN ?_ _ | with_reducible refine Below.drew ?_ | with_reducible refine Below.alloc ?_ (by first | omega | (simp; done) | (simp; omega)) _))⟩
end Go.Proofs.Ytkaicllddneokaa
