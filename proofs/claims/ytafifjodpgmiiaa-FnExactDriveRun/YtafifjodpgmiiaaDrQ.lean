/-
What is proved: a drive's run, as the program tells it: every drive, every list.
-/
import Derived.Test.YtafifjodpgmiiaaDrI
namespace Go.Proofs.Ytafifjodpgmiiaa
set_option maxRecDepth 40000
open Go.ChangeShapes Go.WideShapes Go.ChangeAt Go.RowKit
set_option linter.unusedVariables false
set_option linter.unusedSimpArgs false

set_option maxHeartbeats 4000000 in
theorem implRun_no (P W T : Int) (F : Bool) (s : Option Addr) (n c : Nat) (S : Nat → Option Addr) (K C : Nat → Nat) (V : Nat → Nat → Int) (X : Nat → Int) (J : Nat → Bool) (w : World) (hb : drvB P W T = false ∨ (1000 : Int) < n) (hm : (n : Int) ≤ 1048576) : Calls Try.prog 18 #[.agg #[.int .i64 P, .int .i64 W, .int .i64 T, .bool F], .slice s n c] w fun e w' => e = .returned (.tuple #[.slice none 0 0, .agg #[.int .i64 0, .int .i64 0, .int .i64 0, .bool false], .bool false]) ∧ Below w.heap.size w w' := by
  go_enter Try.func18, Try.ntmps18
  go_wp2_with fail
  refine (drvRight_any _ _ _ _ _).mono ?_
  rintro e w1 ⟨rfl, rfl⟩
  cases h0 : drvB P W T
  · go_wp2
    exact bodyPost_ret (v := .tuple #[.slice none 0 0, .agg #[.int .i64 0, .int .i64 0, .int .i64 0, .bool false], .bool false]) (by simp [results, Try.results18, go_sem]) rfl ⟨rfl, (by repeat (first | with_reducible exact Below.refl _ _ | with_reducible refine Below.setCell ?_ (by first | omega | (simp; done) | (simp; omega)) _ | with_reducible refine bDrewN ?_ _ | with_reducible refine Below.drew ?_ | with_reducible refine Below.alloc ?_ (by first | omega | (simp; done) | (simp; omega)) _))⟩
  have h1 : (1000 : Int) < n := hb.resolve_left (by rw [h0]; decide)
  clear hb
  go_wp2
  exact bodyPost_ret (v := .tuple #[.slice none 0 0, .agg #[.int .i64 0, .int .i64 0, .int .i64 0, .bool false], .bool false]) (by simp [results, Try.results18, go_sem]) rfl ⟨rfl, (by repeat (first | with_reducible exact Below.refl _ _ | with_reducible refine Below.setCell ?_ (by first | omega | (simp; done) | (simp; omega)) _ | with_reducible refine bDrewN ?_ _ | with_reducible refine Below.drew ?_ | with_reducible refine Below.alloc ?_ (by first | omega | (simp; done) | (simp; omega)) _))⟩
theorem implRun_any (P W T : Int) (F : Bool) (s : Option Addr) (n c : Nat) (S : Nat → Option Addr) (K C : Nat → Nat) (V : Nat → Nat → Int) (X : Nat → Int) (J : Nat → Bool) (w : World) (hm : (n : Int) ≤ 1048576) (HP : Hid (PshR w s n S K C V X J)) (L : Nat) (v0 v1 v2 : Int) (v3 rb : Bool) (HT : Hid (runB (P, W, T, F) n K V X J = true → L = n ∧ stD (P, W, T, F) K V X J n = (v0, v1, v2, v3) ∧ rb = true)) (HF : Hid (runB (P, W, T, F) n K V X J = false → L = 0 ∧ v0 = 0 ∧ v1 = 0 ∧ v2 = 0 ∧ v3 = false ∧ rb = false)) : Calls Try.prog 18 #[.agg #[.int .i64 P, .int .i64 W, .int .i64 T, .bool F], .slice s n c] w fun e w' => ∃ s' c', e = .returned (.tuple #[.slice s' L c', .agg #[.int .i64 v0, .int .i64 v1, .int .i64 v2, .bool v3], .bool rb]) ∧ OwnI w.heap.size w' s' L (fun k => (stD (P, W, T, F) K V X J (k + 1)).1) ∧ Below w.heap.size w w' := by
  have e : runB (P, W, T, F) n K V X J = (drvB P W T && (decide (n ≤ 1000) && allD (P, W, T, F) K V X J n)) := rfl
  cases h0 : drvB P W T
  · obtain ⟨rfl, rfl, rfl, rfl, rfl, rfl⟩ := HF.out (by rw [e, h0, Bool.false_and])
    exact (implRun_no P W T F s n c S K C V X J w (Or.inl h0) hm).mono fun e w' ⟨a, b⟩ => ⟨none, 0, a, fun j hj => by omega, b⟩
  by_cases h1 : n ≤ 1000
  · refine implRun_near P W T F s n c S K C V X J w (by omega) h0 HP L v0 v1 v2 v3 rb (fun q => HT.out ?_) (fun q => HF.out ?_)
    · rw [e, h0, q, decide_eq_true h1]; rfl
    · rw [e, h0, q, Bool.and_false]; rfl
  · obtain ⟨rfl, rfl, rfl, rfl, rfl, rfl⟩ := HF.out (by rw [e, h0, decide_eq_false h1]; rfl)
    exact (implRun_no P W T F s n c S K C V X J w (Or.inr (by omega)) hm).mono fun e w' ⟨a, b⟩ => ⟨none, 0, a, fun j hj => by omega, b⟩
end Go.Proofs.Ytafifjodpgmiiaa
