/-
What is proved: a hold is held against itself; what lies in a loop's and a hold's cells stays.
-/
import Derived.Test.YtdpghhgfkhlliaaLs
import Derived.Deep.DeepCutAuto
namespace Go.Proofs.Ytdpghhgfkhlliaa
set_option maxRecDepth 40000
open Go.RowKit
set_option linter.unusedVariables false
set_option linter.unusedSimpArgs false

theorem keepLH2 {W W' : World} {p r : Nat} {a0 a1 a2 a3 a4 a5 a6 a7 a8 a9 a10 : Value} (h0 : W.cell? ⟨p, 0, none⟩ = some a0) (h1 : W.cell? ⟨p, 1, none⟩ = some a1) (h2 : W.cell? ⟨p, 2, none⟩ = some a2) (h3 : W.cell? ⟨p, 3, none⟩ = some a3) (h4 : W.cell? ⟨p, 4, none⟩ = some a4) (h5 : W.cell? ⟨p, 5, none⟩ = some a5) (h6 : W.cell? ⟨p, 6, none⟩ = some a6) (h7 : W.cell? ⟨r, 0, none⟩ = some a7) (h8 : W.cell? ⟨r, 1, none⟩ = some a8) (h9 : W.cell? ⟨r, 2, none⟩ = some a9) (h10 : W.cell? ⟨r, 3, none⟩ = some a10) (zp : p < W.heap.size) (zr : r < W.heap.size) (hb : Below W.heap.size W W') : W'.cell? ⟨p, 0, none⟩ = some a0 ∧ W'.cell? ⟨p, 1, none⟩ = some a1 ∧ W'.cell? ⟨p, 2, none⟩ = some a2 ∧ W'.cell? ⟨p, 3, none⟩ = some a3 ∧ W'.cell? ⟨p, 4, none⟩ = some a4 ∧ W'.cell? ⟨p, 5, none⟩ = some a5 ∧ W'.cell? ⟨p, 6, none⟩ = some a6 ∧ W'.cell? ⟨r, 0, none⟩ = some a7 ∧ W'.cell? ⟨r, 1, none⟩ = some a8 ∧ W'.cell? ⟨r, 2, none⟩ = some a9 ∧ W'.cell? ⟨r, 3, none⟩ = some a10 :=
  ⟨(hb.cell (p := ⟨p, 0, none⟩) zp).trans h0, (hb.cell (p := ⟨p, 1, none⟩) zp).trans h1, (hb.cell (p := ⟨p, 2, none⟩) zp).trans h2, (hb.cell (p := ⟨p, 3, none⟩) zp).trans h3, (hb.cell (p := ⟨p, 4, none⟩) zp).trans h4, (hb.cell (p := ⟨p, 5, none⟩) zp).trans h5, (hb.cell (p := ⟨p, 6, none⟩) zp).trans h6, (hb.cell (p := ⟨r, 0, none⟩) zr).trans h7, (hb.cell (p := ⟨r, 1, none⟩) zr).trans h8, (hb.cell (p := ⟨r, 2, none⟩) zr).trans h9, (hb.cell (p := ⟨r, 3, none⟩) zr).trans h10⟩
set_option maxHeartbeats 400000 in
theorem eqHold_any (r0 : Bool) (r1 r2 r3 : Int) (w : World) : Calls Try.prog 13 #[.agg #[.bool r0, .int .i64 r1, .int .i64 r2, .int .i64 r3], .agg #[.bool r0, .int .i64 r1, .int .i64 r2, .int .i64 r3]] w fun e w' => e = .returned (.bool true) ∧ Below w.heap.size w w' := by
  cases r0
  all_goals
    go_enter Try.func13, Try.ntmps13
    go_wp2
    go_ret
    exact ⟨rfl, (by repeat (first | with_reducible exact Below.refl _ _ | with_reducible refine Below.setCell ?_ (by first | omega | (simp; done) | (simp; omega)) _ | with_reducible refine bDrewN ?_ _ | with_reducible refine Below.drew ?_ | with_reducible refine Below.alloc ?_ (by first | omega | (simp; done) | (simp; omega)) _))⟩
set_option maxHeartbeats 800000 in
theorem toLoop_is (P I D S L H B : Int) (w : World) : Calls Try.prog 8 #[.agg #[.int .i64 P, .int .i64 I, .int .i64 D, .int .i64 S, .int .i64 L, .int .i64 H, .int .i64 B]] w fun e w' => e = .returned (.agg #[.int .i64 P, .int .i64 I, .int .i64 D, .int .i64 S, .int .i64 L, .int .i64 H, .int .i64 B]) ∧ w' = ((w.alloc (.cells #[.int .i64 P, .int .i64 I, .int .i64 D, .int .i64 S, .int .i64 L, .int .i64 H, .int .i64 B] 23)).alloc (.cells #[.int .i64 P, .int .i64 I, .int .i64 D, .int .i64 S, .int .i64 L, .int .i64 H, .int .i64 B] 27)).alloc (.cells #[.int .i64 P, .int .i64 I, .int .i64 D, .int .i64 S, .int .i64 L, .int .i64 H, .int .i64 B] 27) := by
  go_enter Try.func8, Try.ntmps8
  go_wp2
  exact bodyPost_ret (v := .agg #[.int .i64 P, .int .i64 I, .int .i64 D, .int .i64 S, .int .i64 L, .int .i64 H, .int .i64 B]) (by simp [results, Try.results8, go_sem]) rfl ⟨rfl, rfl⟩
set_option maxHeartbeats 800000 in
theorem toHold_is (on : Bool) (u v o : Int) (w : World) : Calls Try.prog 9 #[.agg #[.bool on, .int .i64 u, .int .i64 v, .int .i64 o]] w fun e w' => e = .returned (.agg #[.bool on, .int .i64 u, .int .i64 v, .int .i64 o]) ∧ w' = ((w.alloc (.cells #[.bool on, .int .i64 u, .int .i64 v, .int .i64 o] 25)).alloc (.cells #[.bool on, .int .i64 u, .int .i64 v, .int .i64 o] 29)).alloc (.cells #[.bool on, .int .i64 u, .int .i64 v, .int .i64 o] 29) := by
  go_enter Try.func9, Try.ntmps9
  go_wp2
  exact bodyPost_ret (v := .agg #[.bool on, .int .i64 u, .int .i64 v, .int .i64 o]) (by simp [results, Try.results9, go_sem]) rfl ⟨rfl, rfl⟩
end Go.Proofs.Ytdpghhgfkhlliaa
