/-
What is proved: DrawWriteFrame's frame.
-/
import Derived.Test.YtlmbnjeophninaaFrW
namespace Go.Proofs.Ytlmbnjeophninaa
set_option maxRecDepth 40000
open Go.ChangeShapes Go.WideShapes Go.ChangeAt Go.RowKit
set_option linter.unusedVariables false
set_option linter.unusedSimpArgs false

def DwPost (w : World) (e : Ending) (w' : World) : Prop := ∃ (t q : Int) (tt : Option Addr) (m cc : Nat) (V : Nat → Int), e = .returned (.agg #[.int .i64 t, .int .i64 q, .slice tt m cc]) ∧ m ≤ 21 ∧ RowI w' tt m V ∧ Below w.heap.size w w'
set_option maxRecDepth 20000 in
set_option maxHeartbeats 2000000 in
theorem drawWriteFrame_any {s : Option Addr} {n c : Nat} {w : World} (h : Hid (Code8 w s n)) :
    Calls Try.prog 7 #[.slice s n c] w fun e w' => DwPost w e w' := by
  go_enter Try.func7, Try.ntmps7
  go_wp2_with fail
  refine (open_any (h.out.below (by repeat (first | with_reducible exact Below.refl _ _ | with_reducible refine Below.setCell ?_ (by first | omega | (simp; done) | (simp; omega)) _ | with_reducible refine bDrewN ?_ _ | with_reducible refine Below.drew ?_ | with_reducible refine Below.alloc ?_ (by first | omega | (simp; done) | (simp; omega)) _)))).mono ?_
  rintro e w1 ⟨rfl, R_, b_⟩
  obtain ⟨gq, hq⟩ : ∃ g, g = w.heap.size := ⟨_, rfl⟩
  obtain ⟨r, hr⟩ : ∃ r, r = w.heap.size + 1 := ⟨_, rfl⟩
  have HR : Hid (Rd w1 r s n c 0) := by show Rd _ _ _ _ _ _; rw [hr]; simpa using R_
  have HQ : Hid (Blk w1 gq [.int .i64 0, .int .i64 0, .slice none 0 0]) := by show Blk _ _ _; rw [hq]; exact (Blk.new w #[.int .i64 0, .int .i64 0, .slice none 0 0] 26).below b_
  have HB : Hid (Below w.heap.size w w1) := Below.trans (below0 _ _) (b_.mono (by simp))
  have zr : w.heap.size < r := by omega
  have zq : gq < r := by omega
  clear R_ b_ h
  go_wp2_with fail
  rw [← hr, ← hq]
  have zq9 : w.heap.size ≤ gq := Nat.le_of_eq hq.symm
  clear hr hq
  refine (frame_any HR).mono ?_
  rintro e w2 hF
  unfold FrmPost at hF
  obtain ⟨t, q, tt, m, cc, V, p2, rfl, hm, hO, -, bS⟩ := hF
  have z1 : r < w1.heap.size := HR.out.1
  have HO : Hid (OwnI w1.heap.size w2 tt m V) := hO
  replace HQ : Hid (Blk w2 gq [.int .i64 0, .int .i64 0, .slice none 0 0]) := HQ.out.beside bS (by omega)
  replace HB : Hid (Below w.heap.size w w2) := HB.out.trans (bS.below (by omega) HB.out.size)
  clear hO bS HR
  obtain ⟨z2, fq, cq⟩ := HQ.out
  have g0 := cq 0 _ rfl
  have g1 := cq 1 _ rfl
  have g2 := cq 2 _ rfl
  have fq0 := fq 0
  have fq1 := fq 1
  have fq2 := fq 2
  have BF := HB.out
  have sBF := BF.size
  have hrow : ∀ W2, Beside gq w2 W2 → RowI W2 tt m V := fun W2 hb => OwnI.row (OwnI.beside HO.out hb (by omega))
  clear cq fq
  go_wp2
  refine bodyPost_ret (v := .agg #[.int .i64 t, .int .i64 q, .slice tt m cc]) (by simp [results, Try.results7, go_sem, g0, g1, g2]) rfl ?_
  unfold DwPost
  exact ⟨t, q, tt, m, cc, V, rfl, hm, hrow _ (((Beside.setCell gq _ 0 _).trans (Beside.setCell gq _ 1 _)).trans (Beside.setCell gq _ 2 _)), (by repeat (first | with_reducible exact Below.refl _ _ | with_reducible exact BF | with_reducible refine Below.setCell ?_ (by first | omega | (simp; done) | (simp; omega)) _ | with_reducible refine bDrewN ?_ _ | with_reducible refine Below.drew ?_ | with_reducible refine Below.alloc ?_ (by first | omega | (simp; done) | (simp; omega)) _))⟩
end Go.Proofs.Ytlmbnjeophninaa
