/-
What is proved: a book that is cleared; what orders decide, as the program tells it.
-/
import Derived.Test.YtafifjodpgmiiaaDcH
import Derived.Test.YtafifjodpgmiiaaDcS
namespace Go.Proofs.Ytafifjodpgmiiaa
set_option maxRecDepth 40000
open Go.RowKit Go.Maps Go.Sort Go.Shelf Go.ChangeMaps Go.MapKept
set_option linter.unusedVariables false
set_option linter.unusedSimpArgs false

theorem run_clear {P : Program} {t ty k e : TypeId} {b : Nat} {w : World} {es : Array MapEntry} {clock : Nat} (ht : P.underlying t = some (.map k e)) (hb : w.heap[b]? = some (.map es clock)) : (Builtin.clear_ #[t] ty #[.map (some b)]).run P w = .ok (.tuple #[]) (setBlock w b (.map #[] clock)) := by
  simp [Builtin.clear_, run_underlying ht, MapKept.run_getObj_map hb, MapKept.run_setObj_map _ hb, Result.andThen, setBlock]
theorem clear_book {W : World} {b : Nat} {V : Nat → Int} {k : Nat} (hB : BookAt W b V k) : ∃ w', (∀ ty, (Builtin.clear_ #[61] ty #[.map (some b)]).run Try.prog W = .ok (.tuple #[]) w') ∧ (∀ U, BookAt w' b U 0) ∧ Beside b W w' := by
  obtain ⟨D, nn, d1, -⟩ := hB
  obtain ⟨es, clock, hb, -⟩ := d1
  refine ⟨_, fun ty => run_clear Try.underlying61 hb, fun U => ?_, ?_⟩
  · refine ⟨.map [], 0, ⟨#[], clock, heap_setBlock_same hb _, ⟨by simp, stamped_empty clock, by simp⟩, Nat.le_refl _, rfl⟩, Nat.le_refl _, Nat.le_refl _, fun l => ?_⟩
    have e : lvV U l 0 = 0 := by unfold lvV; split <;> rfl
    rw [e]
    exact ⟨rfl, rfl⟩
  · exact ⟨rfl, rfl, rfl, by simp [setBlock], fun i _ hi => heap_setBlock_other hb _ hi⟩
set_option maxRecDepth 20000 in
set_option maxHeartbeats 2000000 in
theorem bookDecide_far (b : Nat) (s : Option Addr) (n c : Nat) (V : Nat → Int) (w : World) (hn : (50 : Int) < n) :
    Calls Try.prog 28 #[.map (some b), .slice s n c] w fun e w' => e = .returned (.int .i64 (decV V n)) ∧ w' = w := by
  have e : decV V n = 0 := if_neg (by omega)
  rw [e]
  go_enter Try.func28, Try.ntmps28
  go_wp2
  go_ret
  exact ⟨rfl, rfl⟩
set_option maxRecDepth 20000 in
set_option maxHeartbeats 4000000 in
theorem bookDecide_near (b : Nat) (s : Option Addr) (n c : Nat) (V : Nat → Int) (w : World) (hn : (n : Int) ≤ 50) (HK : Hid (BookAt w b V 0)) (HR : Hid (RowI w s (n * 2) V)) (NE : Hid (∀ j, j < n * 2 → ∀ g o, s = some ⟨g, o, none⟩ → g ≠ b)) :
    Calls Try.prog 28 #[.map (some b), .slice s n c] w fun e w' => e = .returned (.int .i64 (decV V n)) ∧ (∀ U, BookAt w' b U 0) ∧ Beside b w w' := by
  have e : decV V n = decG V n 9 := if_pos (by omega)
  rw [e]
  clear e
  have zb := HK.out.lt
  go_enter Try.func28, Try.ntmps28
  go_wp2_with fail
  go_loopw [13] (fun i wr => ∃ k : Nat, k ≤ n ∧ i = .int .i64 k ∧ Hid (BookAt wr b V k) ∧ Hid (Beside b w wr)) (fun i _ => n - (intOf i).toNat)
  case atStart => exact ⟨0, Nat.zero_le _, rfl, HK, (by show Beside _ _ _; exact Beside.of (Below.refl _ _))⟩
  case round =>
    obtain ⟨k, hk, rfl, HB, HS⟩ := hrel
    by_cases h1 : k < n
    case pos =>
      obtain ⟨g, o, rfl, hg, c0⟩ := HR.out (k * 2) (by omega)
      obtain ⟨g', o', e', hg', c1⟩ := HR.out (k * 2 + 1) (by omega)
      cases e'
      have ne := NE.out (k * 2) (by omega) g o rfl
      have d0 : wr.cell? ⟨g, o + k * 2, none⟩ = some (.int .i64 (V (k * 2))) := (HS.out.cell (p := ⟨g, o + k * 2, none⟩) hg ne).trans c0
      have d1 : wr.cell? ⟨g, o + k * 2 + 1, none⟩ = some (.int .i64 (V (k * 2 + 1))) := (HS.out.cell (p := ⟨g, o + (k * 2 + 1), none⟩) hg ne).trans c1
      have k1 : (k : Int) < (n : Int) := by omega
      have zg : g < wr.heap.size := Nat.lt_of_lt_of_le hg HS.out.2.2.2.1
      have zb2 := HB.out.lt
      clear c0 c1 hg hg' ne
      go_wp2_with fail
      refine (enter_any b V k (by omega) _ (HB.out.below (below0 wr _))).mono ?_
      rintro e w3 ⟨rfl, hk3, hb3⟩
      have HB3 : Hid (BookAt w3 b V (k + 1)) := hk3
      have HS3 : Hid (Beside b w w3) := (HS.out.trans (Beside.of (below0 wr _))).trans hb3
      clear hk3 hb3 d0 d1
      go_wp2
      go_roundw
      case rel => exact ⟨k + 1, by omega, by go_num, HB3, HS3⟩
      case measure => simp [intOf]; omega
    case neg =>
      obtain rfl : k = n := by omega
      go_wp2_with fail
      refine (highest_any b V k (by omega) _ HB.out).mono ?_
      rintro e w3 ⟨rfl, h3⟩
      have HB3 : Hid (BookAt w3 b V k) := HB.out.below h3
      have HS3 : Hid (Beside b w w3) := HS.out.trans (Beside.of h3)
      clear h3
      obtain ⟨w4, hrun, hU, h4⟩ := clear_book HB3.out
      have HR4 : Hid (∀ ty, (Builtin.clear_ #[61] ty #[.map (some b)]).run Try.prog w3 = .ok (.tuple #[]) w4) := hrun
      clear hrun
      have HS4 : Hid (Beside b w w4) := HS3.out.trans h4
      have HU : Hid (∀ U, BookAt w4 b U 0) := hU
      clear h4 hU
      go_wp2_with fail
      rw [HR4.out 0]
      go_wp2
      go_ret
      exact ⟨rfl, HU.out, HS4.out⟩
set_option maxRecDepth 20000 in
set_option maxHeartbeats 1000000 in
theorem implDecide_any (s : Option Addr) (n c : Nat) (V : Nat → Int) (w : World) (HR : Hid (RowI w s (n * 2) V)) :
    Calls Try.prog 10 #[.slice s n c] w fun e w' => e = .returned (.int .i64 (decV V n)) ∧ Below w.heap.size w w' := by
  have hmm := @run_makeMap Try.prog
  go_enter Try.func10, Try.ntmps10
  go_wp2_with fail
  by_cases h : (n : Int) ≤ 50
  · refine (bookDecide_near w.heap.size s n c V _ h (BookAt.new w V) (HR.out.below (below0 w _)) (fun j hj g o e => ?_)).mono ?_
    · obtain ⟨g', o', e', hg, _⟩ := HR.out j hj
      rw [e] at e'
      cases e'
      omega
    rintro e w2 ⟨rfl, -, h2⟩
    have B2 : Below w.heap.size w w2 := (below0 w _).trans (h2.below (Nat.le_refl _) (by simp))
    clear h2
    go_wp2
    go_ret
    exact ⟨rfl, B2⟩
  · refine (bookDecide_far w.heap.size s n c V _ (by omega)).mono ?_
    rintro e w2 ⟨rfl, rfl⟩
    go_wp2
    go_ret
    exact ⟨rfl, (by repeat (first | with_reducible exact Below.refl _ _ | with_reducible refine Below.setCell ?_ (by first | omega | (simp; done) | (simp; omega)) _ | with_reducible refine bDrewN ?_ _ | with_reducible refine Below.drew ?_ | with_reducible refine Below.alloc ?_ (by first | omega | (simp; done) | (simp; omega)) _))⟩
end Go.Proofs.Ytafifjodpgmiiaa
