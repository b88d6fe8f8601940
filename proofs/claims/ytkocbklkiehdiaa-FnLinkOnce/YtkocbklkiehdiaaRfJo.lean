/-
What is proved: what impl reads of a frame's bytes that may be none, with room behind them.
-/
import Derived.Test.YtkocbklkiehdiaaRfJ

namespace Go.Proofs.Ytkocbklkiehdiaa
set_option maxRecDepth 40000
open Go.ChangeShapes Go.WideShapes Go.ChangeAt Go.RowKit
set_option linter.unusedVariables false
set_option linter.unusedSimpArgs false

set_option maxHeartbeats 1000000 in
theorem implReadO (sy : Option Addr) (n cp : Nat) (V : Nat → Int) (w : World) (hn : (n : Int) ≤ 1048576) (hcap : n ≤ cp) (hS : sy = none ∨ ∃ b, sy = some ⟨b, 0, none⟩) (hV : Hid (∀ j, j < n → 0 ≤ V j ∧ V j < 256)) (HR : Hid (RowY w sy n V)) :
    Calls Try.prog 35 #[.slice sy n cp] w fun e w' => RdPost w n V e w' := by
  rcases hS with rfl | ⟨b, rfl⟩
  · obtain rfl : n = 0 := by
      rcases Nat.eq_zero_or_pos n with q | q
      · exact q
      · obtain ⟨b, o, e, _⟩ := HR.out 0 q
        cases e
    have HF : Hid (faultV 0 V = 1) := fault1 (by decide)
    have HN : Hid (rdN 0 V = 0 ∧ rdT 0 V = 0 ∧ rdQ 0 V = 0) := rd_no HF.out (by decide)
    have HQ : Hid (∀ W : World, Calls Try.prog 60 #[.slice none 0 cp] W fun e w2 => e = .returned (.int .i64 1) ∧ w2 = W) := fun W => by
      go_enter Try.func60, Try.ntmps60
      go_wp2
      go_ret
      exact ⟨rfl, rfl⟩
    go_enter Try.func35, Try.ntmps35
    go_wp2_with fail
    refine (HQ.out _).mono ?_
    rintro e w1 ⟨rfl, rfl⟩
    go_wp2
    exact bodyPost_ret (v := .tuple #[.agg #[.int .i64 0, .int .i64 0, .slice none 0 0], .int .i64 1]) (by simp [results, Try.results35, go_sem]) rfl ⟨none, 0, by rw [HF.out, HN.out.1, HN.out.2.1, HN.out.2.2], by rw [HN.out.1]; exact fun j hj => absurd hj (Nat.not_lt_zero j), (by repeat (first | with_reducible exact Below.refl _ _ | with_reducible refine Below.setCell ?_ (by first | omega | (simp; done) | (simp; omega)) _ | with_reducible refine bDrewN ?_ _ | with_reducible refine Below.drew ?_ | with_reducible refine Below.alloc ?_ (by first | omega | (simp; done) | (simp; omega)) _))⟩
  · exact implRead_cap b 0 n cp V w hn hcap hV HR
end Go.Proofs.Ytkocbklkiehdiaa
