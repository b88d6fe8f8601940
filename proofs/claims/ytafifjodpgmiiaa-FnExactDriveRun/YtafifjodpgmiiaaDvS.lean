/-
What is proved: what a step makes of a drive, as the specification tells it.
-/
import Derived.Test.YtafifjodpgmiiaaDvT
import Derived.Test.YtafifjodpgmiiaaDvN
import Derived.Test.YtafifjodpgmiiaaDvM
namespace Go.Proofs.Ytafifjodpgmiiaa
set_option maxRecDepth 40000
open Go.ChangeShapes Go.WideShapes Go.ChangeAt Go.RowKit
set_option linter.unusedVariables false
set_option linter.unusedSimpArgs false

theorem specDrive_any (P W T : Int) (F : Bool) (want sp : Int) (jam : Bool) (w : World) : Calls Try.prog 26 #[.agg #[.int .i64 P, .int .i64 W, .int .i64 T, .bool F], .int .i64 want, .int .i64 sp, .bool jam] w fun e w' => e = .returned (.tuple #[.agg #[.int .i64 (drvV P W T F want sp jam).1, .int .i64 (drvV P W T F want sp jam).2.1, .int .i64 (drvV P W T F want sp jam).2.2.1, .bool (drvV P W T F want sp jam).2.2.2], .bool (dstB P W T want sp)]) ∧ Below w.heap.size w w' := by
  unfold drvV
  cases hb : dstB P W T want sp
  · exact specDrive_no P W T F want sp jam w hb
  obtain ⟨kd, kw, ks⟩ := dst_yes hb
  obtain ⟨-, ⟨w1, w2⟩, -, hz⟩ := drv_yes kd
  obtain ⟨v1, v2⟩ := inB_yes kw
  rw [if_pos rfl]
  by_cases hw : want ≠ 0 ∧ want ≠ W
  · rw [if_pos hw]
    obtain ⟨n0, n1⟩ := hw
    rcases (by omega : want = 1 ∨ want = -1) with rfl | rfl
    · exact specDrive_t1 P W T F sp jam w (fun h => n1 h.symm) kd ks
    · exact specDrive_tm P W T F sp jam w (fun h => n1 h.symm) kd ks
  · rw [if_neg hw]
    have hc : want = 0 ∨ (want = W ∧ want ≠ 0) := by omega
    rcases hc with rfl | ⟨rfl, hne⟩
    · rcases (by omega : W = 1 ∨ W = -1 ∨ W = 0) with rfl | rfl | rfl
      · exact specDrive_n1 P T F sp jam w kd ks
      · exact specDrive_nm P T F sp jam w kd ks
      · obtain rfl : T = 0 := by simpa using hz
        exact specDrive_n0 P 0 F sp jam w kd ks
    · rcases (by omega : want = 1 ∨ want = -1) with rfl | rfl
      · exact specDrive_s1 P T F sp jam w kd ks
      · exact specDrive_sm P T F sp jam w kd ks
end Go.Proofs.Ytafifjodpgmiiaa
