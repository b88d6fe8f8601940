/-
What is proved: what the program's machine does at a keep and at an op.
-/
import Derived.Test.YtdidgbibbkhnhaaExM
import Derived.Deep.RegionWith
namespace Go.Proofs.Ytdidgbibbkhnhaa
set_option maxRecDepth 40000
open Go.RowKit
set_option linter.unusedVariables false
set_option linter.unusedSimpArgs false

theorem upon_go {P : Program} {α : Type} {op : Oper} {act : Act} {K : Act → World → Prop} {Q : Exit → Act → World → Prop} {M : Sem α} {w w' : World} {a : α} {F : α → World → Result Next} (h : Sem.run P M w = .ok a w') (g : Oper.upon P op act K Q (F a w')) : Oper.upon P op act K Q ((Sem.run P M w).andThen F) := by
  rw [h]; exact g
set_option maxRecDepth 20000 in
set_option maxHeartbeats 4000000 in
theorem keep_any (w0 : World) (p lo b nw a : Nat) (so : Option Addr) (ca : Nat) (si : Option Addr) (ni ci : Nat) (v : Value) (h : Nat) (F N : Nat → Int) (M : Nat) (w : World) (hM : M < a) (ha : a ≤ 60) (h1 : 1 ≤ h) (hh : h ≤ 10) (HM : Hid (MaAt w0 p lo b nw a so ca si ni ci w v h F N)) : Calls Try.prog 56 #[.pointer (some ⟨p, 0, none⟩), .int .i64 (M : Int)] w fun e w' => e = .returned (.tuple #[]) ∧ ∃ v', MaAt w0 p lo b nw a so ca si ni ci w' v' (h - 1) F (seF N M (F (h - 1))) := by
  obtain ⟨-, -, z, f, ⟨-, -, c2, -, -⟩, -, ⟨zg, -, gc⟩, -⟩ := HM.out
  have mI : (M : Int) < (a : Int) := by omega
  clear gc f
  go_enter Try.func56, Try.ntmps56
  go_region_with (first
    | (go_at_call 61; refine (take_any w0 p lo b nw a so ca si ni ci v h F N 1 _ (by omega) h1 hh (HM.out.below (by repeat (first | with_reducible exact Below.refl _ _ | with_reducible refine Below.setCell ?_ (by first | omega | (simp; done) | (simp; omega)) _ | with_reducible refine bDrewN ?_ _ | with_reducible refine Below.drew ?_ | with_reducible refine Below.alloc ?_ (by first | omega | (simp; done) | (simp; omega)) _)))).mono ?_; rintro e w2 ⟨g, cc, rfl, zg2, pg, hcg, -, v', hma⟩; have HMA : Hid (MaAt w0 p lo b nw a so ca si ni ci w2 v' (h - 1) F N) := hma; have e0 := hcg 0 (by omega); rw [Nat.add_zero] at e0; clear hcg; obtain ⟨-, -, z2, -, ⟨-, -, d2, -, -⟩, -, ⟨zn2, nf2, nc2⟩, -⟩ := hma; have nM := nc2 M hM; have nfM := nf2 M; clear nc2 nf2))
  all_goals
    go_end0
    exact ⟨rfl, v', HMA.out.now hM _⟩
end Go.Proofs.Ytdidgbibbkhnhaa
