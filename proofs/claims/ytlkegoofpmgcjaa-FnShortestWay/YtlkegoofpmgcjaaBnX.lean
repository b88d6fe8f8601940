/-
What is proved (as far as no program of a bound is named): the longest times of all steps, worked back from the last one by a range over a function.
-/
import Derived.Test.YtlkegoofpmgcjaaBnF
import Derived.Test.YtlkegoofpmgcjaaPlnE
import Derived.Deep.OwnRows
import Derived.Deep.RegionHeldLaw
namespace Go.Proofs.Ytlkegoofpmgcjaa
set_option maxRecDepth 40000
open Go.ChangeShapes Go.WideShapes Go.ChangeAt Go.RowKit
set_option linter.unusedVariables false
set_option linter.unusedSimpArgs false

open Go.Shelf
attribute [local go_sem] Oper.semAt_some
/-- Between two rounds: all but the found table lies as it lay, the table holds T. -/
def TabAt (n0 bf : Nat) (W0 : World) (n : Nat) (T : Nat → Int) (W : World) : Prop := KpB n0 bf W0 W ∧ (∀ j, j < n → W.cell? ⟨bf, j, none⟩ = some (.int .i64 (T j))) ∧ (∀ j, W.frozen? ⟨bf, j, none⟩ = false) ∧ n0 ≤ W.heap.size
theorem TabAt.same {n0 bf n : Nat} {W0 W W' : World} {T : Nat → Int} (h : TabAt n0 bf W0 n T W) (hs : W.heap.size ≤ W'.heap.size) (hb : ∀ k, k < n0 → W'.heap[k]? = W.heap[k]?) (hf : bf < n0) : TabAt n0 bf W0 n T W' :=
  ⟨⟨Nat.le_trans h.1.1 hs, fun k hk hn => (hb k hk).trans (h.1.2 k hk hn)⟩, fun j hj => (World.cell?_of_block (a := ⟨bf, j, none⟩) (hb bf hf)).trans (h.2.1 j hj), fun j => (World.frozen?_of_block (a := ⟨bf, j, none⟩) (hb bf hf)).trans (h.2.2.1 j), Nat.le_trans h.2.2.2 hs⟩
theorem TabAt.own {n0 bf n : Nat} {W0 : World} {β : Type} (f : β → Nat → Int) (hf : bf < n0) : OwnFrom n0 (fun (s : β) W => TabAt n0 bf W0 n (f s) W) := fun s W W' row hs hg hr =>
  hs.same hg.size (fun k hk => hg.block k (Nat.lt_of_lt_of_le hk hs.2.2.2) (fun e => by have := (hr k e.symm).1; omega)) hf
theorem TabAt.below {n0 bf n : Nat} {W0 W W' : World} {T : Nat → Int} (h : TabAt n0 bf W0 n T W) (hb : Below W.heap.size W W') (hf : bf < n0) : TabAt n0 bf W0 n T W' := h.same hb.size (fun k hk => hb.block k (Nat.lt_of_lt_of_le hk h.2.2.2)) hf
theorem TabAt.set {n0 bf n p : Nat} {W0 W : World} {T : Nat → Int} (h : TabAt n0 bf W0 n T W) (hf : bf < n0) (hp : p < n) (x : Int) : TabAt n0 bf W0 n (updI T p x) (W.setCell ⟨bf, p, none⟩ (.int .i64 x)) := by
  have bs : Beside bf W (W.setCell ⟨bf, p, none⟩ (.int .i64 x)) := Beside.setCell bf _ _ _
  refine ⟨h.1.trans (KpB.beside bs h.2.2.2), fun j hj => ?_, fun j => by rw [World.frozen?_setCell]; exact h.2.2.1 j, Nat.le_trans h.2.2.2 bs.2.2.2.1⟩
  unfold updI
  by_cases e : j = p
  · subst e
    rw [if_pos rfl]
    exact World.cell?_setCell_same' _ _ _ (by rw [h.2.1 j hj]; rfl)
  · rw [if_neg e]
    exact (World.cell?_setCell_other _ _ _ _ (by intro q; cases q; exact e rfl)).trans (h.2.1 j hj)
theorem make_i64w (n : Nat) (hn : n ≤ 1048576) (w : World) : (Instr.makeSlice 27 (.int .i64 (n : Int)) (.int .i64 (n : Int))).run Try.prog w = .ok (.slice (some ⟨w.heap.size, 0, none⟩) n n) (w.alloc (.cells (madeCells #[.int .i64 0] n) 2)) := by
  have hinfo : (Try.prog.info? 2).map (fun i => (i.zero, i.size, i.bytes)) = some (some (.int .i64 0), 1, 8) := by kernel_rfl
  obtain ⟨i, hi, hzz⟩ := Option.map_eq_some_iff.1 hinfo
  simp only [Prod.mk.injEq] at hzz
  obtain ⟨hz, hs, hb⟩ := hzz
  have hr := run_make (P := Try.prog) w 27 2 i _ Try.underlying27 hi hz .i64 .i64 n n (by omega) (Int.le_refl _) (by rw [hb]; omega) (by omega)
  simp only [Int.toNat_natCast, hs, Nat.mul_one] at hr
  exact hr
theorem max_if (a b : Int) : (if a < b then b else a) = max a b := by
  by_cases h : a < b
  · rw [if_pos h]; omega
  · rw [if_neg h]; omega
theorem fromLast_any (s : Option Addr) (n c : Nat) (w : World) : Calls Try.prog 56 #[.slice s n c] w fun e w' => e = .returned (.func (.func 65) #[] #[.pointer (some ⟨w.heap.size, 0, none⟩)]) ∧ w' = w.alloc (.cells #[.slice s n c] 24) := by
  go_enter Try.func56, Try.ntmps56
  go_wp2
  go_ret
  exact ⟨rfl, rfl⟩
theorem store_fnB : ∀ (W : World) (a : Addr) (f : Fn) (x y : Array Value), (W.cell? a).isSome = true → W.frozen? a = false → (store a (.func f x y)).run Try.prog W = .ok () (W.setCell a (.func f x y)) := fun W a f x y h hf => by
  obtain ⟨u, hu⟩ := Option.isSome_iff_exists.1 h
  rw [run_store Try.prog W a _ _ rfl, hu]
  simp [hf]
theorem store_slB : ∀ (W : World) (a : Addr) (s : Option Addr) (n c : Nat), (W.cell? a).isSome = true → W.frozen? a = false → (store a (.slice s n c)).run Try.prog W = .ok () (W.setCell a (.slice s n c)) := fun W a s n c h hf => by
  obtain ⟨u, hu⟩ := Option.isSome_iff_exists.1 h
  rw [run_store Try.prog W a _ _ rfl, hu]
  simp [hf]
end Go.Proofs.Ytlkegoofpmgcjaa
