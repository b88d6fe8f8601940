/-
What is proved: what a run of code answers.
-/
import Derived.Test.YtdidgbibbkhnhaaEx
namespace Go.Proofs.Ytdidgbibbkhnhaa
set_option maxRecDepth 40000
open Go.RowKit
set_option linter.unusedVariables false
set_option linter.unusedSimpArgs false

def ExPost (w : World) (n : Nat) (V : Nat → Int) (a : Nat) (O : Nat → Int) (ni : Nat) (I : Nat → Int) (e : Ending) (w' : World) : Prop := ∃ s' c', e = .returned (.tuple #[.slice s' (if exB n V a O ni I = true then a else 0) c', .bool (exB n V a O ni I)]) ∧ OwnI w.heap.size w' s' (if exB n V a O ni I = true then a else 0) (exK V O I n).N ∧ Below w.heap.size w w'
theorem ex_no {w w' : World} {n : Nat} {V : Nat → Int} {a : Nat} {O : Nat → Int} {ni : Nat} {I : Nat → Int} {s : Option Addr} {c : Nat} (h : exB n V a O ni I = false) (hb : Below w.heap.size w w') : ExPost w n V a O ni I (.returned (.tuple #[.slice s 0 c, .bool false])) w' := by
  unfold ExPost
  rw [h, if_neg (by simp)]
  exact ⟨s, c, rfl, fun j hj => by omega, hb⟩
theorem ex_yes {w w' : World} {n : Nat} {V : Nat → Int} {a : Nat} {O : Nat → Int} {ni : Nat} {I : Nat → Int} {s : Option Addr} {c : Nat} (h : exB n V a O ni I = true) (ho : OwnI w.heap.size w' s a (exK V O I n).N) (hb : Below w.heap.size w w') : ExPost w n V a O ni I (.returned (.tuple #[.slice s a c, .bool true])) w' := by
  unfold ExPost
  rw [h, if_pos rfl]
  exact ⟨s, c, rfl, ho, hb⟩
theorem make_i64x (n : Nat) (hn : n ≤ 1048576) (w : World) : (Instr.makeSlice 25 (.int .i64 (n : Int)) (.int .i64 (n : Int))).run Try.prog w = .ok (.slice (some ⟨w.heap.size, 0, none⟩) n n) (w.alloc (.cells (madeCells #[.int .i64 0] n) 2)) := by
  have hinfo : (Try.prog.info? 2).map (fun i => (i.zero, i.size, decide (i.bytes ≤ 80))) = some (some (.int .i64 0), 1, true) := by kernel_rfl
  obtain ⟨i, hi, hzz⟩ := Option.map_eq_some_iff.1 hinfo
  simp only [Prod.mk.injEq, decide_eq_true_eq] at hzz
  obtain ⟨hz, hs, hb⟩ := hzz
  have hl : n * i.bytes ≤ 1048576 * 80 := Nat.mul_le_mul hn hb
  have hr := run_make (P := Try.prog) w 25 2 i _ Try.underlying25 hi hz .i64 .i64 n n (by omega) (Int.le_refl _) (by rw [← Int.natCast_mul]; have := Nat.mul_comm n i.bytes; omega) (by omega)
  simp only [Int.toNat_natCast, hs, Nat.mul_one] at hr
  exact hr
theorem exn1 (O I : Nat → Int) (s : ExT) (m : Nat) : exN O I s 1 (m : Int) = ⟨s.h + 1, puF s.F s.h (s.N m), s.N⟩ := by unfold exN; rw [if_pos rfl, Int.toNat_natCast]
theorem exn2 (O I : Nat → Int) (s : ExT) (m : Nat) : exN O I s 2 (m : Int) = ⟨s.h + 1, puF s.F s.h (O m), s.N⟩ := by unfold exN; rw [if_neg (by omega), if_pos rfl, Int.toNat_natCast]
theorem exn3 (O I : Nat → Int) (s : ExT) (m : Int) : exN O I s 3 m = ⟨s.h + 1, puF s.F s.h m, s.N⟩ := by unfold exN; rw [if_neg (by omega), if_neg (by omega), if_pos rfl]
theorem exn4 (O I : Nat → Int) (s : ExT) (m : Nat) : exN O I s 4 (m : Int) = ⟨s.h + 1, puF s.F s.h (I m), s.N⟩ := by unfold exN; rw [if_neg (by omega), if_neg (by omega), if_neg (by omega), if_pos rfl, Int.toNat_natCast]
theorem exn5 (O I : Nat → Int) (s : ExT) (n : Int) : exN O I s 5 n = ⟨s.h - (tkL (n.toNat - 1)).length + 1, puF s.F (s.h - (tkL (n.toNat - 1)).length) (clipV (gvV n (s.F (s.h - (tkL (n.toNat - 1)).length)) (s.F (s.h - (tkL (n.toNat - 1)).length + 1)) (s.F (s.h - (tkL (n.toNat - 1)).length + 2)))), s.N⟩ := by unfold exN; rw [if_neg (by omega), if_neg (by omega), if_neg (by omega), if_neg (by omega), if_pos rfl]
theorem exn6 (O I : Nat → Int) (s : ExT) (m : Nat) : exN O I s 6 (m : Int) = ⟨s.h - 1, s.F, seF s.N m (s.F (s.h - 1))⟩ := by unfold exN; rw [if_neg (by omega), if_neg (by omega), if_neg (by omega), if_neg (by omega), if_neg (by omega), Int.toNat_natCast]
theorem tk_pos {n : Int} (h0 : 5 ≤ n) (h1 : n ≤ 16) : 1 ≤ (tkL (n.toNat - 1)).length := by
  have hc : n = 5 ∨ n = 6 ∨ n = 7 ∨ n = 8 ∨ n = 9 ∨ n = 10 ∨ n = 11 ∨ n = 12 ∨ n = 13 ∨ n = 14 ∨ n = 15 ∨ n = 16 := by omega
  rcases hc with rfl | rfl | rfl | rfl | rfl | rfl | rfl | rfl | rfl | rfl | rfl | rfl <;> decide
theorem ct_idx {C I : Int} {K : Nat → Bool} {h op n : Int} (q : ctB C I K h op n = true) : (1 ≤ op ∧ op ≤ 6) ∧ ((op = 1 ∨ op = 2 ∨ op = 6) → 0 ≤ n ∧ n < C) ∧ (op = 3 → -1000000 ≤ n ∧ n ≤ 1000000) ∧ (op = 4 → 0 ≤ n ∧ n < I) ∧ (op = 5 → 5 ≤ n ∧ n ≤ 16) := by
  have hb := (ct_yes q).1
  unfold cbB at hb
  by_cases o1 : op = 1 ∨ op = 2 ∨ op = 6
  · rw [if_pos o1] at hb
    have := inB_yes hb
    exact ⟨by omega, fun _ => by omega, fun e => by omega, fun e => by omega, fun e => by omega⟩
  rw [if_neg o1] at hb
  by_cases o3 : op = 3
  · rw [if_pos o3] at hb
    have := inB_yes hb
    exact ⟨by omega, fun e => absurd e o1, fun _ => this, fun e => by omega, fun e => by omega⟩
  rw [if_neg o3] at hb
  by_cases o4 : op = 4
  · rw [if_pos o4] at hb
    have := inB_yes hb
    exact ⟨by omega, fun e => absurd e o1, fun e => by omega, fun _ => by omega, fun e => by omega⟩
  rw [if_neg o4] at hb
  by_cases o5 : op = 5
  · rw [if_pos o5] at hb
    have := inB_yes hb
    exact ⟨by omega, fun e => absurd e o1, fun e => by omega, fun e => by omega, fun _ => this⟩
  rw [if_neg o5] at hb
  cases hb
end Go.Proofs.Ytdidgbibbkhnhaa
