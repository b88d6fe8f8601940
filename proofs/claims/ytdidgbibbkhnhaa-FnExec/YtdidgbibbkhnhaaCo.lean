/-
What is proved: when code may be run, in numbers; a row of bools in a block.
-/
import Derived.Test.YtdidgbibbkhnhaaIsW
import Derived.Test.YtdidgbibbkhnhaaOwn
import Derived.Test.YtdidgbibbkhnhaaTkS
import Derived.Test.YtdidgbibbkhnhaaKt
import Derived.Deep.RegionHeld3
import Derived.Deep.DeepCutAuto
import Derived.BigQuiet
namespace Go.Proofs.Ytdidgbibbkhnhaa
set_option maxRecDepth 40000
open Go.RowKit
set_option linter.unusedVariables false
set_option linter.unusedSimpArgs false

def tkO (op n : Int) : Int := if op = 5 then ((tkL (n.toNat - 1)).length : Int) else if op = 6 then 1 else 0
def lyO (op : Int) : Int := if op = 6 then 0 else 1
def cbB (C I op n : Int) : Bool := if op = 1 ∨ op = 2 ∨ op = 6 then inB 0 (C - 1) n else if op = 3 then inB (-1000000) 1000000 n else if op = 4 then inB 0 (I - 1) n else if op = 5 then inB 5 16 n else false
def ctB (C I : Int) (K : Nat → Bool) (h op n : Int) : Bool := cbB C I op n && (!(decide (op = 6) && K n.toNat) && (!(decide (op = 1) && !K n.toNat) && (decide (tkO op n ≤ h) && decide (h - tkO op n + lyO op ≤ 10))))
def nxK (K : Nat → Bool) (op n : Int) : Nat → Bool := if op = 6 then fun j => decide (j = n.toNat) || K j else K
def nxH (h op n : Int) : Int := h - tkO op n + lyO op
def coK (V : Nat → Int) : Nat → (Nat → Bool) × Int
  | 0 => (fun _ => false, 0)
  | k + 1 => (nxK (coK V k).1 (V (k * 2)) (V (k * 2 + 1)), nxH (coK V k).2 (V (k * 2)) (V (k * 2 + 1)))
def coJ (C I : Int) (V : Nat → Int) (k : Nat) : Bool := ctB C I (coK V k).1 (coK V k).2 (V (k * 2)) (V (k * 2 + 1))
def codeB (n : Nat) (V : Nat → Int) (C I : Int) : Bool := decide (n ≤ 500) && (inB 0 60 C && (inB 0 60 I && decide ((∀ j, j < n → coJ C I V j = true) ∧ (coK V n).2 = 0)))
theorem code_no {n k : Nat} {V : Nat → Int} {C I : Int} (hk : k < n) (h : coJ C I V k = false) : codeB n V C I = false := by
  unfold codeB
  rw [decide_eq_false (p := (∀ j, j < n → coJ C I V j = true) ∧ (coK V n).2 = 0) (fun q => by have := q.1 k hk; rw [h] at this; cases this)]
  simp
theorem code_far {n : Nat} {V : Nat → Int} {C I : Int} (h : ¬ n ≤ 500) : codeB n V C I = false := by unfold codeB; rw [decide_eq_false h]; rfl
theorem code_c {n : Nat} {V : Nat → Int} {C I : Int} (h : inB 0 60 C = false) : codeB n V C I = false := by unfold codeB; rw [h]; simp
theorem code_i {n : Nat} {V : Nat → Int} {C I : Int} (h : inB 0 60 I = false) : codeB n V C I = false := by unfold codeB; rw [h]; simp
theorem code_end {n : Nat} {V : Nat → Int} {C I : Int} (hn : n ≤ 500) (hc : inB 0 60 C = true) (hi : inB 0 60 I = true) (h : ∀ j, j < n → coJ C I V j = true) : codeB n V C I = decide ((coK V n).2 = 0) := by
  unfold codeB
  rw [decide_eq_true hn, hc, hi]
  simp only [Bool.true_and]
  exact decide_eq_decide.2 ⟨fun q => q.2, fun q => ⟨h, q⟩⟩
theorem tkL_le (i : Nat) : (tkL i).length ≤ 3 := by
  unfold tkL
  split <;> decide
theorem tk_rng (op n : Int) : 0 ≤ tkO op n ∧ tkO op n ≤ 3 := by
  unfold tkO
  have := tkL_le (n.toNat - 1)
  split
  · omega
  · split <;> omega
theorem ly_rng (op : Int) : 0 ≤ lyO op ∧ lyO op ≤ 1 := by unfold lyO; split <;> omega
theorem ct_yes {C I : Int} {K : Nat → Bool} {h op n : Int} (q : ctB C I K h op n = true) : cbB C I op n = true ∧ tkO op n ≤ h ∧ nxH h op n ≤ 10 := by
  unfold ctB at q
  simp only [Bool.and_eq_true, decide_eq_true_iff] at q
  exact ⟨q.1, q.2.2.2.1, q.2.2.2.2⟩
theorem co_rng {n : Nat} {V : Nat → Int} {C I : Int} : ∀ k, (∀ j, j < k → coJ C I V j = true) → 0 ≤ (coK V k).2 ∧ (coK V k).2 ≤ 10
  | 0, _ => by show 0 ≤ (0 : Int) ∧ (0 : Int) ≤ 10; omega
  | k + 1, h => by
    obtain ⟨-, h1, h2⟩ := ct_yes (h k (by omega))
    have := ly_rng (V (k * 2))
    show 0 ≤ nxH (coK V k).2 (V (k * 2)) (V (k * 2 + 1)) ∧ nxH (coK V k).2 (V (k * 2)) (V (k * 2 + 1)) ≤ 10
    refine ⟨?_, h2⟩
    unfold nxH
    omega
theorem ballC {P : Nat → Bool} {k : Nat} (h : ∀ j, j < k → P j = true) (hk : P k = true) : ∀ j, j < k + 1 → P j = true := by
  intro j hj
  by_cases e : j = k
  · subst e; exact hk
  · exact h j (by omega)
theorem tak_len {n : Int} (h0 : 5 ≤ n) (h1 : n ≤ 16) : ((takS n).size : Int) = ((tkL (n.toNat - 1)).length : Int) := by
  have hc : n = 5 ∨ n = 6 ∨ n = 7 ∨ n = 8 ∨ n = 9 ∨ n = 10 ∨ n = 11 ∨ n = 12 ∨ n = 13 ∨ n = 14 ∨ n = 15 ∨ n = 16 := by omega
  rcases hc with rfl | rfl | rfl | rfl | rfl | rfl | rfl | rfl | rfl | rfl | rfl | rfl <;> rfl
/-- A row of bools in a block. -/
def BoAt (g : Nat) (W : World) (c : Nat) (K : Nat → Bool) : Prop := g < W.heap.size ∧ (∀ o, W.frozen? ⟨g, o, none⟩ = false) ∧ ∀ j, j < c → W.cell? ⟨g, j, none⟩ = some (.bool (K j))
theorem BoAt.same {g c : Nat} {W W' : World} {K : Nat → Bool} (h : BoAt g W c K) (hs : W.heap.size ≤ W'.heap.size) (hb : W'.heap[g]? = W.heap[g]?) : BoAt g W' c K :=
  ⟨Nat.lt_of_lt_of_le h.1 hs, fun o => (World.frozen?_of_block (w := W) hb).trans (h.2.1 o), fun j hj => (World.cell?_of_block (w := W) hb).trans (h.2.2 j hj)⟩
theorem BoAt.below {g c : Nat} {W W' : World} {K : Nat → Bool} (h : BoAt g W c K) (hb : Below W.heap.size W W') : BoAt g W' c K := h.same hb.size (hb.block g h.1)
theorem BoAt.set {g c m : Nat} {W : World} {K : Nat → Bool} (h : BoAt g W c K) : BoAt g (W.setCell ⟨g, m, none⟩ (.bool true)) c (fun j => decide (j = m) || K j) := by
  obtain ⟨h1, h2, h3⟩ := h
  refine ⟨by simpa using h1, fun o => by simp [go_sem, h2], fun j hj => ?_⟩
  have := h3 j hj
  by_cases e : j = m
  · subst e
    simp [go_sem, this]
  · rw [World.cell?_setCell_other _ _ _ _ (by intro q; cases q; exact e rfl), this]
    simp [e]
theorem bo_made (W : World) (c : Nat) (t : TypeId) : BoAt W.heap.size (W.alloc (.cells (madeCells #[.bool false] c) t)) c (fun _ => false) := by
  refine ⟨by simp, fun o => by simp [go_sem], fun j hj => ?_⟩
  have hm0 : (madeCells #[.bool false] c)[j]? = some (.bool false) := by
    simp only [madeCells, Array.getElem?_map, Array.getElem?_range, hj, if_true, Option.map_some]
    show some ((#[Value.bool false] : Array Value)[j % 1]!) = _
    rw [Nat.mod_one]; rfl
  simpa [go_sem] using hm0
theorem make_bools (n : Nat) (hn : n ≤ 1048576) (w : World) : (Instr.makeSlice 66 (.int .i64 (n : Int)) (.int .i64 (n : Int))).run Try.prog w = .ok (.slice (some ⟨w.heap.size, 0, none⟩) n n) (w.alloc (.cells (madeCells #[.bool false] n) 4)) := by
  have hinfo : (Try.prog.info? 4).map (fun i => (i.zero, i.size, decide (i.bytes ≤ 80))) = some (some (.bool false), 1, true) := by kernel_rfl
  obtain ⟨i, hi, hzz⟩ := Option.map_eq_some_iff.1 hinfo
  simp only [Prod.mk.injEq, decide_eq_true_eq] at hzz
  obtain ⟨hz, hs, hb⟩ := hzz
  have hl : n * i.bytes ≤ 1048576 * 80 := Nat.mul_le_mul hn hb
  have hr := run_make (P := Try.prog) w 66 4 i _ Try.underlying66 hi hz .i64 .i64 n n (by omega) (Int.le_refl _) (by rw [← Int.natCast_mul]; have := Nat.mul_comm n i.bytes; omega) (by omega)
  simp only [Int.toNat_natCast, hs, Nat.mul_one] at hr
  exact hr
theorem ct_bounds {C I : Int} {K : Nat → Bool} {h op n : Int} (q : cbB C I op n = false) : ctB C I K h op n = false := by unfold ctB; rw [q]; rfl
end Go.Proofs.Ytdidgbibbkhnhaa
