/-
What is proved: in numbers: one step of all limits keeps how each stands; and rows that are kept beside one block that turns.
-/
import Derived.Test.YtmoeoepinlcmdaaDoorLoN
import Derived.Test.YtmoeoepinlcmdaaDoorLimR
import Derived.Test.YtmoeoepinlcmdaaDoorClkR
import Derived.Test.YtmoeoepinlcmdaaDoorNte
import Derived.Test.YtmoeoepinlcmdaaDoorBoAN

namespace Go.Proofs.YtmoeoepinlcmdaaDoor
set_option maxRecDepth 40000
open Go.ChangeShapes Go.WideShapes Go.ChangeAt Go.RowKit
set_option linter.unusedVariables false
set_option linter.unusedSimpArgs false

theorem RowLimit.bes {w w' : World} {r : Nat} {s : Option Addr} {n : Nat} {V : Nat → Int × Int} (h : RowLimit w s n V) (hb : Beside r w w') (hn : ∀ g o, s = some ⟨g, o, none⟩ → g ≠ r) : RowLimit w' s n V := fun j hj => by
  obtain ⟨b, o, e, hl, c0, c1⟩ := h j hj
  have hne := hn b o e
  exact ⟨b, o, e, Nat.lt_of_lt_of_le hl hb.2.2.2.1, (hb.cell (p := ⟨b, o + j * 2, none⟩) hl hne).trans c0, (hb.cell (p := ⟨b, o + j * 2 + 1, none⟩) hl hne).trans c1⟩
theorem RowClock.bes {w w' : World} {r : Nat} {s : Option Addr} {n : Nat} {V : Nat → Int × Bool} (h : RowClock w s n V) (hb : Beside r w w') (hn : ∀ g o, s = some ⟨g, o, none⟩ → g ≠ r) : RowClock w' s n V := fun j hj => by
  obtain ⟨b, o, e, hl, c0, c1⟩ := h j hj
  have hne := hn b o e
  exact ⟨b, o, e, Nat.lt_of_lt_of_le hl hb.2.2.2.1, (hb.cell (p := ⟨b, o + j * 2, none⟩) hl hne).trans c0, (hb.cell (p := ⟨b, o + j * 2 + 1, none⟩) hl hne).trans c1⟩
theorem RowNote.bes {w w' : World} {r : Nat} {s : Option Addr} {n : Nat} {V : Nat → Int × Int} (h : RowNote w s n V) (hb : Beside r w w') (hn : ∀ g o, s = some ⟨g, o, none⟩ → g ≠ r) : RowNote w' s n V := fun j hj => by
  obtain ⟨b, o, e, hl, c0, c1⟩ := h j hj
  have hne := hn b o e
  exact ⟨b, o, e, Nat.lt_of_lt_of_le hl hb.2.2.2.1, (hb.cell (p := ⟨b, o + j * 2, none⟩) hl hne).trans c0, (hb.cell (p := ⟨b, o + j * 2 + 1, none⟩) hl hne).trans c1⟩
theorem RowB.bes {w w' : World} {r : Nat} {s : Option Addr} {n : Nat} {V : Nat → Bool} (h : RowB w s n V) (hb : Beside r w w') (hn : ∀ g o, s = some ⟨g, o, none⟩ → g ≠ r) : RowB w' s n V := fun j hj => by
  obtain ⟨b, o, e, hl, c0⟩ := h j hj
  have hne := hn b o e
  exact ⟨b, o, e, Nat.lt_of_lt_of_le hl hb.2.2.2.1, (hb.cell (p := ⟨b, o + j, none⟩) hl hne).trans c0⟩
theorem OwnI.besN {base r : Nat} {w w' : World} {s : Option Addr} {m : Nat} {V : Nat → Int} (h : OwnI base w s m V) (hb : Beside r w w') (hn : ∀ g o, s = some ⟨g, o, none⟩ → g ≠ r) : OwnI base w' s m V := fun j hj => by
  obtain ⟨b, e, hB, hl, hc, hf⟩ := h j hj
  have hne := hn b 0 e
  exact ⟨b, e, hB, Nat.lt_of_lt_of_le hl hb.2.2.2.1, (hb.cell (p := ⟨b, j, none⟩) hl hne).trans hc, (hb.frozen (p := ⟨b, j, none⟩) hl hne).trans hf⟩
theorem OwnI.putN {base g m : Nat} {w : World} {V : Nat → Int} (h : OwnI base w (some ⟨g, 0, none⟩) m V) (i : Nat) (x : Int) : OwnI base (w.setCell ⟨g, i, none⟩ (.int .i64 x)) (some ⟨g, 0, none⟩) m (fun j => if j = i then x else V j) := fun j hj => by
  obtain ⟨b, e, hB, hl, hc, hf⟩ := h j hj
  cases e
  refine ⟨g, rfl, hB, by simpa using hl, ?_, by simp [go_sem, hf]⟩
  by_cases q : j = i
  · subst q; simp [go_sem, hc]
  · simp [go_sem, hc, q]
theorem made_O (base : Nat) (w : World) (n : Nat) (t : TypeId) (hb : base ≤ w.heap.size) : OwnI base (w.alloc (.cells (madeCells #[.int .i64 0] n) t)) (some ⟨w.heap.size, 0, none⟩) n (fun _ => 0) := fun j hj => by
  have m0 : (madeCells #[.int .i64 0] n)[j]? = some (.int .i64 0) := by
    simp only [madeCells, Array.getElem?_map, Array.getElem?_range, hj, if_true, Option.map_some]
    show some ((#[Value.int .i64 0] : Array Value)[j % 1]!) = _
    rw [Nat.mod_one]; rfl
  exact ⟨_, rfl, hb, by simp, by simp [go_sem, m0], by simp [go_sem]⟩
/-- The limits are within their bounds. -/
def LimOk (k : Nat) (V : Nat → Int × Int) : Prop := k ≤ 60 ∧ ∀ j, j < k → limB (V j) = true
theorem lim_ok {k m : Nat} {V : Nat → Int × Int} {U : Nat → Int × Bool} {mo : Int} {nb : Nat} {O : Nat → Bool} (h : ckB k V m U mo nb O = true) : LimOk k V := by
  unfold ckB clsB at h
  simp only [Bool.and_eq_true, decide_eq_true_eq] at h
  exact ⟨h.1.1, fun j hj => (h.1.2.2 j hj).1⟩
/-- How all clocks stand. -/
def StA (k : Nat) (V : Nat → Int × Int) (U : Nat → Int × Bool) (la ra : Nat → Int) : Prop := ∀ j, j < k → StL (V j).2 (U j).1 (U j).2 (la j) (ra j)
theorem ck_on {k : Nat} {V : Nat → Int × Int} {U : Nat → Int × Bool} {la ra : Nat → Int} {O : Nat → Bool} (h : LimOk k V) (hs : StA k V U la ra) : ckB k V k U 0 k O = true := by
  unfold ckB clsB
  simp only [Bool.and_eq_true, decide_eq_true_eq]
  refine ⟨⟨h.1, trivial, fun j hj => ⟨h.2 j hj, ?_⟩⟩, by decide, trivial⟩
  have hl := (lim_yes (h.2 j hj)).2
  have hb := st_in hl.1 (hs j hj)
  have hd := (hs j hj).2.2.1
  unfold clkB inB
  simp only [Bool.and_eq_true, decide_eq_true_eq, beq_iff_eq]
  exact ⟨⟨hb.1, hb.2.1⟩, hd⟩
theorem sta_start {k : Nat} {V : Nat → Int × Int} {U : Nat → Int × Bool} (h : LimOk k V) (hU : ∀ j, U j = (-1, false)) : StA k V U (fun _ => 0) (fun _ => 0) := fun j hj => by
  rw [hU j]
  exact st_start (lim_yes (h.2 j hj)).2.1
/-- What each ran behind a step. -/
def ranN (V : Nat → Int × Int) (O : Nat → Bool) (ra : Nat → Int) (j : Nat) : Int := if (O j && decide ((V j).1 % 2 = 1)) = true then ra j + 1 else 0
theorem cnt_is {k : Nat} {V : Nat → Int × Int} {O : Nat → Bool} {j : Nat} (h : LimOk k V) (hj : j < k) : cntC V O 0 j = (O j && decide ((V j).1 % 2 = 1)) := by
  have hl := (lim_yes (h.2 j hj)).1
  unfold cntC
  rw [bit_odd hl.1 hl.2]
theorem sta_step {k : Nat} {V : Nat → Int × Int} {U : Nat → Int × Bool} {la ra : Nat → Int} {O : Nat → Bool} (h : LimOk k V) (hs : StA k V U la ra) : StA k V (nxC V U O 0) (lasP (ntP (whC V U O 0) k) la (ntP (whC V U O 0) k).length) (ranN V O ra) := fun j hj => by
  rw [las_all _ _ _ _ hj]
  have hl := (lim_yes (h.2 j hj)).2
  have q := (st_step hl.1 (hs j hj) (cntC V O 0 j)).2
  unfold ranN
  rw [← cnt_is h hj]
  exact q
/-- What is told p-th: of a limit, for the first time in this step, and in its order. -/
theorem note_at {k : Nat} {V : Nat → Int × Int} {U : Nat → Int × Bool} {la ra : Nat → Int} {O : Nat → Bool} (h : LimOk k V) (hs : StA k V U la ra) {p : Nat} (hp : p < (ntP (whC V U O 0) k).length) : ∃ (j : Nat) (x y : Int), j < k ∧ (ntP (whC V U O 0) k).getD p (0, 0) = ((j : Int), x) ∧ lasP (ntP (whC V U O 0) k) la p j = y ∧ ((x = 1 ∧ y = 0) ∨ (x = 1 ∧ y = 2) ∨ (x = 3 ∧ y = 1) ∨ (x = 2 ∧ y = 1) ∨ (x = 2 ∧ y = 3)) := by
  obtain ⟨j, a1, a2, a3, a4⟩ := las_at (whC V U O 0) k la hp
  have g := (st_step (lim_yes (h.2 j a1)).2.1 (hs j a1) (cntC V O 0 j)).1 a3
  refine ⟨j, _, _, a1, a2, a4, ?_⟩
  have g' : goodN (whC V U O 0 j) (la j) := g
  unfold goodN at g'
  omega
theorem las_on (T : List (Int × Int)) (la : Nat → Int) (p : Nat) {j : Nat} {x : Int} (h : T.getD p (0, 0) = ((j : Int), x)) : (fun i => if i = j then x else lasP T la p i) = lasP T la (p + 1) := by
  funext i
  show _ = if i = (T.getD p (0, 0)).1.toNat then (T.getD p (0, 0)).2 else lasP T la p i
  rw [h]
  simp
/-- What each ran, of the first i limits behind the step. -/
def ranP (V : Nat → Int × Int) (O : Nat → Bool) (ra : Nat → Int) (i j : Nat) : Int := if j < i then ranN V O ra j else ra j
theorem ran_on (V : Nat → Int × Int) (O : Nat → Bool) (ra : Nat → Int) (i : Nat) : (fun j => if j = i then ranN V O ra i else ranP V O ra i j) = ranP V O ra (i + 1) := by
  funext j
  unfold ranP
  by_cases e : j = i
  · subst e; rw [if_pos rfl, if_pos (Nat.lt_succ_self _)]
  · rw [if_neg e]
    by_cases q : j < i
    · rw [if_pos q, if_pos (by omega)]
    · rw [if_neg q, if_neg (by omega)]
theorem ran_at (V : Nat → Int × Int) (O : Nat → Bool) (ra : Nat → Int) (i : Nat) : ranP V O ra i i = ra i := if_neg (Nat.lt_irrefl _)
theorem own_one {base g m : Nat} {w : World} {V : Nat → Int} (h : OwnI base w (some ⟨g, 0, none⟩) m V) {j : Nat} (hj : j < m) : w.cell? ⟨g, j, none⟩ = some (.int .i64 (V j)) ∧ w.frozen? ⟨g, j, none⟩ = false ∧ g < w.heap.size := by
  obtain ⟨b, e, hB, hl, hc, hf⟩ := h j hj
  cases e
  exact ⟨hc, hf, hl⟩
theorem ran_bd {V : Nat → Int × Int} {O : Nat → Bool} {ra : Nat → Int} {j : Nat} {i : Nat} (h : 0 ≤ ra j ∧ ra j ≤ (i : Int)) : 0 ≤ ranN V O ra j ∧ ranN V O ra j ≤ ((i + 1 : Nat) : Int) := by
  unfold ranN
  split <;> omega
theorem meas_lt {p n : Nat} (h : p < n) : n - (intOf (.int .i64 ((p : Int) + 1))).toNat < n - (intOf (.int .i64 (p : Int))).toNat := by
  show n - ((p : Int) + 1).toNat < n - (p : Int).toNat
  omega
theorem own_ran0 {base : Nat} {w : World} {s : Option Addr} {n : Nat} {V : Nat → Int × Int} {O : Nat → Bool} {ra : Nat → Int} (h : OwnI base w s n ra) : OwnI base w s n (ranP V O ra 0) := fun j hj => by
  have q := h j hj
  unfold ranP
  rw [if_neg (Nat.not_lt_zero j)]
  exact q
theorem own_ranN {base : Nat} {w : World} {s : Option Addr} {n : Nat} {V : Nat → Int × Int} {O : Nat → Bool} {ra : Nat → Int} (h : OwnI base w s n (ranP V O ra n)) : OwnI base w s n (ranN V O ra) := fun j hj => by
  have q := h j hj
  unfold ranP at q
  rw [if_pos hj] at q
  exact q
end Go.Proofs.YtmoeoepinlcmdaaDoor
