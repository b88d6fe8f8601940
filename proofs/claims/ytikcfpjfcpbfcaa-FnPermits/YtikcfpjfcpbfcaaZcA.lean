/-
What is proved: what a well-typed value of a struct type is, field by field; and two closed facts of the program.
-/
import Derived.Test.YtikcfpjfcpbfcaaRows
import Derived.WalkKit
import Derived.WalkSpells
import Derived.WalkLawsBesides
import Derived.BigQuiet
import Derived.Deep.QuietTactic
import Derived.Deep.RegionWith
import Derived.ProofKit
import Derived.OpenShut
import Derived.ShutString
import Derived.ChangeOld
import Derived.Below
import Derived.Deep.AppendLies
import Derived.Laws.OwnMore
import Derived.Deep.OwnRows
import Derived.Deep.RegionHeld3
import Derived.Deep.DeepCutAuto
import Derived.Deep.Slices
namespace Go.Proofs.Ytikcfpjfcpbfcaa
set_option maxRecDepth 40000
open Go.ChangeShapes Go.WideShapes Go.ChangeAt Go.RowKit

theorem own : ownKnob Try.prog.godebug = none := by kernel_rfl
theorem laidOut : laidOutB Try.prog = true := by kernel_rfl

theorem bDrewN {B : Nat} {a w : World} (h : Below B a w) (n : Nat) : Below B a (w.drewN n) := h.trans ⟨rfl, rfl, rfl, Nat.le_refl _, fun _ _ => rfl⟩
theorem below0 (w : World) (o : Obj) : Below w.heap.size w (w.alloc o) := (Below.refl _ _).alloc (Nat.le_refl _) _
theorem bcell {W w1 : World} (hb : Below W.heap.size W w1) : (∀ b o, b < W.heap.size → w1.cell? ⟨b, o, none⟩ = W.cell? ⟨b, o, none⟩) ∧ (∀ b o, b < W.heap.size → w1.frozen? ⟨b, o, none⟩ = W.frozen? ⟨b, o, none⟩) :=
  ⟨fun b o h => hb.cell (p := ⟨b, o, none⟩) h, fun b o h => hb.frozen (p := ⟨b, o, none⟩) h⟩
theorem ret_int {k : IntKind} {a b : Int} (h : a = b) : Ending.returned (.int k a) = .returned (.int k b) := by rw [h]
theorem ret_bool {a b : Bool} (h : a = b) : Ending.returned (.bool a) = .returned (.bool b) := by rw [h]

/-- The cells of a row are well typed, one by one. -/
def CellsOk (w : World) (b0 : Nat) : List TypeId → List Value → Prop
  | [], [] => True
  | t :: ts, v :: vs => Cell.okWide Try.prog w .any b0 t v ∧ CellsOk w b0 ts vs
  | _, _ => False

theorem cellsOk_cons {w : World} {b0 : Nat} {t : TypeId} {ts : List TypeId} {vs : List Value} (h : CellsOk w b0 (t :: ts) vs) : ∃ c cs, vs = c :: cs ∧ Cell.okWide Try.prog w .any b0 t c ∧ CellsOk w b0 ts cs := by
  cases vs with
  | nil => exact h.elim
  | cons c cs => exact ⟨c, cs, rfl, h.1, h.2⟩
theorem cellsOk_nil {w : World} {b0 : Nat} {vs : List Value} (h : CellsOk w b0 [] vs) : vs = [] := by
  cases vs with
  | nil => rfl
  | cons c cs => exact h.elim

theorem cellsOk_of {w : World} {b0 : Nat} : ∀ (ts : List TypeId) (vs : List Value), vs.length = ts.length → (∀ (i : Nat) v, vs[i]? = some v → ∃ u, ts[i]? = some u ∧ Cell.okWide Try.prog w .any b0 u v) → CellsOk w b0 ts vs
  | [], [], _, _ => trivial
  | [], _ :: _, h, _ => by simp at h
  | _ :: _, [], h, _ => by simp at h
  | t :: ts, v :: vs, h, k => by
    refine ⟨?_, cellsOk_of ts vs (by simpa using h) fun i u hu => ?_⟩
    · obtain ⟨u, hu, hc⟩ := k 0 v rfl
      simp only [List.getElem?_cons_zero, Option.some.injEq] at hu
      subst hu; exact hc
    · obtain ⟨x, hx, hc⟩ := k (i + 1) u (by simpa using hu)
      exact ⟨x, by simpa using hx, hc⟩

/-- A STRUCT BY VALUE, OPENED: its cells, each of its own type. -/
theorem open_cells {w : World} {b0 : Nat} {t : TypeId} {fs : Array Field} {ts : List TypeId} {v : Value} (hs : Try.prog.underlying t = some (.struct fs)) (hts : Try.prog.cellTypes Try.prog.depth t = some ts) (hC : Try.prog.cellsOf t = ts.length)
    (hv : Value.okWide Try.prog w .any b0 t v) : ∃ vs, v = .agg vs.toArray ∧ CellsOk w b0 ts vs := by
  simp only [Value.okWide, hs] at hv
  obtain ⟨cs, rfl, hsz, ts', hts', _, hall⟩ := hv
  rw [hts] at hts'
  cases hts'
  refine ⟨cs.toList, by simp, cellsOk_of ts cs.toList (by simp [hsz, hC]) fun i v hi => ?_⟩
  have hlt : i < cs.size := by
    rcases Nat.lt_or_ge i cs.size with g | g
    · exact g
    · rw [List.getElem?_eq_none (by simpa using g)] at hi; cases hi
  obtain ⟨u, hu, hc⟩ := hall i v (by simpa using hi)
  rw [Nat.mod_eq_of_lt (by omega)] at hu
  exact ⟨u, hu, hc⟩

theorem cell_int {w : World} {b0 : Nat} {t : TypeId} {k : IntKind} {c : Value} (ht : Try.prog.underlying t = some (.int k)) (h : Cell.okWide Try.prog w .any b0 t c) : ∃ n, c = .int k n ∧ (Lit.int k n).wf = true := by
  simp only [Cell.okWide, ht] at h
  cases c <;> simp_all [Cell.ok]
  simp [Lit.wf, h.2.1, h.2.2]
theorem cell_bool {w : World} {b0 : Nat} {t : TypeId} {c : Value} (ht : Try.prog.underlying t = some .bool) (h : Cell.okWide Try.prog w .any b0 t c) : ∃ x, c = .bool x := by
  simp only [Cell.okWide, ht] at h
  cases c <;> simp_all [Cell.ok]
theorem cell_float {w : World} {b0 : Nat} {t : TypeId} {k : FloatKind} {c : Value} (ht : Try.prog.underlying t = some (.float k)) (h : Cell.okWide Try.prog w .any b0 t c) : ∃ n, c = .float k n ∧ (Lit.float k n).wf = true := by
  simp only [Cell.okWide, ht] at h
  cases c <;> simp_all [Cell.ok]
  cases k <;> simp_all [FloatKind.has, Lit.wf]

open Go.RowKit

set_option maxHeartbeats 400000 in
theorem within_yes (n lo hi : Int) (w : World) (h1 : lo ≤ n) (h2 : n ≤ hi) :
    Calls Try.prog 101 #[.int .i64 n, .int .i64 lo, .int .i64 hi] w fun e w' => e = .returned (.bool true) ∧ w' = w := by
  go_enter Try.func101, Try.ntmps101
  go_wp2
  go_ret
  exact ⟨by simp, rfl⟩
set_option maxHeartbeats 400000 in
theorem within_no (n lo hi : Int) (w : World) (h : n < lo ∨ hi < n) :
    Calls Try.prog 101 #[.int .i64 n, .int .i64 lo, .int .i64 hi] w fun e w' => e = .returned (.bool false) ∧ w' = w := by
  by_cases c : n < lo
  · have b : decide (lo ≤ n) = false := by simp; omega
    go_enter Try.func101, Try.ntmps101
    go_wp2
    go_ret
    exact ⟨rfl, rfl⟩
  · have b : decide (n ≤ hi) = false := by simp; omega
    go_enter Try.func101, Try.ntmps101
    go_wp2
    go_ret
    exact ⟨rfl, rfl⟩
set_option maxHeartbeats 400000 in
theorem l1In_yes (n lo hi : Int) (w : World) (h1 : lo ≤ n) (h2 : n ≤ hi) :
    Calls Try.prog 84 #[.int .i64 n, .int .i64 lo, .int .i64 hi] w fun e w' => e = .returned (.bool true) ∧ w' = w := by
  go_enter Try.func84, Try.ntmps84
  go_wp2
  go_ret
  exact ⟨by simp, rfl⟩
set_option maxHeartbeats 400000 in
theorem l1In_no (n lo hi : Int) (w : World) (h : n < lo ∨ hi < n) :
    Calls Try.prog 84 #[.int .i64 n, .int .i64 lo, .int .i64 hi] w fun e w' => e = .returned (.bool false) ∧ w' = w := by
  by_cases c : n < lo
  · have b : decide (lo ≤ n) = false := by simp; omega
    go_enter Try.func84, Try.ntmps84
    go_wp2
    go_ret
    exact ⟨rfl, rfl⟩
  · have b : decide (n ≤ hi) = false := by simp; omega
    go_enter Try.func84, Try.ntmps84
    go_wp2
    go_ret
    exact ⟨rfl, rfl⟩

open Go.RowKit
set_option linter.unusedVariables false
set_option linter.unusedSimpArgs false

def inB (lo hi n : Int) : Bool := decide (lo ≤ n ∧ n ≤ hi)
theorem inB_yes {lo hi n : Int} (h : inB lo hi n = true) : lo ≤ n ∧ n ≤ hi := of_decide_eq_true h
theorem inB_no {lo hi n : Int} (h : inB lo hi n = false) : n < lo ∨ hi < n := by have := of_decide_eq_false h; omega
theorem within_is (n lo hi : Int) (w : World) : Calls Try.prog 101 #[.int .i64 n, .int .i64 lo, .int .i64 hi] w fun e w' => e = .returned (.bool (inB lo hi n)) ∧ w' = w := by
  cases h : inB lo hi n
  · exact within_no n lo hi w (inB_no h)
  · exact within_yes n lo hi w (inB_yes h).1 (inB_yes h).2
theorem l1In_is (n lo hi : Int) (w : World) : Calls Try.prog 84 #[.int .i64 n, .int .i64 lo, .int .i64 hi] w fun e w' => e = .returned (.bool (inB lo hi n)) ∧ w' = w := by
  cases h : inB lo hi n
  · exact l1In_no n lo hi w (inB_no h)
  · exact l1In_yes n lo hi w (inB_yes h).1 (inB_yes h).2

open Go.RowKit

/-- A row of m int64 cells at a place. -/
def RowI (w : World) (s : Option Addr) (m : Nat) (V : Nat → Int) : Prop := ∀ j, j < m → ∃ b o, s = some ⟨b, o, none⟩ ∧ b < w.heap.size ∧ w.cell? ⟨b, o + j, none⟩ = some (.int .i64 (V j))
theorem RowI.below {w w' : World} {s : Option Addr} {m : Nat} {V : Nat → Int} (h : RowI w s m V) (hb : Below w.heap.size w w') : RowI w' s m V := fun j hj => by
  obtain ⟨b, o, e, hl, hc⟩ := h j hj
  exact ⟨b, o, e, Nat.lt_of_lt_of_le hl hb.size, (hb.cell (p := ⟨b, o + j, none⟩) hl).trans hc⟩

open Go.RowKit
set_option linter.unusedVariables false

theorem ball_succ {P : Nat → Prop} {k : Nat} (h : ∀ j, j < k → P j) (h1 : P k) : ∀ j, j < k + 1 → P j := fun j hj => by
  by_cases e : j = k
  · rw [e]; exact h1
  · exact h j (by omega)

/-- All of the first n lie between lo and hi. -/
def allInB (lo hi : Int) (V : Nat → Int) (n : Nat) : Bool := decide (∀ j, j < n → lo ≤ V j ∧ V j ≤ hi)

theorem allIn_yes {lo hi : Int} {V : Nat → Int} {n : Nat} (h : true = allInB lo hi V n) : ∀ j, j < n → lo ≤ V j ∧ V j ≤ hi := of_decide_eq_true h.symm
theorem allIn_no {lo hi : Int} {V : Nat → Int} {n : Nat} (h : false = allInB lo hi V n) : ¬ ∀ j, j < n → lo ≤ V j ∧ V j ≤ hi := of_decide_eq_false h.symm

set_option maxRecDepth 20000 in
set_option maxHeartbeats 1000000 in
theorem allWithin_any (s : Option Addr) (n c : Nat) (V : Nat → Int) (lo hi : Int) (w : World) (hn : (n : Int) ≤ 1048576) (HR : Hid (RowI w s n V)) :
    Calls Try.prog 102 #[.slice s n c, .int .i64 lo, .int .i64 hi] w fun e w' => e = .returned (.bool (allInB lo hi V n)) ∧ w' = w := by
  go_enter Try.func102, Try.ntmps102
  go_wp2_with fail
  go_loop [11] (fun i => ∃ k : Nat, k ≤ n ∧ i = .int .i64 k ∧ Hid (∀ j, j < k → lo ≤ V j ∧ V j ≤ hi)) (fun i => n - (intOf i).toNat)
  case atStart => exact ⟨0, Nat.zero_le _, rfl, fun j hj => by omega⟩
  case round =>
    obtain ⟨k, hk, rfl, hP⟩ := hrel
    by_cases hlt : k < n
    · obtain ⟨g, o, rfl, hg, c0⟩ := HR.out k hlt
      have k1 : (k : Int) < (n : Int) := by omega
      by_cases q : lo ≤ V k ∧ V k ≤ hi
      · go_wp2_with fail
        refine (within_yes _ _ _ _ q.1 q.2).mono ?_
        rintro e w2 ⟨rfl, rfl⟩
        go_wp2
        go_round
        case rel => exact ⟨k + 1, by omega, by go_num, ball_succ hP.out q⟩
        case measure => simp [intOf]; omega
      · go_wp2_with fail
        refine (within_no _ _ _ _ (by omega)).mono ?_
        rintro e w2 ⟨rfl, rfl⟩
        go_wp2
        go_ret
        exact ⟨ret_bool (decide_eq_false (fun h => q (h k hlt))).symm, rfl⟩
    · obtain rfl : k = n := by omega
      go_wp2
      go_ret
      exact ⟨ret_bool (decide_eq_true hP.out).symm, rfl⟩

open Go.RowKit

/-- Of the blocks that were there none has turned but one. -/
def Beside (r : Nat) (w w' : World) : Prop := w'.os = w.os ∧ w'.tape = w.tape ∧ w'.output = w.output ∧ w.heap.size ≤ w'.heap.size ∧ ∀ k, k < w.heap.size → k ≠ r → w'.heap[k]? = w.heap[k]?
theorem Beside.of {r : Nat} {w w' : World} (h : Below w.heap.size w w') : Beside r w w' := ⟨h.os, h.tape, h.output, h.size, fun k hk _ => h.block k hk⟩
theorem Beside.trans {r : Nat} {a b c : World} (h : Beside r a b) (k : Beside r b c) : Beside r a c := by
  obtain ⟨h1, h2, h3, h4, h5⟩ := h
  obtain ⟨k1, k2, k3, k4, k5⟩ := k
  exact ⟨k1.trans h1, k2.trans h2, k3.trans h3, Nat.le_trans h4 k4, fun i hi hn => (k5 i (by omega) hn).trans (h5 i hi hn)⟩
theorem Beside.below {r : Nat} {w w' : World} (h : Beside r w w') {B : Nat} (hr : B ≤ r) (hB : B ≤ w.heap.size) : Below B w w' := by
  obtain ⟨h1, h2, h3, h4, h5⟩ := h
  exact ⟨h1, h2, h3, h4, fun k hk => h5 k (by omega) (by omega)⟩
theorem Beside.setCell (r : Nat) (w : World) (o : Nat) (u : Value) : Beside r w (w.setCell ⟨r, o, none⟩ u) :=
  ⟨rfl, rfl, rfl, by simp [World.setCell], fun k hk hn => Below.heap_setCell _ _ _ _ hn⟩
theorem Beside.cell {r : Nat} {w w' : World} (h : Beside r w w') {p : Addr} (hp : p.block < w.heap.size) (hn : p.block ≠ r) : w'.cell? p = w.cell? p := World.cell?_of_block (w := w) (h.2.2.2.2 p.block hp hn)
theorem Beside.frozen {r : Nat} {w w' : World} (h : Beside r w w') {p : Addr} (hp : p.block < w.heap.size) (hn : p.block ≠ r) : w'.frozen? p = w.frozen? p := World.frozen?_of_block (w := w) (h.2.2.2.2 p.block hp hn)

open Go.RowKit

/-- The first m numbers, as cells. -/
def vals (U : Nat → Int) (m : Nat) : List Value := (List.range m).map fun j => .int .i64 (U j)
theorem vals_length (U : Nat → Int) (m : Nat) : (vals U m).length = m := by simp [vals]
theorem vals_succ (U : Nat → Int) (m : Nat) : vals U (m + 1) = vals U m ++ [.int .i64 (U m)] := by simp [vals, List.range_succ]
theorem vals_two (U : Nat → Int) (m : Nat) : vals U (m + 2) = vals U m ++ [.int .i64 (U m), .int .i64 (U (m + 1))] := by
  rw [show m + 2 = m + 1 + 1 from rfl, vals_succ, vals_succ, List.append_assoc]; rfl
theorem vals_at (U : Nat → Int) {m j : Nat} (h : j < m) : (vals U m)[j]? = some (.int .i64 (U j)) := by simp [vals, h]
theorem vals_congr {U V : Nat → Int} {m : Nat} (h : ∀ j, j < m → U j = V j) : vals U m = vals V m := by
  unfold vals
  refine List.map_congr_left fun j hj => ?_
  rw [h j (List.mem_range.1 hj)]
/-- A row of m int64 cells in blocks from base on, which may be written. -/
def OwnI (base : Nat) (w : World) (s : Option Addr) (m : Nat) (V : Nat → Int) : Prop := ∀ j, j < m → ∃ b, s = some ⟨b, 0, none⟩ ∧ base ≤ b ∧ b < w.heap.size ∧ w.cell? ⟨b, j, none⟩ = some (.int .i64 (V j)) ∧ w.frozen? ⟨b, j, none⟩ = false
theorem OwnI.row {base : Nat} {w : World} {s : Option Addr} {m : Nat} {V : Nat → Int} (h : OwnI base w s m V) : RowI w s m V := fun j hj => by
  obtain ⟨b, e, _, hl, hc, _⟩ := h j hj
  exact ⟨b, 0, e, hl, by rw [Nat.zero_add]; exact hc⟩
theorem OwnI.below {base : Nat} {w w' : World} {s : Option Addr} {m : Nat} {V : Nat → Int} (h : OwnI base w s m V) (hb : Below w.heap.size w w') : OwnI base w' s m V := fun j hj => by
  obtain ⟨b, e, hB, hl, hc, hf⟩ := h j hj
  exact ⟨b, e, hB, Nat.lt_of_lt_of_le hl hb.size, (hb.cell (p := ⟨b, j, none⟩) hl).trans hc, (hb.frozen (p := ⟨b, j, none⟩) hl).trans hf⟩
theorem OwnI.mono {base base' : Nat} {w : World} {s : Option Addr} {m : Nat} {V : Nat → Int} (h : OwnI base w s m V) (hb : base' ≤ base) : OwnI base' w s m V := fun j hj => by
  obtain ⟨b, e, hB, r⟩ := h j hj
  exact ⟨b, e, by omega, r⟩
theorem OwnI.congr {base : Nat} {w : World} {s : Option Addr} {m : Nat} {V U : Nat → Int} (h : OwnI base w s m V) (e : ∀ j, j < m → V j = U j) : OwnI base w s m U := fun j hj => by
  obtain ⟨b, e1, hB, hl, hc, hf⟩ := h j hj
  exact ⟨b, e1, hB, hl, by rw [← e j hj]; exact hc, hf⟩
theorem RowI.congr {w : World} {s : Option Addr} {m : Nat} {V U : Nat → Int} (h : RowI w s m V) (e : ∀ j, j < m → V j = U j) : RowI w s m U := fun j hj => by
  obtain ⟨b, o, e1, hl, hc⟩ := h j hj
  exact ⟨b, o, e1, hl, by rw [← e j hj]; exact hc⟩
theorem own_OwnI {w : World} {base : Nat} {e : TypeId} {size n : Nat} {v : Value} {U : Nat → Int} (h : w.ownsRow base e size v n (vals U (n * size))) : ∃ s cap, v = .slice s n cap ∧ OwnI base w s (n * size) U := by
  rcases h.2 with ⟨rfl, rfl⟩ | ⟨g, cap, cur, rfl, hb, hg, _, _, _, _⟩
  · exact ⟨none, 0, rfl, fun j hj => by omega⟩
  · refine ⟨some ⟨g, 0, none⟩, cap, rfl, fun j hj => ⟨g, rfl, hb, (Array.getElem?_eq_some_iff.1 hg).1, ?_, h.frozenAt j⟩⟩
    rw [h.cellAt j hj, vals_at U hj]
theorem grown_below {w w' : World} {row : Option Nat} (h : w.grownBy w' row) {B : Nat} (hB : B ≤ w.heap.size) (hr : ∀ r, row = some r → B ≤ r) : Below B w w' :=
  ⟨h.os, h.tape, h.output, h.size, fun k hk => h.block k (by omega) (fun e => by have := hr k e.symm; omega)⟩
theorem grown_new {w w' : World} {o : Obj} {row : Option Nat} (h : (w.alloc o).grownBy w' row) : w.grownBy w' row :=
  ⟨h.os, h.tape, h.output, Nat.le_trans (by simp) h.size, fun k hk hn => (h.block k (by simp; omega) hn).trans (heap_alloc_old w o hk)⟩
theorem own_block {w : World} {base : Nat} {e : TypeId} {size n : Nat} {v : Value} {xs : List Value} (h : w.ownsRow base e size v n xs) : ∀ r, v.ownBlock = some r → base ≤ r := fun r hr => (h.lt r hr).1
theorem newsOne (W : World) (a : Value) (t : TypeId) : ∀ j u, [a][j]? = some u → (W.alloc (.cells #[a] t)).cell? ((⟨W.heap.size, 0, none⟩ : Addr).add j) = some u := World.news_of_block (cs := #[a]) (heap_alloc_new W _)
theorem newsTwo (W : World) (a b : Value) (t : TypeId) : ∀ j u, [a, b][j]? = some u → (W.alloc (.cells #[a, b] t)).cell? ((⟨W.heap.size, 0, none⟩ : Addr).add j) = some u := World.news_of_block (cs := #[a, b]) (heap_alloc_new W _)

open Go.ChangeShapes Go.WideShapes Go.ChangeAt Go.RowKit
set_option linter.unusedVariables false
set_option linter.unusedSimpArgs false

/-- Nothing has turned but blocks of S. -/
def Turn (S : Nat → Prop) (w w' : World) : Prop := w'.os = w.os ∧ w'.tape = w.tape ∧ w'.output = w.output ∧ w.heap.size ≤ w'.heap.size ∧ ∀ k, k < w.heap.size → ¬ S k → w'.heap[k]? = w.heap[k]?
theorem Turn.refl (S : Nat → Prop) (w : World) : Turn S w w := ⟨rfl, rfl, rfl, Nat.le_refl _, fun _ _ _ => rfl⟩
theorem Turn.size {S : Nat → Prop} {w w' : World} (h : Turn S w w') : w.heap.size ≤ w'.heap.size := h.2.2.2.1
theorem Turn.trans {S : Nat → Prop} {a b c : World} (h : Turn S a b) (k : Turn S b c) : Turn S a c :=
  ⟨k.1.trans h.1, k.2.1.trans h.2.1, k.2.2.1.trans h.2.2.1, Nat.le_trans h.2.2.2.1 k.2.2.2.1, fun i hi n => (k.2.2.2.2 i (Nat.lt_of_lt_of_le hi h.2.2.2.1) n).trans (h.2.2.2.2 i hi n)⟩
theorem Turn.mono {S S' : Nat → Prop} {a b : World} (h : Turn S a b) (hs : ∀ k, S k → S' k) : Turn S' a b := ⟨h.1, h.2.1, h.2.2.1, h.2.2.2.1, fun i hi n => h.2.2.2.2 i hi (fun q => n (hs i q))⟩
theorem Turn.of {S : Nat → Prop} {r : Nat} {w w' : World} (h : Beside r w w') (hr : S r) : Turn S w w' := ⟨h.1, h.2.1, h.2.2.1, h.2.2.2.1, fun k hk n => h.2.2.2.2 k hk (fun e => n (e ▸ hr))⟩
theorem Turn.grown {S : Nat → Prop} {w w' : World} (h : Below w.heap.size w w') : Turn S w w' := ⟨h.os, h.tape, h.output, h.size, fun k hk _ => h.block k hk⟩
theorem Turn.below {S : Nat → Prop} {w w' : World} {B : Nat} (h : Turn S w w') (hS : ∀ k, S k → B ≤ k) (hB : B ≤ w.heap.size) : Below B w w' := ⟨h.1, h.2.1, h.2.2.1, h.2.2.2.1, fun k hk => h.2.2.2.2 k (by omega) (fun q => by have := hS k q; omega)⟩
theorem Turn.cell {S : Nat → Prop} {w w' : World} (h : Turn S w w') {p : Addr} (hp : p.block < w.heap.size) (hn : ¬ S p.block) : w'.cell? p = w.cell? p := World.cell?_of_block (w := w) (h.2.2.2.2 p.block hp hn)
theorem Turn.frozen {S : Nat → Prop} {w w' : World} (h : Turn S w w') {p : Addr} (hp : p.block < w.heap.size) (hn : ¬ S p.block) : w'.frozen? p = w.frozen? p := World.frozen?_of_block (w := w) (h.2.2.2.2 p.block hp hn)
theorem store_slT : ∀ (W : World) (a : Addr) (s : Option Addr) (n c : Nat), (W.cell? a).isSome = true → W.frozen? a = false → (store a (.slice s n c)).run Try.prog W = .ok () (W.setCell a (.slice s n c)) := fun W a s n c h hf => by
  obtain ⟨u, hu⟩ := Option.isSome_iff_exists.1 h
  rw [run_store Try.prog W a _ _ rfl, hu]
  simp [hf]
theorem set_block {w : World} {r o : Nat} {u : Value} {k : Nat} (hk : k < w.heap.size) (h : k ≠ r) : (w.setCell ⟨r, o, none⟩ u).heap[k]? = w.heap[k]? := (Beside.setCell r w o u).2.2.2.2 k hk h

open Go.ChangeShapes Go.WideShapes Go.ChangeAt Go.RowKit
set_option linter.unusedVariables false
set_option linter.unusedSimpArgs false

theorem cell_apartDuct {w : World} {b i j : Nat} {v : Value} (h : j ≠ i) : (w.setCell ⟨b, i, none⟩ v).cell? ⟨b, j, none⟩ = w.cell? ⟨b, j, none⟩ := World.cell?_setCell_other _ _ _ _ (by intro e; cases e; exact h rfl)
/-- A list of n ducts at a place. -/
def RowDuct (w : World) (s : Option Addr) (n : Nat) (V : Nat → Int × Int) : Prop := ∀ j, j < n → ∃ b o, s = some ⟨b, o, none⟩ ∧ b < w.heap.size ∧ w.cell? ⟨b, o + j * 2, none⟩ = some (.int .i64 ((V j).1)) ∧ w.cell? ⟨b, o + j * 2 + 1, none⟩ = some (.int .i64 ((V j).2))
theorem RowDuct.below {w w' : World} {s : Option Addr} {n : Nat} {V : Nat → Int × Int} (h : RowDuct w s n V) (hb : Below w.heap.size w w') : RowDuct w' s n V := fun j hj => by
  obtain ⟨b, o, e, hl, c0, c1⟩ := h j hj
  exact ⟨b, o, e, Nat.lt_of_lt_of_le hl hb.size, (hb.cell (p := ⟨b, o + j * 2, none⟩) hl).trans c0, (hb.cell (p := ⟨b, o + j * 2 + 1, none⟩) hl).trans c1⟩
/-- A list of n ducts in a block from base on, which may be written. -/
def OwnDuct (base : Nat) (w : World) (s : Option Addr) (n : Nat) (V : Nat → Int × Int) : Prop := ∀ j, j < n → ∃ b, s = some ⟨b, 0, none⟩ ∧ base ≤ b ∧ b < w.heap.size ∧ (∀ o, w.frozen? ⟨b, o, none⟩ = false) ∧ w.cell? ⟨b, j * 2, none⟩ = some (.int .i64 ((V j).1)) ∧ w.cell? ⟨b, j * 2 + 1, none⟩ = some (.int .i64 ((V j).2))
theorem OwnDuct.row {base : Nat} {w : World} {s : Option Addr} {n : Nat} {V : Nat → Int × Int} (h : OwnDuct base w s n V) : RowDuct w s n V := fun j hj => by
  obtain ⟨b, e, _, hl, _, c0, c1⟩ := h j hj
  exact ⟨b, 0, e, hl, by simpa using c0, by simpa using c1⟩
theorem OwnDuct.below {base : Nat} {w w' : World} {s : Option Addr} {n : Nat} {V : Nat → Int × Int} (h : OwnDuct base w s n V) (hb : Below w.heap.size w w') : OwnDuct base w' s n V := fun j hj => by
  obtain ⟨b, e, hB, hl, hf, c0, c1⟩ := h j hj
  exact ⟨b, e, hB, Nat.lt_of_lt_of_le hl hb.size, fun o => (hb.frozen (p := ⟨b, o, none⟩) hl).trans (hf o), (hb.cell (p := ⟨b, j * 2, none⟩) hl).trans c0, (hb.cell (p := ⟨b, j * 2 + 1, none⟩) hl).trans c1⟩
theorem OwnDuct.mono {base base' : Nat} {w : World} {s : Option Addr} {n : Nat} {V : Nat → Int × Int} (h : OwnDuct base w s n V) (hb : base' ≤ base) : OwnDuct base' w s n V := fun j hj => by
  obtain ⟨b, e, hB, r⟩ := h j hj
  exact ⟨b, e, by omega, r⟩
theorem OwnDuct.beside {base r : Nat} {w w' : World} {s : Option Addr} {n : Nat} {V : Nat → Int × Int} (h : OwnDuct base w s n V) (hb : Beside r w w') (hr : r < base) : OwnDuct base w' s n V := fun j hj => by
  obtain ⟨b, e, hB, hl, hf, c0, c1⟩ := h j hj
  exact ⟨b, e, hB, Nat.lt_of_lt_of_le hl hb.2.2.2.1, fun o => (hb.frozen (p := ⟨b, o, none⟩) hl (by show b ≠ r; omega)).trans (hf o), (hb.cell (p := ⟨b, j * 2, none⟩) hl (by show b ≠ r; omega)).trans c0, (hb.cell (p := ⟨b, j * 2 + 1, none⟩) hl (by show b ≠ r; omega)).trans c1⟩
set_option maxHeartbeats 400000 in
theorem toDuct_any (x0 : Int) (x1 : Int) (w : World) : Calls Try.prog 88 #[.agg #[.int .i64 x0, .int .i64 x1]] w fun r w' => r = .returned (.agg #[.int .i64 x0, .int .i64 x1]) ∧ Below w.heap.size w w' := by
  go_enter Try.func88, Try.ntmps88
  go_wp2
  exact bodyPost_ret (v := .agg #[.int .i64 x0, .int .i64 x1]) (by simp [results, Try.results88, go_sem]) rfl ⟨rfl, (by repeat (first | with_reducible exact Below.refl _ _ | with_reducible refine Below.setCell ?_ (by first | omega | (simp; done) | (simp; omega)) _ | with_reducible refine bDrewN ?_ _ | with_reducible refine Below.drew ?_ | with_reducible refine Below.alloc ?_ (by first | omega | (simp; done) | (simp; omega)) _))⟩
theorem make_Duct (n : Nat) (hn : n ≤ 1048576) (w : World) : (Instr.makeSlice 39 (.int .i64 (n : Int)) (.int .i64 (n : Int))).run Try.prog w = .ok (.slice (some ⟨w.heap.size, 0, none⟩) n n) (w.alloc (.cells (madeCells #[.int .i64 0, .int .i64 0] (n * 2)) 106)) := by
  have hinfo : (Try.prog.info? 106).map (fun i => (i.zero, i.size, decide (i.bytes ≤ 80))) = some (some (.agg #[.int .i64 0, .int .i64 0]), 2, true) := by kernel_rfl
  obtain ⟨i, hi, hzz⟩ := Option.map_eq_some_iff.1 hinfo
  simp only [Prod.mk.injEq, decide_eq_true_eq] at hzz
  obtain ⟨hz, hs, hb⟩ := hzz
  have hl : n * i.bytes ≤ 1048576 * 80 := Nat.mul_le_mul hn hb
  have hr := run_make (P := Try.prog) w 39 106 i _ Try.underlying39 hi hz .i64 .i64 n n (by omega) (Int.le_refl _) (by rw [← Int.natCast_mul]; have := Nat.mul_comm n i.bytes; omega) (by omega)
  simp only [Int.toNat_natCast, hs] at hr
  exact hr
/-- A copy on its way: k of n are there, in the block at the end of w. -/
def DuctRow (w wr : World) (n k : Nat) (V : Nat → Int × Int) : Prop := Below w.heap.size w wr ∧ w.heap.size < wr.heap.size ∧ (∀ o, wr.frozen? ⟨w.heap.size, o, none⟩ = false) ∧ ∀ j, j < n → wr.cell? ⟨w.heap.size, j * 2, none⟩ = some (.int .i64 (if j < k then (V j).1 else 0)) ∧ wr.cell? ⟨w.heap.size, j * 2 + 1, none⟩ = some (.int .i64 (if j < k then (V j).2 else 0))
theorem rowDuct_start (w : World) (n : Nat) (V : Nat → Int × Int) (t : TypeId) : DuctRow w (w.alloc (.cells (madeCells #[.int .i64 0, .int .i64 0] (n * 2)) t)) n 0 V := by
  refine ⟨below0 _ _, by simp, fun o => by simp [go_sem], fun j hj => ?_⟩
  have m0 : (madeCells #[.int .i64 0, .int .i64 0] (n * 2))[j * 2]? = some (.int .i64 0) := by
    have hj : j * 2 < n * 2 := by omega
    simp only [madeCells, Array.getElem?_map, Array.getElem?_range, hj, if_true, Option.map_some]
    have h : (j * 2) % 2 = 0 := by omega
    show some ((#[Value.int .i64 0, Value.int .i64 0] : Array Value)[(j * 2) % 2]!) = _
    rw [h]; rfl
  have m1 : (madeCells #[.int .i64 0, .int .i64 0] (n * 2))[j * 2 + 1]? = some (.int .i64 0) := by
    have hj : j * 2 + 1 < n * 2 := by omega
    simp only [madeCells, Array.getElem?_map, Array.getElem?_range, hj, if_true, Option.map_some]
    have h : (j * 2 + 1) % 2 = 1 := by omega
    show some ((#[Value.int .i64 0, Value.int .i64 0] : Array Value)[(j * 2 + 1) % 2]!) = _
    rw [h]; rfl
  rw [if_neg (by omega), if_neg (by omega)]
  refine ⟨?_, ?_⟩
  · simpa [go_sem] using m0
  · simpa [go_sem] using m1
theorem rowDuct_on {w wr w3 : World} {n k : Nat} {V : Nat → Int × Int} (hk : k < n) (h : DuctRow w wr n k V) (h3 : Below wr.heap.size wr w3) : DuctRow w ((w3.setCell ⟨w.heap.size, k * 2, none⟩ (.int .i64 ((V k).1))).setCell ⟨w.heap.size, k * 2 + 1, none⟩ (.int .i64 ((V k).2))) n (k + 1) V := by
  obtain ⟨hB, hz, hf, hc⟩ := h
  have z3 : w.heap.size < w3.heap.size := Nat.lt_of_lt_of_le hz h3.size
  have B3 : Below w.heap.size w w3 := hB.trans (h3.mono (by omega))
  have fz : ∀ o, w3.frozen? ⟨w.heap.size, o, none⟩ = false := fun o => (h3.frozen (p := ⟨w.heap.size, o, none⟩) hz).trans (hf o)
  refine ⟨(by repeat (first | with_reducible exact Below.refl _ _ | with_reducible exact B3 | with_reducible refine Below.setCell ?_ (by first | omega | (simp; done) | (simp; omega)) _ | with_reducible refine bDrewN ?_ _ | with_reducible refine Below.drew ?_ | with_reducible refine Below.alloc ?_ (by first | omega | (simp; done) | (simp; omega)) _)), by simpa using z3, fun o => by simp [go_sem, fz], fun j hj => ?_⟩
  obtain ⟨c0, c1⟩ := hc j hj
  replace c0 := (h3.cell (p := ⟨w.heap.size, j * 2, none⟩) hz).trans c0
  replace c1 := (h3.cell (p := ⟨w.heap.size, j * 2 + 1, none⟩) hz).trans c1
  by_cases e : j = k
  · subst e
    simp only [if_neg (Nat.lt_irrefl j)] at c0
    simp only [if_neg (Nat.lt_irrefl j)] at c1
    simp only [if_pos (Nat.lt_succ_self j)]
    refine ⟨?_, ?_⟩
    all_goals simp [go_sem, c0, c1]
  · have ne : ∀ a b : Nat, a < 2 → b < 2 → j * 2 + a ≠ k * 2 + b := by intro a b ha hb; omega
    have q : (j < k + 1) = (j < k) := propext ⟨fun _ => by omega, fun _ => by omega⟩
    simp only [q]
    have n0_0 : ¬ j * 2 = k * 2 := by omega
    have n0_1 : ¬ j * 2 = k * 2 + 1 := by omega
    have n1_0 : ¬ j * 2 + 1 = k * 2 := by omega
    have n1_1 : ¬ j * 2 + 1 = k * 2 + 1 := by omega
    refine ⟨?_, ?_⟩
    · rw [cell_apartDuct (by omega), cell_apartDuct (by omega)]; exact c0
    · rw [cell_apartDuct (by omega), cell_apartDuct (by omega)]; exact c1
set_option maxRecDepth 20000 in
set_option maxHeartbeats 2000000 in
theorem toDuctS_any (s : Option Addr) (n c : Nat) (V : Nat → Int × Int) (w : World) (hn : (n : Int) ≤ 1048576) (HR : Hid (RowDuct w s n V)) :
    Calls Try.prog 48 #[.slice s n c] w fun e w' => e = .returned (.slice (some ⟨w.heap.size, 0, none⟩) n n) ∧ w.heap.size < w'.heap.size ∧ OwnDuct w.heap.size w' (some ⟨w.heap.size, 0, none⟩) n V ∧ Below w.heap.size w w' := by
  have hmk := make_Duct n (by omega)
  go_enter Try.func48, Try.ntmps48
  go_wp2_with fail
  go_loopw [4] (fun i wr => ∃ k : Nat, k ≤ n ∧ i = .int .i64 k ∧ DuctRow w wr n k V) (fun i _ => n - (intOf i).toNat)
  case atStart => exact ⟨0, Nat.zero_le _, rfl, rowDuct_start w n V 106⟩
  case round =>
    obtain ⟨k, hk, rfl, hR⟩ := hrel
    have HK : Hid (DuctRow w wr n k V) := hR
    obtain ⟨hB, hz, hf, hc⟩ := hR
    by_cases h1 : k < n
    · obtain ⟨g, o, rfl, hg, c0, c1⟩ := HR.out k h1
      have d0 := (hB.cell (p := ⟨g, o + k * 2, none⟩) hg).trans c0
      have d1 := (hB.cell (p := ⟨g, o + k * 2 + 1, none⟩) hg).trans c1
      obtain ⟨e0, e1⟩ := hc k h1
      simp only [if_neg (Nat.lt_irrefl k)] at e0 e1
      have k1 : (k : Int) < (n : Int) := by omega
      have zg : g < wr.heap.size := Nat.lt_of_lt_of_le hg hB.size
      clear hc hB c0 c1 hg
      go_wp2_with fail
      refine (toDuct_any _ _ _).mono ?_
      rintro r w3 ⟨rfl, h3⟩
      have f0 := (h3.cell (p := ⟨w.heap.size, k * 2, none⟩) hz).trans e0
      have f1 := (h3.cell (p := ⟨w.heap.size, k * 2 + 1, none⟩) hz).trans e1
      have fz : ∀ o, w3.frozen? ⟨w.heap.size, o, none⟩ = false := fun o => (h3.frozen (p := ⟨w.heap.size, o, none⟩) hz).trans (hf o)
      have z3 : w.heap.size < w3.heap.size := Nat.lt_of_lt_of_le hz h3.size
      have H3 : Hid (Below wr.heap.size wr w3) := h3
      clear e0 e1 hf h3 d0 d1
      go_wp2
      go_round
      case rel => exact ⟨k + 1, by omega, by go_num, rowDuct_on h1 HK.out H3.out⟩
      case measure => simp [intOf]; omega
    · obtain rfl : k = n := by omega
      go_wp2
      go_ret
      exact ⟨rfl, hz, fun j hj => ⟨_, rfl, Nat.le_refl _, hz, hf, by have := hc j hj; simpa only [if_pos hj] using this⟩, hB⟩

open Go.ChangeShapes Go.WideShapes Go.ChangeAt Go.RowKit
set_option linter.unusedVariables false

theorem addr_add (b o k : Nat) : (⟨b, o, none⟩ : Addr).add k = ⟨b, o + k, none⟩ := by
  unfold Addr.add
  split
  · rename_i h; subst h; rfl
  · rfl
theorem slice_spot {w : World} {b0 : Nat} {t e : TypeId} {a : Addr} {n c : Nat} (ht : Try.prog.underlying t = some (.slice e)) (hv : Value.okWide Try.prog w .any b0 t (.slice (some a) n c)) : a.spot = none := by
  simp only [Value.okWide, ht, Cell.okWide, Cell.ok] at hv
  exact hv.2.2.2.1
theorem cell_lt {w : World} {p : Addr} {v : Value} (h : w.cell? p = some v) : p.block < w.heap.size := by
  rcases Nat.lt_or_ge p.block w.heap.size with z | z
  · exact z
  · exfalso
    simp [World.cell?, Array.getElem?_eq_none z] at h

open Go.ChangeShapes Go.WideShapes Go.ChangeAt Go.RowKit
set_option linter.unusedVariables false
set_option linter.unusedSimpArgs false

set_option maxHeartbeats 400000 in
theorem szDuctS_on (s : Option Addr) (n c : Nat) (l : Int) (w : World) (h0 : 0 ≤ l) (h1 : l ≤ 1048576) (hn : (n : Int) ≤ l) : Calls Try.prog 41 #[.slice s n c, .int .i64 l] w fun e w' => e = .returned (.int .i64 (l - (n : Int))) ∧ w' = w := by
  go_enter Try.func41, Try.ntmps41
  go_wp2
  go_ret
  exact ⟨ret_int rfl, rfl⟩
set_option maxHeartbeats 400000 in
theorem szDuctS_off (s : Option Addr) (n c : Nat) (l : Int) (w : World) (h0 : 0 ≤ l) (h1 : l ≤ 1048576) (hn : l < (n : Int)) (hn2 : (n : Int) ≤ 9223372036854775807) : Calls Try.prog 41 #[.slice s n c, .int .i64 l] w fun e w' => e = .returned (.int .i64 (-1)) ∧ w' = w := by
  go_enter Try.func41, Try.ntmps41
  go_wp2
  go_ret
  exact ⟨ret_int rfl, rfl⟩
set_option maxHeartbeats 400000 in
theorem eqDuct_any (x0 : Int) (x1 : Int) (w : World) : Calls Try.prog 96 #[.agg #[.int .i64 x0, .int .i64 x1], .agg #[.int .i64 x0, .int .i64 x1]] w fun r w' => r = .returned (.bool true) ∧ Below w.heap.size w w' := by
  (
    go_enter Try.func96, Try.ntmps96
    go_wp2
    go_ret
    exact ⟨rfl, (by repeat (first | with_reducible exact Below.refl _ _ | with_reducible refine Below.setCell ?_ (by first | omega | (simp; done) | (simp; omega)) _ | with_reducible refine bDrewN ?_ _ | with_reducible refine Below.drew ?_ | with_reducible refine Below.alloc ?_ (by first | omega | (simp; done) | (simp; omega)) _))⟩)
theorem keepDuct {W W' : World} {p q i0 j0 i1 j1 : Nat} {a0 b0 a1 b1 : Value} (h0 : W.cell? ⟨p, i0, none⟩ = some a0) (h1 : W.cell? ⟨p, i1, none⟩ = some a1) (g0 : W.cell? ⟨q, j0, none⟩ = some b0) (g1 : W.cell? ⟨q, j1, none⟩ = some b1) (hp : p < W.heap.size) (hq : q < W.heap.size) (hb : Below W.heap.size W W') :
    W'.cell? ⟨p, i0, none⟩ = some a0 ∧ W'.cell? ⟨p, i1, none⟩ = some a1 ∧ W'.cell? ⟨q, j0, none⟩ = some b0 ∧ W'.cell? ⟨q, j1, none⟩ = some b1 :=
  ⟨(hb.cell (p := ⟨p, i0, none⟩) hp).trans h0, (hb.cell (p := ⟨p, i1, none⟩) hp).trans h1, (hb.cell (p := ⟨q, j0, none⟩) hq).trans g0, (hb.cell (p := ⟨q, j1, none⟩) hq).trans g1⟩
set_option maxRecDepth 20000 in
set_option maxHeartbeats 2000000 in
theorem eqDuctS_any (s t : Option Addr) (n c d : Nat) (V : Nat → Int × Int) (w : World) (hn : (n : Int) ≤ 1048576) (HR : Hid (RowDuct w s n V)) (HT : Hid (RowDuct w t n V)) :
    Calls Try.prog 58 #[.slice s n c, .slice t n d] w fun e w' => e = .returned (.bool true) ∧ Below w.heap.size w w' := by
  go_enter Try.func58, Try.ntmps58
  go_wp2_with fail
  go_loopw [5] (fun i wr => ∃ k : Nat, k ≤ n ∧ i = .int .i64 k ∧ Below w.heap.size w wr) (fun i _ => n - (intOf i).toNat)
  case atStart => exact ⟨0, Nat.zero_le _, rfl, Below.refl _ _⟩
  case round =>
    obtain ⟨k, hk, rfl, hB⟩ := hrel
    by_cases h1 : k < n
    · obtain ⟨g, o, rfl, hg, c0, c1⟩ := HR.out k h1
      obtain ⟨p, q, rfl, hp, d0, d1⟩ := HT.out k h1
      have u0 := (hB.cell (p := ⟨g, o + k * 2, none⟩) hg).trans c0
      have u1 := (hB.cell (p := ⟨g, o + k * 2 + 1, none⟩) hg).trans c1
      have v0 := (hB.cell (p := ⟨p, q + k * 2, none⟩) hp).trans d0
      have v1 := (hB.cell (p := ⟨p, q + k * 2 + 1, none⟩) hp).trans d1
      have k1 : (k : Int) < (n : Int) := by omega
      have zg : g < wr.heap.size := Nat.lt_of_lt_of_le hg hB.size
      have zp : p < wr.heap.size := Nat.lt_of_lt_of_le hp hB.size
      have HB : Hid (Below w.heap.size w wr) := hB
      clear hB c0 d0 c1 d1 hg hp
      go_wp2_with fail
      go_region_held3 (fun w' => w'.cell? ⟨g, o + k * 2, none⟩ = some (.int .i64 ((V k).1)) ∧ w'.cell? ⟨g, o + k * 2 + 1, none⟩ = some (.int .i64 ((V k).2)) ∧ w'.cell? ⟨p, q + k * 2, none⟩ = some (.int .i64 ((V k).1)) ∧ w'.cell? ⟨p, q + k * 2 + 1, none⟩ = some (.int .i64 ((V k).2))) (first | (refine keepDuct u0 u1 v0 v1 zg zp ?_; exact (by repeat (first | with_reducible exact Below.refl _ _ | with_reducible exact B3 | with_reducible refine Below.setCell ?_ (by first | omega | (simp; done) | (simp; omega)) _ | with_reducible refine bDrewN ?_ _ | with_reducible refine Below.drew ?_ | with_reducible refine Below.alloc ?_ (by first | omega | (simp; done) | (simp; omega)) _)))) (first
        | (go_at_call 96; refine (eqDuct_any _ _ _).mono ?_; rintro r w3 ⟨rfl, h3⟩; have B3 : Below wr.heap.size wr w3 := Below.trans (by repeat (first | with_reducible exact Below.refl _ _ | with_reducible refine Below.setCell ?_ (by first | omega | (simp; done) | (simp; omega)) _ | with_reducible refine bDrewN ?_ _ | with_reducible refine Below.drew ?_ | with_reducible refine Below.alloc ?_ (by first | omega | (simp; done) | (simp; omega)) _)) (h3.mono (by first | omega | (simp; done) | (simp; omega)))))
      all_goals
        have B4 : Below w.heap.size w w3 := HB.out.trans (B3.mono HB.out.size)
        go_wp2
        go_round
        case rel => exact ⟨k + 1, by omega, by go_num, (by repeat (first | with_reducible exact Below.refl _ _ | with_reducible exact B4 | with_reducible refine Below.setCell ?_ (by first | omega | (simp; done) | (simp; omega)) _ | with_reducible refine bDrewN ?_ _ | with_reducible refine Below.drew ?_ | with_reducible refine Below.alloc ?_ (by first | omega | (simp; done) | (simp; omega)) _))⟩
        case measure => simp [intOf]; omega
    · obtain rfl : k = n := by omega
      go_wp2
      go_ret
      exact ⟨rfl, (by repeat (first | with_reducible exact Below.refl _ _ | with_reducible exact hB | with_reducible refine Below.setCell ?_ (by first | omega | (simp; done) | (simp; omega)) _ | with_reducible refine bDrewN ?_ _ | with_reducible refine Below.drew ?_ | with_reducible refine Below.alloc ?_ (by first | omega | (simp; done) | (simp; omega)) _))⟩

/-- THE LIST OPENED. -/
theorem open_DuctS {H : Type} {enc : TypeId × Value → H} {w : World} {b0 : Nat} {t e : TypeId} {f0 f1 : Field} {v : Value} {d : DataW H} {ps : List MemPlace} {sp : Nat → Bool} {held : Bool} (ht : Try.prog.underlying t = some (.slice e)) (he : Try.prog.underlying e = some (.struct #[f0, f1]))
    (ce : Try.prog.cellsOf e = 2) (o0 : f0.offset = 0) (o1 : f1.offset = 1) (c0 : Try.prog.cellsOf f0.type = 1) (c1 : Try.prog.cellsOf f1.type = 1) (i0 : Try.prog.underlying f0.type = some (.int .i64)) (i1 : Try.prog.underlying f1.type = some (.int .i64))
    (hv : Value.okWide Try.prog w .any b0 t v) (h : DataW.Trod enc Try.prog w 0 sp held t v d ps) : ∃ s n c V, v = .slice s n c ∧ n ≤ 9223372036854775807 ∧ RowDuct w s n V := by
  have hsl : ∃ s n c, v = .slice s n c := by
    simp only [Value.okWide, ht, Cell.okWide] at hv
    cases v <;> simp_all [Cell.ok]
  obtain ⟨s, n, c, rfl⟩ := hsl
  obtain ⟨fuel, hf⟩ := h
  have hf' : DataW.trod enc Try.prog w 0 sp held fuel t [.slice s n c] = some (d, ps) := hf
  rcases Go.Deep.open_slice ht hf' with ⟨e1, _⟩ | ⟨a, len, cap, m, k, D, Pl, e1, _, hl, hm, hmm, _, hx⟩
  · simp only [List.cons.injEq, and_true, Value.slice.injEq] at e1
    obtain ⟨rfl, rfl, rfl⟩ := e1
    exact ⟨none, 0, 0, fun _ => (0, 0), rfl, by omega, fun j hj => by omega⟩
  · simp only [List.cons.injEq, and_true, Value.slice.injEq] at e1
    obtain ⟨rfl, rfl, rfl⟩ := e1
    have hsp := slice_spot ht hv
    obtain ⟨b, o, spot⟩ := a
    simp only at hsp
    subst hsp
    have hle : n ≤ m := by rw [hmm]; split <;> omega
    have each : ∀ i, i < n → ∃ z : Int × Int, w.cell? ⟨b, o + i * 2, none⟩ = some (.int .i64 (z.1)) ∧ w.cell? ⟨b, o + (i * 2 + 1), none⟩ = some (.int .i64 (z.2)) := by
      intro i hi
      obtain ⟨cs', h1, h2⟩ := hx i (by omega)
      rw [ce] at h1
      obtain ⟨_, hlen, hcell⟩ := World.cells?_some h1
      obtain ⟨xs, k', hk, hxy, _, hxl, hf⟩ := DataW.trod_struct he h2
      match xs, hxl, cs', hlen with
      | [y0, y1], _, [v0, v1], _ =>
        have g0 := hf 0 f0 rfl
        have g1 := hf 1 f1 rfl
        simp [o0, c0, o1, c1] at g0 g1
        have e0 := hcell 0 (by omega)
        have e1 := hcell 1 (by omega)
        rw [Go.Deep.add_add, addr_add] at e0 e1
        obtain ⟨z0, q0, _, _⟩ := DataW.trod_int i0 g0
        obtain ⟨z1, q1, _, _⟩ := DataW.trod_int i1 g1
        simp only [List.cons.injEq, and_true] at q0 q1
        subst q0 q1
        exact ⟨(z0, z1), by simpa using e0, by simpa using e1⟩
    obtain ⟨f, hfn⟩ := Go.Deep.choose_lt each
    refine ⟨some ⟨b, o, none⟩, n, c, f, rfl, ?_, fun j hj => ?_⟩
    · have : maxLen = 9223372036854775807 := by decide
      omega
    · obtain ⟨h0, h1⟩ := hfn j hj
      exact ⟨b, o, rfl, cell_lt h0, by simpa [Nat.add_assoc] using h0, by simpa [Nat.add_assoc] using h1⟩

open Go.ChangeShapes Go.WideShapes Go.ChangeAt Go.RowKit
set_option linter.unusedVariables false
set_option linter.unusedSimpArgs false

/-- A list in the block b, on its way: nothing else has turned. -/
def DuctAt (b n : Nat) (w wr : World) : Prop := Beside b w wr ∧ b < wr.heap.size ∧ (∀ o, wr.frozen? ⟨b, o, none⟩ = false) ∧ ∃ U : Nat → Int × Int, ∀ j, j < n → wr.cell? ⟨b, j * 2, none⟩ = some (.int .i64 ((U j).1)) ∧ wr.cell? ⟨b, j * 2 + 1, none⟩ = some (.int .i64 ((U j).2))
theorem DuctAt.on {b n j : Nat} {w wr : World} (h : DuctAt b n w wr) (hj : j < n) (x0 : Int) (x1 : Int) : DuctAt b n w ((wr.setCell ⟨b, j * 2, none⟩ (.int .i64 x0)).setCell ⟨b, j * 2 + 1, none⟩ (.int .i64 x1)) := by
  obtain ⟨h1, h2, h3, U, h4⟩ := h
  refine ⟨?_, by simpa using h2, fun o => by simp [go_sem, h3], fun i => if i = j then (x0, x1) else U i, fun i hi => ?_⟩
  · exact ((h1.trans (Beside.setCell b _ _ _)).trans (Beside.setCell b _ _ _))
  · obtain ⟨c0, c1⟩ := h4 i hi
    by_cases e : i = j
    · subst e
      simp only [if_pos (rfl : i = i)]
      refine ⟨?_, ?_⟩
      all_goals simp [go_sem, c0, c1]
    · simp only [if_neg e]
      refine ⟨?_, ?_⟩
      · rw [cell_apartDuct (by omega), cell_apartDuct (by omega)]; exact c0
      · rw [cell_apartDuct (by omega), cell_apartDuct (by omega)]; exact c1
set_option maxRecDepth 20000 in
set_option maxHeartbeats 4000000 in
theorem markDuctS_at (b n c : Nat) (k : Int) (V : Nat → Int × Int) (w : World) (hn : (n : Int) ≤ 1048576) (k0 : 0 ≤ k) (k1 : k ≤ 100000000) (hb : DuctAt b n w w) :
    Calls Try.prog 59 #[.slice (some ⟨b, 0, none⟩) n c, .int .i64 k] w fun e w' => e = .returned (.int .i64 (k + (n * 2 : Nat))) ∧ DuctAt b n w w' := by
  go_enter Try.func59, Try.ntmps59
  go_wp2_with fail
  go_loopw [1, 5] (fun q i wr => ∃ j : Nat, j ≤ n ∧ i = .int .i64 j ∧ q = .int .i64 (k + (j * 2 : Nat)) ∧ DuctAt b n w wr) (fun _ i _ => n - (intOf i).toNat)
  case atStart => exact ⟨0, Nat.zero_le _, rfl, by simp, hb⟩
  case round =>
    obtain ⟨j, hj, rfl, rfl, hR⟩ := hrel
    have HT : Hid (DuctAt b n w wr) := hR
    obtain ⟨hB, hz, hf, U, hc⟩ := hR
    by_cases h1 : j < n
    · obtain ⟨e0, e1⟩ := hc j h1
      have kk : (j : Int) < (n : Int) := by omega
      simp only [Int.natCast_mul, Int.cast_ofNat_Int] at ⊢
      clear hc hB
      go_wp2
      go_roundw
      case rel => exact ⟨j + 1, by omega, by go_num, by first | go_num | (congr 1; omega), DuctAt.on HT.out h1 _ _⟩
      case measure => simp [intOf]; omega
    · obtain rfl : j = n := by omega
      go_wp2
      go_ret
      exact ⟨rfl, HT.out⟩
set_option maxHeartbeats 1000000 in
theorem markDuctS_nil (s : Option Addr) (c : Nat) (k : Int) (w : World) :
    Calls Try.prog 59 #[.slice s 0 c, .int .i64 k] w fun e w' => e = .returned (.int .i64 k) ∧ w' = w := by
  go_enter Try.func59, Try.ntmps59
  go_wp2_with fail
  go_loop [1, 5] (fun q i => i = .int .i64 0 ∧ q = .int .i64 k) (fun _ i => 0)
  case atStart => exact ⟨rfl, rfl⟩
  case round =>
    obtain ⟨rfl, rfl⟩ := hrel
    go_wp2
    go_ret
    exact ⟨rfl, rfl⟩
theorem markDuctS_own (base : Nat) (s : Option Addr) (n c : Nat) (k : Int) (V : Nat → Int × Int) (w : World) (hn : (n : Int) ≤ 1048576) (k0 : 0 ≤ k) (k1 : k ≤ 100000000) (hb : base ≤ w.heap.size) (HR : OwnDuct base w s n V) :
    Calls Try.prog 59 #[.slice s n c, .int .i64 k] w fun e w' => e = .returned (.int .i64 (k + (n * 2 : Nat))) ∧ (∃ U, OwnDuct base w' s n U) ∧ Below base w w' ∧ ∀ b, s = some ⟨b, 0, none⟩ → Beside b w w' := by
  by_cases h : n = 0
  · subst h
    refine (markDuctS_nil s c k w).mono ?_
    rintro e w' ⟨rfl, rfl⟩
    exact ⟨by simp, ⟨V, HR⟩, Below.refl _ _, fun b _ => Beside.of (Below.refl _ _)⟩
  · obtain ⟨b, rfl, hB, hl, hf, _⟩ := HR 0 (by omega)
    have HA : DuctAt b n w w := ⟨Beside.of (Below.refl _ _), hl, hf, V, fun j hj => by
      obtain ⟨b', e', _, _, _, r⟩ := HR j hj
      cases e'
      exact r⟩
    refine (markDuctS_at b n c k V w hn k0 k1 HA).mono ?_
    rintro e w' ⟨rfl, h1, h2, h3, U, h4⟩
    exact ⟨rfl, ⟨U, fun j hj => ⟨b, rfl, hB, h2, h3, h4 j hj⟩⟩, h1.below hB hb, fun b' e => by cases e; exact h1⟩

open Go.ChangeShapes Go.WideShapes Go.ChangeAt Go.RowKit
set_option linter.unusedVariables false
set_option linter.unusedSimpArgs false

def DuctR (S : Nat → Prop) (w : World) (s : Option Addr) (n : Nat) (V : Nat → Int × Int) : Prop := OwnDuct 0 w s n V ∧ (0 < n → ∀ b, s = some ⟨b, 0, none⟩ → S b)
theorem DuctR.row {S : Nat → Prop} {w : World} {s : Option Addr} {n : Nat} {V : Nat → Int × Int} (h : DuctR S w s n V) : RowDuct w s n V := h.1.row
theorem DuctR.keep {S : Nat → Prop} {w w' : World} {s : Option Addr} {n : Nat} {V : Nat → Int × Int} (h : DuctR S w s n V) (hs : w.heap.size ≤ w'.heap.size) (hb : ∀ k, S k → k < w.heap.size → w'.heap[k]? = w.heap[k]?) : DuctR S w' s n V := ⟨fun j hj => by
  obtain ⟨b, e, hB, hl, hf, c0, c1⟩ := h.1 j hj
  have eb := hb b (h.2 (by omega) b e) hl
  exact ⟨b, e, hB, Nat.lt_of_lt_of_le hl hs, fun o => (World.frozen?_of_block (w := w) (a := ⟨b, o, none⟩) eb).trans (hf o), (World.cell?_of_block (w := w) (a := ⟨b, j * 2, none⟩) eb).trans c0, (World.cell?_of_block (w := w) (a := ⟨b, j * 2 + 1, none⟩) eb).trans c1⟩, h.2⟩
theorem DuctR.below {S : Nat → Prop} {w w' : World} {s : Option Addr} {n : Nat} {V : Nat → Int × Int} (h : DuctR S w s n V) (hb : Below w.heap.size w w') : DuctR S w' s n V := h.keep hb.size fun k _ hk => hb.block k hk
theorem DuctR.set {S : Nat → Prop} {w : World} {s : Option Addr} {n : Nat} {V : Nat → Int × Int} {r o : Nat} {u : Value} (h : DuctR S w s n V) (hr : ¬ S r) : DuctR S (w.setCell ⟨r, o, none⟩ u) s n V := h.keep (by simp) fun k hk hl => set_block hl (fun e => hr (e ▸ hk))
theorem DuctR.widen {S S' : Nat → Prop} {w : World} {s : Option Addr} {n : Nat} {V : Nat → Int × Int} (h : DuctR S w s n V) (hs : ∀ k, S k → S' k) : DuctR S' w s n V := ⟨h.1, fun a b c => hs b (h.2 a b c)⟩
theorem DuctR.of {base : Nat} {w : World} {s : Option Addr} {n : Nat} {V : Nat → Int × Int} (h : OwnDuct base w s n V) : DuctR (fun k => base ≤ k ∧ k < w.heap.size) w s n V := ⟨h.mono (Nat.zero_le _), fun hn b e => by
  obtain ⟨b', e', h1, h2, _⟩ := h 0 hn
  rw [e] at e'
  cases e'
  exact ⟨h1, h2⟩⟩
theorem toDuctS_r (s : Option Addr) (n c : Nat) (V : Nat → Int × Int) (w : World) (hn : (n : Int) ≤ 1048576) (HR : Hid (RowDuct w s n V)) :
    Calls Try.prog 48 #[.slice s n c] w fun e w' => ∃ (s' : Option Addr) (S : Nat → Prop), e = .returned (.slice s' n n) ∧ (∀ k, S k → w.heap.size ≤ k ∧ k < w'.heap.size) ∧ DuctR S w' s' n V ∧ Below w.heap.size w w' :=
  (toDuctS_any s n c V w hn HR).mono fun e w' ⟨h1, h2, h3, h4⟩ => ⟨_, _, h1, fun k hk => hk, DuctR.of h3, h4⟩
theorem markDuctS_r (S : Nat → Prop) (s : Option Addr) (n c : Nat) (k : Int) (V : Nat → Int × Int) (w : World) (hn : (n : Int) ≤ 1048576) (k0 : 0 ≤ k) (k1 : k ≤ 100000000) (HR : DuctR S w s n V) :
    Calls Try.prog 59 #[.slice s n c, .int .i64 k] w fun e w' => e = .returned (.int .i64 (k + (n * 2 : Nat))) ∧ (∃ U, DuctR S w' s n U) ∧ Turn S w w' := by
  by_cases h : n = 0
  · subst h
    refine (markDuctS_nil s c k w).mono ?_
    rintro e w' ⟨rfl, rfl⟩
    exact ⟨by simp, ⟨V, HR⟩, Turn.refl _ _⟩
  · obtain ⟨b, eb, _⟩ := HR.1 0 (by omega)
    have hb := HR.2 (by omega) b eb
    refine (markDuctS_own 0 s n c k V w hn k0 k1 (Nat.zero_le _) HR.1).mono ?_
    rintro e w' ⟨rfl, ⟨U, O⟩, -, hB⟩
    exact ⟨rfl, ⟨U, O, HR.2⟩, Turn.of (hB b eb) hb⟩

end Go.Proofs.Ytikcfpjfcpbfcaa
