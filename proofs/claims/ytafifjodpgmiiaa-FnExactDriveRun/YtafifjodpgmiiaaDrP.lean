/-
What is proved: a drive's run in numbers; a list of pushes in memory; the places that a run tells, on their way.
-/
import Derived.Test.YtafifjodpgmiiaaDvI
import Derived.Test.YtafifjodpgmiiaaDcI
namespace Go.Proofs.Ytafifjodpgmiiaa
set_option maxRecDepth 40000
open Go.ChangeShapes Go.WideShapes Go.ChangeAt Go.RowKit
set_option linter.unusedVariables false
set_option linter.unusedSimpArgs false

abbrev Drv := Int × Int × Int × Bool
def stD (d : Drv) (K : Nat → Nat) (V : Nat → Nat → Int) (X : Nat → Int) (J : Nat → Bool) : Nat → Drv
  | 0 => d
  | k + 1 => drvV (stD d K V X J k).1 (stD d K V X J k).2.1 (stD d K V X J k).2.2.1 (stD d K V X J k).2.2.2 (decV (V k) (K k)) (X k) (J k)
def okD (d : Drv) (K : Nat → Nat) (V : Nat → Nat → Int) (X : Nat → Int) (J : Nat → Bool) (k : Nat) : Bool := dstB (stD d K V X J k).1 (stD d K V X J k).2.1 (stD d K V X J k).2.2.1 (decV (V k) (K k)) (X k)
def allD (d : Drv) (K : Nat → Nat) (V : Nat → Nat → Int) (X : Nat → Int) (J : Nat → Bool) : Nat → Bool
  | 0 => true
  | k + 1 => allD d K V X J k && okD d K V X J k
theorem all_no {d : Drv} {K : Nat → Nat} {V : Nat → Nat → Int} {X : Nat → Int} {J : Nat → Bool} : ∀ {n k : Nat}, k < n → okD d K V X J k = false → allD d K V X J n = false
  | 0, _, h, _ => by omega
  | n + 1, k, h, e => by
    unfold allD
    by_cases q : k = n
    · subst q; rw [e, Bool.and_false]
    · rw [all_no (n := n) (by omega) e, Bool.false_and]
def runB (d : Drv) (n : Nat) (K : Nat → Nat) (V : Nat → Nat → Int) (X : Nat → Int) (J : Nat → Bool) : Bool := drvB d.1 d.2.1 d.2.2.1 && (decide (n ≤ 1000) && allD d K V X J n)
/-- A list of pushes: the orders of each, its speed, whether it is jammed. -/
def PshR (w : World) (s : Option Addr) (n : Nat) (S : Nat → Option Addr) (K C : Nat → Nat) (V : Nat → Nat → Int) (X : Nat → Int) (J : Nat → Bool) : Prop :=
  ∀ j, j < n → ∃ b o, s = some ⟨b, o, none⟩ ∧ b < w.heap.size ∧ w.cell? ⟨b, o + j * 3, none⟩ = some (.slice (S j) (K j) (C j)) ∧ w.cell? ⟨b, o + j * 3 + 1, none⟩ = some (.int .i64 (X j)) ∧ w.cell? ⟨b, o + j * 3 + 2, none⟩ = some (.bool (J j)) ∧ RowI w (S j) (K j * 2) (V j)
theorem PshR.below {w w' : World} {s : Option Addr} {n : Nat} {S : Nat → Option Addr} {K C : Nat → Nat} {V : Nat → Nat → Int} {X : Nat → Int} {J : Nat → Bool} (h : PshR w s n S K C V X J) (hb : Below w.heap.size w w') : PshR w' s n S K C V X J := fun j hj => by
  obtain ⟨b, o, e, hl, c0, c1, c2, r⟩ := h j hj
  exact ⟨b, o, e, Nat.lt_of_lt_of_le hl hb.size, (hb.cell (p := ⟨b, o + j * 3, none⟩) hl).trans c0, (hb.cell (p := ⟨b, o + j * 3 + 1, none⟩) hl).trans c1, (hb.cell (p := ⟨b, o + j * 3 + 2, none⟩) hl).trans c2, r.below hb⟩
/-- Places on their way: the first k of n are there, in the block b. -/
def PlcAt (w : World) (b n k : Nat) (U : Nat → Int) : Prop := b < w.heap.size ∧ (∀ o, w.frozen? ⟨b, o, none⟩ = false) ∧ ∀ j, j < n → w.cell? ⟨b, j, none⟩ = some (.int .i64 (if j < k then U j else 0))
theorem PlcAt.below {w w' : World} {b n k : Nat} {U : Nat → Int} (h : PlcAt w b n k U) (hb : Below w.heap.size w w') : PlcAt w' b n k U :=
  ⟨Nat.lt_of_lt_of_le h.1 hb.size, fun o => (hb.frozen (p := ⟨b, o, none⟩) h.1).trans (h.2.1 o), fun j hj => (hb.cell (p := ⟨b, j, none⟩) h.1).trans (h.2.2 j hj)⟩
theorem PlcAt.beside {w w' : World} {b n k r : Nat} {U : Nat → Int} (h : PlcAt w b n k U) (hb : Beside r w w') (hr : b ≠ r) : PlcAt w' b n k U :=
  ⟨Nat.lt_of_lt_of_le h.1 hb.2.2.2.1, fun o => (hb.frozen (p := ⟨b, o, none⟩) h.1 hr).trans (h.2.1 o), fun j hj => (hb.cell (p := ⟨b, j, none⟩) h.1 hr).trans (h.2.2 j hj)⟩
theorem PlcAt.put {w : World} {b n k : Nat} {U : Nat → Int} (h : PlcAt w b n k U) : PlcAt (w.setCell ⟨b, k, none⟩ (.int .i64 (U k))) b n (k + 1) U := by
  obtain ⟨h1, h2, h3⟩ := h
  refine ⟨by simpa using h1, fun o => by simp [go_sem, h2], fun j hj => ?_⟩
  have c := h3 j hj
  by_cases e : j = k
  · subst e
    rw [if_pos (by omega)]
    simp [go_sem, c]
  · have e2 : (if j < k + 1 then U j else 0) = (if j < k then U j else 0) := by
      by_cases q : j < k
      · rw [if_pos q, if_pos (by omega)]
      · rw [if_neg q, if_neg (by omega)]
    rw [e2]
    simp [go_sem, c, e]
theorem PlcAt.putV {w : World} {b n k : Nat} {U : Nat → Int} {x : Int} (h : PlcAt w b n k U) (hx : U k = x) : PlcAt (w.setCell ⟨b, k, none⟩ (.int .i64 x)) b n (k + 1) U := by
  subst hx
  exact h.put
theorem PlcAt.own {w : World} {b n base : Nat} {U : Nat → Int} (h : PlcAt w b n n U) (hb : base ≤ b) : OwnI base w (some ⟨b, 0, none⟩) n U := fun j hj => ⟨b, rfl, hb, h.1, by rw [h.2.2 j hj, if_pos hj], h.2.1 j⟩
theorem DrvAt.beside {w w' : World} {p r : Nat} {P W T : Int} {F : Bool} (h : DrvAt w p P W T F) (hb : Beside r w w') (hr : p ≠ r) : DrvAt w' p P W T F := by
  obtain ⟨h1, h2, c0, c1, c2, c3⟩ := h
  exact ⟨Nat.lt_of_lt_of_le h1 hb.2.2.2.1, fun o => (hb.frozen (p := ⟨p, o, none⟩) h1 hr).trans (h2 o), (hb.cell (p := ⟨p, 0, none⟩) h1 hr).trans c0, (hb.cell (p := ⟨p, 1, none⟩) h1 hr).trans c1, (hb.cell (p := ⟨p, 2, none⟩) h1 hr).trans c2, (hb.cell (p := ⟨p, 3, none⟩) h1 hr).trans c3⟩
theorem Beside.onD {r : Nat} {w w1 w2 : World} (h : Beside r w w1) (b : Below w.heap.size w1 w2) : Beside r w w2 := by
  obtain ⟨h1, h2, h3, h4, h5⟩ := h
  exact ⟨b.os.trans h1, b.tape.trans h2, b.output.trans h3, Nat.le_trans h4 b.size, fun k hk hn => (b.block k hk).trans (h5 k hk hn)⟩
theorem BookAt.belowB {w w' : World} {b B : Nat} {V : Nat → Int} {k : Nat} (h : BookAt w b V k) (hb : Below B w w') (hl : b < B) : BookAt w' b V k := by
  obtain ⟨D, nn, h1, h2⟩ := h
  obtain ⟨es, clock, h3, r⟩ := h1
  exact ⟨D, nn, ⟨es, clock, (hb.block b hl).trans h3, r⟩, h2⟩
theorem BookAt.besideD {w w' : World} {b r : Nat} {V : Nat → Int} {k : Nat} (h : BookAt w b V k) (hb : Beside r w w') (hr : b ≠ r) : BookAt w' b V k := by
  have hl := h.lt
  obtain ⟨D, nn, h1, h2⟩ := h
  obtain ⟨es, clock, h3, q⟩ := h1
  exact ⟨D, nn, ⟨es, clock, (hb.2.2.2.2 b hl hr).trans h3, q⟩, h2⟩
theorem keepD7 {W W' : World} {p q r : Nat} {x0 x1 x2 x3 y0 y1 y2 : Value} (h0 : W.cell? ⟨p, 0, none⟩ = some x0) (h1 : W.cell? ⟨p, 1, none⟩ = some x1) (h2 : W.cell? ⟨p, 2, none⟩ = some x2) (h3 : W.cell? ⟨p, 3, none⟩ = some x3) (g0 : W.cell? ⟨q, 0, none⟩ = some y0) (g1 : W.cell? ⟨q, 1, none⟩ = some y1) (g2 : W.cell? ⟨q, 2, none⟩ = some y2) (hp : p < W.heap.size) (hq : q < W.heap.size) (np : p ≠ r) (nq : q ≠ r) (hb : Beside r W W') :
    W'.cell? ⟨p, 0, none⟩ = some x0 ∧ W'.cell? ⟨p, 1, none⟩ = some x1 ∧ W'.cell? ⟨p, 2, none⟩ = some x2 ∧ W'.cell? ⟨p, 3, none⟩ = some x3 ∧ W'.cell? ⟨q, 0, none⟩ = some y0 ∧ W'.cell? ⟨q, 1, none⟩ = some y1 ∧ W'.cell? ⟨q, 2, none⟩ = some y2 :=
  ⟨(hb.cell (p := ⟨p, 0, none⟩) hp np).trans h0, (hb.cell (p := ⟨p, 1, none⟩) hp np).trans h1, (hb.cell (p := ⟨p, 2, none⟩) hp np).trans h2, (hb.cell (p := ⟨p, 3, none⟩) hp np).trans h3, (hb.cell (p := ⟨q, 0, none⟩) hq nq).trans g0, (hb.cell (p := ⟨q, 1, none⟩) hq nq).trans g1, (hb.cell (p := ⟨q, 2, none⟩) hq nq).trans g2⟩
theorem make_plc (n : Nat) (hn : n ≤ 1048576) (w : World) : (Instr.makeSlice 39 (.int .i64 (n : Int)) (.int .i64 (n : Int))).run Try.prog w = .ok (.slice (some ⟨w.heap.size, 0, none⟩) n n) (w.alloc (.cells (madeCells #[.int .i64 0] n) 2)) := by
  have hinfo : (Try.prog.info? 2).map (fun i => (i.zero, i.size, i.bytes)) = some (some (.int .i64 0), 1, 8) := by kernel_rfl
  obtain ⟨i, hi, hzz⟩ := Option.map_eq_some_iff.1 hinfo
  simp only [Prod.mk.injEq] at hzz
  obtain ⟨hz, hs, hb⟩ := hzz
  have hr := run_make (P := Try.prog) w 39 2 i _ Try.underlying39 hi hz .i64 .i64 n n (by omega) (Int.le_refl _) (by rw [hb]; omega) (by omega)
  simp only [Int.toNat_natCast, hs, Nat.mul_one] at hr
  exact hr
theorem plc_new (w : World) (n : Nat) (U : Nat → Int) (t : TypeId) : PlcAt (w.alloc (.cells (madeCells #[.int .i64 0] n) t)) w.heap.size n 0 U := by
  refine ⟨by simp, fun o => by simp [go_sem], fun j hj => ?_⟩
  have hm : (madeCells #[.int .i64 0] n)[j]? = some (.int .i64 0) := by
    simp only [madeCells, Array.getElem?_map, Array.getElem?_range, hj, if_true, Option.map_some]
    show some ((#[Value.int .i64 0] : Array Value)[j % 1]!) = _
    rw [show j % 1 = 0 by omega]; rfl
  rw [if_neg (by omega)]
  simp [go_sem, hm]
end Go.Proofs.Ytafifjodpgmiiaa
