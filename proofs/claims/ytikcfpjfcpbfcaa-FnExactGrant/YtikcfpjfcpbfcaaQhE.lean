/-
What is proved: a list of permits that is handed in, opened.
-/
import Derived.Test.YtikcfpjfcpbfcaaPeR
import Derived.Deep.Slices
import Derived.Test.YtikcfpjfcpbfcaaBkT
import Derived.Deep.SlicePairs
import Derived.Test.YtikcfpjfcpbfcaaPeT
import Derived.Test.YtikcfpjfcpbfcaaI64E
import Derived.Test.YtikcfpjfcpbfcaaRowI
import Derived.Test.YtikcfpjfcpbfcaaNtT
import Derived.Test.YtikcfpjfcpbfcaaDucE
import Derived.Test.YtikcfpjfcpbfcaaDucR
import Derived.Test.YtikcfpjfcpbfcaaI64R2
import Derived.Test.YtikcfpjfcpbfcaaSzI
import Derived.Test.YtikcfpjfcpbfcaaTn
namespace Go.Proofs.Ytikcfpjfcpbfcaa
set_option maxRecDepth 40000
open Go.ChangeShapes Go.WideShapes Go.ChangeAt Go.RowKit
set_option linter.unusedVariables false
set_option linter.unusedSimpArgs false

theorem Pe_row1 {H : Type} {enc : TypeId × Value → H} {w : World} {t e : TypeId} {sp : Nat → Bool} {held : Bool} {fuel : Nat} {v : Value} {x : DataW H × List MemPlace} (ht : Try.prog.underlying t = some (.slice e)) (he : Try.prog.underlying e = some (.int .i64)) (ce : Try.prog.cellsOf e = 1)
    (hf : DataW.trod enc Try.prog w 0 sp held fuel t [v] = some x) : ∃ s n c, v = .slice s n c ∧ n ≤ 9223372036854775807 ∧ ∃ V, RowI w s n V := by
  rcases Go.Deep.open_slice ht hf with ⟨e1, _⟩ | ⟨a, len, cap, m, k, D, Pl, e1, _, hl, hm, hmm, _, hx⟩
  · simp only [List.cons.injEq, and_true] at e1
    exact ⟨none, 0, 0, e1, by omega, fun _ => 0, fun j hj => by omega⟩
  · simp only [List.cons.injEq, and_true] at e1
    have hle : len ≤ m := by rw [hmm]; split <;> omega
    have mx : maxLen = 9223372036854775807 := by decide
    refine ⟨some a, len, cap, e1, by omega, ?_⟩
    by_cases hz : len = 0
    · subst hz; exact ⟨fun _ => 0, fun j hj => by omega⟩
    · obtain ⟨b, o, spot⟩ := a
      have addr : ∀ k, (⟨b, o, none⟩ : Addr).add k = ⟨b, o + k, none⟩ := fun k => by
        unfold Addr.add
        split
        · rename_i h; subst h; rfl
        · rfl
      have lt : ∀ {p : Addr} {u : Value}, w.cell? p = some u → p.block < w.heap.size := fun {p u} h => by
        rcases Nat.lt_or_ge p.block w.heap.size with z | z
        · exact z
        · exfalso
          simp [World.cell?, Array.getElem?_eq_none z] at h
      obtain ⟨cs0, h10, _⟩ := hx 0 (by omega)
      rw [ce] at h10
      obtain ⟨_, hl0, hc0⟩ := World.cells?_some h10
      have hspot : spot = none := by
        match cs0, hl0 with
        | [u], _ =>
          have := hc0 0 (by omega)
          simp [Addr.add] at this
          exact World.cell?_spot this
      subst hspot
      have each : ∀ i, i < len → ∃ z : Int, w.cell? ⟨b, o + i, none⟩ = some (.int .i64 z) := by
        intro i hi
        obtain ⟨cs', h1, h2⟩ := hx i (by omega)
        rw [ce] at h1
        obtain ⟨_, hlen, hcell⟩ := World.cells?_some h1
        match cs', hlen with
        | [u], _ =>
          have e0 := hcell 0 (by omega)
          rw [Go.Deep.add_add, addr] at e0
          obtain ⟨z0, q0, _, _⟩ := DataW.trod_int he h2
          simp only [List.cons.injEq, and_true] at q0
          exact ⟨z0, by rw [← q0]; simpa [ce] using e0⟩
      obtain ⟨f, hfn⟩ := Go.Deep.choose_lt each
      exact ⟨f, fun j hj => ⟨b, o, rfl, lt (hfn j hj), hfn j hj⟩⟩
theorem Pe_addr (b o k : Nat) : (⟨b, o, none⟩ : Addr).add k = ⟨b, o + k, none⟩ := by
  unfold Addr.add
  split
  · rename_i h; subst h; rfl
  · rfl
theorem Pe_cell_lt {w : World} {p : Addr} {v : Value} (h : w.cell? p = some v) : p.block < w.heap.size := by
  rcases Nat.lt_or_ge p.block w.heap.size with z | z
  · exact z
  · exfalso
    simp [World.cell?, Array.getElem?_eq_none z] at h
theorem Pe_spot {w : World} {b0 : Nat} {t e : TypeId} {a : Addr} {n c : Nat} (ht : Try.prog.underlying t = some (.slice e)) (hv : Value.okWide Try.prog w .any b0 t (.slice (some a) n c)) : a.spot = none := by
  simp only [Value.okWide, ht, Cell.okWide, Cell.ok] at hv
  exact hv.2.2.2.1
theorem open_PermitS {H : Type} {enc : TypeId × Value → H} {w : World} {b0 : Nat} {t e : TypeId} {f0 f1 f2 : Field} {l2 : TypeId}  {v : Value} {d : DataW H} {ps : List MemPlace} {sp : Nat → Bool} {held : Bool} (ht : Try.prog.underlying t = some (.slice e)) (he : Try.prog.underlying e = some (.struct #[f0, f1, f2]))
    (ce : Try.prog.cellsOf e = 3) (o0 : f0.offset = 0) (c0 : Try.prog.cellsOf f0.type = 1) (o1 : f1.offset = 1) (c1 : Try.prog.cellsOf f1.type = 1) (o2 : f2.offset = 2) (c2 : Try.prog.cellsOf f2.type = 1) (i0 : Try.prog.underlying f0.type = some (.int .i64)) (i1 : Try.prog.underlying f1.type = some (.int .i64)) (i2 : Try.prog.underlying f2.type = some (.slice l2)) (j2 : Try.prog.underlying l2 = some (.int .i64)) (q2 : Try.prog.cellsOf l2 = 1)
    (hv : Value.okWide Try.prog w .any b0 t v) (h : DataW.Trod enc Try.prog w 0 sp held t v d ps) : ∃ s n c X0 X1 S2 K2 C2 V2, v = .slice s n c ∧ n ≤ 9223372036854775807 ∧ (∀ j, j < n → K2 j ≤ 9223372036854775807) ∧ PermitR w s n X0 X1 S2 K2 C2 V2 := by
  have hsl : ∃ s n c, v = .slice s n c := by
    simp only [Value.okWide, ht, Cell.okWide] at hv
    cases v <;> simp_all [Cell.ok]
  obtain ⟨s, n, c, rfl⟩ := hsl
  obtain ⟨fuel, hf⟩ := h
  have hf' : DataW.trod enc Try.prog w 0 sp held fuel t [.slice s n c] = some (d, ps) := hf
  rcases Go.Deep.open_slice ht hf' with ⟨e1, _⟩ | ⟨a, len, cap, m, k, D, Pl, e1, _, hl, hm, hmm, _, hx⟩
  · simp only [List.cons.injEq, and_true, Value.slice.injEq] at e1
    obtain ⟨rfl, rfl, rfl⟩ := e1
    exact ⟨none, 0, 0, fun _ => 0, fun _ => 0, fun _ => none, fun _ => 0, fun _ => 0, fun _ _ => 0, rfl, by omega, fun j hj => by omega, fun j hj => by omega⟩
  · simp only [List.cons.injEq, and_true, Value.slice.injEq] at e1
    obtain ⟨rfl, rfl, rfl⟩ := e1
    have hsp := Pe_spot ht hv
    obtain ⟨b, o, spot⟩ := a
    simp only at hsp
    subst hsp
    have hle : n ≤ m := by rw [hmm]; split <;> omega
    have mx : maxLen = 9223372036854775807 := by decide
    have each : ∀ i, i < n → ∃ z : Int × Int × (Option Addr × Nat × Nat × (Nat → Int)), w.cell? ⟨b, o + i * 3, none⟩ = some (.int .i64 (z.1)) ∧ w.cell? ⟨b, o + i * 3 + 1, none⟩ = some (.int .i64 (z.2.1)) ∧ (w.cell? ⟨b, o + i * 3 + 2, none⟩ = some (.slice z.2.2.1 z.2.2.2.1 z.2.2.2.2.1) ∧ RowI w z.2.2.1 z.2.2.2.1 z.2.2.2.2.2 ∧ z.2.2.2.1 ≤ 9223372036854775807) := by
      intro i hi
      obtain ⟨cs', h1, h2⟩ := hx i (by omega)
      rw [ce] at h1
      obtain ⟨_, hlen, hcell⟩ := World.cells?_some h1
      obtain ⟨xs, k', hk, hxy, _, hxl, hf⟩ := DataW.trod_struct he h2
      match xs, hxl, cs', hlen with
      | [y0, y1, y2], _, [v0, v1, v2], _ =>
        have g0 := hf 0 f0 rfl
        have g1 := hf 1 f1 rfl
        have g2 := hf 2 f2 rfl
        simp [o0, c0, o1, c1, o2, c2] at g0 g1 g2
        have e0 := hcell 0 (by omega)
        have e1 := hcell 1 (by omega)
        have e2 := hcell 2 (by omega)
        rw [Go.Deep.add_add, Pe_addr] at e0 e1 e2
        obtain ⟨z0, r0, _, _⟩ := DataW.trod_int i0 g0
        simp only [List.cons.injEq, and_true] at r0
        obtain ⟨z1, r1, _, _⟩ := DataW.trod_int i1 g1
        simp only [List.cons.injEq, and_true] at r1
        obtain ⟨s2, n2, k2, r2, lm2, V2, R2⟩ := Pe_row1 i2 j2 q2 g2
        exact ⟨(z0, z1, (s2, n2, k2, V2)), (by rw [← r0]; simpa [Nat.add_assoc] using e0), (by rw [← r1]; simpa [Nat.add_assoc] using e1), ⟨(by rw [← r2]; simpa [Nat.add_assoc] using e2), R2, lm2⟩⟩
    obtain ⟨f, hfn⟩ := Go.Deep.choose_lt each
    refine ⟨some ⟨b, o, none⟩, n, c, fun j => (f j).1, fun j => (f j).2.1, fun j => (f j).2.2.1, fun j => (f j).2.2.2.1, fun j => (f j).2.2.2.2.1, fun j => (f j).2.2.2.2.2, rfl, by omega, fun j hj => (hfn j hj).2.2.2.2, fun j hj => ?_⟩
    have h0 := hfn j hj
    exact ⟨b, o, rfl, Pe_cell_lt (h0.1), h0.1, h0.2.1, h0.2.2.1, h0.2.2.2.1⟩

open Go.ChangeShapes Go.WideShapes Go.ChangeAt Go.RowKit
set_option linter.unusedVariables false
set_option linter.unusedSimpArgs false

theorem cell_wideBook {w : World} {b0 : Nat} {t e : TypeId} {v : Value} (ht : Try.prog.underlying t = some (.slice e)) (hv : Cell.okWide Try.prog w .any b0 t v) : Value.okWide Try.prog w .any b0 t v := by
  simp only [Value.okWide, ht]
  exact hv
theorem cells_sliceBook {w : World} {b0 : Nat} {t e : TypeId} {v : Value} (ht : Try.prog.underlying t = some (.slice e)) (hv : Cell.okWide Try.prog w .any b0 t v) : v.cells.toList = [v] := by
  simp only [Cell.okWide, ht] at hv
  cases v <;> simp_all [Cell.ok, Value.cells]
theorem open_Book' {H : Type} {enc : TypeId × Value → H} {w : World} {b0 : Nat} {f0 : Field} {v : Value} {d : DataW H} {ps : List MemPlace} {sp : Nat → Bool} {held : Bool} (hs : Try.prog.underlying 28 = some (.struct #[f0])) (hts : Try.prog.cellTypes Try.prog.depth 28 = some [26]) (hC : Try.prog.cellsOf 28 = 1)
    (y0 : f0.type = 26) (o0 : f0.offset = 0) (k0 : Try.prog.cellsOf 26 = 1)
    (hv : Value.okWide Try.prog w .any b0 28 v) (h : DataW.Trod enc Try.prog w 0 sp held 28 v d ps) :
    ∃ (s0 : Option Addr) (n0 c0 : Nat) (X0 : Nat → Int) (Y0 : Nat → Int) (K0 : Nat → Nat) (V0 : Nat → Nat → Int), v = .agg #[.slice s0 n0 c0] ∧ n0 ≤ 9223372036854775807 ∧ (∀ j, j < n0 → K0 j ≤ 9223372036854775807) ∧ RowPer w s0 n0 X0 Y0 K0 V0 := by
  obtain ⟨vs, rfl, hc⟩ := open_cells hs (ts := [26]) hts hC hv
  obtain ⟨v0, r0, rfl, q0, ck0⟩ := cellsOk_cons hc
  obtain rfl := cellsOk_nil ck0
  obtain ⟨fuel, hf⟩ := h
  have hf' : DataW.trod enc Try.prog w 0 sp held fuel 28 [v0] = some (d, ps) := hf
  obtain ⟨xs, k', hk, hxy, _, hxl, hfld⟩ := DataW.trod_struct hs hf'
  match xs, hxl with
  | [y0_], _ =>
    have g0 := hfld 0 f0 rfl
    simp [o0, y0, k0] at g0
    obtain ⟨s0, n0, c0, X0, Y0, A0, K0, C0, V0, e0, m0, mk0, R0⟩ := open_PermitS Try.underlying26 Try.underlying30 (by kernel_rfl) rfl (by kernel_rfl) rfl (by kernel_rfl) rfl (by kernel_rfl) (by kernel_rfl) (by kernel_rfl) Try.underlying23 Try.underlying2 (by kernel_rfl) (cell_wideBook Try.underlying26 q0) ⟨_, show DataW.trod enc Try.prog w 0 _ _ _ 26 v0.cells.toList = some _ by rw [cells_sliceBook Try.underlying26 q0]; exact g0⟩
    subst e0
    exact ⟨s0, n0, c0, X0, Y0, K0, V0, rfl, m0, mk0, RowPer.of R0⟩
theorem open_Book {H : Type} {enc : TypeId × Value → H} {w : World} {b0 : Nat} {v : Value} {d : DataW H} {ps : List MemPlace} {sp : Nat → Bool} {held : Bool} (hv : Value.okWide Try.prog w .any b0 28 v) (h : DataW.Trod enc Try.prog w 0 sp held 28 v d ps) :
    ∃ (s0 : Option Addr) (n0 c0 : Nat) (X0 : Nat → Int) (Y0 : Nat → Int) (K0 : Nat → Nat) (V0 : Nat → Nat → Int), v = .agg #[.slice s0 n0 c0] ∧ n0 ≤ 9223372036854775807 ∧ (∀ j, j < n0 → K0 j ≤ 9223372036854775807) ∧ RowPer w s0 n0 X0 Y0 K0 V0 :=
  open_Book' Try.underlying28 (by kernel_rfl) (by kernel_rfl) rfl rfl (by kernel_rfl) hv h

open Go.ChangeShapes Go.WideShapes Go.ChangeAt Go.RowKit
set_option linter.unusedVariables false
set_option linter.unusedSimpArgs false

def PermX (k : Int) (K : Nat → Nat) (i : Nat) : Int := k + ((i * 2 + suK K i : Nat) : Int)
def PeriX (m : Nat) (k : Int) (K : Nat → Nat) (X : Nat → Int) (i : Nat) : Int := if i < m then PermX k K i else X i
def PermY (k : Int) (K : Nat → Nat) (i : Nat) : Int := k + ((i * 2 + suK K i : Nat) : Int) + 1
def PeriY (m : Nat) (k : Int) (K : Nat → Nat) (Y : Nat → Int) (i : Nat) : Int := if i < m then PermY k K i else Y i
def PermV (k : Int) (K : Nat → Nat) (i j : Nat) : Int := k + ((i * 2 + suK K i : Nat) : Int) + 2 + (j : Int)
def PeriV (m : Nat) (k : Int) (K : Nat → Nat) (V : Nat → Nat → Int) (i j : Nat) : Int := if i < m then PermV k K i j else V i j
def Perup (X : Nat → Int) (m : Nat) (z : Int) (i : Nat) : Int := if i = m then z else X i
theorem Per_store : ∀ (W : World) (a : Addr) (z : Int), (W.cell? a).isSome = true → W.frozen? a = false → (store a (.int .i64 z)).run Try.prog W = .ok () (W.setCell a (.int .i64 z)) := fun W a z h hf => by
  obtain ⟨u, hu⟩ := Option.isSome_iff_exists.1 h
  rw [run_store Try.prog W a _ _ rfl, hu]
  simp [hf]
theorem Per_setX {S : Nat → Prop} {w : World} {n : Nat} {X : Nat → Int} {Y : Nat → Int} {K : Nat → Nat} {V : Nat → Nat → Int} {b m : Nat} {z : Int} (h : PerR S w (some ⟨b, 0, none⟩) n X Y K V) (hm : m < n) : PerR S (w.setCell ⟨b, m * 3, none⟩ (.int .i64 z)) (some ⟨b, 0, none⟩) n (Perup X m z) Y K V ∧ Turn S w (w.setCell ⟨b, m * 3, none⟩ (.int .i64 z)) := by
  obtain ⟨A, hA, hi⟩ := h
  have bs := Beside.setCell b w (m * 3) (.int .i64 z)
  have Sb : S b := by
    obtain ⟨b', a, c, e, h1, _⟩ := hA m hm
    cases e
    exact h1
  refine ⟨⟨A, fun i q => ?_, hi⟩, Turn.of bs Sb⟩
  obtain ⟨b', a, c, e, h1, hl, hf, c0, c1, c2, hr⟩ := hA i q
  cases e
  refine ⟨b, a, c, rfl, h1, by simpa using hl, fun o => by simpa [go_sem] using hf o, ?_, ?_, ?_, fun p => ?_⟩
  · unfold Perup
    by_cases e : i = m
    · subst e
      rw [if_pos rfl]
      exact World.cell?_setCell_same' _ _ _ (by rw [c0]; rfl)
    · rw [if_neg e, World.cell?_setCell_other _ _ _ _ (by intro y; injection y with _ y _; omega)]
      exact c0
  · rw [World.cell?_setCell_other _ _ _ _ (by intro y; injection y with _ y _; omega)]
    exact c1
  · rw [World.cell?_setCell_other _ _ _ _ (by intro y; injection y with _ y _; omega)]
    exact c2
  · obtain ⟨ea, n1, n2, n3, hv⟩ := hr p
    exact ⟨ea, n1, n2, by simpa using n3, fun j hj => ⟨(bs.cell (p := ⟨A i, j, none⟩) n3 n1).trans (hv j hj).1, (bs.frozen (p := ⟨A i, j, none⟩) n3 n1).trans (hv j hj).2⟩⟩
theorem Per_setY {S : Nat → Prop} {w : World} {n : Nat} {X : Nat → Int} {Y : Nat → Int} {K : Nat → Nat} {V : Nat → Nat → Int} {b m : Nat} {z : Int} (h : PerR S w (some ⟨b, 0, none⟩) n X Y K V) (hm : m < n) : PerR S (w.setCell ⟨b, m * 3 + 1, none⟩ (.int .i64 z)) (some ⟨b, 0, none⟩) n X (Perup Y m z) K V ∧ Turn S w (w.setCell ⟨b, m * 3 + 1, none⟩ (.int .i64 z)) := by
  obtain ⟨A, hA, hi⟩ := h
  have bs := Beside.setCell b w (m * 3 + 1) (.int .i64 z)
  have Sb : S b := by
    obtain ⟨b', a, c, e, h1, _⟩ := hA m hm
    cases e
    exact h1
  refine ⟨⟨A, fun i q => ?_, hi⟩, Turn.of bs Sb⟩
  obtain ⟨b', a, c, e, h1, hl, hf, c0, c1, c2, hr⟩ := hA i q
  cases e
  refine ⟨b, a, c, rfl, h1, by simpa using hl, fun o => by simpa [go_sem] using hf o, ?_, ?_, ?_, fun p => ?_⟩
  · rw [World.cell?_setCell_other _ _ _ _ (by intro y; injection y with _ y _; omega)]
    exact c0
  · unfold Perup
    by_cases e : i = m
    · subst e
      rw [if_pos rfl]
      exact World.cell?_setCell_same' _ _ _ (by rw [c1]; rfl)
    · rw [if_neg e, World.cell?_setCell_other _ _ _ _ (by intro y; injection y with _ y _; omega)]
      exact c1
  · rw [World.cell?_setCell_other _ _ _ _ (by intro y; injection y with _ y _; omega)]
    exact c2
  · obtain ⟨ea, n1, n2, n3, hv⟩ := hr p
    exact ⟨ea, n1, n2, by simpa using n3, fun j hj => ⟨(bs.cell (p := ⟨A i, j, none⟩) n3 n1).trans (hv j hj).1, (bs.frozen (p := ⟨A i, j, none⟩) n3 n1).trans (hv j hj).2⟩⟩
/-- One of the inner lists marked: all else is as it was. -/
theorem Per_list {S : Nat → Prop} {w : World} {n : Nat} {X : Nat → Int} {Y : Nat → Int} {K : Nat → Nat} {V : Nat → Nat → Int} {w' : World} {b m : Nat} {u : Nat → Int} (h : PerR S w (some ⟨b, 0, none⟩) n X Y K V) (hm : m < n)
    (h2 : ∀ x c, w.cell? ⟨b, m * 3 + 2, none⟩ = some (.slice (some ⟨x, 0, none⟩) (K m) c) → 0 < K m → Beside x w w' ∧ ∀ j, j < K m → w'.cell? ⟨x, j, none⟩ = some (.int .i64 (u j)) ∧ w'.frozen? ⟨x, j, none⟩ = false) (h0 : K m = 0 → w' = w) :
    PerR S w' (some ⟨b, 0, none⟩) n X Y K (fun i j => if i = m then u j else V i j) ∧ Turn S w w' := by
  by_cases z : K m = 0
  · rw [h0 z]
    refine ⟨?_, Turn.refl _ _⟩
    obtain ⟨A, hA, hi⟩ := h
    refine ⟨A, fun i q => ?_, hi⟩
    obtain ⟨b', a, c, e, g1, hl, hf, c0, c1, c2, hr⟩ := hA i q
    refine ⟨b', a, c, e, g1, hl, hf, c0, c1, c2, fun p => ?_⟩
    obtain ⟨ea, n1, n2, n3, hv⟩ := hr p
    refine ⟨ea, n1, n2, n3, fun j hj => ⟨?_, (hv j hj).2⟩⟩
    have ne : i ≠ m := fun q => by rw [q] at p; omega
    rw [(hv j hj).1]
    dsimp only
    rw [if_neg ne]
  · obtain ⟨A, hA, hi⟩ := h
    obtain ⟨bm, am, cm, em, g1m, hlm, hfm, d0, d1, d2, hrm⟩ := hA m hm
    cases em
    obtain ⟨eam, n1m, n2m, n3m, hvm⟩ := hrm (by omega)
    subst eam
    obtain ⟨bs, hmk⟩ := h2 (A m) cm d2 (by omega)
    refine ⟨⟨A, fun i q => ?_, hi⟩, Turn.of bs n2m⟩
    obtain ⟨b', a, c, e, g1, hl, hf, c0, c1, c2, hr⟩ := hA i q
    cases e
    refine ⟨b, a, c, rfl, g1, Nat.lt_of_lt_of_le hl bs.2.2.2.1, fun o => (bs.frozen (p := ⟨b, o, none⟩) hl (Ne.symm n1m)).trans (hf o), (bs.cell (p := ⟨b, i * 3, none⟩) hl (Ne.symm n1m)).trans c0, (bs.cell (p := ⟨b, i * 3 + 1, none⟩) hl (Ne.symm n1m)).trans c1, (bs.cell (p := ⟨b, i * 3 + 2, none⟩) hl (Ne.symm n1m)).trans c2, fun p => ?_⟩
    obtain ⟨ea, n1, n2, n3, hv⟩ := hr p
    refine ⟨ea, n1, n2, Nat.lt_of_lt_of_le n3 bs.2.2.2.1, fun j hj => ?_⟩
    by_cases q1 : i = m
    · subst q1
      dsimp only
      rw [if_pos rfl]
      exact hmk j hj
    · have nA : A i ≠ A m := fun q2 => q1 (hi i m q hm p (by omega) q2)
      refine ⟨(bs.cell (p := ⟨A i, j, none⟩) n3 nA).trans ?_, (bs.frozen (p := ⟨A i, j, none⟩) n3 nA).trans (hv j hj).2⟩
      dsimp only
      rw [(hv j hj).1, if_neg q1]
theorem Per_mark_eq {m : Nat} {k : Int} {K : Nat → Nat} {X : Nat → Int} {Y : Nat → Int} {V : Nat → Nat → Int} : Perup (PeriX m k K X) m (PermX k K m) = PeriX (m + 1) k K X ∧ Perup (PeriY m k K Y) m (PermY k K m) = PeriY (m + 1) k K Y ∧ (fun i j => if i = m then PermV k K m j else PeriV m k K V i j) = PeriV (m + 1) k K V := by
  refine ⟨?_, ?_, ?_⟩
  · funext i
    unfold Perup PeriX
    by_cases e : i = m
    · subst e; rw [if_pos rfl, if_pos (by omega)]
    · rw [if_neg e]
      by_cases q : i < m
      · rw [if_pos q, if_pos (by omega)]
      · rw [if_neg q, if_neg (by omega)]
  · funext i
    unfold Perup PeriY
    by_cases e : i = m
    · subst e; rw [if_pos rfl, if_pos (by omega)]
    · rw [if_neg e]
      by_cases q : i < m
      · rw [if_pos q, if_pos (by omega)]
      · rw [if_neg q, if_neg (by omega)]
  · funext i j
    unfold PeriV
    by_cases e : i = m
    · subst e; rw [if_pos rfl, if_pos (by omega)]
    · rw [if_neg e]
      by_cases q : i < m
      · rw [if_pos q, if_pos (by omega)]
      · rw [if_neg q, if_neg (by omega)]
theorem PerR.same {S : Nat → Prop} {w : World} {s : Option Addr} {n : Nat} {X : Nat → Int} {Y : Nat → Int} {K : Nat → Nat} {V : Nat → Nat → Int} {X' : Nat → Int} {Y' : Nat → Int} {V' : Nat → Nat → Int} (h : PerR S w s n X Y K V) (eX : ∀ i, i < n → X i = X' i) (eY : ∀ i, i < n → Y i = Y' i) (eV : ∀ i j, i < n → V i j = V' i j) : PerR S w s n X' Y' K V' := by
  obtain ⟨A, hA, hi⟩ := h
  refine ⟨A, fun i q => ?_, hi⟩
  obtain ⟨b, a, c, e, g1, hl, hf, c0, c1, c2, hr⟩ := hA i q
  refine ⟨b, a, c, e, g1, hl, hf, by rw [c0, eX i q], by rw [c1, eY i q], c2, fun p => ?_⟩
  obtain ⟨ea, n1, n2, n3, hv⟩ := hr p
  exact ⟨ea, n1, n2, n3, fun j hj => ⟨by rw [(hv j hj).1, eV i j q], (hv j hj).2⟩⟩
set_option maxRecDepth 20000 in
set_option maxHeartbeats 8000000 in
theorem markPermitS_r (S : Nat → Prop) (s : Option Addr) (n c : Nat) (k : Int) (X : Nat → Int) (Y : Nat → Int) (K : Nat → Nat) (V : Nat → Nat → Int) (w : World) (hn : (n : Int) + (suK K n : Int) ≤ 1048576) (k0 : 0 ≤ k) (k1 : k ≤ 40000000) (HR : PerR S w s n X Y K V) :
    Calls Try.prog 60 #[.slice s n c, .int .i64 k] w fun e w' => e = .returned (.int .i64 (k + ((n : Int) * 2 + (suK K n : Int)))) ∧ PerR S w' s n (PermX k K) (PermY k K) K (PermV k K) ∧ Turn S w w' := by
  have sto := Per_store
  have HR0 : Hid (PerR S w s n X Y K V) := HR
  clear HR
  go_enter Try.func60, Try.ntmps60
  go_wp2_with fail
  go_loopw [1, 5] (fun q i wr => ∃ m : Nat, m ≤ n ∧ i = .int .i64 m ∧ q = .int .i64 (k + ((m * 2 + suK K m : Nat) : Int)) ∧ Hid (PerR S wr s n (PeriX m k K X) (PeriY m k K Y) K (PeriV m k K V)) ∧ Hid (Turn S w wr)) (fun _ i _ => n - (intOf i).toNat)
  case atStart => exact ⟨0, Nat.zero_le _, rfl, by simp [suK], (HR0.out.same (fun i _ => by unfold PeriX; rw [if_neg (Nat.not_lt_zero i)]) (fun i _ => by unfold PeriY; rw [if_neg (Nat.not_lt_zero i)]) (fun i j _ => by unfold PeriV; rw [if_neg (Nat.not_lt_zero i)])), Turn.refl _ _⟩
  case round =>
    obtain ⟨m, hm, rfl, rfl, HO, HG⟩ := hrel
    by_cases h1 : m < n
    · have su := suK_in (K := K) h1
      have e1 : suK K (m + 1) = suK K m + K m := rfl
      have HL := HO.out
      obtain ⟨A, hA, -⟩ := HL
      obtain ⟨b, a, cc, rfl, g1, hl, hf, c0, c1, c2, hr⟩ := hA m h1
      have k2 : (m : Int) < (n : Int) := by omega
      obtain ⟨x, hx⟩ : ∃ x, k + ((m * 2 + suK K m : Nat) : Int) = x := ⟨_, rfl⟩
      have HX : Hid (k + (((m + 1) * 2 + suK K (m + 1) : Nat) : Int) = x + 1 + 1 + (K m : Int)) := by show _ = _; rw [e1]; omega
      have x0 : 0 ≤ x := by omega
      have x1 : x ≤ 90000000 := by omega
      have km : (K m : Int) ≤ 1048576 := by omega
      have MX : Hid (PermX k K m = x) := by show k + ((m * 2 + suK K m : Nat) : Int) = _; rw [hx]
      have MY : Hid (PermY k K m = x + 1) := by show k + ((m * 2 + suK K m : Nat) : Int) + 1 = _; rw [hx]
      have MV : Hid (∀ j : Nat, PermV k K m j = x + 1 + 1 + (j : Int)) := fun j => by show k + ((m * 2 + suK K m : Nat) : Int) + 2 + (j : Int) = _; rw [hx]; omega
      rw [hx]
      clear hx e1 su
      obtain ⟨w1, hw1⟩ : ∃ y, y = wr.setCell ⟨b, m * 3, none⟩ (.int .i64 (x)) := ⟨_, rfl⟩
      have Q0 := Per_setX (z := x) HO.out h1
      rw [← hw1] at Q0
      obtain ⟨w2, hw2⟩ : ∃ y, y = w1.setCell ⟨b, m * 3 + 1, none⟩ (.int .i64 (x + 1)) := ⟨_, rfl⟩
      have Q1 := Per_setY (z := x + 1) Q0.1 h1
      rw [← hw2] at Q1
      have HQ : Hid (PerR S w2 (some ⟨b, 0, none⟩) n (Perup (PeriX m k K X) m (x)) (Perup (PeriY m k K Y) m (x + 1)) K (PeriV m k K V)) := Q1.1
      have HT : Hid (Turn S wr w2) := (Q0.2.trans Q1.2)
      have zb : b < w2.heap.size := Nat.lt_of_lt_of_le hl HT.out.size
      have dl : w2.cell? ⟨b, m * 3 + 2, none⟩ = some (.slice a (K m) cc) := by
        rw [hw2, World.cell?_setCell_other _ _ _ _ (by intro y; injection y with _ y _; omega)]
        rw [hw1, World.cell?_setCell_other _ _ _ _ (by intro y; injection y with _ y _; omega)]
        exact c2
      have fz := hf
      clear Q0 Q1 hA g1 hf
      have HFIN : Hid (∀ w2, PerR S w2 (some ⟨b, 0, none⟩) n (Perup (PeriX m k K X) m (x)) (Perup (PeriY m k K Y) m (x + 1)) K (fun i j => if i = m then PermV k K m j else PeriV m k K V i j) → PerR S w2 (some ⟨b, 0, none⟩) n (PeriX (m + 1) k K X) (PeriY (m + 1) k K Y) K (PeriV (m + 1) k K V)) := fun w2 hq => by
        obtain ⟨qX, qY, qV⟩ := Per_mark_eq (m := m) (k := k) (K := K) (X := X) (Y := Y) (V := V)
        rw [← qV, ← qX, ← qY, MX.out, MY.out]
        exact hq
      by_cases z : K m = 0
      · have HM := Per_list (w' := w2) (u := PermV k K m) HQ.out h1 (fun _ _ _ q => by omega) (fun _ => rfl)
        have HM1 := HFIN.out _ HM.1
        have HMH : Hid (PerR S w2 (some ⟨b, 0, none⟩) n (PeriX (m + 1) k K X) (PeriY (m + 1) k K Y) K (PeriV (m + 1) k K V)) := HM1
        have HMT : Hid (Turn S w w2) := HG.out.trans HT.out
        rw [z] at dl HX
        simp only [Int.natCast_zero, Int.add_zero] at HX
        clear hr HM HM1 HQ
        go_wp2_with fail
        rw [← hw1, ← hw2]
        clear c0 c1 c2 hw1 hw2
        refine (markInt64S_nil a cc _ _).mono ?_
        rintro e w2 ⟨rfl, rfl⟩
        go_wp2
        go_roundw
        case rel => exact ⟨m + 1, by omega, by go_num, by rw [HX.out], HMH.out, HMT.out⟩
        case measure => first | (simp [intOf]; done) | (simp [intOf]; omega)
      · obtain ⟨rfl, n1, n2, n3, hv⟩ := hr (by omega)
        have HV : Hid (∀ j, j < K m → w2.cell? ⟨A m, j, none⟩ = some (.int .i64 (PeriV m k K V m j)) ∧ w2.frozen? ⟨A m, j, none⟩ = false) := by
          obtain ⟨A', hA', -⟩ := HQ.out
          obtain ⟨b', a', c', e', _, _, _, d0, d1, d2, hr'⟩ := hA' m h1
          cases e'
          rw [dl] at d2
          cases d2
          obtain ⟨ea, _, _, _, hv'⟩ := hr' (by omega)
          have eA : A m = A' m := by simpa using ea
          rw [eA]
          exact hv'
        have zA : A m < w2.heap.size := Nat.lt_of_lt_of_le n3 HT.out.size
        obtain ⟨y, hy⟩ : ∃ y, A m = y := ⟨_, rfl⟩
        rw [hy] at dl HV zA c2
        have HMK : Hid (∀ w', Beside y w2 w' → (∀ j, j < K m → w'.cell? ⟨y, j, none⟩ = some (.int .i64 (x + 1 + 1 + (j : Int))) ∧ w'.frozen? ⟨y, j, none⟩ = false) → PerR S w' (some ⟨b, 0, none⟩) n (PeriX (m + 1) k K X) (PeriY (m + 1) k K Y) K (PeriV (m + 1) k K V) ∧ Turn S w2 w') := fun w' hb hq => by
          have HM := Per_list (w' := w') (u := PermV k K m) HQ.out h1 (fun x' c' hc' _ => by
            rw [dl] at hc'
            cases hc'
            exact ⟨hb, fun j hj => by rw [MV.out j]; exact hq j hj⟩) (fun q => absurd q z)
          exact ⟨HFIN.out _ HM.1, HM.2⟩
        obtain ⟨l, hl2⟩ : ∃ l, K m = l := ⟨_, rfl⟩
        rw [hl2] at dl HV HMK HX km c2
        clear hl2 hv hy n2 n3 HQ
        go_wp2_with fail
        rw [← hw1, ← hw2]
        clear c0 c1 c2 hw1 hw2
        refine (markInt64S_at y l cc (x + 1 + 1) (PeriV m k K V m) _ km (by omega) (by omega) zA HV).mono ?_
        rintro e w9 ⟨rfl, hB, hf1, hc1⟩
        have HM := HMK.out w9 hB (fun j hj => ⟨by rw [hc1 j hj, if_pos hj], hf1 j hj⟩)
        have HM1 : Hid (PerR S w9 (some ⟨b, 0, none⟩) n (PeriX (m + 1) k K X) (PeriY (m + 1) k K Y) K (PeriV (m + 1) k K V)) := HM.1
        have HM2 : Hid (Turn S w w9) := (HG.out.trans HT.out).trans HM.2
        clear HM hB hf1 hc1
        go_wp2
        go_roundw
        case rel => exact ⟨m + 1, by omega, by go_num, by rw [HX.out], HM1.out, HM2.out⟩
        case measure => first | (simp [intOf]; done) | (simp [intOf]; omega)
    · obtain rfl : m = n := by omega
      have HE : Hid (PerR S wr s m (PermX k K) (PermY k K) K (PermV k K)) := HO.out.same (fun i hi => by unfold PeriX; rw [if_pos hi]) (fun i hi => by unfold PeriY; rw [if_pos hi]) (fun i j hi => by unfold PeriV; rw [if_pos hi])
      go_wp2
      go_ret
      exact ⟨ret_int (by first | rfl | omega), HE.out, HG.out⟩

open Go.ChangeShapes Go.WideShapes Go.ChangeAt Go.RowKit
set_option linter.unusedVariables false
set_option linter.unusedSimpArgs false

set_option maxHeartbeats 2000000 in
theorem markBook_r (n0 : Nat) (X0 : Nat → Int) (Y0 : Nat → Int) (K0 : Nat → Nat) (V0 : Nat → Nat → Int) (s0 : Option Addr) (c0 : Nat) (S : Nat → Prop) (k : Int) (w : World) (hn0 : ((n0 : Int) + (suK K0 n0 : Int)) ≤ 1048576) (k0 : 0 ≤ k) (k1 : k ≤ 40000000) (hS : ∀ q, S q → q < w.heap.size) (HR : Hid (BookR S w s0 n0 X0 Y0 K0 V0)) :
    Calls Try.prog 21 #[.agg #[.slice s0 n0 c0], .int .i64 k] w fun e w' => e = .returned (.int .i64 (k + ((n0 : Int) * 2 + (suK K0 n0 : Int)))) ∧ Turn S w w' := by
  have O0 : Hid (PerR S w s0 n0 X0 Y0 K0 V0) := HR
  have u0 : Hid (∀ k, S k → S k) := fun _ h => h
  replace hS : Hid (∀ q, S q → q < w.heap.size) := hS
  go_enter Try.func21, Try.ntmps21
  go_wp2_with fail
  obtain ⟨wa, hwa⟩ : ∃ x, x = w.alloc (.cells #[.slice s0 n0 c0] 36) := ⟨_, rfl⟩
  rw [← hwa]
  have B0 : Turn S w wa := by rw [hwa]; exact Turn.grown (by repeat (first | with_reducible exact Below.refl _ _ | with_reducible refine Below.setCell ?_ (by first | omega | (simp; done) | (simp; omega)) _ | with_reducible refine bDrewN ?_ _ | with_reducible refine Below.drew ?_ | with_reducible refine Below.alloc ?_ (by first | omega | (simp; done) | (simp; omega)) _))
  have z0 : w.heap.size < wa.heap.size := by rw [hwa]; simp
  have p0 : wa.cell? ⟨w.heap.size, 0, none⟩ = some (.slice s0 n0 c0) := by rw [hwa]; simp [go_sem]
  replace O0 : Hid (PerR S wa s0 n0 X0 Y0 K0 V0) := by rw [hwa]; exact O0.out.below (by repeat (first | with_reducible exact Below.refl _ _ | with_reducible refine Below.setCell ?_ (by first | omega | (simp; done) | (simp; omega)) _ | with_reducible refine bDrewN ?_ _ | with_reducible refine Below.drew ?_ | with_reducible refine Below.alloc ?_ (by first | omega | (simp; done) | (simp; omega)) _))
  clear hwa
  refine (markPermitS_r S s0 n0 c0 (k) X0 Y0 K0 V0 _ hn0 (by omega) (by omega) O0.out).mono ?_
  rintro e w0 ⟨rfl, -, T⟩
  replace z0 := Nat.lt_of_lt_of_le z0 T.size
  replace B0 : Turn S w w0 := B0.trans (T.mono u0.out)
  clear T
  go_wp2
  go_ret
  exact ⟨ret_int (by first | rfl | omega), B0⟩

open Go.ChangeShapes Go.WideShapes Go.ChangeAt Go.RowKit
set_option linter.unusedVariables false
set_option linter.unusedSimpArgs false

set_option maxRecDepth 20000 in
set_option maxHeartbeats 4000000 in
theorem heldPermitS_r (s : Option Addr) (n c : Nat) (k : Int) (K : Nat → Nat) (w : World) (hn : (n : Int) + (suK K n : Int) ≤ 1048576) (k0 : 0 ≤ k) (k1 : k ≤ 40000000) (HR : Hid (RowPer w s n (PermX k K) (PermY k K) K (PermV k K))) :
    Calls Try.prog 61 #[.slice s n c, .int .i64 k] w fun e w' => e = .returned (.int .i64 (k + ((n : Int) * 2 + (suK K n : Int)))) ∧ w' = w := by
  have HN : Hid ((n : Int) + (suK K n : Int) ≤ 1048576) := hn
  have n1 : (n : Int) ≤ 1048576 := by omega
  clear hn
  go_enter Try.func61, Try.ntmps61
  go_wp2_with fail
  go_loopw [1, 5] (fun q i wr => ∃ (m : Nat) (Q : Int), m ≤ n ∧ i = .int .i64 m ∧ q = .int .i64 Q ∧ Hid (k + ((m * 2 + suK K m : Nat) : Int) = Q) ∧ wr = w) (fun _ i _ => n - (intOf i).toNat)
  case atStart => exact ⟨0, k, Nat.zero_le _, rfl, rfl, (by show _ = _; simp [suK]), rfl⟩
  case round =>
    obtain ⟨m, Q, hm, rfl, rfl, HQ, rfl⟩ := hrel
    have hs := suK_mono (K := K) hm
    have hQ0 : 0 ≤ Q ∧ Q ≤ 50000000 := by have := HQ.out; have := HN.out; omega
    by_cases h1 : m < n
    case pos =>
      have m1 : (m : Int) < (n : Int) := by omega
      have hK : (K m : Int) ≤ 1048576 := by have := suK_in (K := K) h1; have := HN.out; omega
      obtain ⟨g, o, a, d, rfl, zg, c0, c1, c2, hr⟩ := HR.out m h1
      have e0 : PermX k K m = Q := HQ.out
      have e1 : PermY k K m = Q + 1 := by rw [← HQ.out]; rfl
      rw [e0] at c0
      rw [e1] at c1
      have HV : Hid (RowI wr a (K m) (fun j => (Q + 2) + (j : Int))) := hr.congr fun j _ => by unfold PermV; rw [HQ.out]
      have HQ2 : Hid (k + (((m + 1) * 2 + suK K (m + 1) : Nat) : Int) = Q + 2 + (K m : Int)) := by
        show _ = _
        have := HQ.out
        have e : suK K (m + 1) = suK K m + K m := rfl
        omega
      have w1 : IntKind.i64.wrap (Q + 1) = Q + 1 := by rw [IntKind.wrap_i64]; omega
      obtain ⟨Q2, hQ2⟩ : ∃ z, Q + 2 = z := ⟨_, rfl⟩
      have w2 : IntKind.i64.wrap (Q + 1 + 1) = Q2 := by rw [IntKind.wrap_i64]; omega
      rw [hQ2] at HV HQ2
      have q2 : 0 ≤ Q2 ∧ Q2 ≤ 60000000 := by omega
      have e2 : Q + 1 + 1 = Q2 := by omega
      clear e0 e1 hr hs
      go_wp2_with fail
      try rw [e2]
      refine (heldInt64S_any a (K m) d Q2 _ hK (by omega) (by omega) HV).mono ?_
      rintro e w3 ⟨rfl, rfl⟩
      rename World => w
      have ng : ¬ (Q2 + (K m : Int) < 0) := by omega
      obtain ⟨Q3, hQ3⟩ : ∃ z, Q2 + (K m : Int) = z := ⟨_, rfl⟩
      rw [hQ3] at HQ2 ng ⊢
      clear hQ3 hQ2 e2 w1 w2
      go_wp2
      go_roundw
      case rel => exact ⟨m + 1, Q3, by omega, by go_num, rfl, HQ2, by first | rfl | trivial⟩
      case measure => first | (simp [intOf]; done) | (simp [intOf]; omega)
    case neg =>
      obtain rfl : m = n := by omega
      have HO : Hid (k + ((m : Int) * 2 + (suK K m : Int)) = Q) := by show _ = _; have := HQ.out; omega
      go_wp2
      go_ret
      exact ⟨ret_int HO.out.symm, rfl⟩
theorem markBook_x (n0 : Nat) (X0 : Nat → Int) (Y0 : Nat → Int) (K0 : Nat → Nat) (V0 : Nat → Nat → Int) (s0 : Option Addr) (c0 : Nat) (S : Nat → Prop) (k : Int) (w : World) (hn0 : ((n0 : Int) + (suK K0 n0 : Int)) ≤ 1048576) (k0 : 0 ≤ k) (k1 : k ≤ 40000000) (hS : ∀ q, S q → q < w.heap.size) (HR : Hid (BookR S w s0 n0 X0 Y0 K0 V0)) :
    Calls Try.prog 21 #[.agg #[.slice s0 n0 c0], .int .i64 k] w fun e w' => e = .returned (.int .i64 (k + ((n0 : Int) * 2 + (suK K0 n0 : Int)))) ∧ BookR S w' s0 n0 (PermX k K0) (PermY k K0) K0 (PermV k K0) ∧ Turn S w w' := by
  have O0 : Hid (PerR S w s0 n0 X0 Y0 K0 V0) := HR
  have u0 : Hid (∀ k, S k → S k) := fun _ h => h
  replace hS : Hid (∀ q, S q → q < w.heap.size) := hS
  go_enter Try.func21, Try.ntmps21
  go_wp2_with fail
  obtain ⟨wa, hwa⟩ : ∃ x, x = w.alloc (.cells #[.slice s0 n0 c0] 36) := ⟨_, rfl⟩
  rw [← hwa]
  have B0 : Turn S w wa := by rw [hwa]; exact Turn.grown (by repeat (first | with_reducible exact Below.refl _ _ | with_reducible refine Below.setCell ?_ (by first | omega | (simp; done) | (simp; omega)) _ | with_reducible refine bDrewN ?_ _ | with_reducible refine Below.drew ?_ | with_reducible refine Below.alloc ?_ (by first | omega | (simp; done) | (simp; omega)) _))
  have z0 : w.heap.size < wa.heap.size := by rw [hwa]; simp
  have p0 : wa.cell? ⟨w.heap.size, 0, none⟩ = some (.slice s0 n0 c0) := by rw [hwa]; simp [go_sem]
  replace O0 : Hid (PerR S wa s0 n0 X0 Y0 K0 V0) := by rw [hwa]; exact O0.out.below (by repeat (first | with_reducible exact Below.refl _ _ | with_reducible refine Below.setCell ?_ (by first | omega | (simp; done) | (simp; omega)) _ | with_reducible refine bDrewN ?_ _ | with_reducible refine Below.drew ?_ | with_reducible refine Below.alloc ?_ (by first | omega | (simp; done) | (simp; omega)) _))
  clear hwa
  refine (markPermitS_r S s0 n0 c0 (k) X0 Y0 K0 V0 _ hn0 (by omega) (by omega) O0.out).mono ?_
  rintro e w0 ⟨rfl, OM, T⟩
  have HOM : Hid (PerR S w0 s0 n0 (PermX k K0) (PermY k K0) K0 (PermV k K0)) := OM
  clear OM
  replace z0 := Nat.lt_of_lt_of_le z0 T.size
  replace B0 : Turn S w w0 := B0.trans (T.mono u0.out)
  clear T
  go_wp2
  go_ret
  exact ⟨ret_int (by first | rfl | omega), HOM.out, B0⟩
set_option maxRecDepth 20000 in
set_option maxHeartbeats 2000000 in
theorem heldBook_r (n0 : Nat) (X0 : Nat → Int) (Y0 : Nat → Int) (K0 : Nat → Nat) (V0 : Nat → Nat → Int) (s0 : Option Addr) (c0 : Nat) (k : Int) (w : World) (hn0 : ((n0 : Int) + (suK K0 n0 : Int)) ≤ 1048576) (k0 : 0 ≤ k) (k1 : k ≤ 40000000) (HR : Hid (RowBook w s0 n0 (PermX k K0) (PermY k K0) K0 (PermV k K0))) :
    Calls Try.prog 23 #[.agg #[.slice s0 n0 c0], .int .i64 k] w fun e w' => e = .returned (.int .i64 (k + ((n0 : Int) * 2 + (suK K0 n0 : Int)))) ∧ Below w.heap.size w w' := by
  have HP : Hid (RowPer w s0 n0 (PermX k K0) (PermY k K0) K0 (PermV k K0)) := HR.out
  go_enter Try.func23, Try.ntmps23
  go_wp2_with fail
  refine (heldPermitS_r s0 n0 c0 k K0 _ hn0 k0 k1 (HP.out.below (by repeat (first | with_reducible exact Below.refl _ _ | with_reducible refine Below.setCell ?_ (by first | omega | (simp; done) | (simp; omega)) _ | with_reducible refine bDrewN ?_ _ | with_reducible refine Below.drew ?_ | with_reducible refine Below.alloc ?_ (by first | omega | (simp; done) | (simp; omega)) _)))).mono ?_
  rintro e w3 ⟨rfl, rfl⟩
  obtain ⟨Q, hQ⟩ : ∃ z, k + ((n0 : Int) * 2 + (suK K0 n0 : Int)) = z := ⟨_, rfl⟩
  have q0 : ¬ Q < 0 := by omega
  have HQ : Hid (k + ((n0 : Int) * 2 + (suK K0 n0 : Int)) = Q) := hQ
  rw [hQ]
  clear hQ
  go_wp2
  go_ret
  exact ⟨ret_int HQ.out.symm, (by repeat (first | with_reducible exact Below.refl _ _ | with_reducible refine Below.setCell ?_ (by first | omega | (simp; done) | (simp; omega)) _ | with_reducible refine bDrewN ?_ _ | with_reducible refine Below.drew ?_ | with_reducible refine Below.alloc ?_ (by first | omega | (simp; done) | (simp; omega)) _))⟩

open Go.ChangeShapes Go.WideShapes Go.ChangeAt Go.RowKit

theorem addr_add1 (b o k : Nat) : (⟨b, o, none⟩ : Addr).add k = ⟨b, o + k, none⟩ := by
  unfold Addr.add
  split
  · rename_i h; subst h; rfl
  · rfl
theorem slice_spot1 {w : World} {b0 : Nat} {t e : TypeId} {a : Addr} {n c : Nat} (ht : Try.prog.underlying t = some (.slice e)) (hv : Value.okWide Try.prog w .any b0 t (.slice (some a) n c)) : a.spot = none := by
  simp only [Value.okWide, ht, Cell.okWide, Cell.ok] at hv
  exact hv.2.2.2.1
theorem cell_lt1 {w : World} {p : Addr} {v : Value} (h : w.cell? p = some v) : p.block < w.heap.size := by
  rcases Nat.lt_or_ge p.block w.heap.size with z | z
  · exact z
  · exfalso
    simp [World.cell?, Array.getElem?_eq_none z] at h
/-- THE LIST OPENED, of any kind of integers. -/
theorem open_kind {H : Type} {enc : TypeId × Value → H} {w : World} {b0 : Nat} {t e : TypeId} {k : IntKind} {v : Value} {d : DataW H} {ps : List MemPlace} {sp : Nat → Bool} {held : Bool} (ht : Try.prog.underlying t = some (.slice e)) (he : Try.prog.underlying e = some (.int k))
    (ce : Try.prog.cellsOf e = 1) (hv : Value.okWide Try.prog w .any b0 t v) (h : DataW.Trod enc Try.prog w 0 sp held t v d ps) :
    ∃ s n c, ∃ V : Nat → Int, v = .slice s n c ∧ n ≤ 9223372036854775807 ∧ ∀ j, j < n → ∃ b o, s = some ⟨b, o, none⟩ ∧ b < w.heap.size ∧ w.cell? ⟨b, o + j, none⟩ = some (.int k (V j)) ∧ (Lit.int k (V j)).wf = true := by
  have hsl : ∃ s n c, v = .slice s n c := by
    simp only [Value.okWide, ht, Cell.okWide] at hv
    cases v <;> simp_all [Cell.ok]
  obtain ⟨s, n, c, rfl⟩ := hsl
  obtain ⟨fuel, hf⟩ := h
  have hf' : DataW.trod enc Try.prog w 0 sp held fuel t [.slice s n c] = some (d, ps) := hf
  rcases Go.Deep.open_slice1 ht ce hf' with ⟨e1, _⟩ | ⟨a, len, cap, m, q, V, D, Pl, e1, _, hl, hm, hmm, _, hx⟩
  · simp only [List.cons.injEq, and_true, Value.slice.injEq] at e1
    obtain ⟨rfl, rfl, rfl⟩ := e1
    exact ⟨none, 0, 0, fun _ => 0, rfl, by omega, fun j hj => by omega⟩
  · simp only [List.cons.injEq, and_true, Value.slice.injEq] at e1
    obtain ⟨rfl, rfl, rfl⟩ := e1
    have hsp := slice_spot1 ht hv
    obtain ⟨b, o, spot⟩ := a
    simp only at hsp
    subst hsp
    have hle : n ≤ m := by rw [hmm]; split <;> omega
    have each : ∀ i, i < n → ∃ z : Int, w.cell? ⟨b, o + i, none⟩ = some (.int k z) ∧ (Lit.int k z).wf = true := by
      intro i hi
      obtain ⟨h0, t0⟩ := hx i (by omega)
      rw [addr_add1] at h0
      obtain ⟨z0, q0, _, wz⟩ := DataW.trod_int he t0
      simp only [List.cons.injEq, and_true] at q0
      exact ⟨z0, by rw [h0, q0], wz⟩
    obtain ⟨f, hfn⟩ := Go.Deep.choose_lt each
    refine ⟨some ⟨b, o, none⟩, n, c, f, rfl, ?_, fun j hj => ?_⟩
    · have : maxLen = 9223372036854775807 := by decide
      omega
    · obtain ⟨h0, h1⟩ := hfn j hj
      exact ⟨b, o, rfl, cell_lt1 h0, h0, h1⟩
theorem wf64 {m : Int} (h : (Lit.int .i64 m).wf = true) : -9223372036854775808 ≤ m ∧ m ≤ 9223372036854775807 := by
  simp only [Lit.wf, Bool.and_eq_true, decide_eq_true_eq] at h
  exact h
/-- A list of int64s. -/
theorem open_i64s {H : Type} {enc : TypeId × Value → H} {w : World} {b0 : Nat} {t e : TypeId} {v : Value} {d : DataW H} {ps : List MemPlace} {sp : Nat → Bool} {held : Bool} (ht : Try.prog.underlying t = some (.slice e)) (he : Try.prog.underlying e = some (.int .i64))
    (ce : Try.prog.cellsOf e = 1) (hv : Value.okWide Try.prog w .any b0 t v) (h : DataW.Trod enc Try.prog w 0 sp held t v d ps) :
    ∃ s n c, ∃ V : Nat → Int, v = .slice s n c ∧ n ≤ 9223372036854775807 ∧ RowI w s n V ∧ ∀ j, j < n → -9223372036854775808 ≤ V j ∧ V j ≤ 9223372036854775807 := by
  obtain ⟨s, n, c, V, e1, e2, e3⟩ := open_kind ht he ce hv h
  refine ⟨s, n, c, V, e1, e2, fun j hj => ?_, fun j hj => ?_⟩
  · obtain ⟨b, o, h1, h2, h3, _⟩ := e3 j hj
    exact ⟨b, o, h1, h2, h3⟩
  · obtain ⟨b, o, _, _, _, h4⟩ := e3 j hj
    exact wf64 h4

open Go.ChangeShapes Go.WideShapes Go.ChangeAt Go.RowKit
set_option linter.unusedVariables false
set_option linter.unusedSimpArgs false

theorem cell_wideNet {w : World} {b0 : Nat} {t e : TypeId} {v : Value} (ht : Try.prog.underlying t = some (.slice e)) (hv : Cell.okWide Try.prog w .any b0 t v) : Value.okWide Try.prog w .any b0 t v := by
  simp only [Value.okWide, ht]
  exact hv
theorem cells_sliceNet {w : World} {b0 : Nat} {t e : TypeId} {v : Value} (ht : Try.prog.underlying t = some (.slice e)) (hv : Cell.okWide Try.prog w .any b0 t v) : v.cells.toList = [v] := by
  simp only [Cell.okWide, ht] at hv
  cases v <;> simp_all [Cell.ok, Value.cells]
theorem open_Net' {H : Type} {enc : TypeId × Value → H} {w : World} {b0 : Nat} {f0 f1 f2 : Field} {v : Value} {d : DataW H} {ps : List MemPlace} {sp : Nat → Bool} {held : Bool} (hs : Try.prog.underlying 25 = some (.struct #[f0, f1, f2])) (hts : Try.prog.cellTypes Try.prog.depth 25 = some [2, 22, 23]) (hC : Try.prog.cellsOf 25 = 3)
    (y1 : f1.type = 22) (o1 : f1.offset = 1) (k1 : Try.prog.cellsOf 22 = 1) (y2 : f2.type = 23) (o2 : f2.offset = 2) (k2 : Try.prog.cellsOf 23 = 1)
    (hv : Value.okWide Try.prog w .any b0 25 v) (h : DataW.Trod enc Try.prog w 0 sp held 25 v d ps) :
    ∃ (x0 : Int) (s1 : Option Addr) (n1 c1 : Nat) (V1 : Nat → Int × Int) (s2 : Option Addr) (n2 c2 : Nat) (V2 : Nat → Int), v = .agg #[.int .i64 x0, .slice s1 n1 c1, .slice s2 n2 c2] ∧ (Lit.int .i64 x0).wf = true ∧ n1 ≤ 9223372036854775807 ∧ RowDuct w s1 n1 V1 ∧ n2 ≤ 9223372036854775807 ∧ RowI w s2 n2 V2 := by
  obtain ⟨vs, rfl, hc⟩ := open_cells hs (ts := [2, 22, 23]) hts hC hv
  obtain ⟨v0, r0, rfl, q0, ck0⟩ := cellsOk_cons hc
  obtain ⟨v1, r1, rfl, q1, ck1⟩ := cellsOk_cons ck0
  obtain ⟨v2, r2, rfl, q2, ck2⟩ := cellsOk_cons ck1
  obtain rfl := cellsOk_nil ck2
  obtain ⟨x0, rfl, w0⟩ := cell_int Try.underlying2 q0
  obtain ⟨fuel, hf⟩ := h
  have hf' : DataW.trod enc Try.prog w 0 sp held fuel 25 [.int .i64 x0, v1, v2] = some (d, ps) := hf
  obtain ⟨xs, k', hk, hxy, _, hxl, hfld⟩ := DataW.trod_struct hs hf'
  match xs, hxl with
  | [y0_, y1_, y2_], _ =>
    have g1 := hfld 1 f1 rfl
    simp [o1, y1, k1] at g1
    obtain ⟨s1, n1, c1, V1, e1, m1, R1⟩ := open_DuctS Try.underlying22 Try.underlying116 (by kernel_rfl) rfl rfl (by kernel_rfl) (by kernel_rfl) (by kernel_rfl) (by kernel_rfl) (cell_wideNet Try.underlying22 q1) ⟨_, show DataW.trod enc Try.prog w 0 _ _ _ 22 v1.cells.toList = some _ by rw [cells_sliceNet Try.underlying22 q1]; exact g1⟩
    have g2 := hfld 2 f2 rfl
    simp [o2, y2, k2] at g2
    obtain ⟨s2, n2, c2, V2, e2, m2, R2, _⟩ := open_i64s Try.underlying23 Try.underlying2 (by kernel_rfl) (cell_wideNet Try.underlying23 q2) ⟨_, show DataW.trod enc Try.prog w 0 _ _ _ 23 v2.cells.toList = some _ by rw [cells_sliceNet Try.underlying23 q2]; exact g2⟩
    subst e1
    subst e2
    exact ⟨x0, s1, n1, c1, V1, s2, n2, c2, V2, rfl, w0, m1, R1, m2, R2⟩
theorem open_Net {H : Type} {enc : TypeId × Value → H} {w : World} {b0 : Nat} {v : Value} {d : DataW H} {ps : List MemPlace} {sp : Nat → Bool} {held : Bool} (hv : Value.okWide Try.prog w .any b0 25 v) (h : DataW.Trod enc Try.prog w 0 sp held 25 v d ps) :
    ∃ (x0 : Int) (s1 : Option Addr) (n1 c1 : Nat) (V1 : Nat → Int × Int) (s2 : Option Addr) (n2 c2 : Nat) (V2 : Nat → Int), v = .agg #[.int .i64 x0, .slice s1 n1 c1, .slice s2 n2 c2] ∧ (Lit.int .i64 x0).wf = true ∧ n1 ≤ 9223372036854775807 ∧ RowDuct w s1 n1 V1 ∧ n2 ≤ 9223372036854775807 ∧ RowI w s2 n2 V2 :=
  open_Net' Try.underlying25 (by kernel_rfl) (by kernel_rfl) rfl rfl (by kernel_rfl) rfl rfl (by kernel_rfl) hv h

open Go.ChangeShapes Go.WideShapes Go.ChangeAt Go.RowKit
set_option linter.unusedVariables false
set_option linter.unusedSimpArgs false

set_option maxHeartbeats 2000000 in
theorem markNet_r (x0 : Int) (n1 : Nat) (V1 : Nat → Int × Int) (n2 : Nat) (V2 : Nat → Int) (s1 : Option Addr) (c1 : Nat) (s2 : Option Addr) (c2 : Nat) (S : Nat → Prop) (k : Int) (w : World) (hn1 : (n1 : Int) ≤ 1048576) (hn2 : (n2 : Int) ≤ 1048576) (k0 : 0 ≤ k) (k1 : k ≤ 40000000) (hS : ∀ q, S q → q < w.heap.size) (HR : Hid (NetR S w s1 n1 V1 s2 n2 V2)) :
    Calls Try.prog 20 #[.agg #[.int .i64 x0, .slice s1 n1 c1, .slice s2 n2 c2], .int .i64 k] w fun e w' => e = .returned (.int .i64 (k + (n1 * 2 : Nat) + n2)) ∧ Turn S w w' := by
  obtain ⟨S1, S2, u1, u2, d0, O1, O2⟩ := HR.out
  replace O1 : Hid (DuctR S1 w s1 n1 V1) := O1
  replace u1 : Hid (∀ k, S1 k → S k) := u1
  replace O2 : Hid (I64R S2 w s2 n2 V2) := O2
  replace u2 : Hid (∀ k, S2 k → S k) := u2
  replace d0 : Hid (∀ k, S1 k → ¬ S2 k) := d0
  replace hS : Hid (∀ q, S q → q < w.heap.size) := hS
  go_enter Try.func20, Try.ntmps20
  go_wp2_with fail
  obtain ⟨wa, hwa⟩ : ∃ x, x = w.alloc (.cells #[.int .i64 x0, .slice s1 n1 c1, .slice s2 n2 c2] 41) := ⟨_, rfl⟩
  rw [← hwa]
  have B0 : Turn S w wa := by rw [hwa]; exact Turn.grown (by repeat (first | with_reducible exact Below.refl _ _ | with_reducible refine Below.setCell ?_ (by first | omega | (simp; done) | (simp; omega)) _ | with_reducible refine bDrewN ?_ _ | with_reducible refine Below.drew ?_ | with_reducible refine Below.alloc ?_ (by first | omega | (simp; done) | (simp; omega)) _))
  have z0 : w.heap.size < wa.heap.size := by rw [hwa]; simp
  have p1 : wa.cell? ⟨w.heap.size, 1, none⟩ = some (.slice s1 n1 c1) := by rw [hwa]; simp [go_sem]
  replace O1 : Hid (DuctR S1 wa s1 n1 V1) := by rw [hwa]; exact O1.out.below (by repeat (first | with_reducible exact Below.refl _ _ | with_reducible refine Below.setCell ?_ (by first | omega | (simp; done) | (simp; omega)) _ | with_reducible refine bDrewN ?_ _ | with_reducible refine Below.drew ?_ | with_reducible refine Below.alloc ?_ (by first | omega | (simp; done) | (simp; omega)) _))
  have p2 : wa.cell? ⟨w.heap.size, 2, none⟩ = some (.slice s2 n2 c2) := by rw [hwa]; simp [go_sem]
  replace O2 : Hid (I64R S2 wa s2 n2 V2) := by rw [hwa]; exact O2.out.below (by repeat (first | with_reducible exact Below.refl _ _ | with_reducible refine Below.setCell ?_ (by first | omega | (simp; done) | (simp; omega)) _ | with_reducible refine bDrewN ?_ _ | with_reducible refine Below.drew ?_ | with_reducible refine Below.alloc ?_ (by first | omega | (simp; done) | (simp; omega)) _))
  clear hwa
  refine (markDuctS_r S1 s1 n1 c1 (k) V1 _ hn1 (by omega) (by omega) O1.out).mono ?_
  rintro e w0 ⟨rfl, -, T⟩
  replace p2 := (T.cell (p := ⟨w.heap.size, 2, none⟩) z0 (fun q => Nat.lt_irrefl _ (hS.out _ (u1.out _ q)))).trans p2
  replace O2 : Hid (I64R S2 w0 s2 n2 V2) := O2.out.keep T.size (fun x hx hl => T.2.2.2.2 x hl (fun q => d0.out x q hx))
  replace z0 := Nat.lt_of_lt_of_le z0 T.size
  replace B0 : Turn S w w0 := B0.trans (T.mono u1.out)
  clear T
  go_wp2_with fail
  refine (markInt64S_r S2 s2 n2 c2 (k + (n1 * 2 : Nat)) V2 _ hn2 (by omega) (by omega) O2.out).mono ?_
  rintro e w1 ⟨rfl, -, T⟩
  replace z0 := Nat.lt_of_lt_of_le z0 T.size
  replace B0 : Turn S w w1 := B0.trans (T.mono u2.out)
  clear T
  go_wp2
  go_ret
  exact ⟨ret_int (by first | rfl | omega), B0⟩

open Go.ChangeShapes Go.WideShapes Go.ChangeAt Go.RowKit
set_option linter.unusedVariables false
set_option linter.unusedSimpArgs false

def RowPrm (w : World) (s2 : Option Addr) (n2 : Nat) (V2 : Nat → Int) : Prop := RowI w s2 n2 V2
theorem RowPrm.below {w w' : World} {s2 : Option Addr} {n2 : Nat} {V2 : Nat → Int} (h : RowPrm w s2 n2 V2) (hb : Below w.heap.size w w') : RowPrm w' s2 n2 V2 := RowI.below h hb
def PrmR (S : Nat → Prop) (w : World) (s2 : Option Addr) (n2 : Nat) (V2 : Nat → Int) : Prop := I64R S w s2 n2 V2
theorem PrmR.row {S : Nat → Prop} {w : World} {s2 : Option Addr} {n2 : Nat} {V2 : Nat → Int} (h : PrmR S w s2 n2 V2) : RowPrm w s2 n2 V2 := I64R.row h
theorem PrmR.keep {S : Nat → Prop} {w w' : World} {s2 : Option Addr} {n2 : Nat} {V2 : Nat → Int} (h : PrmR S w s2 n2 V2) (hs : w.heap.size ≤ w'.heap.size) (hb : ∀ k, S k → k < w.heap.size → w'.heap[k]? = w.heap[k]?) : PrmR S w' s2 n2 V2 := I64R.keep h hs hb
theorem PrmR.below {S : Nat → Prop} {w w' : World} {s2 : Option Addr} {n2 : Nat} {V2 : Nat → Int} (h : PrmR S w s2 n2 V2) (hb : Below w.heap.size w w') : PrmR S w' s2 n2 V2 := h.keep hb.size fun k _ hk => hb.block k hk
set_option maxHeartbeats 800000 in
theorem szPrm_on (x0 : Int) (x1 : Int) (n2 : Nat) (V2 : Nat → Int) (s2 : Option Addr) (c2 : Nat) (k : Int) (w : World) (h0 : 0 ≤ k) (h1 : k ≤ 1048576) (g2 : (n2 : Int) ≤ k) : Calls Try.prog 11 #[.agg #[.int .i64 x0, .int .i64 x1, .slice s2 n2 c2], .int .i64 k] w fun e w' => e = .returned (.int .i64 (k - n2)) ∧ Below w.heap.size w w' := by
  go_enter Try.func11, Try.ntmps11
  go_wp2_with fail
  refine (szInt64S_on _ n2 _ _ _ (by omega) (by omega) g2).mono ?_
  rintro e w1 ⟨rfl, rfl⟩
  go_wp2
  go_ret
  exact ⟨rfl, (by repeat (first | with_reducible exact Below.refl _ _ | with_reducible refine Below.setCell ?_ (by first | omega | (simp; done) | (simp; omega)) _ | with_reducible refine bDrewN ?_ _ | with_reducible refine Below.drew ?_ | with_reducible refine Below.alloc ?_ (by first | omega | (simp; done) | (simp; omega)) _))⟩
set_option maxHeartbeats 800000 in
theorem szPrm_off2 (x0 : Int) (x1 : Int) (n2 : Nat) (V2 : Nat → Int) (s2 : Option Addr) (c2 : Nat) (k : Int) (w : World) (h0 : 0 ≤ k) (h1 : k ≤ 1048576) (g2 : k < (n2 : Int)) (gg2 : (n2 : Int) ≤ 9223372036854775807) : Calls Try.prog 11 #[.agg #[.int .i64 x0, .int .i64 x1, .slice s2 n2 c2], .int .i64 k] w fun e w' => e = .returned (.int .i64 (-1)) ∧ Below w.heap.size w w' := by
  go_enter Try.func11, Try.ntmps11
  go_wp2_with fail
  refine (szInt64S_off _ n2 _ _ _ (by omega) (by omega) g2 gg2).mono ?_
  rintro e w1 ⟨rfl, rfl⟩
  go_wp2
  go_ret
  exact ⟨rfl, (by repeat (first | with_reducible exact Below.refl _ _ | with_reducible refine Below.setCell ?_ (by first | omega | (simp; done) | (simp; omega)) _ | with_reducible refine bDrewN ?_ _ | with_reducible refine Below.drew ?_ | with_reducible refine Below.alloc ?_ (by first | omega | (simp; done) | (simp; omega)) _))⟩
set_option maxHeartbeats 2000000 in
theorem eqPrm_r (x0 : Int) (x1 : Int) (n2 : Nat) (V2 : Nat → Int) (s2 : Option Addr) (c2 : Nat) (t2 : Option Addr) (e2 : Nat) (w : World) (hn2 : (n2 : Int) ≤ 1048576) (H1 : Hid (RowPrm w s2 n2 V2)) (H2 : Hid (RowPrm w t2 n2 V2)) :
    Calls Try.prog 19 #[.agg #[.int .i64 x0, .int .i64 x1, .slice s2 n2 c2], .agg #[.int .i64 x0, .int .i64 x1, .slice t2 n2 e2]] w fun e w' => e = .returned (.bool true) ∧ Below w.heap.size w w' := by
  go_enter Try.func19, Try.ntmps19
  go_wp2_with fail
  obtain ⟨wa, hwa⟩ : ∃ x, x = (w.alloc (.cells #[.int .i64 x0, .int .i64 x1, .slice s2 n2 c2] 44)).alloc (.cells #[.int .i64 x0, .int .i64 x1, .slice t2 n2 e2] 44) := ⟨_, rfl⟩
  rw [← hwa]
  have B0 : Below w.heap.size w wa := by rw [hwa]; exact (by repeat (first | with_reducible exact Below.refl _ _ | with_reducible refine Below.setCell ?_ (by first | omega | (simp; done) | (simp; omega)) _ | with_reducible refine bDrewN ?_ _ | with_reducible refine Below.drew ?_ | with_reducible refine Below.alloc ?_ (by first | omega | (simp; done) | (simp; omega)) _))
  have p2 : wa.cell? ⟨w.heap.size, 2, none⟩ = some (.slice s2 n2 c2) := by rw [hwa]; simp [go_sem]
  have q2 : wa.cell? ⟨w.heap.size + 1, 2, none⟩ = some (.slice t2 n2 e2) := by rw [hwa]; simp [go_sem]
  have z : w.heap.size + 1 < wa.heap.size := by rw [hwa]; simp
  have z0 : w.heap.size < wa.heap.size := by omega
  clear hwa
  refine (eqInt64S_any s2 t2 n2 c2 e2 V2 _ hn2 ((show RowI w s2 n2 V2 from H1.out).below B0) ((show RowI w t2 n2 V2 from H2.out).below B0)).mono ?_
  rintro e w0 ⟨rfl, h⟩
  replace z := Nat.lt_of_lt_of_le z h.size
  replace z0 := Nat.lt_of_lt_of_le z0 h.size
  replace B0 : Below w.heap.size w w0 := B0.trans (h.mono B0.size)
  clear h
  go_wp2
  go_ret
  exact ⟨rfl, (by repeat (first | with_reducible exact Below.refl _ _ | with_reducible exact B0 | with_reducible refine Below.setCell ?_ (by first | omega | (simp; done) | (simp; omega)) _ | with_reducible refine bDrewN ?_ _ | with_reducible refine Below.drew ?_ | with_reducible refine Below.alloc ?_ (by first | omega | (simp; done) | (simp; omega)) _))⟩
set_option maxHeartbeats 4000000 in
theorem toPrm_r (x0 : Int) (x1 : Int) (n2 : Nat) (V2 : Nat → Int) (s2 : Option Addr) (c2 : Nat) (w : World) (hn2 : (n2 : Int) ≤ 1048576) (HR : Hid (RowPrm w s2 n2 V2)) :
    Calls Try.prog 15 #[.agg #[.int .i64 x0, .int .i64 x1, .slice s2 n2 c2]] w fun e w' => ∃ (s2' : Option Addr) (S : Nat → Prop), e = .returned (.agg #[.int .i64 x0, .int .i64 x1, .slice s2' n2 n2]) ∧ (∀ k, S k → w.heap.size ≤ k ∧ k < w'.heap.size) ∧ PrmR S w' s2' n2 V2 ∧ Below w.heap.size w w' := by
  have sto := store_slT
  go_enter Try.func15, Try.ntmps15
  go_wp2_with fail
  obtain ⟨wa, hwa⟩ : ∃ x, x = ((w.alloc (.cells #[.int .i64 x0, .int .i64 x1, .slice s2 n2 c2] 30)).alloc (.cells #[.int .i64 0, .int .i64 0, .slice none 0 0] 44)).alloc (.cells #[.int .i64 x0, .int .i64 x1, .slice none 0 0] 44) := ⟨_, rfl⟩
  rw [← hwa]
  have B0 : Below w.heap.size w wa := by rw [hwa]; exact (by repeat (first | with_reducible exact Below.refl _ _ | with_reducible refine Below.setCell ?_ (by first | omega | (simp; done) | (simp; omega)) _ | with_reducible refine bDrewN ?_ _ | with_reducible refine Below.drew ?_ | with_reducible refine Below.alloc ?_ (by first | omega | (simp; done) | (simp; omega)) _))
  have p0 : wa.cell? ⟨w.heap.size, 0, none⟩ = some (.int .i64 x0) := by rw [hwa]; simp [go_sem]
  have r0 : wa.cell? ⟨w.heap.size + 1, 0, none⟩ = some (.int .i64 0) := by rw [hwa]; simp [go_sem]
  have d0 : wa.cell? ⟨w.heap.size + 1 + 1, 0, none⟩ = some (.int .i64 x0) := by rw [hwa]; simp [go_sem]
  have p1 : wa.cell? ⟨w.heap.size, 1, none⟩ = some (.int .i64 x1) := by rw [hwa]; simp [go_sem]
  have r1 : wa.cell? ⟨w.heap.size + 1, 1, none⟩ = some (.int .i64 0) := by rw [hwa]; simp [go_sem]
  have d1 : wa.cell? ⟨w.heap.size + 1 + 1, 1, none⟩ = some (.int .i64 x1) := by rw [hwa]; simp [go_sem]
  have p2 : wa.cell? ⟨w.heap.size, 2, none⟩ = some (.slice s2 n2 c2) := by rw [hwa]; simp [go_sem]
  have r2 : wa.cell? ⟨w.heap.size + 1, 2, none⟩ = some (.slice none 0 0) := by rw [hwa]; simp [go_sem]
  have d2 : wa.cell? ⟨w.heap.size + 1 + 1, 2, none⟩ = some (.slice none 0 0) := by rw [hwa]; simp [go_sem]
  have fr : ∀ o, wa.frozen? ⟨w.heap.size + 1, o, none⟩ = false := by intro o; rw [hwa]; simp [go_sem]
  have fd : ∀ o, wa.frozen? ⟨w.heap.size + 1 + 1, o, none⟩ = false := by intro o; rw [hwa]; simp [go_sem]
  have z2 : w.heap.size + 1 + 1 < wa.heap.size := by rw [hwa]; simp
  have z1 : w.heap.size + 1 < wa.heap.size := by omega
  have z0 : w.heap.size < wa.heap.size := by omega
  clear hwa
  refine (toInt64S_r s2 n2 c2 V2 _ hn2 ((show RowI w s2 n2 V2 from HR.out).below B0)).mono ?_
  rintro e wc0 ⟨s2', S2, rfl, Q, O, h⟩
  have l0 : wa.heap.size ≤ wc0.heap.size := h.size
  have lo0 : w.heap.size + 1 + 1 + 1 ≤ wa.heap.size := z2
  replace p0 := (h.cell (p := ⟨w.heap.size, 0, none⟩) z0).trans p0
  replace r0 := (h.cell (p := ⟨w.heap.size + 1, 0, none⟩) z1).trans r0
  replace d0 := (h.cell (p := ⟨w.heap.size + 1 + 1, 0, none⟩) z2).trans d0
  replace p1 := (h.cell (p := ⟨w.heap.size, 1, none⟩) z0).trans p1
  replace r1 := (h.cell (p := ⟨w.heap.size + 1, 1, none⟩) z1).trans r1
  replace d1 := (h.cell (p := ⟨w.heap.size + 1 + 1, 1, none⟩) z2).trans d1
  replace p2 := (h.cell (p := ⟨w.heap.size, 2, none⟩) z0).trans p2
  replace r2 := (h.cell (p := ⟨w.heap.size + 1, 2, none⟩) z1).trans r2
  replace d2 := (h.cell (p := ⟨w.heap.size + 1 + 1, 2, none⟩) z2).trans d2
  replace fr : ∀ o, wc0.frozen? ⟨w.heap.size + 1, o, none⟩ = false := fun o => (h.frozen (p := ⟨w.heap.size + 1, o, none⟩) z1).trans (fr o)
  replace fd : ∀ o, wc0.frozen? ⟨w.heap.size + 1 + 1, o, none⟩ = false := fun o => (h.frozen (p := ⟨w.heap.size + 1 + 1, o, none⟩) z2).trans (fd o)
  replace z2 := Nat.lt_of_lt_of_le z2 h.size
  replace z1 := Nat.lt_of_lt_of_le z1 h.size
  replace z0 := Nat.lt_of_lt_of_le z0 h.size
  replace B0 : Below w.heap.size w wc0 := B0.trans (h.mono B0.size)
  have O2 : Hid (I64R S2 wc0 s2' n2 V2) := O
  have Q2 : Hid (∀ k, S2 k → wa.heap.size ≤ k ∧ k < wc0.heap.size) := Q
  clear h O Q
  go_wp2
  exact bodyPost_ret (v := .agg #[.int .i64 x0, .int .i64 x1, .slice s2' n2 n2]) (by simp [results, Try.results15, go_sem, r0, d0, r1, d1, r2, d2]) rfl ⟨s2', S2, rfl, fun k hk => by have := Q2.out k hk; simp; omega, (show PrmR _ _ s2' n2 V2 from ((((O2.out.set (fun q => by have := Q2.out _ q; omega)).set (fun q => by have := Q2.out _ q; omega)).set (fun q => by have := Q2.out _ q; omega)).set (fun q => by have := Q2.out _ q; omega))), (by repeat (first | with_reducible exact Below.refl _ _ | with_reducible exact B0 | with_reducible refine Below.setCell ?_ (by first | omega | (simp; done) | (simp; omega)) _ | with_reducible refine bDrewN ?_ _ | with_reducible refine Below.drew ?_ | with_reducible refine Below.alloc ?_ (by first | omega | (simp; done) | (simp; omega)) _))⟩
set_option maxHeartbeats 2000000 in
theorem markPrm_r (x0 : Int) (x1 : Int) (n2 : Nat) (V2 : Nat → Int) (s2 : Option Addr) (c2 : Nat) (S : Nat → Prop) (k : Int) (w : World) (hn2 : (n2 : Int) ≤ 1048576) (k0 : 0 ≤ k) (k1 : k ≤ 40000000) (hS : ∀ q, S q → q < w.heap.size) (HR : Hid (PrmR S w s2 n2 V2)) :
    Calls Try.prog 22 #[.agg #[.int .i64 x0, .int .i64 x1, .slice s2 n2 c2], .int .i64 k] w fun e w' => e = .returned (.int .i64 (k + n2)) ∧ Turn S w w' := by
  have O2 : Hid (I64R S w s2 n2 V2) := HR
  have u2 : Hid (∀ k, S k → S k) := fun _ h => h
  replace hS : Hid (∀ q, S q → q < w.heap.size) := hS
  go_enter Try.func22, Try.ntmps22
  go_wp2_with fail
  obtain ⟨wa, hwa⟩ : ∃ x, x = w.alloc (.cells #[.int .i64 x0, .int .i64 x1, .slice s2 n2 c2] 44) := ⟨_, rfl⟩
  rw [← hwa]
  have B0 : Turn S w wa := by rw [hwa]; exact Turn.grown (by repeat (first | with_reducible exact Below.refl _ _ | with_reducible refine Below.setCell ?_ (by first | omega | (simp; done) | (simp; omega)) _ | with_reducible refine bDrewN ?_ _ | with_reducible refine Below.drew ?_ | with_reducible refine Below.alloc ?_ (by first | omega | (simp; done) | (simp; omega)) _))
  have z0 : w.heap.size < wa.heap.size := by rw [hwa]; simp
  have p2 : wa.cell? ⟨w.heap.size, 2, none⟩ = some (.slice s2 n2 c2) := by rw [hwa]; simp [go_sem]
  replace O2 : Hid (I64R S wa s2 n2 V2) := by rw [hwa]; exact O2.out.below (by repeat (first | with_reducible exact Below.refl _ _ | with_reducible refine Below.setCell ?_ (by first | omega | (simp; done) | (simp; omega)) _ | with_reducible refine bDrewN ?_ _ | with_reducible refine Below.drew ?_ | with_reducible refine Below.alloc ?_ (by first | omega | (simp; done) | (simp; omega)) _))
  clear hwa
  refine (markInt64S_r S s2 n2 c2 (k) V2 _ hn2 (by omega) (by omega) O2.out).mono ?_
  rintro e w0 ⟨rfl, -, T⟩
  replace z0 := Nat.lt_of_lt_of_le z0 T.size
  replace B0 : Turn S w w0 := B0.trans (T.mono u2.out)
  clear T
  go_wp2
  go_ret
  exact ⟨rfl, B0⟩

open Go.ChangeShapes Go.WideShapes Go.ChangeAt Go.RowKit
set_option linter.unusedVariables false
set_option linter.unusedSimpArgs false

theorem cell_widePrm {w : World} {b0 : Nat} {t e : TypeId} {v : Value} (ht : Try.prog.underlying t = some (.slice e)) (hv : Cell.okWide Try.prog w .any b0 t v) : Value.okWide Try.prog w .any b0 t v := by
  simp only [Value.okWide, ht]
  exact hv
theorem cells_slicePrm {w : World} {b0 : Nat} {t e : TypeId} {v : Value} (ht : Try.prog.underlying t = some (.slice e)) (hv : Cell.okWide Try.prog w .any b0 t v) : v.cells.toList = [v] := by
  simp only [Cell.okWide, ht] at hv
  cases v <;> simp_all [Cell.ok, Value.cells]
theorem open_Prm' {H : Type} {enc : TypeId × Value → H} {w : World} {b0 : Nat} {f0 f1 f2 : Field} {v : Value} {d : DataW H} {ps : List MemPlace} {sp : Nat → Bool} {held : Bool} (hs : Try.prog.underlying 30 = some (.struct #[f0, f1, f2])) (hts : Try.prog.cellTypes Try.prog.depth 30 = some [2, 2, 23]) (hC : Try.prog.cellsOf 30 = 3)
    (y2 : f2.type = 23) (o2 : f2.offset = 2) (k2 : Try.prog.cellsOf 23 = 1)
    (hv : Value.okWide Try.prog w .any b0 30 v) (h : DataW.Trod enc Try.prog w 0 sp held 30 v d ps) :
    ∃ (x0 : Int) (x1 : Int) (s2 : Option Addr) (n2 c2 : Nat) (V2 : Nat → Int), v = .agg #[.int .i64 x0, .int .i64 x1, .slice s2 n2 c2] ∧ (Lit.int .i64 x0).wf = true ∧ (Lit.int .i64 x1).wf = true ∧ n2 ≤ 9223372036854775807 ∧ RowI w s2 n2 V2 := by
  obtain ⟨vs, rfl, hc⟩ := open_cells hs (ts := [2, 2, 23]) hts hC hv
  obtain ⟨v0, r0, rfl, q0, ck0⟩ := cellsOk_cons hc
  obtain ⟨v1, r1, rfl, q1, ck1⟩ := cellsOk_cons ck0
  obtain ⟨v2, r2, rfl, q2, ck2⟩ := cellsOk_cons ck1
  obtain rfl := cellsOk_nil ck2
  obtain ⟨x0, rfl, w0⟩ := cell_int Try.underlying2 q0
  obtain ⟨x1, rfl, w1⟩ := cell_int Try.underlying2 q1
  obtain ⟨fuel, hf⟩ := h
  have hf' : DataW.trod enc Try.prog w 0 sp held fuel 30 [.int .i64 x0, .int .i64 x1, v2] = some (d, ps) := hf
  obtain ⟨xs, k', hk, hxy, _, hxl, hfld⟩ := DataW.trod_struct hs hf'
  match xs, hxl with
  | [y0_, y1_, y2_], _ =>
    have g2 := hfld 2 f2 rfl
    simp [o2, y2, k2] at g2
    obtain ⟨s2, n2, c2, V2, e2, m2, R2, _⟩ := open_i64s Try.underlying23 Try.underlying2 (by kernel_rfl) (cell_widePrm Try.underlying23 q2) ⟨_, show DataW.trod enc Try.prog w 0 _ _ _ 23 v2.cells.toList = some _ by rw [cells_slicePrm Try.underlying23 q2]; exact g2⟩
    subst e2
    exact ⟨x0, x1, s2, n2, c2, V2, rfl, w0, w1, m2, R2⟩
theorem open_Permit {H : Type} {enc : TypeId × Value → H} {w : World} {b0 : Nat} {v : Value} {d : DataW H} {ps : List MemPlace} {sp : Nat → Bool} {held : Bool} (hv : Value.okWide Try.prog w .any b0 30 v) (h : DataW.Trod enc Try.prog w 0 sp held 30 v d ps) :
    ∃ (x0 : Int) (x1 : Int) (s2 : Option Addr) (n2 c2 : Nat) (V2 : Nat → Int), v = .agg #[.int .i64 x0, .int .i64 x1, .slice s2 n2 c2] ∧ (Lit.int .i64 x0).wf = true ∧ (Lit.int .i64 x1).wf = true ∧ n2 ≤ 9223372036854775807 ∧ RowI w s2 n2 V2 :=
  open_Prm' Try.underlying30 (by kernel_rfl) (by kernel_rfl) rfl rfl (by kernel_rfl) hv h

end Go.Proofs.Ytikcfpjfcpbfcaa
