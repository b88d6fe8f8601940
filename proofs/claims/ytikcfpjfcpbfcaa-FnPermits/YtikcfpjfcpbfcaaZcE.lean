/-
What is proved: a list of permits: how it is kept; the law's own copy of it in new memory.
-/
import Derived.Test.YtikcfpjfcpbfcaaI64Ez
import Derived.Deep.OwnRows
import Derived.Deep.RegionHeld3
import Derived.Deep.DeepCutAuto
import Derived.Test.YtikcfpjfcpbfcaaZcA
namespace Go.Proofs.Ytikcfpjfcpbfcaa
set_option maxRecDepth 40000
open Go.ChangeShapes Go.WideShapes Go.ChangeAt Go.RowKit
set_option linter.unusedVariables false
set_option linter.unusedSimpArgs false

/-- The list in memory. -/
def PermitR (w : World) (s : Option Addr) (n : Nat) (X0 : Nat → Int) (X1 : Nat → Int) (S2 : Nat → Option Addr) (K2 C2 : Nat → Nat) (V2 : Nat → Nat → Int) : Prop :=
  ∀ j, j < n → ∃ b o, s = some ⟨b, o, none⟩ ∧ b < w.heap.size ∧ w.cell? ⟨b, o + j * 3, none⟩ = some (.int .i64 (X0 j)) ∧ w.cell? ⟨b, o + j * 3 + 1, none⟩ = some (.int .i64 (X1 j)) ∧ w.cell? ⟨b, o + j * 3 + 2, none⟩ = some (.slice (S2 j) (K2 j) (C2 j)) ∧ RowI w (S2 j) (K2 j) (V2 j)
theorem PermitR.below {w w' : World} {s : Option Addr} {n : Nat} {X0 : Nat → Int} {X1 : Nat → Int} {S2 : Nat → Option Addr} {K2 C2 : Nat → Nat} {V2 : Nat → Nat → Int} (h : PermitR w s n X0 X1 S2 K2 C2 V2) (hb : Below w.heap.size w w') : PermitR w' s n X0 X1 S2 K2 C2 V2 := fun j hj => by
  obtain ⟨b, o, e, hl, c0, c1, c2, r2⟩ := h j hj
  exact ⟨b, o, e, Nat.lt_of_lt_of_le hl hb.size, (hb.cell (p := ⟨b, o + j * 3, none⟩) hl).trans c0, (hb.cell (p := ⟨b, o + j * 3 + 1, none⟩) hl).trans c1, (hb.cell (p := ⟨b, o + j * 3 + 2, none⟩) hl).trans c2, r2.below hb⟩
/-- A copy of the list on its way: the first k of n, in the block b. -/
def PermitC (b : Nat) (w : World) (n k : Nat) (X0 : Nat → Int) (X1 : Nat → Int) (G2 : Nat → Nat) (K2 : Nat → Nat) (V2 : Nat → Nat → Int) : Prop :=
  b < w.heap.size ∧ (∀ o, w.frozen? ⟨b, o, none⟩ = false) ∧ (∀ j, j < k → w.cell? ⟨b, j * 3, none⟩ = some (.int .i64 (X0 j)) ∧ w.cell? ⟨b, j * 3 + 1, none⟩ = some (.int .i64 (X1 j)) ∧ w.cell? ⟨b, j * 3 + 2, none⟩ = some (.slice (some ⟨G2 j, 0, none⟩) (K2 j) (K2 j)) ∧ b < G2 j ∧ G2 j < w.heap.size ∧ OwnI (G2 j) w (some ⟨G2 j, 0, none⟩) (K2 j) (V2 j) ∧ (∀ i, i < j → G2 i < G2 j)) ∧ ∀ j, j < n → (w.cell? ⟨b, j * 3, none⟩).isSome = true ∧ (w.cell? ⟨b, j * 3 + 1, none⟩).isSome = true ∧ (w.cell? ⟨b, j * 3 + 2, none⟩).isSome = true
theorem PermitC.row {b n : Nat} {w : World} {X0 : Nat → Int} {X1 : Nat → Int} {G2 : Nat → Nat} {K2 : Nat → Nat} {V2 : Nat → Nat → Int} (h : PermitC b w n n X0 X1 G2 K2 V2) : PermitR w (some ⟨b, 0, none⟩) n X0 X1 (fun j => some ⟨G2 j, 0, none⟩) K2 K2 V2 := fun j hj => by
  obtain ⟨h1, h2, h3, h4⟩ := h
  obtain ⟨c0, c1, c2, -, -, r2, -⟩ := h3 j hj
  exact ⟨b, 0, rfl, h1, by simpa using c0, by simpa using c1, by simpa using c2, r2.row⟩
theorem PermitC.below {b n k : Nat} {w w' : World} {X0 : Nat → Int} {X1 : Nat → Int} {G2 : Nat → Nat} {K2 : Nat → Nat} {V2 : Nat → Nat → Int} (h : PermitC b w n k X0 X1 G2 K2 V2) (hb : Below w.heap.size w w') : PermitC b w' n k X0 X1 G2 K2 V2 := by
  obtain ⟨h1, h2, h3, h4⟩ := h
  refine ⟨Nat.lt_of_lt_of_le h1 hb.size, fun o => (hb.frozen (p := ⟨b, o, none⟩) h1).trans (h2 o), fun j hj => ?_, fun j hj => ?_⟩
  · obtain ⟨c0, c1, c2, r2, s2, u2, p⟩ := h3 j hj
    exact ⟨(hb.cell (p := ⟨b, j * 3, none⟩) h1).trans c0, (hb.cell (p := ⟨b, j * 3 + 1, none⟩) h1).trans c1, (hb.cell (p := ⟨b, j * 3 + 2, none⟩) h1).trans c2, r2, Nat.lt_of_lt_of_le s2 hb.size, u2.below hb, p⟩
  · obtain ⟨c0, c1, c2⟩ := h4 j hj
    exact ⟨by rw [hb.cell (p := ⟨b, j * 3, none⟩) h1]; exact c0, by rw [hb.cell (p := ⟨b, j * 3 + 1, none⟩) h1]; exact c1, by rw [hb.cell (p := ⟨b, j * 3 + 2, none⟩) h1]; exact c2⟩
theorem make_Permit (n : Nat) (hn : n ≤ 1048576) (w : World) : (Instr.makeSlice 34 (.int .i64 (n : Int)) (.int .i64 (n : Int))).run Try.prog w = .ok (.slice (some ⟨w.heap.size, 0, none⟩) n n) (w.alloc (.cells (madeCells #[.int .i64 0, .int .i64 0, .slice none 0 0] (n * 3)) 44)) := by
  have hinfo : (Try.prog.info? 44).map (fun i => (i.zero, i.size, i.bytes)) = some (some (.agg #[.int .i64 0, .int .i64 0, .slice none 0 0]), 3, 40) := by kernel_rfl
  obtain ⟨i, hi, hzz⟩ := Option.map_eq_some_iff.1 hinfo
  simp only [Prod.mk.injEq] at hzz
  obtain ⟨hz, hs, hb⟩ := hzz
  have hr := run_make (P := Try.prog) w 34 44 i _ Try.underlying34 hi hz .i64 .i64 n n (by omega) (Int.le_refl _) (by rw [hb]; omega) (by omega)
  simp only [Int.toNat_natCast, hs] at hr
  exact hr
open Go.ChangeShapes Go.WideShapes Go.ChangeAt Go.RowKit
set_option linter.unusedVariables false
set_option linter.unusedSimpArgs false

open Go.RowKit
set_option linter.unusedVariables false
set_option linter.unusedSimpArgs false

open Go.ChangeShapes Go.WideShapes Go.ChangeAt Go.RowKit
set_option linter.unusedVariables false
set_option linter.unusedSimpArgs false

def RowPer (w : World) (s : Option Addr) (n : Nat) (X : Nat → Int) (Y : Nat → Int) (K : Nat → Nat) (V : Nat → Nat → Int) : Prop := ∀ i, i < n → ∃ b o a c, s = some ⟨b, o, none⟩ ∧ b < w.heap.size ∧ w.cell? ⟨b, o + i * 3, none⟩ = some (.int .i64 (X i)) ∧ w.cell? ⟨b, o + i * 3 + 1, none⟩ = some (.int .i64 (Y i)) ∧ w.cell? ⟨b, o + i * 3 + 2, none⟩ = some (.slice a (K i) c) ∧ RowI w a (K i) (V i)
theorem RowPer.below {w' : World} {w : World} {s : Option Addr} {n : Nat} {X : Nat → Int} {Y : Nat → Int} {K : Nat → Nat} {V : Nat → Nat → Int} (h : RowPer w s n X Y K V) (hb : Below w.heap.size w w') : RowPer w' s n X Y K V := fun i hi => by
  obtain ⟨b, o, a, c, e, hl, c0, c1, c2, hr⟩ := h i hi
  exact ⟨b, o, a, c, e, Nat.lt_of_lt_of_le hl hb.size, (hb.cell (p := ⟨b, o + i * 3, none⟩) hl).trans c0, (hb.cell (p := ⟨b, o + i * 3 + 1, none⟩) hl).trans c1, (hb.cell (p := ⟨b, o + i * 3 + 2, none⟩) hl).trans c2, hr.below hb⟩
theorem RowPer.pick {w : World} {s : Option Addr} {n : Nat} {X : Nat → Int} {Y : Nat → Int} {K : Nat → Nat} {V : Nat → Nat → Int} (h : RowPer w s n X Y K V) : ∃ A C, PermitR w s n X Y A K C V := by
  have h0 : ∀ i, ∃ z : Option Addr × Nat, i < n → ∃ b o, s = some ⟨b, o, none⟩ ∧ b < w.heap.size ∧ w.cell? ⟨b, o + i * 3, none⟩ = some (.int .i64 (X i)) ∧ w.cell? ⟨b, o + i * 3 + 1, none⟩ = some (.int .i64 (Y i)) ∧ w.cell? ⟨b, o + i * 3 + 2, none⟩ = some (.slice z.1 (K i) z.2) ∧ RowI w z.1 (K i) (V i) := fun i => by
    by_cases hi : i < n
    · obtain ⟨b, o, a, c, r⟩ := h i hi
      exact ⟨(a, c), fun _ => ⟨b, o, r⟩⟩
    · exact ⟨(none, 0), fun q => absurd q hi⟩
  obtain ⟨f, hf⟩ := Classical.axiomOfChoice h0
  exact ⟨fun i => (f i).1, fun i => (f i).2, fun j hj => hf j hj⟩
theorem RowPer.of {A : Nat → Option Addr} {C : Nat → Nat} {w : World} {s : Option Addr} {n : Nat} {X : Nat → Int} {Y : Nat → Int} {K : Nat → Nat} {V : Nat → Nat → Int} (h : PermitR w s n X Y A K C V) : RowPer w s n X Y K V := fun i hi => by
  obtain ⟨b, o, r⟩ := h i hi
  exact ⟨b, o, _, _, r⟩
/-- A list in blocks of S, each inner one its own, which may be written. -/
def PerR (S : Nat → Prop) (w : World) (s : Option Addr) (n : Nat) (X : Nat → Int) (Y : Nat → Int) (K : Nat → Nat) (V : Nat → Nat → Int) : Prop := ∃ A : Nat → Nat, (∀ i, i < n → ∃ b a c, s = some ⟨b, 0, none⟩ ∧ S b ∧ b < w.heap.size ∧ (∀ o, w.frozen? ⟨b, o, none⟩ = false) ∧ w.cell? ⟨b, i * 3, none⟩ = some (.int .i64 (X i)) ∧ w.cell? ⟨b, i * 3 + 1, none⟩ = some (.int .i64 (Y i)) ∧ w.cell? ⟨b, i * 3 + 2, none⟩ = some (.slice a (K i) c) ∧ (0 < K i → a = some ⟨A i, 0, none⟩ ∧ A i ≠ b ∧ S (A i) ∧ A i < w.heap.size ∧ ∀ j, j < K i → w.cell? ⟨A i, j, none⟩ = some (.int .i64 (V i j)) ∧ w.frozen? ⟨A i, j, none⟩ = false)) ∧ ∀ i i', i < n → i' < n → 0 < K i → 0 < K i' → A i = A i' → i = i'
theorem PerR.row {S : Nat → Prop} {w : World} {s : Option Addr} {n : Nat} {X : Nat → Int} {Y : Nat → Int} {K : Nat → Nat} {V : Nat → Nat → Int} (h : PerR S w s n X Y K V) : RowPer w s n X Y K V := fun i hi => by
  obtain ⟨A, h, -⟩ := h
  obtain ⟨b, a, c, e, _, hl, _, c0, c1, c2, hr⟩ := h i hi
  refine ⟨b, 0, a, c, e, by omega, by rw [Nat.zero_add]; exact c0, by rw [Nat.zero_add]; exact c1, by rw [Nat.zero_add]; exact c2, fun j hj => ?_⟩
  obtain ⟨ea, _, _, hA, hv⟩ := hr (by omega)
  exact ⟨A i, 0, ea, by omega, by rw [Nat.zero_add]; exact (hv j hj).1⟩
theorem PerR.keep {S : Nat → Prop} {w : World} {s : Option Addr} {n : Nat} {X : Nat → Int} {Y : Nat → Int} {K : Nat → Nat} {V : Nat → Nat → Int} {w' : World} (h : PerR S w s n X Y K V) (hs : w.heap.size ≤ w'.heap.size) (hb : ∀ k, S k → k < w.heap.size → w'.heap[k]? = w.heap[k]?) : PerR S w' s n X Y K V := by
  obtain ⟨A, h, hi⟩ := h
  refine ⟨A, fun i q => ?_, hi⟩
  obtain ⟨b, a, c, e, h1, hl, hf, c0, c1, c2, hr⟩ := h i q
  have eb := hb b h1 hl
  refine ⟨b, a, c, e, h1, Nat.lt_of_lt_of_le hl hs, fun o => (World.frozen?_of_block (w := w) (a := ⟨b, o, none⟩) eb).trans (hf o), (World.cell?_of_block (w := w) (a := ⟨b, i * 3, none⟩) eb).trans c0, (World.cell?_of_block (w := w) (a := ⟨b, i * 3 + 1, none⟩) eb).trans c1, (World.cell?_of_block (w := w) (a := ⟨b, i * 3 + 2, none⟩) eb).trans c2, fun k => ?_⟩
  obtain ⟨ea, n1, n2, hA, hv⟩ := hr k
  have eA := hb (A i) n2 hA
  exact ⟨ea, n1, n2, Nat.lt_of_lt_of_le hA hs, fun j hj => ⟨(World.cell?_of_block (w := w) (a := ⟨A i, j, none⟩) eA).trans (hv j hj).1, (World.frozen?_of_block (w := w) (a := ⟨A i, j, none⟩) eA).trans (hv j hj).2⟩⟩
theorem PerR.below {S : Nat → Prop} {w : World} {s : Option Addr} {n : Nat} {X : Nat → Int} {Y : Nat → Int} {K : Nat → Nat} {V : Nat → Nat → Int} {w' : World} (h : PerR S w s n X Y K V) (hb : Below w.heap.size w w') : PerR S w' s n X Y K V := h.keep hb.size fun k _ hk => hb.block k hk
theorem PerR.set {S : Nat → Prop} {w : World} {s : Option Addr} {n : Nat} {X : Nat → Int} {Y : Nat → Int} {K : Nat → Nat} {V : Nat → Nat → Int} {r o : Nat} {u : Value} (h : PerR S w s n X Y K V) (hr : ¬ S r) : PerR S (w.setCell ⟨r, o, none⟩ u) s n X Y K V := h.keep (by simp) fun k hk hl => set_block hl (fun e => hr (e ▸ hk))
theorem PerR.of {b : Nat} {G : Nat → Nat} {w : World} {n : Nat} {X : Nat → Int} {Y : Nat → Int} {K : Nat → Nat} {V : Nat → Nat → Int} {B : Nat} (hB : B ≤ b) (h : PermitC b w n n X Y G K V) : PerR (fun k => B ≤ k ∧ k < w.heap.size) w (some ⟨b, 0, none⟩) n X Y K V := by
  obtain ⟨h1, h2, h3, h4⟩ := h
  refine ⟨G, fun i hi => ?_, fun i i' hi hi' _ _ e => ?_⟩
  · obtain ⟨c0, c1, c2, q1, q2, q3, -⟩ := h3 i hi
    refine ⟨b, _, _, rfl, ⟨hB, h1⟩, h1, h2, c0, c1, c2, fun hk => ⟨rfl, by omega, ⟨by omega, q2⟩, q2, fun j hj => ?_⟩⟩
    obtain ⟨b', e', _, _, hc, hf⟩ := q3 j hj
    cases e'
    exact ⟨hc, hf⟩
  · have m1 := (h3 i hi).2.2.2.2.2.2
    have m2 := (h3 i' hi').2.2.2.2.2.2
    rcases Nat.lt_trichotomy i i' with q | q | q
    · have := m2 i q; omega
    · exact q
    · have := m1 i' q; omega
open Go.ChangeShapes Go.WideShapes Go.ChangeAt Go.RowKit
set_option linter.unusedVariables false
set_option linter.unusedSimpArgs false

def RowBook (w : World) (s0 : Option Addr) (n0 : Nat) (X0 : Nat → Int) (Y0 : Nat → Int) (K0 : Nat → Nat) (V0 : Nat → Nat → Int) : Prop := RowPer w s0 n0 X0 Y0 K0 V0
theorem RowBook.below {w w' : World} {s0 : Option Addr} {n0 : Nat} {X0 : Nat → Int} {Y0 : Nat → Int} {K0 : Nat → Nat} {V0 : Nat → Nat → Int} (h : RowBook w s0 n0 X0 Y0 K0 V0) (hb : Below w.heap.size w w') : RowBook w' s0 n0 X0 Y0 K0 V0 := RowPer.below h hb
def BookR (S : Nat → Prop) (w : World) (s0 : Option Addr) (n0 : Nat) (X0 : Nat → Int) (Y0 : Nat → Int) (K0 : Nat → Nat) (V0 : Nat → Nat → Int) : Prop := PerR S w s0 n0 X0 Y0 K0 V0
theorem BookR.row {S : Nat → Prop} {w : World} {s0 : Option Addr} {n0 : Nat} {X0 : Nat → Int} {Y0 : Nat → Int} {K0 : Nat → Nat} {V0 : Nat → Nat → Int} (h : BookR S w s0 n0 X0 Y0 K0 V0) : RowBook w s0 n0 X0 Y0 K0 V0 := PerR.row h
theorem BookR.keep {S : Nat → Prop} {w w' : World} {s0 : Option Addr} {n0 : Nat} {X0 : Nat → Int} {Y0 : Nat → Int} {K0 : Nat → Nat} {V0 : Nat → Nat → Int} (h : BookR S w s0 n0 X0 Y0 K0 V0) (hs : w.heap.size ≤ w'.heap.size) (hb : ∀ k, S k → k < w.heap.size → w'.heap[k]? = w.heap[k]?) : BookR S w' s0 n0 X0 Y0 K0 V0 := PerR.keep h hs hb
theorem BookR.below {S : Nat → Prop} {w w' : World} {s0 : Option Addr} {n0 : Nat} {X0 : Nat → Int} {Y0 : Nat → Int} {K0 : Nat → Nat} {V0 : Nat → Nat → Int} (h : BookR S w s0 n0 X0 Y0 K0 V0) (hb : Below w.heap.size w w') : BookR S w' s0 n0 X0 Y0 K0 V0 := h.keep hb.size fun k _ hk => hb.block k hk
end Go.Proofs.Ytikcfpjfcpbfcaa
