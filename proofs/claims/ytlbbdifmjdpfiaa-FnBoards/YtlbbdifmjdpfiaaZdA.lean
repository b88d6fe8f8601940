/-
What is proved: what a well-typed value of a struct type is, field by field; and two closed facts of the program.
-/
import Derived.Test.YtlbbdifmjdpfiaaRows
import Derived.WalkKit
import Derived.WalkSpells
import Derived.WalkLawsBesides
import Derived.BigQuiet
import Derived.Deep.QuietTactic
import Derived.Deep.RegionWith
import Derived.ProofKit
import Derived.OpenShut
import Derived.ShutString
import Derived.ChangeOld
import Derived.Below
import Derived.Deep.AppendLies
import Derived.Laws.OwnMore
namespace Go.Proofs.Ytlbbdifmjdpfiaa
set_option maxRecDepth 40000
open Go.ChangeShapes Go.WideShapes Go.ChangeAt Go.RowKit

theorem own : ownKnob Try.prog.godebug = none := by kernel_rfl
theorem laidOut : laidOutB Try.prog = true := by kernel_rfl

theorem bDrewN {B : Nat} {a w : World} (h : Below B a w) (n : Nat) : Below B a (w.drewN n) := h.trans ⟨rfl, rfl, rfl, Nat.le_refl _, fun _ _ => rfl⟩
theorem below0 (w : World) (o : Obj) : Below w.heap.size w (w.alloc o) := (Below.refl _ _).alloc (Nat.le_refl _) _
theorem bcell {W w1 : World} (hb : Below W.heap.size W w1) : (∀ b o, b < W.heap.size → w1.cell? ⟨b, o, none⟩ = W.cell? ⟨b, o, none⟩) ∧ (∀ b o, b < W.heap.size → w1.frozen? ⟨b, o, none⟩ = W.frozen? ⟨b, o, none⟩) :=
  ⟨fun b o h => hb.cell (p := ⟨b, o, none⟩) h, fun b o h => hb.frozen (p := ⟨b, o, none⟩) h⟩
theorem ret_int {k : IntKind} {a b : Int} (h : a = b) : Ending.returned (.int k a) = .returned (.int k b) := by rw [h]
theorem ret_bool {a b : Bool} (h : a = b) : Ending.returned (.bool a) = .returned (.bool b) := by rw [h]

/-- The cells of a row are well typed, one by one. -/
def CellsOk (w : World) (b0 : Nat) : List TypeId → List Value → Prop
  | [], [] => True
  | t :: ts, v :: vs => Cell.okWide Try.prog w .any b0 t v ∧ CellsOk w b0 ts vs
  | _, _ => False

theorem cellsOk_cons {w : World} {b0 : Nat} {t : TypeId} {ts : List TypeId} {vs : List Value} (h : CellsOk w b0 (t :: ts) vs) : ∃ c cs, vs = c :: cs ∧ Cell.okWide Try.prog w .any b0 t c ∧ CellsOk w b0 ts cs := by
  cases vs with
  | nil => exact h.elim
  | cons c cs => exact ⟨c, cs, rfl, h.1, h.2⟩
theorem cellsOk_nil {w : World} {b0 : Nat} {vs : List Value} (h : CellsOk w b0 [] vs) : vs = [] := by
  cases vs with
  | nil => rfl
  | cons c cs => exact h.elim

theorem cellsOk_of {w : World} {b0 : Nat} : ∀ (ts : List TypeId) (vs : List Value), vs.length = ts.length → (∀ (i : Nat) v, vs[i]? = some v → ∃ u, ts[i]? = some u ∧ Cell.okWide Try.prog w .any b0 u v) → CellsOk w b0 ts vs
  | [], [], _, _ => trivial
  | [], _ :: _, h, _ => by simp at h
  | _ :: _, [], h, _ => by simp at h
  | t :: ts, v :: vs, h, k => by
    refine ⟨?_, cellsOk_of ts vs (by simpa using h) fun i u hu => ?_⟩
    · obtain ⟨u, hu, hc⟩ := k 0 v rfl
      simp only [List.getElem?_cons_zero, Option.some.injEq] at hu
      subst hu; exact hc
    · obtain ⟨x, hx, hc⟩ := k (i + 1) u (by simpa using hu)
      exact ⟨x, by simpa using hx, hc⟩

/-- A STRUCT BY VALUE, OPENED: its cells, each of its own type. -/
theorem open_cells {w : World} {b0 : Nat} {t : TypeId} {fs : Array Field} {ts : List TypeId} {v : Value} (hs : Try.prog.underlying t = some (.struct fs)) (hts : Try.prog.cellTypes Try.prog.depth t = some ts) (hC : Try.prog.cellsOf t = ts.length)
    (hv : Value.okWide Try.prog w .any b0 t v) : ∃ vs, v = .agg vs.toArray ∧ CellsOk w b0 ts vs := by
  simp only [Value.okWide, hs] at hv
  obtain ⟨cs, rfl, hsz, ts', hts', _, hall⟩ := hv
  rw [hts] at hts'
  cases hts'
  refine ⟨cs.toList, by simp, cellsOk_of ts cs.toList (by simp [hsz, hC]) fun i v hi => ?_⟩
  have hlt : i < cs.size := by
    rcases Nat.lt_or_ge i cs.size with g | g
    · exact g
    · rw [List.getElem?_eq_none (by simpa using g)] at hi; cases hi
  obtain ⟨u, hu, hc⟩ := hall i v (by simpa using hi)
  rw [Nat.mod_eq_of_lt (by omega)] at hu
  exact ⟨u, hu, hc⟩

theorem cell_int {w : World} {b0 : Nat} {t : TypeId} {k : IntKind} {c : Value} (ht : Try.prog.underlying t = some (.int k)) (h : Cell.okWide Try.prog w .any b0 t c) : ∃ n, c = .int k n ∧ (Lit.int k n).wf = true := by
  simp only [Cell.okWide, ht] at h
  cases c <;> simp_all [Cell.ok]
  simp [Lit.wf, h.2.1, h.2.2]
theorem cell_bool {w : World} {b0 : Nat} {t : TypeId} {c : Value} (ht : Try.prog.underlying t = some .bool) (h : Cell.okWide Try.prog w .any b0 t c) : ∃ x, c = .bool x := by
  simp only [Cell.okWide, ht] at h
  cases c <;> simp_all [Cell.ok]
theorem cell_float {w : World} {b0 : Nat} {t : TypeId} {k : FloatKind} {c : Value} (ht : Try.prog.underlying t = some (.float k)) (h : Cell.okWide Try.prog w .any b0 t c) : ∃ n, c = .float k n ∧ (Lit.float k n).wf = true := by
  simp only [Cell.okWide, ht] at h
  cases c <;> simp_all [Cell.ok]
  cases k <;> simp_all [FloatKind.has, Lit.wf]

open Go.RowKit

/-- Of the blocks that were there none has turned but one. -/
def Beside (r : Nat) (w w' : World) : Prop := w'.os = w.os ∧ w'.tape = w.tape ∧ w'.output = w.output ∧ w.heap.size ≤ w'.heap.size ∧ ∀ k, k < w.heap.size → k ≠ r → w'.heap[k]? = w.heap[k]?
theorem Beside.of {r : Nat} {w w' : World} (h : Below w.heap.size w w') : Beside r w w' := ⟨h.os, h.tape, h.output, h.size, fun k hk _ => h.block k hk⟩
theorem Beside.trans {r : Nat} {a b c : World} (h : Beside r a b) (k : Beside r b c) : Beside r a c := by
  obtain ⟨h1, h2, h3, h4, h5⟩ := h
  obtain ⟨k1, k2, k3, k4, k5⟩ := k
  exact ⟨k1.trans h1, k2.trans h2, k3.trans h3, Nat.le_trans h4 k4, fun i hi hn => (k5 i (by omega) hn).trans (h5 i hi hn)⟩
theorem Beside.below {r : Nat} {w w' : World} (h : Beside r w w') {B : Nat} (hr : B ≤ r) (hB : B ≤ w.heap.size) : Below B w w' := by
  obtain ⟨h1, h2, h3, h4, h5⟩ := h
  exact ⟨h1, h2, h3, h4, fun k hk => h5 k (by omega) (by omega)⟩
theorem Beside.setCell (r : Nat) (w : World) (o : Nat) (u : Value) : Beside r w (w.setCell ⟨r, o, none⟩ u) :=
  ⟨rfl, rfl, rfl, by simp [World.setCell], fun k hk hn => Below.heap_setCell _ _ _ _ hn⟩
theorem Beside.cell {r : Nat} {w w' : World} (h : Beside r w w') {p : Addr} (hp : p.block < w.heap.size) (hn : p.block ≠ r) : w'.cell? p = w.cell? p := World.cell?_of_block (w := w) (h.2.2.2.2 p.block hp hn)
theorem Beside.frozen {r : Nat} {w w' : World} (h : Beside r w w') {p : Addr} (hp : p.block < w.heap.size) (hn : p.block ≠ r) : w'.frozen? p = w.frozen? p := World.frozen?_of_block (w := w) (h.2.2.2.2 p.block hp hn)

open Go.RowKit
set_option linter.unusedVariables false

/-- A READER of n bytes in block r, at the place p; its bytes lie in elder blocks. -/
def Rd (w : World) (r : Nat) (s : Option Addr) (n c : Nat) (p : Nat) : Prop :=
  r < w.heap.size ∧ (∀ o, w.frozen? ⟨r, o, none⟩ = false) ∧ w.cell? ⟨r, 0, none⟩ = some (.slice s n c) ∧ w.cell? ⟨r, 1, none⟩ = some (.int .i64 p) ∧ p ≤ n ∧ n ≤ 1048576 ∧
    ∀ i, i < n → ∃ g o k, s = some ⟨g, o, none⟩ ∧ g < r ∧ w.cell? ⟨g, o + i, none⟩ = some (.int .u8 k) ∧ 0 ≤ k ∧ k < 256
theorem Rd.below {w w' : World} {r : Nat} {s : Option Addr} {n c p : Nat} (h : Rd w r s n c p) (hb : Below w.heap.size w w') : Rd w' r s n c p := by
  obtain ⟨h1, h2, h3, h4, h5, h6, h7⟩ := h
  refine ⟨Nat.lt_of_lt_of_le h1 hb.size, fun o => (hb.frozen (p := ⟨r, o, none⟩) h1).trans (h2 o), (hb.cell (p := ⟨r, 0, none⟩) h1).trans h3, (hb.cell (p := ⟨r, 1, none⟩) h1).trans h4, h5, h6, fun i hi => ?_⟩
  obtain ⟨g, o, k, e, hg, hc, hk⟩ := h7 i hi
  exact ⟨g, o, k, e, hg, (hb.cell (p := ⟨g, o + i, none⟩) (Nat.lt_trans hg h1)).trans hc, hk⟩

set_option maxRecDepth 20000 in
set_option maxHeartbeats 1000000 in
theorem next_end (r n c : Nat) (s : Option Addr) (w : World) (h1 : r < w.heap.size) (h3 : w.cell? ⟨r, 0, none⟩ = some (.slice s n c)) (h4 : w.cell? ⟨r, 1, none⟩ = some (.int .i64 n)) :
    Calls Try.prog 75 #[.pointer (some ⟨r, 0, none⟩)] w fun e w' => e = .returned (.int .i64 0) ∧ Below w.heap.size w w' := by
  go_enter Try.func75, Try.ntmps75
  go_wp2
  go_quiet (fail)
  go_wp2
  go_ret
  exact ⟨rfl, (by repeat (first | with_reducible exact Below.refl _ _ | with_reducible refine Below.setCell ?_ (by first | omega | (simp; done) | (simp; omega)) _ | with_reducible refine bDrewN ?_ _ | with_reducible refine Below.drew ?_ | with_reducible refine Below.alloc ?_ (by first | omega | (simp; done) | (simp; omega)) _))⟩

set_option maxRecDepth 20000 in
set_option maxHeartbeats 1000000 in
theorem next_on (r n c g o p : Nat) (k : Int) (w : World) (h1 : r < w.heap.size) (hg : g < r) (hf : ∀ o, w.frozen? ⟨r, o, none⟩ = false) (h3 : w.cell? ⟨r, 0, none⟩ = some (.slice (some ⟨g, o, none⟩) n c)) (h4 : w.cell? ⟨r, 1, none⟩ = some (.int .i64 p))
    (hp0 : (0 : Int) ≤ (p : Int)) (hp : (p : Int) < (n : Int)) (hn : (n : Int) ≤ 1048576) (hc : w.cell? ⟨g, o + p, none⟩ = some (.int .u8 k)) (hk0 : 0 ≤ k) (hk : k < 256) :
    Calls Try.prog 75 #[.pointer (some ⟨r, 0, none⟩)] w fun e w' => e = .returned (.int .i64 k) ∧ ∃ d1 d2, w' = ((w.drewN d1).setCell ⟨r, 1, none⟩ (.int .i64 (p + 1))).drewN d2 := by
  go_enter Try.func75, Try.ntmps75
  go_wp2
  go_quiet (fail)
  go_wp2
  go_quiet (fail)
  go_wp2
  go_ret
  exact ⟨rfl, _, _, rfl⟩

/-- ONE BYTE READ: a number below 256; the reader stands as a reader, nothing else has turned. -/
theorem next_any {r : Nat} {s : Option Addr} {n c p : Nat} {w : World} (h : Rd w r s n c p) :
    Calls Try.prog 75 #[.pointer (some ⟨r, 0, none⟩)] w fun e w' => ∃ k p', e = .returned (.int .i64 k) ∧ 0 ≤ k ∧ k < 256 ∧ Rd w' r s n c p' ∧ Beside r w w' := by
  obtain ⟨h1, h2, h3, h4, h5, h6, h7⟩ := h
  rcases Nat.lt_or_ge p n with hp | hp
  · obtain ⟨g, o, k, rfl, hg, hc, hk0, hk⟩ := h7 p hp
    refine (next_on r n c g o p k w h1 hg h2 h3 h4 (by omega) (by omega) (by omega) hc hk0 hk).mono ?_
    rintro e w' ⟨rfl, d1, d2, rfl⟩
    have b1 : Below w.heap.size w (w.drewN d1) := bDrewN (Below.refl _ _) _
    have b2 : Beside r (w.drewN d1) ((w.drewN d1).setCell ⟨r, 1, none⟩ (.int .i64 (p + 1))) := Beside.setCell _ _ _ _
    have bb : Beside r w (((w.drewN d1).setCell ⟨r, 1, none⟩ (.int .i64 (p + 1))).drewN d2) := ((Beside.of b1).trans b2).trans (Beside.of (bDrewN (Below.refl _ _) _))
    have z : r < (((w.drewN d1).setCell ⟨r, 1, none⟩ (.int .i64 (p + 1))).drewN d2).heap.size := Nat.lt_of_lt_of_le h1 bb.2.2.2.1
    refine ⟨k, p + 1, rfl, hk0, hk, ⟨z, fun o => ?_, ?_, ?_, by omega, h6, fun i hi => ?_⟩, bb⟩
    · simp [go_sem, h2]
    · simp [go_sem, h3]
    · simp [go_sem, h4]
    · obtain ⟨g', o', k', e', hg', hc', hk'⟩ := h7 i hi
      exact ⟨g', o', k', e', hg', (bb.cell (p := ⟨g', o' + i, none⟩) (Nat.lt_trans hg' h1) (Nat.ne_of_lt hg')).trans hc', hk'⟩
  · obtain rfl : p = n := by omega
    refine (next_end r p c s w h1 h3 h4).mono ?_
    rintro e w' ⟨rfl, hb⟩
    exact ⟨0, p, rfl, by omega, by omega, Rd.below ⟨h1, h2, h3, h4, h5, h6, h7⟩ hb, Beside.of hb⟩

theorem emod_le_self {x m : Int} (hx : 0 ≤ x) (hm : 0 ≤ m) : x % m ≤ x := by
  have d := Int.mul_ediv_add_emod x m
  have e := Int.mul_nonneg hm (Int.ediv_nonneg hx hm)
  generalize m * (x / m) = q at d e
  omega

set_option maxHeartbeats 1000000 in
theorem below_any {r : Nat} {s : Option Addr} {n c p : Nat} {w : World} (m : Int) (h : Hid (Rd w r s n c p)) :
    Calls Try.prog 46 #[.pointer (some ⟨r, 0, none⟩), .int .i64 m] w fun e w' => ∃ k p', e = .returned (.int .i64 k) ∧ 0 ≤ k ∧ k < 65536 ∧ (k < m ∨ k = 0) ∧ Rd w' r s n c p' ∧ Beside r w w' := by
  by_cases hm : m ≤ 1
  · go_enter Try.func46, Try.ntmps46
    go_wp2
    go_ret
    have b : Below w.heap.size w w := Below.refl _ _
    exact ⟨0, p, rfl, by omega, by omega, .inr rfl, h.out, Beside.of b⟩
  · by_cases hm2 : m ≤ 256
    · have hm0 : 1 < m := by omega
      clear hm
      go_enter Try.func46, Try.ntmps46
      go_wp2_with fail
      refine (next_any h.out).mono ?_
      rintro e w1 ⟨k, p1, rfl, k0, k1, R1, b1⟩
      go_wp2
      go_ret
      have q1 := Int.emod_nonneg k (show m ≠ 0 by omega)
      have q2 := Int.emod_lt_of_pos k (show 0 < m by omega)
      exact ⟨k % m, p1, rfl, q1, by omega, .inl q2, R1, b1⟩
    · have hm0 : 256 < m := by omega
      clear hm hm2
      go_enter Try.func46, Try.ntmps46
      go_wp2_with fail
      refine (next_any h.out).mono ?_
      rintro e w1 ⟨k, p1, rfl, k0, k1, R1, b1⟩
      go_wp2_with fail
      refine (next_any R1).mono ?_
      rintro e w2 ⟨l, p2, rfl, l0, l1, R2, b2⟩
      go_wp2
      go_ret
      have q1 := Int.emod_nonneg (k * 256 + l) (show m ≠ 0 by omega)
      have q2 := Int.emod_lt_of_pos (k * 256 + l) (show 0 < m by omega)
      have q3 : (k * 256 + l) % m ≤ k * 256 + l := emod_le_self (by omega) (by omega)
      exact ⟨(k * 256 + l) % m, p2, rfl, q1, by omega, .inl q2, R2, b1.trans b2⟩

set_option maxHeartbeats 1000000 in
theorem once_any {r : Nat} {s : Option Addr} {n c p : Nat} {w : World} (m : Int) (hm : 0 ≤ m) (hm' : m ≤ 1000000) (h : Hid (Rd w r s n c p)) :
    Calls Try.prog 45 #[.pointer (some ⟨r, 0, none⟩), .int .i64 m] w fun e w' => ∃ b p', e = .returned (.bool b) ∧ Rd w' r s n c p' ∧ Beside r w w' := by
  go_enter Try.func45, Try.ntmps45
  go_wp2_with fail
  refine (below_any m h).mono ?_
  rintro e w1 ⟨k, p1, rfl, k0, k1, k2, R1, b1⟩
  go_wp2
  go_ret
  exact ⟨_, p1, rfl, R1, b1⟩

open Go.RowKit
set_option linter.unusedVariables false

theorem wrap64_id {n : Int} (h : -9223372036854775808 ≤ n) (h' : n ≤ 9223372036854775807) : wrap64 n = n := by unfold wrap64; omega
theorem wf_i64 {m : Int} (h : (Lit.int .i64 m).wf = true) : -9223372036854775808 ≤ m ∧ m ≤ 9223372036854775807 := by
  simp only [Lit.wf, Bool.and_eq_true, decide_eq_true_eq] at h
  exact h
theorem wf_u64 {m : Int} (h : (Lit.int .u64 m).wf = true) : 0 ≤ m ∧ m ≤ 18446744073709551615 := by
  simp only [Lit.wf, Bool.and_eq_true, decide_eq_true_eq] at h
  exact h

set_option maxHeartbeats 1000000 in
theorem word_any {r : Nat} {s : Option Addr} {n c p : Nat} {w : World} (h : Hid (Rd w r s n c p)) :
    Calls Try.prog 90 #[.pointer (some ⟨r, 0, none⟩)] w fun e w' => ∃ x : Int, ∃ p', e = .returned (.int .u64 x) ∧ (Lit.int .u64 x).wf = true ∧ Rd w' r s n c p' ∧ Beside r w w' := by
  go_enter Try.func90, Try.ntmps90
  go_wp2
  go_loopw [3, 4] (fun a b wr => ∃ (x : Int) (k : Nat) (p' : Nat), a = .int .u64 x ∧ b = .int .i64 k ∧ (Lit.int .u64 x).wf = true ∧ k ≤ 8 ∧ Hid (Rd wr r s n c p') ∧ Hid (Beside r w wr)) (fun a b _ => 8 - (intOf b).toNat)
  case atStart =>
    have b : Below w.heap.size w w := Below.refl _ _
    exact ⟨0, 0, p, rfl, rfl, by decide, by omega, h, Beside.of b⟩
  case round =>
    obtain ⟨x, k, p', rfl, rfl, hx, hk, R, B⟩ := hrel
    by_cases hk8 : k < 8
    · go_wp2_with fail
      refine (next_any R.out).mono ?_
      rintro e w1 ⟨l, p1, rfl, l0, l1, R1, b1⟩
      go_wp2
      go_roundw
      case rel =>
        exact ⟨_, k + 1, p1, rfl, by go_num, wf_bits _ _ _ _, by omega, R1, B.out.trans b1⟩
      case measure => simp [intOf]; omega
    · obtain rfl : k = 8 := by omega
      go_wp2
      go_ret
      exact ⟨x, p', rfl, hx, R.out, B.out⟩

set_option maxHeartbeats 1000000 in
theorem upto_any {r : Nat} {s : Option Addr} {n c p : Nat} {w : World} (m : Int) (hm : (Lit.int .i64 m).wf = true) (h : Hid (Rd w r s n c p)) :
    Calls Try.prog 88 #[.pointer (some ⟨r, 0, none⟩), .int .i64 m] w fun e w' => ∃ k p', e = .returned (.int .i64 k) ∧ 0 ≤ k ∧ (k < m ∨ k = 0) ∧ Rd w' r s n c p' ∧ Beside r w w' := by
  by_cases h1 : m ≤ 1
  · clear hm
    go_enter Try.func88, Try.ntmps88
    go_wp2
    go_ret
    have b : Below w.heap.size w w := Below.refl _ _
    exact ⟨0, p, rfl, by omega, .inr rfl, h.out, Beside.of b⟩
  · by_cases h2 : m ≤ 65536
    · have hm0 : 1 < m := by omega
      clear h1 hm
      go_enter Try.func88, Try.ntmps88
      go_wp2_with fail
      refine (below_any m h).mono ?_
      rintro e w1 ⟨k, p1, rfl, k0, k1, k2, R1, b1⟩
      go_wp2
      go_ret
      exact ⟨k, p1, rfl, k0, k2, R1, b1⟩
    · have hm0 : 65536 < m := by omega
      have hm1 : m < 9223372036854775808 := by
        have := wf_i64 hm
        omega
      clear h1 h2 hm
      go_enter Try.func88, Try.ntmps88
      go_wp2_with fail
      refine (word_any h).mono ?_
      rintro e w1 ⟨x, p1, rfl, hx, R1, b1⟩
      go_wp2
      go_ret
      have x0 : 0 ≤ x := (wf_u64 hx).1
      have q1 := Int.tmod_nonneg m (show 0 ≤ x / 2 by omega)
      have q2 := Int.tmod_lt_of_pos (x / 2) (show 0 < m by omega)
      exact ⟨(x / 2).tmod m, p1, ret_int (wrap64_id (by omega) (by omega)), q1, .inl q2, R1, b1⟩

set_option maxHeartbeats 1000000 in
theorem near_any {r : Nat} {s : Option Addr} {n c p : Nat} {w : World} (lo hi : Int) (h1 : -1000000000000000000 ≤ lo) (h2 : lo ≤ hi) (h3 : hi ≤ 1000000000000000000) (h : Hid (Rd w r s n c p)) :
    Calls Try.prog 73 #[.pointer (some ⟨r, 0, none⟩), .int .i64 lo, .int .i64 hi] w fun e w' => ∃ k p', e = .returned (.int .i64 k) ∧ lo ≤ k ∧ k ≤ hi ∧ Rd w' r s n c p' ∧ Beside r w w' := by
  have U : Hid (∀ w p, Rd w r s n c p → Calls Try.prog 88 #[.pointer (some ⟨r, 0, none⟩), .int .i64 (hi - lo + 1)] w fun e w' => ∃ k p', e = .returned (.int .i64 k) ∧ 0 ≤ k ∧ (k < hi - lo + 1 ∨ k = 0) ∧ Rd w' r s n c p' ∧ Beside r w w') := fun w p h =>
    upto_any _ (by simp only [Lit.wf, Bool.and_eq_true, decide_eq_true_eq]; exact ⟨show (-9223372036854775808 : Int) ≤ _ by omega, show _ ≤ (9223372036854775807 : Int) by omega⟩) h
  go_enter Try.func73, Try.ntmps73
  go_wp2_with fail
  refine (below_any 8 h).mono ?_
  rintro e w1 ⟨k, p1, rfl, k0, k1, k2, R1, b1⟩
  by_cases e0 : k = 0
  · subst e0
    go_wp2
    go_ret
    exact ⟨lo, p1, rfl, by omega, by omega, R1, b1⟩
  · by_cases e1 : k = 1
    · subst e1
      go_wp2
      go_ret
      exact ⟨hi, p1, rfl, by omega, by omega, R1, b1⟩
    · go_wp2_with fail
      refine (U.out _ _ R1).mono ?_
      rintro e w2 ⟨j, p2, rfl, j0, j1, R2, b2⟩
      go_wp2
      go_ret
      exact ⟨lo + j, p2, rfl, by omega, by omega, R2, b1.trans b2⟩

open Go.RowKit
set_option linter.unusedVariables false

theorem Beside.later {r : Nat} {w w1 w2 : World} (h : Beside r w w1) (b : Below w1.heap.size w1 w2) : Beside r w w2 := h.trans (Beside.of b)

theorem wfi {m : Int} (h : -9223372036854775808 ≤ m) (h' : m ≤ 9223372036854775807) : (Lit.int .i64 m).wf = true := by
  simp only [Lit.wf, Bool.and_eq_true, decide_eq_true_eq]
  exact ⟨h, h'⟩

theorem Beside.fresh {r : Nat} {w x : World} (h : Beside r w x) {q : Addr} (hq : w.heap.size ≤ q.block) (u : Value) : Beside r w (x.setCell q u) := by
  obtain ⟨h1, h2, h3, h4, h5⟩ := h
  exact ⟨h1, h2, h3, by simpa [World.setCell] using h4, fun k hk hn => (Below.heap_setCell _ _ _ _ (by omega)).trans (h5 k hk hn)⟩
theorem Rd.below' {w w' : World} {r : Nat} {s : Option Addr} {n c p : Nat} (h : Rd w r s n c p) (hb : Below (r + 1) w w') : Rd w' r s n c p := by
  obtain ⟨h1, h2, h3, h4, h5, h6, h7⟩ := h
  refine ⟨Nat.lt_of_lt_of_le h1 hb.size, fun o => (hb.frozen (p := ⟨r, o, none⟩) (Nat.lt_succ_self r)).trans (h2 o), (hb.cell (p := ⟨r, 0, none⟩) (Nat.lt_succ_self r)).trans h3, (hb.cell (p := ⟨r, 1, none⟩) (Nat.lt_succ_self r)).trans h4, h5, h6, fun i hi => ?_⟩
  obtain ⟨g, o, k, e, hg, hc, hk⟩ := h7 i hi
  exact ⟨g, o, k, e, hg, (hb.cell (p := ⟨g, o + i, none⟩) (Nat.lt_succ_of_lt hg)).trans hc, hk⟩

set_option maxHeartbeats 2000000 in
theorem off_any {r : Nat} {s : Option Addr} {n c p : Nat} {w : World} (lo hi : Int) (h1 : -1000000000000000000 ≤ lo) (h2 : lo ≤ hi) (h3 : hi ≤ 1000000000000000000) (h : Hid (Rd w r s n c p)) :
    Calls Try.prog 74 #[.pointer (some ⟨r, 0, none⟩), .int .i64 lo, .int .i64 hi] w fun e w' => ∃ k p', e = .returned (.int .i64 k) ∧ (Lit.int .i64 k).wf = true ∧ Rd w' r s n c p' ∧ Beside r w w' := by
  go_enter Try.func74, Try.ntmps74
  go_wp2_with fail
  refine (once_any 24 (by omega) (by omega) h).mono ?_
  rintro e w1 ⟨b, p1, rfl, R1, b1⟩
  cases b
  · go_wp2_with fail
    refine (near_any lo hi h1 h2 h3 R1).mono ?_
    rintro e w2 ⟨k, p2, rfl, k0, k1, R2, b2⟩
    go_wp2
    go_ret
    exact ⟨k, p2, rfl, wfi (by omega) (by omega), R2, b1.trans b2⟩
  · go_wp2_with fail
    refine (below_any 4 (Rd.below R1 (below0 w1 _))).mono ?_
    rintro e w2 ⟨j, p2, rfl, j0, j1, j2, R2, b2⟩
    have b3 : Beside r w w2 := (b1.later (below0 w1 _)).trans b2
    have zr : w1.heap.size ≠ r := by have := R1.1; omega
    have zs : w1.heap.size < w2.heap.size := by have := b2.2.2.2.1; simp at this; omega
    have hc : ∀ i, w2.cell? ⟨w1.heap.size, i, none⟩ = (w1.alloc (.cells #[.int .i64 (lo - 1), .int .i64 (hi + 1), .int .i64 (-9223372036854775808), .int .i64 9223372036854775807] 2)).cell? ⟨w1.heap.size, i, none⟩ := fun i => b2.cell (p := ⟨w1.heap.size, i, none⟩) (by simp) zr
    have jj : j = 0 ∨ j = 1 ∨ j = 2 ∨ j = 3 := by omega
    clear j0 j1 j2
    rcases jj with rfl | rfl | rfl | rfl
    · have hq := (hc 0).trans (show _ = some (.int .i64 (lo - 1)) by simp [go_sem])
      clear hc
      go_wp2
      go_ret
      exact ⟨(lo - 1), p2, rfl, wfi (by omega) (by omega), R2, b3⟩
    · have hq := (hc 1).trans (show _ = some (.int .i64 (hi + 1)) by simp [go_sem])
      clear hc
      go_wp2
      go_ret
      exact ⟨(hi + 1), p2, rfl, wfi (by omega) (by omega), R2, b3⟩
    · have hq := (hc 2).trans (show _ = some (.int .i64 (-9223372036854775808)) by simp [go_sem])
      clear hc
      go_wp2
      go_ret
      exact ⟨(-9223372036854775808), p2, rfl, by decide, R2, b3⟩
    · have hq := (hc 3).trans (show _ = some (.int .i64 9223372036854775807) by simp [go_sem])
      clear hc
      go_wp2
      go_ret
      exact ⟨9223372036854775807, p2, rfl, by decide, R2, b3⟩

open Go.RowKit
set_option linter.unusedVariables false
set_option linter.unusedSimpArgs false

/-- A block's first cells. -/
def Blk (w : World) (b : Nat) (cs : List Value) : Prop := b < w.heap.size ∧ (∀ o, w.frozen? ⟨b, o, none⟩ = false) ∧ ∀ i v, cs[i]? = some v → w.cell? ⟨b, i, none⟩ = some v
theorem Blk.belowB {w w' : World} {b B : Nat} {cs : List Value} (h : Blk w b cs) (hb : Below B w w') (hl : b < B) : Blk w' b cs :=
  ⟨Nat.lt_of_lt_of_le h.1 hb.size, fun o => (hb.frozen (p := ⟨b, o, none⟩) hl).trans (h.2.1 o), fun i v e => (hb.cell (p := ⟨b, i, none⟩) hl).trans (h.2.2 i v e)⟩
theorem Blk.below {w w' : World} {b : Nat} {cs : List Value} (h : Blk w b cs) (hb : Below w.heap.size w w') : Blk w' b cs := h.belowB hb h.1
theorem Blk.beside {w w' : World} {b r : Nat} {cs : List Value} (h : Blk w b cs) (hb : Beside r w w') (hr : b ≠ r) : Blk w' b cs :=
  ⟨Nat.lt_of_lt_of_le h.1 hb.2.2.2.1, fun o => (hb.frozen (p := ⟨b, o, none⟩) h.1 hr).trans (h.2.1 o), fun i v e => (hb.cell (p := ⟨b, i, none⟩) h.1 hr).trans (h.2.2 i v e)⟩
theorem Blk.new (w : World) (cs : Array Value) (t : TypeId) : Blk (w.alloc (.cells cs t)) w.heap.size cs.toList :=
  ⟨by simp, fun o => by simp [go_sem], fun i v e => by rw [Array.getElem?_toList] at e; simp [go_sem, e]⟩
theorem Blk.set {w : World} {b : Nat} {cs : List Value} (h : Blk w b cs) (i : Nat) (v : Value) : Blk (w.setCell ⟨b, i, none⟩ v) b (cs.set i v) := by
  obtain ⟨h1, h2, h3⟩ := h
  refine ⟨by simpa using h1, fun o => by simp [go_sem, h2], fun j u e => ?_⟩
  by_cases q : j = i
  · subst q
    have hj : j < cs.length := by
      rcases Nat.lt_or_ge j cs.length with z | z
      · exact z
      · rw [List.getElem?_eq_none (by simpa using z)] at e; cases e
    rw [List.getElem?_set_self hj] at e
    cases e
    have := h3 j _ (List.getElem?_eq_getElem hj)
    simp [go_sem, this]
  · rw [List.getElem?_set_ne (fun z => q z.symm)] at e
    have := h3 j u e
    simp [go_sem, this, q]
theorem Beside.onB {r : Nat} {w w1 w2 : World} (h : Beside r w w1) (b : Below w.heap.size w1 w2) : Beside r w w2 := by
  obtain ⟨h1, h2, h3, h4, h5⟩ := h
  exact ⟨b.os.trans h1, b.tape.trans h2, b.output.trans h3, Nat.le_trans h4 b.size, fun k hk hn => (b.block k hk).trans (h5 k hk hn)⟩
theorem Rd.besideR {w w' : World} {r q : Nat} {s : Option Addr} {n c p : Nat} (h : Rd w r s n c p) (hb : Beside q w w') (hq : r ≠ q) (hs : ∀ g o, s = some ⟨g, o, none⟩ → g ≠ q) : Rd w' r s n c p := by
  obtain ⟨h1, h2, h3, h4, h5, h6, h7⟩ := h
  refine ⟨Nat.lt_of_lt_of_le h1 hb.2.2.2.1, fun o => (hb.frozen (p := ⟨r, o, none⟩) h1 hq).trans (h2 o), (hb.cell (p := ⟨r, 0, none⟩) h1 hq).trans h3, (hb.cell (p := ⟨r, 1, none⟩) h1 hq).trans h4, h5, h6, fun i hi => ?_⟩
  obtain ⟨g, o, k, e, hg, hc, hk⟩ := h7 i hi
  exact ⟨g, o, k, e, hg, (hb.cell (p := ⟨g, o + i, none⟩) (Nat.lt_trans hg h1) (hs g o e)).trans hc, hk⟩
theorem picked {w w' : World} {b : Nat} {L : List Int} {j : Int} (h : Blk w b (L.map (Value.int .i64))) (h0 : 0 ≤ j) (h1 : j < L.length) : ∃ (jn : Nat) (v : Int), j = jn ∧ (jn : Int) < L.length ∧ w.cell? ⟨b, jn, none⟩ = some (.int .i64 v) ∧ v ∈ L := by
  obtain ⟨jn, rfl⟩ : ∃ jn : Nat, j = jn := ⟨j.toNat, by omega⟩
  have hl : jn < L.length := by omega
  refine ⟨jn, L[jn], rfl, h1, h.2.2 jn _ ?_, List.getElem_mem hl⟩
  rw [List.getElem?_map, List.getElem?_eq_getElem hl]
  rfl

open Go.RowKit

/-- A row of m int64 cells at a place. -/
def RowI (w : World) (s : Option Addr) (m : Nat) (V : Nat → Int) : Prop := ∀ j, j < m → ∃ b o, s = some ⟨b, o, none⟩ ∧ b < w.heap.size ∧ w.cell? ⟨b, o + j, none⟩ = some (.int .i64 (V j))
theorem RowI.below {w w' : World} {s : Option Addr} {m : Nat} {V : Nat → Int} (h : RowI w s m V) (hb : Below w.heap.size w w') : RowI w' s m V := fun j hj => by
  obtain ⟨b, o, e, hl, hc⟩ := h j hj
  exact ⟨b, o, e, Nat.lt_of_lt_of_le hl hb.size, (hb.cell (p := ⟨b, o + j, none⟩) hl).trans hc⟩

open Go.RowKit

/-- The first m numbers, as cells. -/
def vals (U : Nat → Int) (m : Nat) : List Value := (List.range m).map fun j => .int .i64 (U j)
theorem vals_length (U : Nat → Int) (m : Nat) : (vals U m).length = m := by simp [vals]
theorem vals_succ (U : Nat → Int) (m : Nat) : vals U (m + 1) = vals U m ++ [.int .i64 (U m)] := by simp [vals, List.range_succ]
theorem vals_two (U : Nat → Int) (m : Nat) : vals U (m + 2) = vals U m ++ [.int .i64 (U m), .int .i64 (U (m + 1))] := by
  rw [show m + 2 = m + 1 + 1 from rfl, vals_succ, vals_succ, List.append_assoc]; rfl
theorem vals_at (U : Nat → Int) {m j : Nat} (h : j < m) : (vals U m)[j]? = some (.int .i64 (U j)) := by simp [vals, h]
theorem vals_congr {U V : Nat → Int} {m : Nat} (h : ∀ j, j < m → U j = V j) : vals U m = vals V m := by
  unfold vals
  refine List.map_congr_left fun j hj => ?_
  rw [h j (List.mem_range.1 hj)]
/-- A row of m int64 cells in blocks from base on, which may be written. -/
def OwnI (base : Nat) (w : World) (s : Option Addr) (m : Nat) (V : Nat → Int) : Prop := ∀ j, j < m → ∃ b, s = some ⟨b, 0, none⟩ ∧ base ≤ b ∧ b < w.heap.size ∧ w.cell? ⟨b, j, none⟩ = some (.int .i64 (V j)) ∧ w.frozen? ⟨b, j, none⟩ = false
theorem OwnI.row {base : Nat} {w : World} {s : Option Addr} {m : Nat} {V : Nat → Int} (h : OwnI base w s m V) : RowI w s m V := fun j hj => by
  obtain ⟨b, e, _, hl, hc, _⟩ := h j hj
  exact ⟨b, 0, e, hl, by rw [Nat.zero_add]; exact hc⟩
theorem OwnI.below {base : Nat} {w w' : World} {s : Option Addr} {m : Nat} {V : Nat → Int} (h : OwnI base w s m V) (hb : Below w.heap.size w w') : OwnI base w' s m V := fun j hj => by
  obtain ⟨b, e, hB, hl, hc, hf⟩ := h j hj
  exact ⟨b, e, hB, Nat.lt_of_lt_of_le hl hb.size, (hb.cell (p := ⟨b, j, none⟩) hl).trans hc, (hb.frozen (p := ⟨b, j, none⟩) hl).trans hf⟩
theorem OwnI.mono {base base' : Nat} {w : World} {s : Option Addr} {m : Nat} {V : Nat → Int} (h : OwnI base w s m V) (hb : base' ≤ base) : OwnI base' w s m V := fun j hj => by
  obtain ⟨b, e, hB, r⟩ := h j hj
  exact ⟨b, e, by omega, r⟩
theorem OwnI.congr {base : Nat} {w : World} {s : Option Addr} {m : Nat} {V U : Nat → Int} (h : OwnI base w s m V) (e : ∀ j, j < m → V j = U j) : OwnI base w s m U := fun j hj => by
  obtain ⟨b, e1, hB, hl, hc, hf⟩ := h j hj
  exact ⟨b, e1, hB, hl, by rw [← e j hj]; exact hc, hf⟩
theorem RowI.congr {w : World} {s : Option Addr} {m : Nat} {V U : Nat → Int} (h : RowI w s m V) (e : ∀ j, j < m → V j = U j) : RowI w s m U := fun j hj => by
  obtain ⟨b, o, e1, hl, hc⟩ := h j hj
  exact ⟨b, o, e1, hl, by rw [← e j hj]; exact hc⟩
theorem own_OwnI {w : World} {base : Nat} {e : TypeId} {size n : Nat} {v : Value} {U : Nat → Int} (h : w.ownsRow base e size v n (vals U (n * size))) : ∃ s cap, v = .slice s n cap ∧ OwnI base w s (n * size) U := by
  rcases h.2 with ⟨rfl, rfl⟩ | ⟨g, cap, cur, rfl, hb, hg, _, _, _, _⟩
  · exact ⟨none, 0, rfl, fun j hj => by omega⟩
  · refine ⟨some ⟨g, 0, none⟩, cap, rfl, fun j hj => ⟨g, rfl, hb, (Array.getElem?_eq_some_iff.1 hg).1, ?_, h.frozenAt j⟩⟩
    rw [h.cellAt j hj, vals_at U hj]
theorem grown_below {w w' : World} {row : Option Nat} (h : w.grownBy w' row) {B : Nat} (hB : B ≤ w.heap.size) (hr : ∀ r, row = some r → B ≤ r) : Below B w w' :=
  ⟨h.os, h.tape, h.output, h.size, fun k hk => h.block k (by omega) (fun e => by have := hr k e.symm; omega)⟩
theorem grown_new {w w' : World} {o : Obj} {row : Option Nat} (h : (w.alloc o).grownBy w' row) : w.grownBy w' row :=
  ⟨h.os, h.tape, h.output, Nat.le_trans (by simp) h.size, fun k hk hn => (h.block k (by simp; omega) hn).trans (heap_alloc_old w o hk)⟩
theorem own_block {w : World} {base : Nat} {e : TypeId} {size n : Nat} {v : Value} {xs : List Value} (h : w.ownsRow base e size v n xs) : ∀ r, v.ownBlock = some r → base ≤ r := fun r hr => (h.lt r hr).1
theorem newsOne (W : World) (a : Value) (t : TypeId) : ∀ j u, [a][j]? = some u → (W.alloc (.cells #[a] t)).cell? ((⟨W.heap.size, 0, none⟩ : Addr).add j) = some u := World.news_of_block (cs := #[a]) (heap_alloc_new W _)
theorem newsTwo (W : World) (a b : Value) (t : TypeId) : ∀ j u, [a, b][j]? = some u → (W.alloc (.cells #[a, b] t)).cell? ((⟨W.heap.size, 0, none⟩ : Addr).add j) = some u := World.news_of_block (cs := #[a, b]) (heap_alloc_new W _)

open Go.ChangeShapes Go.WideShapes Go.ChangeAt Go.RowKit
set_option linter.unusedVariables false
set_option linter.unusedSimpArgs false

/-- A list of k rows of M int64s, in memory of its own. -/
def Lst (base : Nat) (T : TypeId) (M : Nat) (w : World) (v : Value) (k : Nat) (U : Nat → Int) : Prop := w.ownsRow base T M v k (vals U (k * M))
theorem Lst.same {w w' : World} {base : Nat} {T : TypeId} {M : Nat} {v : Value} {k : Nat} {U : Nat → Int} (h : Lst base T M w v k U) (hs : ∀ g, v.ownBlock = some g → w'.heap[g]? = w.heap[g]?) : Lst base T M w' v k U := by
  refine ⟨h.1, ?_⟩
  rcases h.2 with q | ⟨g, cap, cur, e1, hb, hg, r⟩
  · exact .inl q
  · exact .inr ⟨g, cap, cur, e1, hb, (hs g (by rw [e1]; rfl)).trans hg, r⟩
theorem Lst.beside {w w' : World} {base r : Nat} {T : TypeId} {M : Nat} {v : Value} {k : Nat} {U : Nat → Int} (h : Lst base T M w v k U) (hb : Beside r w w') (hr : r < base) : Lst base T M w' v k U := h.same fun g hg => hb.2.2.2.2 g (h.lt g hg).2 (by have := (h.lt g hg).1; omega)
theorem Lst.below {w w' : World} {base : Nat} {T : TypeId} {M : Nat} {v : Value} {k : Nat} {U : Nat → Int} (h : Lst base T M w v k U) (hb : Below w.heap.size w w') : Lst base T M w' v k U := h.same fun g hg => hb.block g (h.lt g hg).2
theorem Lst.grownL {w w' : World} {base B : Nat} {T : TypeId} {M : Nat} {v : Value} {k : Nat} {U : Nat → Int} (h : Lst base T M w v k U) (hb : Below B w w') (hl : ∀ g, v.ownBlock = some g → g < B) : Lst base T M w' v k U := h.same fun g hg => hb.block g (hl g hg)
theorem Lst.lit (w : World) (base : Nat) (T t : TypeId) (M : Nat) (U : Nat → Int) (hb : base ≤ w.heap.size) : Lst base T M (w.alloc (.cells #[] T)) (.slice (some ⟨w.heap.size, 0, none⟩) 0 0) 0 U := by
  show World.ownsRow _ _ _ _ _ _ _
  simpa [vals] using World.ownsRow_lit (base := base) (size := M) (e := T) w #[] 0 hb (by simp [maxLen]) (by simp)
theorem Lst.own {w : World} {base : Nat} {T : TypeId} {M : Nat} {v : Value} {k : Nat} {U : Nat → Int} (h : Lst base T M w v k U) : ∃ t cap, v = .slice t k cap ∧ OwnI base w t (k * M) U := own_OwnI (size := M) (U := U) h
theorem Lst.form {w : World} {base : Nat} {T : TypeId} {M : Nat} {v : Value} {k : Nat} {U : Nat → Int} (h : Lst base T M w v k U) : ∃ t cap, v = .slice t k cap := by
  obtain ⟨t, cap, e, -⟩ := h.own
  exact ⟨t, cap, e⟩
theorem Lst.cap {w : World} {base : Nat} {T : TypeId} {M : Nat} {t : Option Addr} {k cap : Nat} {U : Nat → Int} (h : Lst base T M w (.slice t k cap) k U) : k ≤ cap := by
  rcases h.2 with ⟨e1, e2⟩ | ⟨g, cap', cur, e1, _, _, hc, _⟩
  · cases e1; omega
  · cases e1; exact hc
/-- The numbers with one row more. -/
def putL (U : Nat → Int) (M k : Nat) (xs : List Int) (j : Nat) : Int := if k * M ≤ j then (xs[j - k * M]?).getD 0 else U j
theorem vals_putL (U : Nat → Int) (M k : Nat) (xs : List Int) (hM : xs.length = M) : vals (putL U M k xs) ((k + 1) * M) = vals U (k * M) ++ xs.map (Value.int .i64) := by
  have key : ∀ m, m ≤ xs.length → vals (putL U M k xs) (k * M + m) = vals U (k * M) ++ (xs.take m).map (Value.int .i64) := by
    intro m
    induction m with
    | zero =>
      intro _
      simp only [List.take_zero, List.map_nil, List.append_nil, Nat.add_zero]
      unfold vals
      refine List.map_congr_left fun j hj => ?_
      have : j < k * M := by simpa using hj
      unfold putL
      rw [if_neg (by omega)]
    | succ m ih =>
      intro hm
      rw [← Nat.add_assoc, vals_succ, ih (by omega), List.append_assoc]
      congr 1
      have e : putL U M k xs (k * M + m) = xs[m] := by
        unfold putL
        rw [if_pos (by omega), show k * M + m - k * M = m by omega, List.getElem?_eq_getElem (by omega)]
        rfl
      rw [e, List.take_add_one, List.getElem?_eq_getElem (by omega), List.map_append]
      rfl
  have := key M (by omega)
  rw [Nat.succ_mul, this, ← hM, List.take_length]
theorem Lst.on {w w' : World} {base : Nat} {T : TypeId} {M : Nat} {v v' : Value} {k : Nat} {U : Nat → Int} {xs : List Int} (h : Lst base T M w v k U) (hM : xs.length = M) (hown : w'.ownsRow base T M v' (k + 1) (vals U (k * M) ++ xs.map (Value.int .i64))) : Lst base T M w' v' (k + 1) (putL U M k xs) := by
  show World.ownsRow _ _ _ _ _ _ _
  rw [vals_putL U M k xs hM]
  exact hown
def lenL : Value → Nat
  | .slice _ n _ => n
  | _ => 0

open Go.ChangeShapes Go.WideShapes Go.ChangeAt Go.RowKit
set_option linter.unusedVariables false
set_option linter.unusedSimpArgs false

/-- Nothing has turned but blocks of S. -/
def Turn (S : Nat → Prop) (w w' : World) : Prop := w'.os = w.os ∧ w'.tape = w.tape ∧ w'.output = w.output ∧ w.heap.size ≤ w'.heap.size ∧ ∀ k, k < w.heap.size → ¬ S k → w'.heap[k]? = w.heap[k]?
theorem Turn.refl (S : Nat → Prop) (w : World) : Turn S w w := ⟨rfl, rfl, rfl, Nat.le_refl _, fun _ _ _ => rfl⟩
theorem Turn.size {S : Nat → Prop} {w w' : World} (h : Turn S w w') : w.heap.size ≤ w'.heap.size := h.2.2.2.1
theorem Turn.trans {S : Nat → Prop} {a b c : World} (h : Turn S a b) (k : Turn S b c) : Turn S a c :=
  ⟨k.1.trans h.1, k.2.1.trans h.2.1, k.2.2.1.trans h.2.2.1, Nat.le_trans h.2.2.2.1 k.2.2.2.1, fun i hi n => (k.2.2.2.2 i (Nat.lt_of_lt_of_le hi h.2.2.2.1) n).trans (h.2.2.2.2 i hi n)⟩
theorem Turn.mono {S S' : Nat → Prop} {a b : World} (h : Turn S a b) (hs : ∀ k, S k → S' k) : Turn S' a b := ⟨h.1, h.2.1, h.2.2.1, h.2.2.2.1, fun i hi n => h.2.2.2.2 i hi (fun q => n (hs i q))⟩
theorem Turn.of {S : Nat → Prop} {r : Nat} {w w' : World} (h : Beside r w w') (hr : S r) : Turn S w w' := ⟨h.1, h.2.1, h.2.2.1, h.2.2.2.1, fun k hk n => h.2.2.2.2 k hk (fun e => n (e ▸ hr))⟩
theorem Turn.grown {S : Nat → Prop} {w w' : World} (h : Below w.heap.size w w') : Turn S w w' := ⟨h.os, h.tape, h.output, h.size, fun k hk _ => h.block k hk⟩
theorem Turn.below {S : Nat → Prop} {w w' : World} {B : Nat} (h : Turn S w w') (hS : ∀ k, S k → B ≤ k) (hB : B ≤ w.heap.size) : Below B w w' := ⟨h.1, h.2.1, h.2.2.1, h.2.2.2.1, fun k hk => h.2.2.2.2 k (by omega) (fun q => by have := hS k q; omega)⟩
theorem Turn.cell {S : Nat → Prop} {w w' : World} (h : Turn S w w') {p : Addr} (hp : p.block < w.heap.size) (hn : ¬ S p.block) : w'.cell? p = w.cell? p := World.cell?_of_block (w := w) (h.2.2.2.2 p.block hp hn)
theorem Turn.frozen {S : Nat → Prop} {w w' : World} (h : Turn S w w') {p : Addr} (hp : p.block < w.heap.size) (hn : ¬ S p.block) : w'.frozen? p = w.frozen? p := World.frozen?_of_block (w := w) (h.2.2.2.2 p.block hp hn)
theorem store_slT : ∀ (W : World) (a : Addr) (s : Option Addr) (n c : Nat), (W.cell? a).isSome = true → W.frozen? a = false → (store a (.slice s n c)).run Try.prog W = .ok () (W.setCell a (.slice s n c)) := fun W a s n c h hf => by
  obtain ⟨u, hu⟩ := Option.isSome_iff_exists.1 h
  rw [run_store Try.prog W a _ _ rfl, hu]
  simp [hf]
theorem set_block {w : World} {r o : Nat} {u : Value} {k : Nat} (hk : k < w.heap.size) (h : k ≠ r) : (w.setCell ⟨r, o, none⟩ u).heap[k]? = w.heap[k]? := (Beside.setCell r w o u).2.2.2.2 k hk h

end Go.Proofs.Ytlbbdifmjdpfiaa
