/-
What is proved: lists of bools: rows of them, rows that a call owns, one appended; what the law's own helpers do with them.
-/
import Derived.Test.YtlbbdifmjdpfiaaZdA
import Derived.Deep.OwnRows
import Derived.Deep.RegionHeld3
import Derived.Deep.DeepCutAuto
import Derived.Deep.AppendLies
import Derived.Laws.OwnMore
namespace Go.Proofs.Ytlbbdifmjdpfiaa
set_option maxRecDepth 40000
open Go.RowKit
set_option linter.unusedVariables false
set_option linter.unusedSimpArgs false

def RowB (w : World) (s : Option Addr) (m : Nat) (V : Nat → Bool) : Prop := ∀ j, j < m → ∃ b o, s = some ⟨b, o, none⟩ ∧ b < w.heap.size ∧ w.cell? ⟨b, o + j, none⟩ = some (.bool (V j))
theorem RowB.below {w w' : World} {s : Option Addr} {m : Nat} {V : Nat → Bool} (h : RowB w s m V) (hb : Below w.heap.size w w') : RowB w' s m V := fun j hj => by
  obtain ⟨b, o, e, hl, hc⟩ := h j hj
  exact ⟨b, o, e, Nat.lt_of_lt_of_le hl hb.size, (hb.cell (p := ⟨b, o + j, none⟩) hl).trans hc⟩
def OwnB (base : Nat) (w : World) (s : Option Addr) (m : Nat) (V : Nat → Bool) : Prop := ∀ j, j < m → ∃ b, s = some ⟨b, 0, none⟩ ∧ base ≤ b ∧ b < w.heap.size ∧ w.cell? ⟨b, j, none⟩ = some (.bool (V j)) ∧ w.frozen? ⟨b, j, none⟩ = false
theorem OwnB.row {base : Nat} {w : World} {s : Option Addr} {m : Nat} {V : Nat → Bool} (h : OwnB base w s m V) : RowB w s m V := fun j hj => by
  obtain ⟨b, e, _, hl, hc, _⟩ := h j hj
  exact ⟨b, 0, e, hl, by rw [Nat.zero_add]; exact hc⟩
theorem OwnB.below {base : Nat} {w w' : World} {s : Option Addr} {m : Nat} {V : Nat → Bool} (h : OwnB base w s m V) (hb : Below w.heap.size w w') : OwnB base w' s m V := fun j hj => by
  obtain ⟨b, e, hB, hl, hc, hf⟩ := h j hj
  exact ⟨b, e, hB, Nat.lt_of_lt_of_le hl hb.size, (hb.cell (p := ⟨b, j, none⟩) hl).trans hc, (hb.frozen (p := ⟨b, j, none⟩) hl).trans hf⟩
theorem OwnB.mono {base base' : Nat} {w : World} {s : Option Addr} {m : Nat} {V : Nat → Bool} (h : OwnB base w s m V) (hb : base' ≤ base) : OwnB base' w s m V := fun j hj => by
  obtain ⟨b, e, hB, r⟩ := h j hj
  exact ⟨b, e, by omega, r⟩
theorem OwnB.congr {base : Nat} {w : World} {s : Option Addr} {m : Nat} {V U : Nat → Bool} (h : OwnB base w s m V) (e : ∀ j, j < m → V j = U j) : OwnB base w s m U := fun j hj => by
  rw [← e j hj]; exact h j hj
def markB (k : Int) (j : Nat) : Bool := (k + (j : Int)) % 3 == 0
theorem OwnB.beside {base r : Nat} {w w' : World} {s : Option Addr} {m : Nat} {V : Nat → Bool} (h : OwnB base w s m V) (hb : Beside r w w') (hr : r < base) : OwnB base w' s m V := fun j hj => by
  obtain ⟨b, e, hB, hl, hc, hf⟩ := h j hj
  exact ⟨b, e, hB, Nat.lt_of_lt_of_le hl hb.2.2.2.1, (hb.cell (p := ⟨b, j, none⟩) hl (by simp only; omega)).trans hc, (hb.frozen (p := ⟨b, j, none⟩) hl (by simp only; omega)).trans hf⟩
theorem make_bool (n : Nat) (hn : n ≤ 1048576) (w : World) : (Instr.makeSlice 36 (.int .i64 (n : Int)) (.int .i64 (n : Int))).run Try.prog w = .ok (.slice (some ⟨w.heap.size, 0, none⟩) n n) (w.alloc (.cells (madeCells #[.bool false] n) 4)) := by
  have hinfo : (Try.prog.info? 4).map (fun i => (i.zero, i.size, i.bytes)) = some (some (.bool false), 1, 1) := by kernel_rfl
  obtain ⟨i, hi, hzz⟩ := Option.map_eq_some_iff.1 hinfo
  simp only [Prod.mk.injEq] at hzz
  obtain ⟨hz, hs, hb⟩ := hzz
  have hr := run_make (P := Try.prog) w 36 4 i _ Try.underlying36 hi hz .i64 .i64 n n (by omega) (Int.le_refl _) (by rw [hb]; omega) (by omega)
  simp only [Int.toNat_natCast, hs, Nat.mul_one] at hr
  exact hr
/-- A row on its way: of n cells the first k are V, the others 0, in the block at the end of w. -/
def BowTo (w wr : World) (n k : Nat) (V : Nat → Bool) : Prop := Below w.heap.size w wr ∧ w.heap.size < wr.heap.size ∧ (∀ o, wr.frozen? ⟨w.heap.size, o, none⟩ = false) ∧ ∀ j, j < n → wr.cell? ⟨w.heap.size, j, none⟩ = some (.bool (if j < k then V j else false))
theorem bowTo_start (w : World) (n : Nat) (V : Nat → Bool) (t : TypeId) : BowTo w (w.alloc (.cells (madeCells #[.bool false] n) t)) n 0 V := by
  refine ⟨below0 _ _, by simp, fun o => by simp [go_sem], fun j hj => ?_⟩
  have hm : (madeCells #[.bool false] n)[j]? = some (.bool false) := by
    simp only [madeCells, Array.getElem?_map, Array.getElem?_range, hj, if_true, Option.map_some]
    show some ((#[Value.bool false] : Array Value)[j % 1]!) = _
    rw [Nat.mod_one]; rfl
  rw [if_neg (by omega)]
  simpa [go_sem] using hm
theorem bowTo_on {w wr w3 : World} {n k : Nat} {V : Nat → Bool} (h : BowTo w wr n k V) (h3 : Below wr.heap.size wr w3) : BowTo w (w3.setCell ⟨w.heap.size, k, none⟩ (.bool (V k))) n (k + 1) V := by
  obtain ⟨hB, hz, hf, hc⟩ := h
  have z3 : w.heap.size < w3.heap.size := Nat.lt_of_lt_of_le hz h3.size
  have B3 : Below w.heap.size w w3 := hB.trans (h3.mono (by omega))
  have fz : ∀ o, w3.frozen? ⟨w.heap.size, o, none⟩ = false := fun o => (h3.frozen (p := ⟨w.heap.size, o, none⟩) hz).trans (hf o)
  refine ⟨(by repeat (first | with_reducible exact Below.refl _ _ | with_reducible exact B3 | with_reducible refine Below.setCell ?_ (by first | omega | (simp; done) | (simp; omega)) _ | with_reducible refine bDrewN ?_ _ | with_reducible refine Below.drew ?_ | with_reducible refine Below.alloc ?_ (by first | omega | (simp; done) | (simp; omega)) _)), by simpa using z3, fun o => by simp [go_sem, fz], fun j hj => ?_⟩
  have c3 : w3.cell? ⟨w.heap.size, j, none⟩ = some (.bool (if j < k then V j else false)) := (h3.cell (p := ⟨w.heap.size, j, none⟩) hz).trans (hc j hj)
  by_cases b : j = k
  · subst b
    rw [if_pos (by omega)]
    simp [go_sem, c3]
  · have e : (if j < k + 1 then V j else false) = (if j < k then V j else false) := by
      by_cases q : j < k
      · rw [if_pos q, if_pos (by omega)]
      · rw [if_neg q, if_neg (by omega)]
    rw [e]
    simp [go_sem, c3, b]
theorem bowTo_own {w wr : World} {n : Nat} {V : Nat → Bool} (h : BowTo w wr n n V) : OwnB w.heap.size wr (some ⟨w.heap.size, 0, none⟩) n V := fun j hj => by
  obtain ⟨hB, hz, hf, hc⟩ := h
  exact ⟨_, rfl, Nat.le_refl _, hz, by rw [hc j hj, if_pos hj], hf j⟩

set_option maxRecDepth 20000 in
set_option maxHeartbeats 1000000 in
theorem eqBoolS_any (s t : Option Addr) (n c d : Nat) (V : Nat → Bool) (w : World) (hn : (n : Int) ≤ 1048576) (HR : Hid (RowB w s n V)) (HT : Hid (RowB w t n V)) :
    Calls Try.prog 69 #[.slice s n c, .slice t n d] w fun e w' => e = .returned (.bool true) ∧ Below w.heap.size w w' := by
  go_enter Try.func69, Try.ntmps69
  go_wp2_with fail
  go_loopw [5] (fun i wr => ∃ k : Nat, k ≤ n ∧ i = .int .i64 k ∧ Below w.heap.size w wr) (fun i _ => n - (intOf i).toNat)
  case atStart => exact ⟨0, Nat.zero_le _, rfl, Below.refl _ _⟩
  case round =>
    obtain ⟨k, hk, rfl, hB⟩ := hrel
    by_cases h1 : k < n
    · obtain ⟨g, o, rfl, hg, c0⟩ := HR.out k h1
      obtain ⟨p, q, rfl, hp, d0⟩ := HT.out k h1
      have u0 : wr.cell? ⟨g, o + k, none⟩ = some (.bool (V k)) := (hB.cell (p := ⟨g, o + k, none⟩) hg).trans c0
      have v0 : wr.cell? ⟨p, q + k, none⟩ = some (.bool (V k)) := (hB.cell (p := ⟨p, q + k, none⟩) hp).trans d0
      have k1 : (k : Int) < (n : Int) := by omega
      have HB : Hid (Below w.heap.size w wr) := hB
      clear hB c0 d0 hg hp
      go_wp2_with fail
      go_region_held3 (fun w' => w'.cell? ⟨g, o + k, none⟩ = some (.bool (V k)) ∧ w'.cell? ⟨p, q + k, none⟩ = some (.bool (V k))) (first | go_keep) (fail)
      all_goals
        have B4 := HB.out
        go_wp2
        go_roundw
        case rel => exact ⟨k + 1, by omega, by go_num, (by repeat (first | with_reducible exact Below.refl _ _ | with_reducible exact B4 | with_reducible refine Below.setCell ?_ (by first | omega | (simp; done) | (simp; omega)) _ | with_reducible refine bDrewN ?_ _ | with_reducible refine Below.drew ?_ | with_reducible refine Below.alloc ?_ (by first | omega | (simp; done) | (simp; omega)) _))⟩
        case measure => simp [intOf]; omega
    · obtain rfl : k = n := by omega
      go_wp2
      go_ret
      exact ⟨rfl, (by repeat (first | with_reducible exact Below.refl _ _ | with_reducible exact hB | with_reducible refine Below.setCell ?_ (by first | omega | (simp; done) | (simp; omega)) _ | with_reducible refine bDrewN ?_ _ | with_reducible refine Below.drew ?_ | with_reducible refine Below.alloc ?_ (by first | omega | (simp; done) | (simp; omega)) _))⟩

/-- A row on its way of being marked: the first j are k, k + 1, .. -/
def BarkTo (b : Nat) (w wr : World) (n j : Nat) (k : Int) (V : Nat → Bool) : Prop := Beside b w wr ∧ (∀ o, o < n → wr.frozen? ⟨b, o, none⟩ = false) ∧ ∀ i, i < n → wr.cell? ⟨b, i, none⟩ = some (.bool (if i < j then markB k i else V i))
theorem barkTo_on {b : Nat} {w wr : World} {n j : Nat} {k : Int} {V : Nat → Bool} (hb : b < w.heap.size) (h : BarkTo b w wr n j k V) : BarkTo b w (wr.setCell ⟨b, j, none⟩ (.bool (markB k j))) n (j + 1) k V := by
  obtain ⟨hB, hf, hc⟩ := h
  refine ⟨hB.trans (Beside.setCell b wr j _), fun o ho => by simp [go_sem, hf o ho], fun i hi => ?_⟩
  have c3 := hc i hi
  by_cases e : i = j
  · subst e
    rw [if_pos (by omega)]
    simp [go_sem, c3]
  · have e2 : (if i < j + 1 then markB k i else V i) = (if i < j then markB k i else V i) := by
      by_cases q : i < j
      · rw [if_pos q, if_pos (by omega)]
      · rw [if_neg q, if_neg (by omega)]
    rw [e2]
    simp [go_sem, c3, e]

set_option maxRecDepth 20000 in
set_option maxHeartbeats 2000000 in
theorem markBoolS_at (b n c : Nat) (k : Int) (V : Nat → Bool) (w : World) (hn : (n : Int) ≤ 1048576) (k0 : 0 ≤ k) (k1 : k ≤ 100000000) (hb : b < w.heap.size) (HR : Hid (∀ j, j < n → w.cell? ⟨b, j, none⟩ = some (.bool (V j)) ∧ w.frozen? ⟨b, j, none⟩ = false)) :
    Calls Try.prog 58 #[.slice (some ⟨b, 0, none⟩) n c, .int .i64 k] w fun e w' => e = .returned (.int .i64 (k + n)) ∧ BarkTo b w w' n n k V := by
  go_enter Try.func58, Try.ntmps58
  go_wp2_with fail
  go_loopw [1, 5] (fun q i wr => ∃ j : Nat, j ≤ n ∧ i = .int .i64 j ∧ q = .int .i64 (k + j) ∧ BarkTo b w wr n j k V) (fun _ i _ => n - (intOf i).toNat)
  case atStart => exact ⟨0, Nat.zero_le _, rfl, by simp, (Beside.of (Below.refl _ _)), fun o ho => (HR.out o ho).2, fun i hi => by rw [if_neg (by omega)]; exact (HR.out i hi).1⟩
  case round =>
    obtain ⟨j, hj, rfl, rfl, hR⟩ := hrel
    have HT : Hid (BarkTo b w wr n j k V) := hR
    obtain ⟨hB, hf, hc⟩ := hR
    by_cases h1 : j < n
    · have e0 := hc j h1
      have f0 := hf j h1
      have k1 : (j : Int) < (n : Int) := by omega
      clear hc hf hB
      go_wp2
      go_roundw
      case rel => exact ⟨j + 1, by omega, by go_num, by go_num, barkTo_on hb HT.out⟩
      case measure => simp [intOf]; omega
    · obtain rfl : j = n := by omega
      go_wp2
      go_ret
      exact ⟨rfl, HT.out⟩

set_option maxHeartbeats 1000000 in
theorem markBoolS_nil (s : Option Addr) (c : Nat) (k : Int) (w : World) :
    Calls Try.prog 58 #[.slice s 0 c, .int .i64 k] w fun e w' => e = .returned (.int .i64 k) ∧ w' = w := by
  go_enter Try.func58, Try.ntmps58
  go_wp2_with fail
  go_loop [1, 5] (fun q i => i = .int .i64 0 ∧ q = .int .i64 k) (fun _ i => 0)
  case atStart => exact ⟨rfl, rfl⟩
  case round =>
    obtain ⟨rfl, rfl⟩ := hrel
    go_wp2
    go_ret
    exact ⟨rfl, rfl⟩
theorem markBoolS_own (base : Nat) (s : Option Addr) (n c : Nat) (k : Int) (V : Nat → Bool) (w : World) (hn : (n : Int) ≤ 1048576) (k0 : 0 ≤ k) (k1 : k ≤ 100000000) (hb : base ≤ w.heap.size) (HR : OwnB base w s n V) :
    Calls Try.prog 58 #[.slice s n c, .int .i64 k] w fun e w' => e = .returned (.int .i64 (k + n)) ∧ OwnB base w' s n (markB k) ∧ Below base w w' ∧ ∀ b, s = some ⟨b, 0, none⟩ → Beside b w w' := by
  by_cases h : n = 0
  · subst h
    refine (markBoolS_nil s c k w).mono ?_
    rintro e w' ⟨rfl, rfl⟩
    exact ⟨by simp, fun j hj => by omega, Below.refl _ _, fun b _ => Beside.of (Below.refl _ _)⟩
  · obtain ⟨b, rfl, hB, hl, _, _⟩ := HR 0 (by omega)
    have HH : Hid (∀ j, j < n → w.cell? ⟨b, j, none⟩ = some (.bool (V j)) ∧ w.frozen? ⟨b, j, none⟩ = false) := fun j hj => by
      obtain ⟨b', e', _, _, h1, h2⟩ := HR j hj
      cases e'
      exact ⟨h1, h2⟩
    refine (markBoolS_at b n c k V w hn k0 k1 hl HH).mono ?_
    rintro e w' ⟨rfl, hB', hf, hc⟩
    refine ⟨rfl, fun j hj => ⟨b, rfl, hB, Nat.lt_of_lt_of_le hl hB'.2.2.2.1, by rw [hc j hj, if_pos hj], hf j hj⟩, hB'.below hB hb, fun b' e => ?_⟩
    cases e
    exact hB'


open Go.RowKit
set_option linter.unusedVariables false
set_option linter.unusedSimpArgs false

set_option maxRecDepth 20000 in
set_option maxHeartbeats 2000000 in
theorem toBoolS_any (s : Option Addr) (n c : Nat) (V : Nat → Bool) (w : World) (hn : (n : Int) ≤ 1048576) (HR : Hid (RowB w s n V)) :
    Calls Try.prog 66 #[.slice s n c] w fun e w' => e = .returned (.slice (some ⟨w.heap.size, 0, none⟩) n n) ∧ w.heap.size < w'.heap.size ∧ OwnB w.heap.size w' (some ⟨w.heap.size, 0, none⟩) n V ∧ Below w.heap.size w w' := by
  have hmk := make_bool n (by omega)
  go_enter Try.func66, Try.ntmps66
  go_wp2_with fail
  go_loopw [4] (fun i wr => ∃ k : Nat, k ≤ n ∧ i = .int .i64 k ∧ BowTo w wr n k V) (fun i _ => n - (intOf i).toNat)
  case atStart => exact ⟨0, Nat.zero_le _, rfl, bowTo_start w n V 4⟩
  case round =>
    obtain ⟨k, hk, rfl, hR⟩ := hrel
    have HT : Hid (BowTo w wr n k V) := hR
    obtain ⟨hB, hz, hf, hc⟩ := hR
    by_cases h1 : k < n
    · obtain ⟨g, o, rfl, hg, c0⟩ := HR.out k h1
      have d0 : wr.cell? ⟨g, o + k, none⟩ = some (.bool (V k)) := (hB.cell (p := ⟨g, o + k, none⟩) hg).trans c0
      have e0 := hc k h1
      have k1 : (k : Int) < (n : Int) := by omega
      have zg : g < wr.heap.size := Nat.lt_of_lt_of_le hg hB.size
      have ne : ¬ g = w.heap.size := by omega
      clear hc hB c0 hg
      go_wp2
      go_roundw
      case rel => exact ⟨k + 1, by omega, by go_num, bowTo_on HT.out (by repeat (first | with_reducible exact Below.refl _ _ | with_reducible refine Below.setCell ?_ (by first | omega | (simp; done) | (simp; omega)) _ | with_reducible refine bDrewN ?_ _ | with_reducible refine Below.drew ?_ | with_reducible refine Below.alloc ?_ (by first | omega | (simp; done) | (simp; omega)) _))⟩
      case measure => simp [intOf]; omega
    · obtain rfl : k = n := by omega
      go_wp2
      go_ret
      exact ⟨rfl, hz, bowTo_own HT.out, hB⟩


open Go.ChangeShapes Go.WideShapes Go.ChangeAt Go.RowKit
set_option linter.unusedVariables false
set_option linter.unusedSimpArgs false

def BooR (S : Nat → Prop) (w : World) (s : Option Addr) (n : Nat) (V : Nat → Bool) : Prop := OwnB 0 w s n V ∧ (0 < n → ∀ b, s = some ⟨b, 0, none⟩ → S b)
theorem BooR.row {S : Nat → Prop} {w : World} {s : Option Addr} {n : Nat} {V : Nat → Bool} (h : BooR S w s n V) : RowB w s n V := h.1.row
theorem BooR.keep {S : Nat → Prop} {w w' : World} {s : Option Addr} {n : Nat} {V : Nat → Bool} (h : BooR S w s n V) (hs : w.heap.size ≤ w'.heap.size) (hb : ∀ k, S k → k < w.heap.size → w'.heap[k]? = w.heap[k]?) : BooR S w' s n V := ⟨fun j hj => by
  obtain ⟨b, e, hB, hl, hc, hf⟩ := h.1 j hj
  have eb := hb b (h.2 (by omega) b e) hl
  exact ⟨b, e, hB, Nat.lt_of_lt_of_le hl hs, (World.cell?_of_block (w := w) (a := ⟨b, j, none⟩) eb).trans hc, (World.frozen?_of_block (w := w) (a := ⟨b, j, none⟩) eb).trans hf⟩, h.2⟩
theorem BooR.below {S : Nat → Prop} {w w' : World} {s : Option Addr} {n : Nat} {V : Nat → Bool} (h : BooR S w s n V) (hb : Below w.heap.size w w') : BooR S w' s n V := h.keep hb.size fun k _ hk => hb.block k hk
theorem BooR.set {S : Nat → Prop} {w : World} {s : Option Addr} {n : Nat} {V : Nat → Bool} {r o : Nat} {u : Value} (h : BooR S w s n V) (hr : ¬ S r) : BooR S (w.setCell ⟨r, o, none⟩ u) s n V := h.keep (by simp) fun k hk hl => set_block hl (fun e => hr (e ▸ hk))
theorem BooR.widen {S S' : Nat → Prop} {w : World} {s : Option Addr} {n : Nat} {V : Nat → Bool} (h : BooR S w s n V) (hs : ∀ k, S k → S' k) : BooR S' w s n V := ⟨h.1, fun a b c => hs b (h.2 a b c)⟩
theorem BooR.of {base : Nat} {w : World} {s : Option Addr} {n : Nat} {V : Nat → Bool} (h : OwnB base w s n V) : BooR (fun k => base ≤ k ∧ k < w.heap.size) w s n V := ⟨h.mono (Nat.zero_le _), fun hn b e => by
  obtain ⟨b', e', h1, h2, _⟩ := h 0 hn
  rw [e] at e'
  cases e'
  exact ⟨h1, h2⟩⟩
theorem toBoolS_r (s : Option Addr) (n c : Nat) (V : Nat → Bool) (w : World) (hn : (n : Int) ≤ 1048576) (HR : Hid (RowB w s n V)) :
    Calls Try.prog 66 #[.slice s n c] w fun e w' => ∃ (s' : Option Addr) (S : Nat → Prop), e = .returned (.slice s' n n) ∧ (∀ k, S k → w.heap.size ≤ k ∧ k < w'.heap.size) ∧ BooR S w' s' n V ∧ Below w.heap.size w w' :=
  (toBoolS_any s n c V w hn HR).mono fun e w' ⟨h1, h2, h3, h4⟩ => ⟨_, _, h1, fun k hk => hk, BooR.of h3, h4⟩
theorem markBoolS_r (S : Nat → Prop) (s : Option Addr) (n c : Nat) (k : Int) (V : Nat → Bool) (w : World) (hn : (n : Int) ≤ 1048576) (k0 : 0 ≤ k) (k1 : k ≤ 100000000) (HR : BooR S w s n V) :
    Calls Try.prog 58 #[.slice s n c, .int .i64 k] w fun e w' => e = .returned (.int .i64 (k + n)) ∧ BooR S w' s n (markB k) ∧ Turn S w w' := by
  by_cases h : n = 0
  · subst h
    refine (markBoolS_nil s c k w).mono ?_
    rintro e w' ⟨rfl, rfl⟩
    exact ⟨by simp, ⟨fun j hj => by omega, fun q => by omega⟩, Turn.refl _ _⟩
  · obtain ⟨b, eb, _⟩ := HR.1 0 (by omega)
    have hb := HR.2 (by omega) b eb
    refine (markBoolS_own 0 s n c k V w hn k0 k1 (Nat.zero_le _) HR.1).mono ?_
    rintro e w' ⟨rfl, O, -, hB⟩
    exact ⟨rfl, ⟨O, HR.2⟩, Turn.of (hB b eb) hb⟩

open Go.RowKit
set_option linter.unusedVariables false
set_option linter.unusedSimpArgs false

theorem OwnI.beside {base r : Nat} {w w' : World} {s : Option Addr} {m : Nat} {V : Nat → Int} (h : OwnI base w s m V) (hb : Beside r w w') (hr : r < base) : OwnI base w' s m V := fun j hj => by
  obtain ⟨b, e, hB, hl, hc, hf⟩ := h j hj
  exact ⟨b, e, hB, Nat.lt_of_lt_of_le hl hb.2.2.2.1, (hb.cell (p := ⟨b, j, none⟩) hl (by simp only; omega)).trans hc, (hb.frozen (p := ⟨b, j, none⟩) hl (by simp only; omega)).trans hf⟩
theorem make_i64 (n : Nat) (hn : n ≤ 1048576) (w : World) : (Instr.makeSlice 33 (.int .i64 (n : Int)) (.int .i64 (n : Int))).run Try.prog w = .ok (.slice (some ⟨w.heap.size, 0, none⟩) n n) (w.alloc (.cells (madeCells #[.int .i64 0] n) 2)) := by
  have hinfo : (Try.prog.info? 2).map (fun i => (i.zero, i.size, i.bytes)) = some (some (.int .i64 0), 1, 8) := by kernel_rfl
  obtain ⟨i, hi, hzz⟩ := Option.map_eq_some_iff.1 hinfo
  simp only [Prod.mk.injEq] at hzz
  obtain ⟨hz, hs, hb⟩ := hzz
  have hr := run_make (P := Try.prog) w 33 2 i _ Try.underlying33 hi hz .i64 .i64 n n (by omega) (Int.le_refl _) (by rw [hb]; omega) (by omega)
  simp only [Int.toNat_natCast, hs, Nat.mul_one] at hr
  exact hr
/-- A row on its way: of n cells the first k are V, the others 0, in the block at the end of w. -/
def RowTo (w wr : World) (n k : Nat) (V : Nat → Int) : Prop := Below w.heap.size w wr ∧ w.heap.size < wr.heap.size ∧ (∀ o, wr.frozen? ⟨w.heap.size, o, none⟩ = false) ∧ ∀ j, j < n → wr.cell? ⟨w.heap.size, j, none⟩ = some (.int .i64 (if j < k then V j else 0))
theorem rowTo_start (w : World) (n : Nat) (V : Nat → Int) (t : TypeId) : RowTo w (w.alloc (.cells (madeCells #[.int .i64 0] n) t)) n 0 V := by
  refine ⟨below0 _ _, by simp, fun o => by simp [go_sem], fun j hj => ?_⟩
  have hm : (madeCells #[.int .i64 0] n)[j]? = some (.int .i64 0) := by
    simp only [madeCells, Array.getElem?_map, Array.getElem?_range, hj, if_true, Option.map_some]
    show some ((#[Value.int .i64 0] : Array Value)[j % 1]!) = _
    rw [Nat.mod_one]; rfl
  rw [if_neg (by omega)]
  simpa [go_sem] using hm
theorem rowTo_on {w wr w3 : World} {n k : Nat} {V : Nat → Int} (h : RowTo w wr n k V) (h3 : Below wr.heap.size wr w3) : RowTo w (w3.setCell ⟨w.heap.size, k, none⟩ (.int .i64 (V k))) n (k + 1) V := by
  obtain ⟨hB, hz, hf, hc⟩ := h
  have z3 : w.heap.size < w3.heap.size := Nat.lt_of_lt_of_le hz h3.size
  have B3 : Below w.heap.size w w3 := hB.trans (h3.mono (by omega))
  have fz : ∀ o, w3.frozen? ⟨w.heap.size, o, none⟩ = false := fun o => (h3.frozen (p := ⟨w.heap.size, o, none⟩) hz).trans (hf o)
  refine ⟨(by repeat (first | with_reducible exact Below.refl _ _ | with_reducible exact B3 | with_reducible refine Below.setCell ?_ (by first | omega | (simp; done) | (simp; omega)) _ | with_reducible refine bDrewN ?_ _ | with_reducible refine Below.drew ?_ | with_reducible refine Below.alloc ?_ (by first | omega | (simp; done) | (simp; omega)) _)), by simpa using z3, fun o => by simp [go_sem, fz], fun j hj => ?_⟩
  have c3 : w3.cell? ⟨w.heap.size, j, none⟩ = some (.int .i64 (if j < k then V j else 0)) := (h3.cell (p := ⟨w.heap.size, j, none⟩) hz).trans (hc j hj)
  by_cases b : j = k
  · subst b
    rw [if_pos (by omega)]
    simp [go_sem, c3]
  · have e : (if j < k + 1 then V j else 0) = (if j < k then V j else 0) := by
      by_cases q : j < k
      · rw [if_pos q, if_pos (by omega)]
      · rw [if_neg q, if_neg (by omega)]
    rw [e]
    simp [go_sem, c3, b]
theorem rowTo_own {w wr : World} {n : Nat} {V : Nat → Int} (h : RowTo w wr n n V) : OwnI w.heap.size wr (some ⟨w.heap.size, 0, none⟩) n V := fun j hj => by
  obtain ⟨hB, hz, hf, hc⟩ := h
  exact ⟨_, rfl, Nat.le_refl _, hz, by rw [hc j hj, if_pos hj], hf j⟩

set_option maxRecDepth 20000 in
set_option maxHeartbeats 2000000 in
theorem toInt64S_any (s : Option Addr) (n c : Nat) (V : Nat → Int) (w : World) (hn : (n : Int) ≤ 1048576) (HR : Hid (RowI w s n V)) :
    Calls Try.prog 67 #[.slice s n c] w fun e w' => e = .returned (.slice (some ⟨w.heap.size, 0, none⟩) n n) ∧ w.heap.size < w'.heap.size ∧ OwnI w.heap.size w' (some ⟨w.heap.size, 0, none⟩) n V ∧ Below w.heap.size w w' := by
  have hmk := make_i64 n (by omega)
  go_enter Try.func67, Try.ntmps67
  go_wp2_with fail
  go_loopw [4] (fun i wr => ∃ k : Nat, k ≤ n ∧ i = .int .i64 k ∧ RowTo w wr n k V) (fun i _ => n - (intOf i).toNat)
  case atStart => exact ⟨0, Nat.zero_le _, rfl, rowTo_start w n V 2⟩
  case round =>
    obtain ⟨k, hk, rfl, hR⟩ := hrel
    have HT : Hid (RowTo w wr n k V) := hR
    obtain ⟨hB, hz, hf, hc⟩ := hR
    by_cases h1 : k < n
    · obtain ⟨g, o, rfl, hg, c0⟩ := HR.out k h1
      have d0 : wr.cell? ⟨g, o + k, none⟩ = some (.int .i64 (V k)) := (hB.cell (p := ⟨g, o + k, none⟩) hg).trans c0
      have e0 := hc k h1
      have k1 : (k : Int) < (n : Int) := by omega
      have zg : g < wr.heap.size := Nat.lt_of_lt_of_le hg hB.size
      have ne : ¬ g = w.heap.size := by omega
      clear hc hB c0 hg
      go_wp2
      go_roundw
      case rel => exact ⟨k + 1, by omega, by go_num, rowTo_on HT.out (by repeat (first | with_reducible exact Below.refl _ _ | with_reducible refine Below.setCell ?_ (by first | omega | (simp; done) | (simp; omega)) _ | with_reducible refine bDrewN ?_ _ | with_reducible refine Below.drew ?_ | with_reducible refine Below.alloc ?_ (by first | omega | (simp; done) | (simp; omega)) _))⟩
      case measure => simp [intOf]; omega
    · obtain rfl : k = n := by omega
      go_wp2
      go_ret
      exact ⟨rfl, hz, rowTo_own HT.out, hB⟩

set_option maxRecDepth 20000 in
set_option maxHeartbeats 1000000 in
theorem eqInt64S_any (s t : Option Addr) (n c d : Nat) (V : Nat → Int) (w : World) (hn : (n : Int) ≤ 1048576) (HR : Hid (RowI w s n V)) (HT : Hid (RowI w t n V)) :
    Calls Try.prog 32 #[.slice s n c, .slice t n d] w fun e w' => e = .returned (.bool true) ∧ Below w.heap.size w w' := by
  go_enter Try.func32, Try.ntmps32
  go_wp2_with fail
  go_loopw [5] (fun i wr => ∃ k : Nat, k ≤ n ∧ i = .int .i64 k ∧ Below w.heap.size w wr) (fun i _ => n - (intOf i).toNat)
  case atStart => exact ⟨0, Nat.zero_le _, rfl, Below.refl _ _⟩
  case round =>
    obtain ⟨k, hk, rfl, hB⟩ := hrel
    by_cases h1 : k < n
    · obtain ⟨g, o, rfl, hg, c0⟩ := HR.out k h1
      obtain ⟨p, q, rfl, hp, d0⟩ := HT.out k h1
      have u0 : wr.cell? ⟨g, o + k, none⟩ = some (.int .i64 (V k)) := (hB.cell (p := ⟨g, o + k, none⟩) hg).trans c0
      have v0 : wr.cell? ⟨p, q + k, none⟩ = some (.int .i64 (V k)) := (hB.cell (p := ⟨p, q + k, none⟩) hp).trans d0
      have k1 : (k : Int) < (n : Int) := by omega
      have HB : Hid (Below w.heap.size w wr) := hB
      clear hB c0 d0 hg hp
      go_wp2_with fail
      go_region_held3 (fun w' => w'.cell? ⟨g, o + k, none⟩ = some (.int .i64 (V k)) ∧ w'.cell? ⟨p, q + k, none⟩ = some (.int .i64 (V k))) (first | go_keep) (fail)
      all_goals
        have B4 := HB.out
        go_wp2
        go_roundw
        case rel => exact ⟨k + 1, by omega, by go_num, (by repeat (first | with_reducible exact Below.refl _ _ | with_reducible exact B4 | with_reducible refine Below.setCell ?_ (by first | omega | (simp; done) | (simp; omega)) _ | with_reducible refine bDrewN ?_ _ | with_reducible refine Below.drew ?_ | with_reducible refine Below.alloc ?_ (by first | omega | (simp; done) | (simp; omega)) _))⟩
        case measure => simp [intOf]; omega
    · obtain rfl : k = n := by omega
      go_wp2
      go_ret
      exact ⟨rfl, (by repeat (first | with_reducible exact Below.refl _ _ | with_reducible exact hB | with_reducible refine Below.setCell ?_ (by first | omega | (simp; done) | (simp; omega)) _ | with_reducible refine bDrewN ?_ _ | with_reducible refine Below.drew ?_ | with_reducible refine Below.alloc ?_ (by first | omega | (simp; done) | (simp; omega)) _))⟩

/-- A row on its way of being marked: the first j are k, k + 1, .. -/
def MarkTo (b : Nat) (w wr : World) (n j : Nat) (k : Int) (V : Nat → Int) : Prop := Beside b w wr ∧ (∀ o, o < n → wr.frozen? ⟨b, o, none⟩ = false) ∧ ∀ i, i < n → wr.cell? ⟨b, i, none⟩ = some (.int .i64 (if i < j then k + i else V i))
theorem markTo_on {b : Nat} {w wr : World} {n j : Nat} {k : Int} {V : Nat → Int} (hb : b < w.heap.size) (h : MarkTo b w wr n j k V) : MarkTo b w (wr.setCell ⟨b, j, none⟩ (.int .i64 (k + j))) n (j + 1) k V := by
  obtain ⟨hB, hf, hc⟩ := h
  refine ⟨hB.trans (Beside.setCell b wr j _), fun o ho => by simp [go_sem, hf o ho], fun i hi => ?_⟩
  have c3 := hc i hi
  by_cases e : i = j
  · subst e
    rw [if_pos (by omega)]
    simp [go_sem, c3]
  · have e2 : (if i < j + 1 then k + (i : Int) else V i) = (if i < j then k + (i : Int) else V i) := by
      by_cases q : i < j
      · rw [if_pos q, if_pos (by omega)]
      · rw [if_neg q, if_neg (by omega)]
    rw [e2]
    simp [go_sem, c3, e]

set_option maxRecDepth 20000 in
set_option maxHeartbeats 2000000 in
theorem markInt64S_at (b n c : Nat) (k : Int) (V : Nat → Int) (w : World) (hn : (n : Int) ≤ 1048576) (k0 : 0 ≤ k) (k1 : k ≤ 100000000) (hb : b < w.heap.size) (HR : Hid (∀ j, j < n → w.cell? ⟨b, j, none⟩ = some (.int .i64 (V j)) ∧ w.frozen? ⟨b, j, none⟩ = false)) :
    Calls Try.prog 35 #[.slice (some ⟨b, 0, none⟩) n c, .int .i64 k] w fun e w' => e = .returned (.int .i64 (k + n)) ∧ MarkTo b w w' n n k V := by
  go_enter Try.func35, Try.ntmps35
  go_wp2_with fail
  go_loopw [1, 5] (fun q i wr => ∃ j : Nat, j ≤ n ∧ i = .int .i64 j ∧ q = .int .i64 (k + j) ∧ MarkTo b w wr n j k V) (fun _ i _ => n - (intOf i).toNat)
  case atStart => exact ⟨0, Nat.zero_le _, rfl, by simp, (Beside.of (Below.refl _ _)), fun o ho => (HR.out o ho).2, fun i hi => by rw [if_neg (by omega)]; exact (HR.out i hi).1⟩
  case round =>
    obtain ⟨j, hj, rfl, rfl, hR⟩ := hrel
    have HT : Hid (MarkTo b w wr n j k V) := hR
    obtain ⟨hB, hf, hc⟩ := hR
    by_cases h1 : j < n
    · have e0 := hc j h1
      have f0 := hf j h1
      have k1 : (j : Int) < (n : Int) := by omega
      clear hc hf hB
      go_wp2
      go_roundw
      case rel => exact ⟨j + 1, by omega, by go_num, by go_num, markTo_on hb HT.out⟩
      case measure => simp [intOf]; omega
    · obtain rfl : j = n := by omega
      go_wp2
      go_ret
      exact ⟨rfl, HT.out⟩

set_option maxHeartbeats 1000000 in
theorem markInt64S_nil (s : Option Addr) (c : Nat) (k : Int) (w : World) :
    Calls Try.prog 35 #[.slice s 0 c, .int .i64 k] w fun e w' => e = .returned (.int .i64 k) ∧ w' = w := by
  go_enter Try.func35, Try.ntmps35
  go_wp2_with fail
  go_loop [1, 5] (fun q i => i = .int .i64 0 ∧ q = .int .i64 k) (fun _ i => 0)
  case atStart => exact ⟨rfl, rfl⟩
  case round =>
    obtain ⟨rfl, rfl⟩ := hrel
    go_wp2
    go_ret
    exact ⟨rfl, rfl⟩
theorem markInt64S_own (base : Nat) (s : Option Addr) (n c : Nat) (k : Int) (V : Nat → Int) (w : World) (hn : (n : Int) ≤ 1048576) (k0 : 0 ≤ k) (k1 : k ≤ 100000000) (hb : base ≤ w.heap.size) (HR : OwnI base w s n V) :
    Calls Try.prog 35 #[.slice s n c, .int .i64 k] w fun e w' => e = .returned (.int .i64 (k + n)) ∧ OwnI base w' s n (fun j => k + j) ∧ Below base w w' ∧ ∀ b, s = some ⟨b, 0, none⟩ → Beside b w w' := by
  by_cases h : n = 0
  · subst h
    refine (markInt64S_nil s c k w).mono ?_
    rintro e w' ⟨rfl, rfl⟩
    exact ⟨by simp, fun j hj => by omega, Below.refl _ _, fun b _ => Beside.of (Below.refl _ _)⟩
  · obtain ⟨b, rfl, hB, hl, _, _⟩ := HR 0 (by omega)
    have HH : Hid (∀ j, j < n → w.cell? ⟨b, j, none⟩ = some (.int .i64 (V j)) ∧ w.frozen? ⟨b, j, none⟩ = false) := fun j hj => by
      obtain ⟨b', e', _, _, h1, h2⟩ := HR j hj
      cases e'
      exact ⟨h1, h2⟩
    refine (markInt64S_at b n c k V w hn k0 k1 hl HH).mono ?_
    rintro e w' ⟨rfl, hB', hf, hc⟩
    refine ⟨rfl, fun j hj => ⟨b, rfl, hB, Nat.lt_of_lt_of_le hl hB'.2.2.2.1, by rw [hc j hj, if_pos hj], hf j hj⟩, hB'.below hB hb, fun b' e => ?_⟩
    cases e
    exact hB'

set_option maxRecDepth 20000 in
set_option maxHeartbeats 2000000 in
theorem heldInt64S_any (s : Option Addr) (n c : Nat) (k : Int) (w : World) (hn : (n : Int) ≤ 1048576) (k0 : 0 ≤ k) (k1 : k ≤ 100000000) (HR : Hid (RowI w s n (fun j => k + j))) :
    Calls Try.prog 36 #[.slice s n c, .int .i64 k] w fun e w' => e = .returned (.int .i64 (k + n)) ∧ w' = w := by
  go_enter Try.func36, Try.ntmps36
  go_wp2_with fail
  go_loop [1, 5] (fun q i => ∃ j : Nat, j ≤ n ∧ i = .int .i64 j ∧ q = .int .i64 (k + j)) (fun _ i => n - (intOf i).toNat)
  case atStart => exact ⟨0, Nat.zero_le _, rfl, by simp⟩
  case round =>
    obtain ⟨j, hj, rfl, rfl⟩ := hrel
    by_cases h1 : j < n
    · obtain ⟨g, o, rfl, hg, c0⟩ := HR.out j h1
      have k1 : (j : Int) < (n : Int) := by omega
      go_wp2
      go_round
      case rel => exact ⟨j + 1, by omega, by go_num, by go_num⟩
      case measure => simp [intOf]; omega
    · obtain rfl : j = n := by omega
      go_wp2
      go_ret
      exact ⟨rfl, rfl⟩

open Go.ChangeShapes Go.WideShapes Go.ChangeAt Go.RowKit
set_option linter.unusedVariables false
set_option linter.unusedSimpArgs false

def I64R (S : Nat → Prop) (w : World) (s : Option Addr) (n : Nat) (V : Nat → Int) : Prop := OwnI 0 w s n V ∧ (0 < n → ∀ b, s = some ⟨b, 0, none⟩ → S b)
theorem I64R.row {S : Nat → Prop} {w : World} {s : Option Addr} {n : Nat} {V : Nat → Int} (h : I64R S w s n V) : RowI w s n V := h.1.row
theorem I64R.keep {S : Nat → Prop} {w w' : World} {s : Option Addr} {n : Nat} {V : Nat → Int} (h : I64R S w s n V) (hs : w.heap.size ≤ w'.heap.size) (hb : ∀ k, S k → k < w.heap.size → w'.heap[k]? = w.heap[k]?) : I64R S w' s n V := ⟨fun j hj => by
  obtain ⟨b, e, hB, hl, hc, hf⟩ := h.1 j hj
  have eb := hb b (h.2 (by omega) b e) hl
  exact ⟨b, e, hB, Nat.lt_of_lt_of_le hl hs, (World.cell?_of_block (w := w) (a := ⟨b, j, none⟩) eb).trans hc, (World.frozen?_of_block (w := w) (a := ⟨b, j, none⟩) eb).trans hf⟩, h.2⟩
theorem I64R.below {S : Nat → Prop} {w w' : World} {s : Option Addr} {n : Nat} {V : Nat → Int} (h : I64R S w s n V) (hb : Below w.heap.size w w') : I64R S w' s n V := h.keep hb.size fun k _ hk => hb.block k hk
theorem I64R.set {S : Nat → Prop} {w : World} {s : Option Addr} {n : Nat} {V : Nat → Int} {r o : Nat} {u : Value} (h : I64R S w s n V) (hr : ¬ S r) : I64R S (w.setCell ⟨r, o, none⟩ u) s n V := h.keep (by simp) fun k hk hl => set_block hl (fun e => hr (e ▸ hk))
theorem I64R.widen {S S' : Nat → Prop} {w : World} {s : Option Addr} {n : Nat} {V : Nat → Int} (h : I64R S w s n V) (hs : ∀ k, S k → S' k) : I64R S' w s n V := ⟨h.1, fun a b c => hs b (h.2 a b c)⟩
theorem I64R.of {base : Nat} {w : World} {s : Option Addr} {n : Nat} {V : Nat → Int} (h : OwnI base w s n V) : I64R (fun k => base ≤ k ∧ k < w.heap.size) w s n V := ⟨h.mono (Nat.zero_le _), fun hn b e => by
  obtain ⟨b', e', h1, h2, _⟩ := h 0 hn
  rw [e] at e'
  cases e'
  exact ⟨h1, h2⟩⟩
theorem toInt64S_r (s : Option Addr) (n c : Nat) (V : Nat → Int) (w : World) (hn : (n : Int) ≤ 1048576) (HR : Hid (RowI w s n V)) :
    Calls Try.prog 67 #[.slice s n c] w fun e w' => ∃ (s' : Option Addr) (S : Nat → Prop), e = .returned (.slice s' n n) ∧ (∀ k, S k → w.heap.size ≤ k ∧ k < w'.heap.size) ∧ I64R S w' s' n V ∧ Below w.heap.size w w' :=
  (toInt64S_any s n c V w hn HR).mono fun e w' ⟨h1, h2, h3, h4⟩ => ⟨_, _, h1, fun k hk => hk, I64R.of h3, h4⟩
theorem markInt64S_r (S : Nat → Prop) (s : Option Addr) (n c : Nat) (k : Int) (V : Nat → Int) (w : World) (hn : (n : Int) ≤ 1048576) (k0 : 0 ≤ k) (k1 : k ≤ 100000000) (HR : I64R S w s n V) :
    Calls Try.prog 35 #[.slice s n c, .int .i64 k] w fun e w' => e = .returned (.int .i64 (k + n)) ∧ I64R S w' s n (fun j => k + (j : Int)) ∧ Turn S w w' := by
  by_cases h : n = 0
  · subst h
    refine (markInt64S_nil s c k w).mono ?_
    rintro e w' ⟨rfl, rfl⟩
    exact ⟨by simp, ⟨fun j hj => by omega, fun q => by omega⟩, Turn.refl _ _⟩
  · obtain ⟨b, eb, _⟩ := HR.1 0 (by omega)
    have hb := HR.2 (by omega) b eb
    refine (markInt64S_own 0 s n c k V w hn k0 k1 (Nat.zero_le _) HR.1).mono ?_
    rintro e w' ⟨rfl, O, -, hB⟩
    exact ⟨rfl, ⟨O, HR.2⟩, Turn.of (hB b eb) hb⟩

end Go.Proofs.Ytlbbdifmjdpfiaa
