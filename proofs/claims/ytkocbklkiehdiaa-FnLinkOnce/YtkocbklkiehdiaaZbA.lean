/-
What is proved: a link made older by four ticks that was heard just now.
-/
import Derived.Test.YtkocbklkiehdiaaLkQ
import Derived.Test.YtkocbklkiehdiaaLkYo
import Derived.Test.YtkocbklkiehdiaaBlk
import Derived.Test.YtkocbklkiehdiaaRowI
import Derived.Test.YtkocbklkiehdiaaOwn
import Derived.Deep.DeepCutAuto
import Derived.RegionTactic
import Derived.Deep.RegionHeld3
import Derived.BigQuiet
import Derived.Deep.Slices
import Derived.Test.YtkocbklkiehdiaaRdC
namespace Go.Proofs.Ytkocbklkiehdiaa
set_option maxRecDepth 40000

open Go.ChangeShapes Go.WideShapes Go.ChangeAt Go.RowKit
set_option linter.unusedVariables false
set_option linter.unusedSimpArgs false

theorem own_off {base r : Nat} {w w' : World} {s : Option Addr} {m : Nat} {V : Nat → Int} (h : OwnI base w s m V) (hb : Beside r w w') (hn : ∀ g o, s = some ⟨g, o, none⟩ → g ≠ r ∨ m = 0) : OwnI base w' s m V := fun j hj => by
  obtain ⟨b, e, hB, hl, hc, hf⟩ := h j hj
  have hne : b ≠ r := (hn b 0 e).elim id (fun z => by omega)
  exact ⟨b, e, hB, Nat.lt_of_lt_of_le hl hb.2.2.2.1, (hb.cell (p := ⟨b, j, none⟩) hl hne).trans hc, (hb.frozen (p := ⟨b, j, none⟩) hl hne).trans hf⟩
set_option maxRecDepth 20000 in
set_option maxHeartbeats 4000000 in
theorem implOlder_any (t : Int) (h : Bool) (q l : Int) (ad : Option Addr) (n c : Nat) (V : Nat → Int) (w : World) (hn : (n : Int) ≤ 1048576) (HR : Hid (RowI w ad n V)) (k0 : linkB t h q 0 l n V = true) :
    Calls Try.prog 14 #[.agg #[.int .i64 t, .bool h, .int .i64 q, .int .i64 0, .int .i64 l, .slice ad n c], .int .i64 4] w fun e w' => ∃ s' c', e = .returned (.agg #[.int .i64 t, .bool h, .int .i64 q, .int .i64 4, .int .i64 l, .slice s' n c']) ∧ OwnI w.heap.size w' s' n V ∧ Below w.heap.size w w' := by
  have sto := store_sl
  go_enter Try.func14, Try.ntmps14
  go_upto_region 1 with fail
  obtain ⟨wa, hwa⟩ : ∃ z, z = w.alloc (.cells #[.int .i64 t, .bool h, .int .i64 q, .int .i64 0, .int .i64 l, .slice ad n c] 26) := ⟨_, rfl⟩
  try rw [← hwa]
  obtain ⟨gb, hgb⟩ : ∃ z, z = w.heap.size := ⟨_, rfl⟩
  have ba : Below w.heap.size w wa := by rw [hwa]; exact below0 _ _
  have HBa : Hid (Blk wa gb [.int .i64 t, .bool h, .int .i64 q, .int .i64 0, .int .i64 l, .slice ad n c]) := by rw [hwa, hgb]; exact Blk.new w #[.int .i64 t, .bool h, .int .i64 q, .int .i64 0, .int .i64 l, .slice ad n c] _
  obtain ⟨wb, hwb⟩ : ∃ z, z = wa.alloc (.cells #[.int .i64 0, .bool false, .int .i64 0, .int .i64 0, .int .i64 0, .slice none 0 0] 26) := ⟨_, rfl⟩
  try rw [← hwb]
  obtain ⟨gr, hgr⟩ : ∃ z, z = wa.heap.size := ⟨_, rfl⟩
  have bb : Below wa.heap.size wa wb := by rw [hwb]; exact below0 _ _
  have HG : Hid (Blk wb gr [.int .i64 0, .bool false, .int .i64 0, .int .i64 0, .int .i64 0, .slice none 0 0]) := by rw [hwb, hgr]; exact Blk.new wa #[.int .i64 0, .bool false, .int .i64 0, .int .i64 0, .int .i64 0, .slice none 0 0] _
  have HB : Hid (Blk wb gb [.int .i64 t, .bool h, .int .i64 q, .int .i64 0, .int .i64 l, .slice ad n c]) := HBa.out.below bb
  have zbr : gb < gr := by have := HBa.out.1; omega
  have zwb : w.heap.size ≤ gb := by omega
  have B0 : Hid (Below w.heap.size w wb) := ba.trans (bb.mono (by omega))
  have R0 : Hid (RowI wb ad n V) := (HR.out.below ba).below bb
  have hq1 : w.heap.size + 1 = gr := by rw [hgr, hwa]; simp
  try rw [hq1]
  try rw [← hgr]
  try rw [← hgb]
  clear hwa hwb ba bb hgb hgr HBa hq1
  have b0 := HB.out.2.2 0 _ rfl
  have b1 := HB.out.2.2 1 _ rfl
  have b2 := HB.out.2.2 2 _ rfl
  have b3 := HB.out.2.2 3 _ rfl
  have b4 := HB.out.2.2 4 _ rfl
  have b5 := HB.out.2.2 5 _ rfl
  go_wp2_with fail
  refine (linkRight_any t h q 0 l ad n c V _ hn R0.out).mono ?_
  rintro e w1 ⟨rfl, h1⟩
  rw [k0]
  replace HB : Hid (Blk w1 gb [.int .i64 t, .bool h, .int .i64 q, .int .i64 0, .int .i64 l, .slice ad n c]) := HB.out.below h1
  replace HG : Hid (Blk w1 gr [.int .i64 0, .bool false, .int .i64 0, .int .i64 0, .int .i64 0, .slice none 0 0]) := HG.out.below h1
  replace R0 : Hid (RowI w1 ad n V) := R0.out.below h1
  replace B0 : Hid (Below w.heap.size w w1) := B0.out.trans (h1.mono B0.out.size)
  clear h1 b0 b1 b2 b3 b4 b5
  have b0 := HB.out.2.2 0 _ rfl
  have b1 := HB.out.2.2 1 _ rfl
  have b2 := HB.out.2.2 2 _ rfl
  have b3 := HB.out.2.2 3 _ rfl
  have b4 := HB.out.2.2 4 _ rfl
  have b5 := HB.out.2.2 5 _ rfl
  go_wp2_with fail
  refine (copiedO t h q 0 l ad n c V _ hn R0.out).mono ?_
  rintro e w2 ⟨s', c', rfl, O2, h2⟩
  have z1 : gr < w1.heap.size := HG.out.1
  replace HB : Hid (Blk w2 gb [.int .i64 t, .bool h, .int .i64 q, .int .i64 0, .int .i64 l, .slice ad n c]) := HB.out.below h2
  replace HG : Hid (Blk w2 gr [.int .i64 0, .bool false, .int .i64 0, .int .i64 0, .int .i64 0, .slice none 0 0]) := HG.out.below h2
  replace B0 : Hid (Below w.heap.size w w2) := B0.out.trans (h2.mono B0.out.size)
  have HO : Hid (OwnI (gr + 1) w2 s' n V) := O2.mono (by omega)
  have O20 : Hid (OwnI (gr + 1) w2 s' n V) := HO
  clear h2 b0 b1 b2 b3 b4 b5 O2 R0
  go_upto_region 6 with fail
  obtain ⟨w3, hw3⟩ : ∃ z, z = w2.alloc (.cells #[.int .i64 t, .bool h, .int .i64 q, .int .i64 0, .int .i64 l, .slice s' n c'] 26) := ⟨_, rfl⟩
  try rw [← hw3]
  obtain ⟨gl, hgl⟩ : ∃ z, z = w2.heap.size := ⟨_, rfl⟩
  have b3' : Below w2.heap.size w2 w3 := by rw [hw3]; exact below0 _ _
  have HL : Hid (Blk w3 gl [.int .i64 t, .bool h, .int .i64 q, .int .i64 0, .int .i64 l, .slice s' n c']) := by rw [hw3, hgl]; exact Blk.new w2 #[.int .i64 t, .bool h, .int .i64 q, .int .i64 0, .int .i64 l, .slice s' n c'] _
  have zrl : gr < gl := by have := HG.out.1; omega
  have zwl : w.heap.size ≤ gl := by omega
  replace HB : Hid (Blk w3 gb [.int .i64 t, .bool h, .int .i64 q, .int .i64 0, .int .i64 l, .slice ad n c]) := HB.out.below b3'
  replace HG : Hid (Blk w3 gr [.int .i64 0, .bool false, .int .i64 0, .int .i64 0, .int .i64 0, .slice none 0 0]) := HG.out.below b3'
  replace HO : Hid (OwnI (gr + 1) w3 s' n V) := HO.out.below b3'
  replace B0 : Hid (Below w.heap.size w w3) := B0.out.trans (b3'.mono B0.out.size)
  have HN : Hid (∀ g o, s' = some ⟨g, o, none⟩ → g ≠ gl ∨ n = 0) := fun g o e => by
    rcases Nat.eq_zero_or_pos n with z | z
    · exact .inr z
    · obtain ⟨g', e', -, hz, -⟩ := O20.out 0 z
      rw [e] at e'; cases e'; left; omega
  try rw [← hgl]
  clear hw3 hgl b3' z1 O20
  have b3 := HB.out.2.2 3 _ rfl
  have l3 := HL.out.2.2 3 _ rfl
  have lf := HL.out.2.1 3
  have lz := HL.out.1
  go_upto_region 7 with fail
  obtain ⟨w4, hw4⟩ : ∃ z, z = w3.setCell ⟨gl, 3, none⟩ (.int .i64 4) := ⟨_, rfl⟩
  try rw [← hw4]
  have s4 : Beside gl w3 w4 := by rw [hw4]; exact Beside.setCell gl w3 3 _
  have HL4 : Hid (Blk w4 gl [.int .i64 t, .bool h, .int .i64 q, .int .i64 4, .int .i64 l, .slice s' n c']) := by show Blk _ _ _; rw [hw4]; exact HL.out.set 3 _
  replace HG : Hid (Blk w4 gr [.int .i64 0, .bool false, .int .i64 0, .int .i64 0, .int .i64 0, .slice none 0 0]) := HG.out.beside s4 (by omega)
  replace HO : Hid (OwnI (gr + 1) w4 s' n V) := own_off HO.out s4 HN.out
  replace B0 : Hid (Below w.heap.size w w4) := B0.out.trans (s4.below zwl B0.out.size)
  clear hw4 s4 HB HL b3 l3 lf lz HN
  have l0 := HL4.out.2.2 0 _ rfl
  have l1 := HL4.out.2.2 1 _ rfl
  have l2 := HL4.out.2.2 2 _ rfl
  have l3 := HL4.out.2.2 3 _ rfl
  have l4 := HL4.out.2.2 4 _ rfl
  have l5 := HL4.out.2.2 5 _ rfl
  have r0 := HG.out.2.2 0 _ rfl
  have r1 := HG.out.2.2 1 _ rfl
  have r2 := HG.out.2.2 2 _ rfl
  have r3 := HG.out.2.2 3 _ rfl
  have r4 := HG.out.2.2 4 _ rfl
  have r5 := HG.out.2.2 5 _ rfl
  have f0 := HG.out.2.1 0
  have f1 := HG.out.2.1 1
  have f2 := HG.out.2.1 2
  have f3 := HG.out.2.1 3
  have f4 := HG.out.2.1 4
  have f5 := HG.out.2.1 5
  have lz := HL4.out.1
  have rz := HG.out.1
  have B1 := B0.out
  go_wp2
  exact bodyPost_ret (v := .agg #[.int .i64 t, .bool h, .int .i64 q, .int .i64 4, .int .i64 l, .slice s' n c']) (by simp [results, Try.results14, go_sem, r0, r1, r2, r3, r4, r5]) rfl ⟨s', c', rfl, (OwnI.set (OwnI.set (OwnI.set (OwnI.set (OwnI.set (OwnI.set HO.out (by omega)) (by omega)) (by omega)) (by omega)) (by omega)) (by omega)).mono (by omega), (by repeat (first | with_reducible exact Below.refl _ _ | with_reducible exact B1 | with_reducible refine Below.setCell ?_ (by first | omega | (simp; done) | (simp; omega)) _ | with_reducible refine bDrewN ?_ _ | with_reducible refine Below.drew ?_ | with_reducible refine Below.alloc ?_ (by first | omega | (simp; done) | (simp; omega)) _))⟩

open Go.ChangeShapes Go.WideShapes Go.ChangeAt Go.RowKit
set_option linter.unusedVariables false
set_option linter.unusedSimpArgs false

set_option maxRecDepth 20000 in
set_option maxHeartbeats 2000000 in
theorem sameInts_any (s t : Option Addr) (n c d : Nat) (V : Nat → Int) (w : World) (hn : (n : Int) ≤ 1048576) (HR : Hid (RowI w s n V)) (HT : Hid (RowI w t n V)) :
    Calls Try.prog 15 #[.slice s n c, .slice t n d] w fun e w' => e = .returned (.bool true) ∧ Below w.heap.size w w' := by
  go_enter Try.func15, Try.ntmps15
  go_wp2_with fail
  go_loopw [5] (fun i wx => ∃ k : Nat, k ≤ n ∧ i = .int .i64 k ∧ Below w.heap.size w wx) (fun i _ => n - (intOf i).toNat)
  case atStart => exact ⟨0, Nat.zero_le _, rfl, Below.refl _ _⟩
  case round =>
    obtain ⟨k, hk, rfl, hB⟩ := hrel
    have HB : Hid (Below w.heap.size w wr) := hB
    by_cases h1 : k < n
    · obtain ⟨g, o, rfl, hg, c0⟩ := HR.out k h1
      obtain ⟨g2, o2, rfl, hg2, c1⟩ := HT.out k h1
      replace c0 := (hB.cell (p := ⟨g, o + k, none⟩) hg).trans c0
      replace c1 := (hB.cell (p := ⟨g2, o2 + k, none⟩) hg2).trans c1
      have kn : (k : Int) < (n : Int) := by omega
      have nv : (V k != V k) = false := by simp
      clear hB
      go_upto_region 6 with fail
      go_quiet (fail)
      go_wp2
      go_roundw
      case rel => exact ⟨k + 1, by omega, by go_num, HB.out.trans ((bDrewN (Below.refl _ _) _).mono HB.out.size)⟩
      case measure => simp [intOf]; omega
    · obtain rfl : k = n := by omega
      go_wp2
      go_ret
      exact ⟨rfl, hB⟩

open Go.ChangeShapes Go.WideShapes Go.ChangeAt Go.RowKit

theorem addr_add1 (b o k : Nat) : (⟨b, o, none⟩ : Addr).add k = ⟨b, o + k, none⟩ := by
  unfold Addr.add
  split
  · rename_i h; subst h; rfl
  · rfl
theorem slice_spot1 {w : World} {b0 : Nat} {t e : TypeId} {a : Addr} {n c : Nat} (ht : Try.prog.underlying t = some (.slice e)) (hv : Value.okWide Try.prog w .any b0 t (.slice (some a) n c)) : a.spot = none := by
  simp only [Value.okWide, ht, Cell.okWide, Cell.ok] at hv
  exact hv.2.2.2.1
theorem cell_lt1 {w : World} {p : Addr} {v : Value} (h : w.cell? p = some v) : p.block < w.heap.size := by
  rcases Nat.lt_or_ge p.block w.heap.size with z | z
  · exact z
  · exfalso
    simp [World.cell?, Array.getElem?_eq_none z] at h
/-- THE LIST OPENED, of any kind of integers. -/
theorem open_kind {H : Type} {enc : TypeId × Value → H} {w : World} {b0 : Nat} {t e : TypeId} {k : IntKind} {v : Value} {d : DataW H} {ps : List MemPlace} {sp : Nat → Bool} {held : Bool} (ht : Try.prog.underlying t = some (.slice e)) (he : Try.prog.underlying e = some (.int k))
    (ce : Try.prog.cellsOf e = 1) (hv : Value.okWide Try.prog w .any b0 t v) (h : DataW.Trod enc Try.prog w 0 sp held t v d ps) :
    ∃ s n c, ∃ V : Nat → Int, v = .slice s n c ∧ n ≤ 9223372036854775807 ∧ ∀ j, j < n → ∃ b o, s = some ⟨b, o, none⟩ ∧ b < w.heap.size ∧ w.cell? ⟨b, o + j, none⟩ = some (.int k (V j)) ∧ (Lit.int k (V j)).wf = true := by
  have hsl : ∃ s n c, v = .slice s n c := by
    simp only [Value.okWide, ht, Cell.okWide] at hv
    cases v <;> simp_all [Cell.ok]
  obtain ⟨s, n, c, rfl⟩ := hsl
  obtain ⟨fuel, hf⟩ := h
  have hf' : DataW.trod enc Try.prog w 0 sp held fuel t [.slice s n c] = some (d, ps) := hf
  rcases Go.Deep.open_slice1 ht ce hf' with ⟨e1, _⟩ | ⟨a, len, cap, m, q, V, D, Pl, e1, _, hl, hm, hmm, _, hx⟩
  · simp only [List.cons.injEq, and_true, Value.slice.injEq] at e1
    obtain ⟨rfl, rfl, rfl⟩ := e1
    exact ⟨none, 0, 0, fun _ => 0, rfl, by omega, fun j hj => by omega⟩
  · simp only [List.cons.injEq, and_true, Value.slice.injEq] at e1
    obtain ⟨rfl, rfl, rfl⟩ := e1
    have hsp := slice_spot1 ht hv
    obtain ⟨b, o, spot⟩ := a
    simp only at hsp
    subst hsp
    have hle : n ≤ m := by rw [hmm]; split <;> omega
    have each : ∀ i, i < n → ∃ z : Int, w.cell? ⟨b, o + i, none⟩ = some (.int k z) ∧ (Lit.int k z).wf = true := by
      intro i hi
      obtain ⟨h0, t0⟩ := hx i (by omega)
      rw [addr_add1] at h0
      obtain ⟨z0, q0, _, wz⟩ := DataW.trod_int he t0
      simp only [List.cons.injEq, and_true] at q0
      exact ⟨z0, by rw [h0, q0], wz⟩
    obtain ⟨f, hfn⟩ := Go.Deep.choose_lt each
    refine ⟨some ⟨b, o, none⟩, n, c, f, rfl, ?_, fun j hj => ?_⟩
    · have : maxLen = 9223372036854775807 := by decide
      omega
    · obtain ⟨h0, h1⟩ := hfn j hj
      exact ⟨b, o, rfl, cell_lt1 h0, h0, h1⟩
theorem wf64 {m : Int} (h : (Lit.int .i64 m).wf = true) : -9223372036854775808 ≤ m ∧ m ≤ 9223372036854775807 := by
  simp only [Lit.wf, Bool.and_eq_true, decide_eq_true_eq] at h
  exact h
/-- A list of int64s. -/
theorem open_i64s {H : Type} {enc : TypeId × Value → H} {w : World} {b0 : Nat} {t e : TypeId} {v : Value} {d : DataW H} {ps : List MemPlace} {sp : Nat → Bool} {held : Bool} (ht : Try.prog.underlying t = some (.slice e)) (he : Try.prog.underlying e = some (.int .i64))
    (ce : Try.prog.cellsOf e = 1) (hv : Value.okWide Try.prog w .any b0 t v) (h : DataW.Trod enc Try.prog w 0 sp held t v d ps) :
    ∃ s n c, ∃ V : Nat → Int, v = .slice s n c ∧ n ≤ 9223372036854775807 ∧ RowI w s n V ∧ ∀ j, j < n → -9223372036854775808 ≤ V j ∧ V j ≤ 9223372036854775807 := by
  obtain ⟨s, n, c, V, e1, e2, e3⟩ := open_kind ht he ce hv h
  refine ⟨s, n, c, V, e1, e2, fun j hj => ?_, fun j hj => ?_⟩
  · obtain ⟨b, o, h1, h2, h3, _⟩ := e3 j hj
    exact ⟨b, o, h1, h2, h3⟩
  · obtain ⟨b, o, _, _, _, h4⟩ := e3 j hj
    exact wf64 h4

open Go.ChangeShapes Go.WideShapes Go.ChangeAt Go.RowKit

theorem wf8 {m : Int} (h : (Lit.int .u8 m).wf = true) : 0 ≤ m ∧ m < 256 := by
  simp only [Lit.wf, Bool.and_eq_true, decide_eq_true_eq] at h
  have h' : 0 ≤ m ∧ m ≤ 255 := h
  omega
/-- The bytes of a code of any length. -/
def Bytes (w : World) (s : Option Addr) (n : Nat) : Prop := ∀ i, i < n → ∃ g o k, s = some ⟨g, o, none⟩ ∧ g < w.heap.size ∧ w.cell? ⟨g, o + i, none⟩ = some (.int .u8 k) ∧ 0 ≤ k ∧ k < 256
theorem open_code {H : Type} {enc : TypeId × Value → H} {w : World} {b0 : Nat} {t e : TypeId} {v : Value} {d : DataW H} {ps : List MemPlace} {sp : Nat → Bool} {held : Bool} (ht : Try.prog.underlying t = some (.slice e)) (he : Try.prog.underlying e = some (.int .u8))
    (ce : Try.prog.cellsOf e = 1) (hv : Value.okWide Try.prog w .any b0 t v) (h : DataW.Trod enc Try.prog w 0 sp held t v d ps) :
    ∃ s n c, v = .slice s n c ∧ n ≤ 9223372036854775807 ∧ Bytes w s n := by
  obtain ⟨s, n, c, V, e1, e2, e3⟩ := open_kind ht he ce hv h
  refine ⟨s, n, c, e1, e2, fun j hj => ?_⟩
  obtain ⟨b, o, h1, h2, h3, h4⟩ := e3 j hj
  exact ⟨b, o, V j, h1, h2, h3, wf8 h4⟩
theorem Bytes.code {w : World} {s : Option Addr} {n : Nat} (h : Bytes w s n) (hn : n ≤ 1048576) : Code8 w s n := ⟨hn, h⟩

set_option maxHeartbeats 400000 in
theorem big_yes (s : Option Addr) (n c : Nat) (w : World) (h : (1048576 : Int) < n) :
    Calls Try.prog 8 #[.slice s n c] w fun e w' => e = .returned (.bool true) ∧ w' = w := by
  go_enter Try.func8, Try.ntmps8
  go_wp2
  go_ret
  exact ⟨rfl, rfl⟩
set_option maxHeartbeats 400000 in
theorem big_no (s : Option Addr) (n c : Nat) (w : World) (h : (n : Int) ≤ 1048576) :
    Calls Try.prog 8 #[.slice s n c] w fun e w' => e = .returned (.bool false) ∧ w' = w := by
  go_enter Try.func8, Try.ntmps8
  go_wp2
  go_ret
  exact ⟨by simp; omega, rfl⟩

end Go.Proofs.Ytkocbklkiehdiaa
