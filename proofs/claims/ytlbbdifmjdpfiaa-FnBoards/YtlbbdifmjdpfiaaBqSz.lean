/-
What is proved: a board led along scans, as the specification does it.
-/
import Derived.Test.YtlbbdifmjdpfiaaBqNz
import Derived.Test.YtlbbdifmjdpfiaaBsSz
import Derived.Test.YtlbbdifmjdpfiaaZdA
import Derived.Deep.RegionHeld3
import Derived.Deep.RegionHeldLaw
import Derived.Deep.DeepCutAuto
namespace Go.Proofs.Ytlbbdifmjdpfiaa
set_option maxRecDepth 40000
open Go.ChangeShapes Go.WideShapes Go.ChangeAt Go.RowKit
set_option linter.unusedVariables false
set_option linter.unusedSimpArgs false

def CpF (wd : World) (x : Int) (n : Nat) (V : Nat → Int × Int × Int × Bool × Int) (v : Value) (wx : World) : Prop := ∃ P b cap, v = .pointer (some ⟨P, 0, none⟩) ∧ wx.cell? ⟨P, 0, none⟩ = some (.int .i64 x) ∧ wx.cell? ⟨P, 1, none⟩ = some (.slice (some ⟨b, 0, none⟩) n cap) ∧ (∀ o, wx.frozen? ⟨P, o, none⟩ = false) ∧ P ≠ b ∧ wd.heap.size ≤ P ∧ wd.heap.size ≤ b ∧ P < wx.heap.size ∧ AlM b wx n V ∧ Below wd.heap.size wd wx
/-- The board and the rows on their way, behind k scans. -/
def BqS (w1 : World) (P : Nat) (x : Int) (n : Nat) (V : Nat → Int × Int × Int × Bool × Int) (m : Nat) (Z : Nat → Int × Nat × (Nat → Bool) × Nat × (Nat → Int) × Nat × (Nat → Int × Int)) (k : Nat) (wx : World) (v : Value) (xs : List Value) : Prop := ∃ (s' : Option Addr) (c' : Nat) (S' : Nat → Prop), Blk wx P [.int .i64 (x + (k : Int)), .slice s' n c'] ∧ w1.heap.size ≤ P ∧ MT w1.heap.size w1 wx v k xs (bqK x n V Z) (bqU x n V Z) ∧ v.ownBlock ≠ some P ∧ ¬ InX xs P ∧ AlarmR S' wx s' n (bqV x n V Z k) ∧ (∀ q, S' q → q ≠ P ∧ v.ownBlock ≠ some q ∧ ¬ InX xs q ∧ w1.heap.size ≤ q ∧ q < wx.heap.size)
set_option maxRecDepth 20000 in
set_option maxHeartbeats 16000000 in
theorem specBoardRun_any (x : Int) (s : Option Addr) (n c : Nat) (V : Nat → Int × Int × Int × Bool × Int) (ss : Option Addr) (m cs : Nat) (Z : Nat → Int × Nat × (Nat → Bool) × Nat × (Nat → Int) × Nat × (Nat → Int × Int)) (w : World) (hn : (n : Int) ≤ 1048576) (hm : (m : Int) ≤ 1048576) (hZ : ∀ i, i < m → ((Z i).2.1 : Int) ≤ 1048576 ∧ ((Z i).2.2.2.1 : Int) ≤ 1048576 ∧ ((Z i).2.2.2.2.2.1 : Int) ≤ 1048576) (HR : Hid (RowAlarm w s n V)) (HZ : Hid (RowScs w ss m Z)) :
    Calls Try.prog 11 #[.agg #[.int .i64 x, .slice s n c], .slice ss m cs] w fun e w' => BqPost w x n V m Z e w' := by
  have sto := store_slT
  have HZ2 : Hid (∀ i, i < m → ((Z i).2.1 : Int) ≤ 1048576 ∧ ((Z i).2.2.2.1 : Int) ≤ 1048576 ∧ ((Z i).2.2.2.2.2.1 : Int) ≤ 1048576) := hZ
  clear hZ
  go_enter Try.func11, Try.ntmps11
  go_upto_region 2 with fail
  obtain ⟨wa, hwa⟩ : ∃ wa, wa = ((w.alloc (.cells #[.int .i64 x, .slice s n c] 26)).alloc (.cells #[.int .i64 0, .slice none 0 0] 26)).alloc (.cells #[] 33) := ⟨_, rfl⟩
  rw [← hwa]
  have p0 : wa.cell? ⟨w.heap.size, 0, none⟩ = some (.int .i64 x) := by rw [hwa]; simp [go_sem]
  have p1 : wa.cell? ⟨w.heap.size, 1, none⟩ = some (.slice s n c) := by rw [hwa]; simp [go_sem]
  have r0 : wa.cell? ⟨w.heap.size + 1, 0, none⟩ = some (.int .i64 0) := by rw [hwa]; simp [go_sem]
  have r1 : wa.cell? ⟨w.heap.size + 1, 1, none⟩ = some (.slice none 0 0) := by rw [hwa]; simp [go_sem]
  have fr : ∀ o, wa.frozen? ⟨w.heap.size + 1, o, none⟩ = false := by intro o; rw [hwa]; simp [go_sem]
  have z1 : w.heap.size + 1 < wa.heap.size := by rw [hwa]; simp
  have z0 : w.heap.size < wa.heap.size := by omega
  have B0 : Below w.heap.size w wa := by rw [hwa]; exact (by repeat (first | with_reducible exact Below.refl _ _ | with_reducible refine Below.setCell ?_ (by first | omega | (simp; done) | (simp; omega)) _ | with_reducible refine bDrewN ?_ _ | with_reducible refine Below.drew ?_ | with_reducible refine Below.alloc ?_ (by first | omega | (simp; done) | (simp; omega)) _))
  clear hwa
  go_wp2_with fail
  refine (specBoardOk_any x s n c V _ hn (HR.out.below B0)).mono ?_
  rintro e w1 ⟨rfl, h1⟩
  replace p0 := (h1.cell (p := ⟨w.heap.size, 0, none⟩) z0).trans p0
  replace p1 := (h1.cell (p := ⟨w.heap.size, 1, none⟩) z0).trans p1
  replace r0 := (h1.cell (p := ⟨w.heap.size + 1, 0, none⟩) z1).trans r0
  replace r1 := (h1.cell (p := ⟨w.heap.size + 1, 1, none⟩) z1).trans r1
  replace fr : ∀ o, w1.frozen? ⟨w.heap.size + 1, o, none⟩ = false := fun o => (h1.frozen (p := ⟨w.heap.size + 1, o, none⟩) z1).trans (fr o)
  replace z1 := Nat.lt_of_lt_of_le z1 h1.size
  replace z0 := Nat.lt_of_lt_of_le z0 h1.size
  replace B0 : Below w.heap.size w w1 := B0.trans (h1.mono B0.size)
  clear h1
  cases b0 : boardB x n V
  case false =>
    have HO : Hid (bqB x n V m Z = false) := by show _ = _; unfold bqB; rw [b0]; rfl
    go_wp2
    exact bodyPost_ret (v := .tuple #[.slice (some ⟨w.heap.size + 1 + 1, 0, none⟩) 0 0, .agg #[.int .i64 0, .slice none 0 0], .bool false]) (by simp [results, Try.results11, go_sem, r0, r1]) rfl (bq_no HO.out (by repeat (first | with_reducible exact Below.refl _ _ | with_reducible exact B0 | with_reducible refine Below.setCell ?_ (by first | omega | (simp; done) | (simp; omega)) _ | with_reducible refine bDrewN ?_ _ | with_reducible refine Below.drew ?_ | with_reducible refine Below.alloc ?_ (by first | omega | (simp; done) | (simp; omega)) _)))
  by_cases m3 : 300 < m
  case pos =>
    have b1 : (300 : Int) < (m : Int) := by omega
    have HO : Hid (bqB x n V m Z = false) := by show _ = _; unfold bqB; rw [decide_eq_false (by omega : ¬ m ≤ 300)]; simp
    go_wp2
    exact bodyPost_ret (v := .tuple #[.slice (some ⟨w.heap.size + 1 + 1, 0, none⟩) 0 0, .agg #[.int .i64 0, .slice none 0 0], .bool false]) (by simp [results, Try.results11, go_sem, r0, r1]) rfl (bq_no HO.out (by repeat (first | with_reducible exact Below.refl _ _ | with_reducible exact B0 | with_reducible refine Below.setCell ?_ (by first | omega | (simp; done) | (simp; omega)) _ | with_reducible refine bDrewN ?_ _ | with_reducible refine Below.drew ?_ | with_reducible refine Below.alloc ?_ (by first | omega | (simp; done) | (simp; omega)) _)))
  have b1 : decide ((300 : Int) < (m : Int)) = false := decide_eq_false (by omega)
  have HF : Hid (∀ q : Bool, bqT x n V Z m = q → bqB x n V m Z = q) := fun q e => by unfold bqB; rw [b0, decide_eq_true (by omega : m ≤ 300), e]; simp
  obtain ⟨⟨x0, x1⟩, n60, -⟩ := board_yes b0
  have hn2 : (n : Int) ≤ 60 := by omega
  have hm3 : (m : Int) ≤ 300 := by omega
  clear b0 m3
  go_upto_region 5 with fail
  obtain ⟨w2, hw2⟩ : ∃ z, z = w1.alloc (.cells #[] 33) := ⟨_, rfl⟩
  obtain ⟨g1, hg1⟩ : ∃ z, z = w1.heap.size := ⟨_, rfl⟩
  rw [← hw2, ← hg1]
  have b2 : Below w1.heap.size w1 w2 := by rw [hw2]; exact below0 _ _
  have HM2 : Hid (MT w1.heap.size w1 w2 (.slice (some ⟨g1, 0, none⟩) 0 0) 0 [] (bqK x n V Z) (bqU x n V Z)) := by show MT _ _ _ _ _ _ _ _; rw [hw2, hg1]; exact MT.lit w1 (Nat.le_refl _)
  have g1z : g1 < w2.heap.size := by rw [hw2, hg1]; simp
  have g1e : g1 ≤ w1.heap.size := by omega
  replace p0 := (b2.cell (p := ⟨w.heap.size, 0, none⟩) z0).trans p0
  replace p1 := (b2.cell (p := ⟨w.heap.size, 1, none⟩) z0).trans p1
  have HR0 : Hid (w1.cell? ⟨w.heap.size + 1, 0, none⟩ = some (.int .i64 0)) := r0
  have HR1 : Hid (w1.cell? ⟨w.heap.size + 1, 1, none⟩ = some (.slice none 0 0)) := r1
  have HFR : Hid (∀ o, w1.frozen? ⟨w.heap.size + 1, o, none⟩ = false) := fr
  have HB0 : Hid (Below w.heap.size w w1) := B0
  have zz1 := z1
  replace z0 := Nat.lt_of_lt_of_le z0 b2.size
  have l12 : w1.heap.size ≤ w2.heap.size := b2.size
  replace B0 : Below w.heap.size w w2 := B0.trans (b2.mono B0.size)
  have l2 := B0.size
  clear b2 hw2 hg1 r0 r1 fr
  go_cut [9] (fun v wx => CpF w2 x n V v wx)
  case first =>
    go_region_held3 (fun w' => w'.cell? ⟨w.heap.size, 0, none⟩ = some (.int .i64 x) ∧ w'.cell? ⟨w.heap.size, 1, none⟩ = some (.slice s n c)) (first | with_reducible exact ⟨p0, p1⟩ | (refine keepS2 p0 p1 z0 ?_; exact (by repeat (first | with_reducible exact Below.refl _ _ | with_reducible exact B7 | with_reducible refine Below.setCell ?_ (by first | omega | (simp; done) | (simp; omega)) _ | with_reducible refine bDrewN ?_ _ | with_reducible refine Below.drew ?_ | with_reducible refine Below.alloc ?_ (by first | omega | (simp; done) | (simp; omega)) _)))) (first
      | (refine step_cloneA (by rfl) (.tmp 28) (.tmp 30) (by rfl) _ s n c V (by rfl) (by rfl) (litA w2) (HR.out.below (B0.trans (Below.mono (by repeat (first | with_reducible exact Below.refl _ _ | with_reducible refine Below.setCell ?_ (by first | omega | (simp; done) | (simp; omega)) _ | with_reducible refine bDrewN ?_ _ | with_reducible refine Below.drew ?_ | with_reducible refine Below.alloc ?_ (by first | omega | (simp; done) | (simp; omega)) _)) l2))) n60 ?_; intro g cap w7 hg hA gr; have gr' : ((w2.alloc (.cells #[] 43)).alloc (.cells #[.int .i64 0, .slice none 0 0] 26)).grownBy w7 (some w2.heap.size) := ⟨gr.os, gr.tape, gr.output, gr.size, gr.block⟩; have zW : ((w2.alloc (.cells #[] 43)).alloc (.cells #[.int .i64 0, .slice none 0 0] 26)).heap.size = w2.heap.size + 2 := (by simp); have hg' : g = w2.heap.size ∨ w2.heap.size + 2 ≤ g := (hg.elim (fun h => Or.inl h) (fun h => Or.inr (by rw [← zW]; exact h))); have s7 : w2.heap.size + 2 ≤ w7.heap.size := (by have := gr'.size; omega); have B7 : Below w2.heap.size w2 w7 := Below.trans (Below.mono (B := w2.heap.size) (by repeat (first | with_reducible exact Below.refl _ _ | with_reducible refine Below.setCell ?_ (by first | omega | (simp; done) | (simp; omega)) _ | with_reducible refine bDrewN ?_ _ | with_reducible refine Below.drew ?_ | with_reducible refine Below.alloc ?_ (by first | omega | (simp; done) | (simp; omega)) _)) (Nat.le_refl _)) (grown_below gr' (by omega) (fun r e => by cases e; omega)); have HA7 : Hid (AlM g w7 n V) := hA; have Q7 := grown_cells (P := w2.heap.size + 1) gr' (by omega) (by omega); have a0 : w7.cell? ⟨w2.heap.size + 1, 0, none⟩ = some (.int .i64 0) := (Q7.1 0).trans (by simp [go_sem]); have a1 : w7.cell? ⟨w2.heap.size + 1, 1, none⟩ = some (.slice none 0 0) := (Q7.1 1).trans (by simp [go_sem]); have af : ∀ i, w7.frozen? ⟨w2.heap.size + 1, i, none⟩ = false := fun i => (Q7.2 i).trans (by simp [go_sem]); clear Q7; clear hA gr gr' hg zW)
      | (refine step_cloneA (by rfl) (.tmp 28) (.tmp 30) (by rfl) _ s n c V (by rfl) (by rfl) (litB w2) (HR.out.below (B0.trans (Below.mono (by repeat (first | with_reducible exact Below.refl _ _ | with_reducible refine Below.setCell ?_ (by first | omega | (simp; done) | (simp; omega)) _ | with_reducible refine bDrewN ?_ _ | with_reducible refine Below.drew ?_ | with_reducible refine Below.alloc ?_ (by first | omega | (simp; done) | (simp; omega)) _)) l2))) n60 ?_; intro g cap w7 hg hA gr; have gr' : ((w2.alloc (.cells #[.int .i64 0, .slice none 0 0] 26)).alloc (.cells #[] 43)).grownBy w7 (some (w2.heap.size + 1)) := ⟨gr.os, gr.tape, gr.output, gr.size, gr.block⟩; have zW : ((w2.alloc (.cells #[.int .i64 0, .slice none 0 0] 26)).alloc (.cells #[] 43)).heap.size = w2.heap.size + 2 := (by simp); have hg' : g = (w2.heap.size + 1) ∨ w2.heap.size + 2 ≤ g := (hg.elim (fun h => Or.inl h) (fun h => Or.inr (by rw [← zW]; exact h))); have s7 : w2.heap.size + 2 ≤ w7.heap.size := (by have := gr'.size; omega); have B7 : Below w2.heap.size w2 w7 := Below.trans (Below.mono (B := w2.heap.size) (by repeat (first | with_reducible exact Below.refl _ _ | with_reducible refine Below.setCell ?_ (by first | omega | (simp; done) | (simp; omega)) _ | with_reducible refine bDrewN ?_ _ | with_reducible refine Below.drew ?_ | with_reducible refine Below.alloc ?_ (by first | omega | (simp; done) | (simp; omega)) _)) (Nat.le_refl _)) (grown_below gr' (by omega) (fun r e => by cases e; omega)); have HA7 : Hid (AlM g w7 n V) := hA; have Q7 := grown_cells (P := w2.heap.size) gr' (by omega) (by omega); have a0 : w7.cell? ⟨w2.heap.size, 0, none⟩ = some (.int .i64 0) := (Q7.1 0).trans (by simp [go_sem]); have a1 : w7.cell? ⟨w2.heap.size, 1, none⟩ = some (.slice none 0 0) := (Q7.1 1).trans (by simp [go_sem]); have af : ∀ i, w7.frozen? ⟨w2.heap.size, i, none⟩ = false := fun i => (Q7.2 i).trans (by simp [go_sem]); clear Q7; clear hA gr gr' hg zW)
      | (refine step_cloneA (by rfl) (.tmp 28) (.tmp 30) (by rfl) _ s n c V (by rfl) (by rfl) (litC w2) (HR.out.below (B0.trans (Below.mono (by repeat (first | with_reducible exact Below.refl _ _ | with_reducible refine Below.setCell ?_ (by first | omega | (simp; done) | (simp; omega)) _ | with_reducible refine bDrewN ?_ _ | with_reducible refine Below.drew ?_ | with_reducible refine Below.alloc ?_ (by first | omega | (simp; done) | (simp; omega)) _)) l2))) n60 ?_; intro g cap w7 hg hA gr; have gr' : (w2.alloc (.cells #[] 43)).grownBy w7 (some w2.heap.size) := ⟨gr.os, gr.tape, gr.output, gr.size, gr.block⟩; have zW : (w2.alloc (.cells #[] 43)).heap.size = w2.heap.size + 1 := (by simp); have hg' : g = w2.heap.size ∨ w2.heap.size + 1 ≤ g := (hg.elim (fun h => Or.inl h) (fun h => Or.inr (by rw [← zW]; exact h))); have s7 : w2.heap.size + 1 ≤ w7.heap.size := (by have := gr'.size; omega); have B7 : Below w2.heap.size w2 w7 := Below.trans (Below.mono (B := w2.heap.size) (by repeat (first | with_reducible exact Below.refl _ _ | with_reducible refine Below.setCell ?_ (by first | omega | (simp; done) | (simp; omega)) _ | with_reducible refine bDrewN ?_ _ | with_reducible refine Below.drew ?_ | with_reducible refine Below.alloc ?_ (by first | omega | (simp; done) | (simp; omega)) _)) (Nat.le_refl _)) (grown_below gr' (by omega) (fun r e => by cases e; omega)); have HA7 : Hid (AlM g w7 n V) := hA; clear hA gr gr' hg zW))
    all_goals
      go_wp2_with fail
      go_meet
    all_goals
      have zg := HA7.out.1
      refine ⟨_, g, cap, rfl, ?_, ?_, ?_, ?_, ?_, ?_, ?_, ?_, ?_⟩
      · first | (simp [go_sem, a0, a1]; done) | (simp [go_sem]; done)
      · first | (simp [go_sem, a0, a1]; done) | (simp [go_sem]; done)
      · intro o_; first | (simp [go_sem, af]; done) | (simp [go_sem]; done)
      · omega
      · omega
      · omega
      · first | (simp; done) | (simp; omega) | omega
      · first | exact (HA7.out.beside (Beside.setCell _ _ _ _) (by omega)).beside (Beside.setCell _ _ _ _) (by omega) | exact HA7.out.below (below0 _ _)
      · exact (by repeat (first | with_reducible exact Below.refl _ _ | with_reducible exact B7 | with_reducible refine Below.setCell ?_ (by first | omega | (simp; done) | (simp; omega)) _ | with_reducible refine bDrewN ?_ _ | with_reducible refine Below.drew ?_ | with_reducible refine Below.alloc ?_ (by first | omega | (simp; done) | (simp; omega)) _))
  obtain ⟨P, b, cap, rfl, n0, n1, nf, Pb, lP, lb, zP, hA, hC⟩ := hcut
  rename World => w3
  have HI : Hid (BqS w1 P x n V m Z 0 w3 (.slice (some ⟨g1, 0, none⟩) 0 0) []) := by
    refine ⟨some ⟨b, 0, none⟩, cap, fun q => q = b, ⟨zP, nf, fun i v h => ?_⟩, by omega, HM2.out.below hC (by omega), fun e => ?_, InX.nil, ⟨hA.own.mono (Nat.zero_le _), fun _ b' e => by cases e; rfl⟩, fun q hq => ?_⟩
    · match i with
      | 0 => simp at h; subst h; simpa using n0
      | 1 => simp at h; subst h; exact n1
      | i + 2 => simp at h
    · have e' : g1 = P := by simpa [Value.ownBlock] using e
      omega
    · subst hq
      refine ⟨fun e => Pb e.symm, fun e => ?_, InX.nil, by omega, hA.1⟩
      have e' : g1 = q := by simpa [Value.ownBlock] using e
      omega
  have lP1 : w1.heap.size ≤ P := by omega
  clear n0 n1 nf hA hC HM2 p0 p1 Pb lb zP B0 l2 lP g1z g1e z0 l12
  go_wp2_with fail
  go_loopw [8, 10] (fun v i wr => ∃ (k : Nat) (xs : List Value), k ≤ m ∧ i = .int .i64 k ∧ Hid (bqT x n V Z k = true) ∧ Hid (BqS w1 P x n V m Z k wr v xs)) (fun _ i _ => m - (intOf i).toNat)
  case atStart => exact ⟨0, [], Nat.zero_le _, rfl, rfl, HI⟩
  case round =>
    clear HI
    obtain ⟨k, xs, hk, rfl, HT, HI⟩ := hrel
    obtain ⟨s', c', S', hP, -, hM, hvP, hXP, hA, hS⟩ := HI.out
    have HP : Hid (Blk wr P [.int .i64 (x + (k : Int)), .slice s' n c']) := hP
    have HM : Hid (MT w1.heap.size w1 wr u8 k xs (bqK x n V Z) (bqU x n V Z)) := hM
    have HA : Hid (AlarmR S' wr s' n (bqV x n V Z k)) := hA
    have HS : Hid (∀ q, S' q → q ≠ P ∧ u8.ownBlock ≠ some q ∧ ¬ InX xs q ∧ w1.heap.size ≤ q ∧ q < wr.heap.size) := hS
    have HvP : Hid (u8.ownBlock ≠ some P ∧ ¬ InX xs P) := ⟨hvP, hXP⟩
    have hB : Below w1.heap.size w1 wr := hM.1
    have HB : Hid (Below w1.heap.size w1 wr) := hB
    have n0 : wr.cell? ⟨P, 0, none⟩ = some (.int .i64 (x + (k : Int))) := hP.2.2 0 _ rfl
    have n1 : wr.cell? ⟨P, 1, none⟩ = some (.slice s' n c') := hP.2.2 1 _ rfl
    have nf : ∀ o, wr.frozen? ⟨P, o, none⟩ = false := hP.2.1
    have zP : P < wr.heap.size := hP.1
    have zw : w1.heap.size ≤ wr.heap.size := hB.size
    have r0 : wr.cell? ⟨w.heap.size + 1, 0, none⟩ = some (.int .i64 0) := (hB.cell (p := ⟨w.heap.size + 1, 0, none⟩) zz1).trans HR0.out
    have r1 : wr.cell? ⟨w.heap.size + 1, 1, none⟩ = some (.slice none 0 0) := (hB.cell (p := ⟨w.heap.size + 1, 1, none⟩) zz1).trans HR1.out
    have fr : ∀ o, wr.frozen? ⟨w.heap.size + 1, o, none⟩ = false := fun o => (hB.frozen (p := ⟨w.heap.size + 1, o, none⟩) zz1).trans (HFR.out o)
    clear hP hM hA hS hB HI hvP hXP
    by_cases h1 : k < m
    case neg =>
      obtain rfl : k = m := by omega
      have HO : Hid (bqB x n V k Z = true) := HF.out _ HT.out
      have BW : Below w.heap.size w wr := HB0.out.trans (HB.out.mono HB0.out.size)
      obtain ⟨sv, cv, ev, hD⟩ := HM.out.doneX
      have HD : Hid (OwnLL (fun q => (w1.heap.size ≤ q ∧ q < wr.heap.size) ∧ (u8.ownBlock = some q ∨ InX xs q)) wr sv k (bqK x n V Z) (bqU x n V Z)) := hD
      clear HT HF hk h1 hD
      subst ev
      go_upto_region 14 with fail
      go_region
      all_goals
        go_wp2
        have bes : Beside (w.heap.size + 1) wr ((wr.setCell ⟨w.heap.size + 1, 0, none⟩ (.int .i64 (x + (k : Int)))).setCell ⟨w.heap.size + 1, 1, none⟩ (.slice s' n c')) := (Beside.setCell _ _ _ _).trans (Beside.setCell _ _ _ _)
        exact bodyPost_ret (v := .tuple #[.slice sv k cv, .agg #[.int .i64 (x + (k : Int)), .slice s' n c'], .bool true]) (by simp [results, Try.results11, go_sem, r0, r1]) rfl (bq_yes (S1 := S') HO.out (fun q hq => by have := hq.1; simp; omega) (HD.out.keep (by simp) (fun q hq hl => bes.2.2.2.2 q hl (by have := hq.1; omega))) (fun q hq => by have := HS.out q hq; simp; omega) (HA.out.keep (by simp) (fun q hq hl => bes.2.2.2.2 q hl (by have := HS.out q hq; omega))) (fun q hq h => by have h2 := HS.out q h; rcases hq.2 with h3 | h3; exact h2.2.1 h3; exact h2.2.2.1 h3) (by repeat (first | with_reducible exact Below.refl _ _ | with_reducible exact BW | with_reducible refine Below.setCell ?_ (by first | omega | (simp; done) | (simp; omega)) _ | with_reducible refine bDrewN ?_ _ | with_reducible refine Below.drew ?_ | with_reducible refine Below.alloc ?_ (by first | omega | (simp; done) | (simp; omega)) _)))
    obtain ⟨b, o, s1, c1, s2, c2, s3, c3, rfl, hb, c0_, c1_, c2_, c3_, hr⟩ := HZ.out k h1
    have hE := HZ2.out k h1
    have BW : Below w.heap.size w wr := HB0.out.trans (HB.out.mono HB0.out.size)
    replace c0_ := (BW.cell (p := ⟨b, o + k * 4, none⟩) hb).trans c0_
    replace c1_ := (BW.cell (p := ⟨b, o + k * 4 + 1, none⟩) hb).trans c1_
    replace c2_ := (BW.cell (p := ⟨b, o + k * 4 + 2, none⟩) hb).trans c2_
    replace c3_ := (BW.cell (p := ⟨b, o + k * 4 + 3, none⟩) hb).trans c3_
    replace hr := hr.below BW
    have eO : bqO x n V Z k = stpB (x + (k : Int)) n (bqV x n V Z k) ((Z k).1) ((Z k).2.1) ((Z k).2.2.2.1) ((Z k).2.2.2.2.1) ((Z k).2.2.2.2.2.1) ((Z k).2.2.2.2.2.2) := rfl
    have eV : bqV x n V Z (k + 1) = stV (x + (k : Int)) n (bqV x n V Z k) ((Z k).1) ((Z k).2.1) ((Z k).2.2.1) ((Z k).2.2.2.1) ((Z k).2.2.2.2.1) ((Z k).2.2.2.2.2.1) ((Z k).2.2.2.2.2.2) := rfl
    have eL : bqL x n V Z k = stT (x + (k : Int)) n (bqV x n V Z k) ((Z k).1) ((Z k).2.1) ((Z k).2.2.1) ((Z k).2.2.2.1) ((Z k).2.2.2.2.1) ((Z k).2.2.2.2.2.1) ((Z k).2.2.2.2.2.2) := rfl
    have eK : bqK x n V Z k = (bqL x n V Z k).length := rfl
    have eU : bqU x n V Z k = nthI (bqL x n V Z k) := rfl
    obtain ⟨⟨mo, nt, Th, ns, Se, nh, Sh⟩, hz⟩ : ∃ z, Z k = z := ⟨_, rfl⟩
    rw [hz] at c0_ c1_ c2_ c3_ hr hE eO eV eL
    dsimp only at c0_ c1_ c2_ c3_ hr hE eO eV eL
    obtain ⟨hn1, hn2', hn3⟩ := hE
    have HSc : Hid (RowScan wr s1 nt Th s2 ns Se s3 nh Sh) := hr
    have HeV : Hid (bqV x n V Z (k + 1) = stV (x + (k : Int)) n (bqV x n V Z k) mo nt Th ns Se nh Sh) := eV
    have HeL : Hid (bqK x n V Z k = (stT (x + (k : Int)) n (bqV x n V Z k) mo nt Th ns Se nh Sh).length ∧ bqU x n V Z k = nthI (stT (x + (k : Int)) n (bqV x n V Z k) mo nt Th ns Se nh Sh)) := ⟨by rw [eK, eL], by rw [eU, eL]⟩
    have HBW : Hid (Below w.heap.size w wr) := BW
    have k1 : (k : Int) < (m : Int) := by omega
    have zbw : b < wr.heap.size := Nat.lt_of_lt_of_le hb BW.size
    clear hr hz eV eL eK eU hb BW
    have HST : Hid (∀ W, Below wr.heap.size wr W → Calls Try.prog 30 #[.agg #[.int .i64 (x + (k : Int)), .slice s' n c'], .agg #[.int .i64 mo, .slice s1 nt c1, .slice s2 ns c2, .slice s3 nh c3]] W fun e w' => BsPost W (x + (k : Int)) n (bqV x n V Z k) mo nt Th ns Se nh Sh e w') := fun W hW => specBoardStep_any (x + (k : Int)) s' n c' (bqV x n V Z k) mo s1 nt c1 Th s2 ns c2 Se s3 nh c3 Sh W hn hn1 hn2' hn3 (HA.out.row.below hW) (HSc.out.1.below hW) (HSc.out.2.1.below hW) (HSc.out.2.2.below hW)
    cases q : stpB (x + (k : Int)) n (bqV x n V Z k) mo nt ns Se nh Sh
    case false =>
      have HO : Hid (bqB x n V m Z = false) := HF.out _ (bqT_no (show k + 1 ≤ m by omega) (by simp [bqT, eO, q]))
      clear eO HF HT
      go_upto_region 9 with fail
      refine wp_region_held_drew (S := fun w' => w'.cell? ⟨P, 0, none⟩ = some (.int .i64 (x + (k : Int))) ∧ w'.cell? ⟨P, 1, none⟩ = some (.slice s' n c') ∧ w'.cell? ⟨b, o + k * 4, none⟩ = some (.int .i64 mo) ∧ w'.cell? ⟨b, o + k * 4 + 1, none⟩ = some (.slice s1 nt c1) ∧ w'.cell? ⟨b, o + k * 4 + 2, none⟩ = some (.slice s2 ns c2) ∧ w'.cell? ⟨b, o + k * 4 + 3, none⟩ = some (.slice s3 nh c3)) (by kernel_rfl) ?_ (fun hHeld => ?_)
      · exact ⟨by simpa [go_sem] using n0, by simpa [go_sem] using n1, by simpa [go_sem] using c0_, by simpa [go_sem] using c1_, by simpa [go_sem] using c2_, by simpa [go_sem] using c3_⟩
      obtain ⟨v0, hv0⟩ : ∃ z, z = wr.drew := ⟨_, rfl⟩
      try rw [← hv0] at hHeld
      rw [← hv0]
      have bv0 : Below wr.heap.size wr v0 := by rw [hv0]; exact Below.drew (Below.refl _ _)
      clear hv0
      have HB9 : Hid (Below wr.heap.size wr v0) := bv0
      clear bv0
      refine wpAnyH_take (i := 0) (v := .agg #[.int .i64 (x + (k : Int)), .slice s' n c']) rfl (by kernel_rfl) (by kernel_rfl) (by kernel_rfl) (fun _ _ _ h => h) (Or.inl ⟨by kernel_rfl, ?_⟩) hHeld ?_
      · intro w' hSw
        obtain ⟨s0_, s1_, s2_, s3_, s4_, s5_⟩ := hSw
        first | (go_simp; done) | (go_simp; with_reducible rfl) | (go_simp; rw [IntKind.wrap_i64]; omega) | (go_simp; omega)
      simp only [Act.put, List.setIfInBounds_toArray, List.set_cons_zero, List.set_cons_succ]
      refine wpAnyH_take (i := 1) (v := .slice (some ⟨b, o, none⟩) m cs) rfl (by kernel_rfl) (by kernel_rfl) (by kernel_rfl) (fun _ _ _ h => h) (Or.inl ⟨by kernel_rfl, ?_⟩) hHeld ?_
      · intro w' hSw
        obtain ⟨s0_, s1_, s2_, s3_, s4_, s5_⟩ := hSw
        first | (go_simp; done) | (go_simp; with_reducible rfl) | (go_simp; rw [IntKind.wrap_i64]; omega) | (go_simp; omega)
      simp only [Act.put, List.setIfInBounds_toArray, List.set_cons_zero, List.set_cons_succ]
      refine wpAnyH_take (i := 2) (v := .int .i64 (k : Int)) rfl (by kernel_rfl) (by kernel_rfl) (by kernel_rfl) (fun _ _ _ h => h) (Or.inl ⟨by kernel_rfl, ?_⟩) hHeld ?_
      · intro w' hSw
        obtain ⟨s0_, s1_, s2_, s3_, s4_, s5_⟩ := hSw
        first | (go_simp; done) | (go_simp; with_reducible rfl) | (go_simp; rw [IntKind.wrap_i64]; omega) | (go_simp; omega)
      simp only [Act.put, List.setIfInBounds_toArray, List.set_cons_zero, List.set_cons_succ]
      refine wpAnyH_take (i := 3) (v := .pointer (some ⟨b, o + k * 4, none⟩)) rfl (by kernel_rfl) (by kernel_rfl) (by kernel_rfl) (fun _ _ _ h => h) (Or.inl ⟨by kernel_rfl, ?_⟩) hHeld ?_
      · intro w' hSw
        obtain ⟨s0_, s1_, s2_, s3_, s4_, s5_⟩ := hSw
        first | (go_simp; done) | (go_simp; with_reducible rfl) | (go_simp; rw [IntKind.wrap_i64]; omega) | (go_simp; omega)
      simp only [Act.put, List.setIfInBounds_toArray, List.set_cons_zero, List.set_cons_succ]
      refine wpAnyH_take (i := 4) (v := .agg #[.int .i64 mo, .slice s1 nt c1, .slice s2 ns c2, .slice s3 nh c3]) rfl (by kernel_rfl) (by kernel_rfl) (by kernel_rfl) (fun _ _ _ h => h) (Or.inl ⟨by kernel_rfl, ?_⟩) hHeld ?_
      · intro w' hSw
        obtain ⟨s0_, s1_, s2_, s3_, s4_, s5_⟩ := hSw
        first | (go_simp; done) | (go_simp; with_reducible rfl) | (go_simp; rw [IntKind.wrap_i64]; omega) | (go_simp; omega)
      simp only [Act.put, List.setIfInBounds_toArray, List.set_cons_zero, List.set_cons_succ]
      refine wpAnyH_ready (rs := [5, 10]) (by kernel_rfl) (by simp) ?_
      refine (AllReadyH.cons rfl (fun KK hK => ?_) (AllReadyH.cons rfl (fun KK hK => ?_) AllReadyH.nil))
      · go_simp
        go_wp2_with (first | (go_at_call 30; refine (HST.out _ HB9.out).mono ?_; intro e v0_1 hx; obtain ⟨t0, d0, t1, d1, rfl, b9⟩ := bs_out_no hx q))
        clear hx
        replace HB9 : Hid (Below wr.heap.size wr v0_1) := HB9.out.trans (b9.mono HB9.out.size)
        clear b9
        refine hK.out _ _ (⟨(HB9.out.cell (p := ⟨P, 0, none⟩) zP).trans n0, (HB9.out.cell (p := ⟨P, 1, none⟩) zP).trans n1, (HB9.out.cell (p := ⟨b, o + k * 4, none⟩) zbw).trans c0_, (HB9.out.cell (p := ⟨b, o + k * 4 + 1, none⟩) zbw).trans c1_, (HB9.out.cell (p := ⟨b, o + k * 4 + 2, none⟩) zbw).trans c2_, (HB9.out.cell (p := ⟨b, o + k * 4 + 3, none⟩) zbw).trans c3_⟩) (fun hHeld => ?_)
        clear hK KK
        refine wpAnyH_take (i := 6) (v := .tuple #[.agg #[.int .i64 0, .slice t0 0 d0], .slice t1 0 d1, .bool false]) rfl (by kernel_rfl) (by kernel_rfl) (by kernel_rfl) (fun _ _ _ h => h) (Or.inl ⟨by kernel_rfl, ?_⟩) hHeld ?_
        · intro w' hSw
          obtain ⟨s0_, s1_, s2_, s3_, s4_, s5_⟩ := hSw
          first | (go_simp; done) | (go_simp; with_reducible rfl) | (go_simp; rw [IntKind.wrap_i64]; omega) | (go_simp; omega)
        simp only [Act.put, List.setIfInBounds_toArray, List.set_cons_zero, List.set_cons_succ]
        refine wpAnyH_take (i := 7) (v := .agg #[.int .i64 0, .slice t0 0 d0]) rfl (by kernel_rfl) (by kernel_rfl) (by kernel_rfl) (fun _ _ _ h => h) (Or.inl ⟨by kernel_rfl, ?_⟩) hHeld ?_
        · intro w' hSw
          obtain ⟨s0_, s1_, s2_, s3_, s4_, s5_⟩ := hSw
          first | (go_simp; done) | (go_simp; with_reducible rfl) | (go_simp; rw [IntKind.wrap_i64]; omega) | (go_simp; omega)
        simp only [Act.put, List.setIfInBounds_toArray, List.set_cons_zero, List.set_cons_succ]
        refine wpAnyH_take (i := 8) (v := .slice t1 0 d1) rfl (by kernel_rfl) (by kernel_rfl) (by kernel_rfl) (fun _ _ _ h => h) (Or.inl ⟨by kernel_rfl, ?_⟩) hHeld ?_
        · intro w' hSw
          obtain ⟨s0_, s1_, s2_, s3_, s4_, s5_⟩ := hSw
          first | (go_simp; done) | (go_simp; with_reducible rfl) | (go_simp; rw [IntKind.wrap_i64]; omega) | (go_simp; omega)
        simp only [Act.put, List.setIfInBounds_toArray, List.set_cons_zero, List.set_cons_succ]
        refine wpAnyH_take (i := 9) (v := .bool false) rfl (by kernel_rfl) (by kernel_rfl) (by kernel_rfl) (fun _ _ _ h => h) (Or.inl ⟨by kernel_rfl, ?_⟩) hHeld ?_
        · intro w' hSw
          obtain ⟨s0_, s1_, s2_, s3_, s4_, s5_⟩ := hSw
          first | (go_simp; done) | (go_simp; with_reducible rfl) | (go_simp; rw [IntKind.wrap_i64]; omega) | (go_simp; omega)
        simp only [Act.put, List.setIfInBounds_toArray, List.set_cons_zero, List.set_cons_succ]
        refine wpAnyH_ready (rs := [10]) (by kernel_rfl) (by simp) ?_
        refine (AllReadyH.cons rfl (fun KK hK => ?_) AllReadyH.nil)
        go_simp
        obtain ⟨v0_2, hV_⟩ : ∃ z, z = v0_1.alloc (.cells #[.int .i64 0, .slice none 0 0] 26) := ⟨_, rfl⟩
        obtain ⟨g4, hg4⟩ : ∃ z, z = v0_1.heap.size := ⟨_, rfl⟩
        rw [← hV_, ← hg4]
        have b9 : Below v0_1.heap.size v0_1 v0_2 := by rw [hV_]; exact below0 _ _
        have HG : Hid (Blk v0_2 g4 [.int .i64 0, .slice none 0 0]) := by show Blk _ _ _; rw [hV_, hg4]; exact Blk.new _ #[.int .i64 0, .slice none 0 0] _
        have lg0 : wr.heap.size ≤ g4 := by rw [hg4]; exact HB9.out.size
        replace HB9 : Hid (Below wr.heap.size wr v0_2) := HB9.out.trans (b9.mono HB9.out.size)
        clear b9 hV_ hg4
        refine hK.out _ _ (⟨(HB9.out.cell (p := ⟨P, 0, none⟩) zP).trans n0, (HB9.out.cell (p := ⟨P, 1, none⟩) zP).trans n1, (HB9.out.cell (p := ⟨b, o + k * 4, none⟩) zbw).trans c0_, (HB9.out.cell (p := ⟨b, o + k * 4 + 1, none⟩) zbw).trans c1_, (HB9.out.cell (p := ⟨b, o + k * 4 + 2, none⟩) zbw).trans c2_, (HB9.out.cell (p := ⟨b, o + k * 4 + 3, none⟩) zbw).trans c3_⟩) (fun hHeld => ?_)
        clear hK KK
        refine wpAnyH_ready (rs := [11]) (by kernel_rfl) (by simp) ?_
        refine (AllReadyH.cons rfl (fun KK hK => ?_) AllReadyH.nil)
        have q0_ : v0_2.cell? ⟨g4, 0, none⟩ = some (.int .i64 0) := HG.out.2.2 0 _ rfl
        have q1_ : v0_2.cell? ⟨g4, 1, none⟩ = some (.slice none 0 0) := HG.out.2.2 1 _ rfl
        have qf_ : ∀ o, v0_2.frozen? ⟨g4, o, none⟩ = false := HG.out.2.1
        have lp_ : g4 < v0_2.heap.size := HG.out.1
        go_simp
        obtain ⟨v0_3, hV_⟩ : ∃ z, z = (v0_2.setCell ⟨g4, 0, none⟩ (.int .i64 0)).setCell ⟨g4, 1, none⟩ (.slice t0 0 d0) := ⟨_, rfl⟩
        rw [← hV_]
        have bs9 : Beside g4 v0_2 v0_3 := by rw [hV_]; exact (Beside.setCell _ _ _ _).trans (Beside.setCell _ _ _ _)
        have sz9 : v0_3.heap.size = v0_2.heap.size := by rw [hV_]; simp
        replace HG : Hid (Blk v0_3 g4 [.int .i64 0, .slice t0 0 d0]) := by show Blk _ _ _; rw [hV_]; exact (HG.out.set 0 _).set 1 _
        replace HB9 : Hid (Below wr.heap.size wr v0_3) := HB9.out.trans (bs9.below lg0 HB9.out.size)
        clear hV_ bs9 q0_ q1_ qf_ lp_ sz9
        refine hK.out _ _ (⟨(HB9.out.cell (p := ⟨P, 0, none⟩) zP).trans n0, (HB9.out.cell (p := ⟨P, 1, none⟩) zP).trans n1, (HB9.out.cell (p := ⟨b, o + k * 4, none⟩) zbw).trans c0_, (HB9.out.cell (p := ⟨b, o + k * 4 + 1, none⟩) zbw).trans c1_, (HB9.out.cell (p := ⟨b, o + k * 4 + 2, none⟩) zbw).trans c2_, (HB9.out.cell (p := ⟨b, o + k * 4 + 3, none⟩) zbw).trans c3_⟩) (fun hHeld => ?_)
        clear hK KK
        refine wpAnyH_ready (rs := [12]) (by kernel_rfl) (by simp) ?_
        refine (AllReadyH.cons rfl (fun KK hK => ?_) AllReadyH.nil)
        go_simp
        refine hK.out _ _ (hHeld) (fun hHeld => ?_)
        clear hK KK
        refine wpAnyH_ready (rs := [13]) (by kernel_rfl) (by simp) ?_
        refine AllReadyH.cons rfl (fun KK hK => ?_) AllReadyH.nil
        go_simp
        refine hK.out _ _ hHeld (fun hHeld => ?_)
        clear hK KK
        refine wpAnyH_done (by kernel_rfl) ?_ _
        clear hHeld
        have r0' := (HB9.out.cell (p := ⟨w.heap.size + 1, 0, none⟩) (by show w.heap.size + 1 < _; omega)).trans r0
        have r1' := (HB9.out.cell (p := ⟨w.heap.size + 1, 1, none⟩) (by show w.heap.size + 1 < _; omega)).trans r1
        have fr' : ∀ o, v0_3.frozen? ⟨w.heap.size + 1, o, none⟩ = false := fun o => (HB9.out.frozen (p := ⟨w.heap.size + 1, o, none⟩) (by show w.heap.size + 1 < _; omega)).trans (fr o)
        have z3 : w.heap.size + 1 < v0_3.heap.size := by have := HB9.out.size; omega
        have B4 : Below w.heap.size w v0_3 := HBW.out.trans (HB9.out.mono HBW.out.size)
        clear HG HB9 r0 r1 fr
        go_wp2
        exact bodyPost_ret (v := .tuple #[.slice (some ⟨w.heap.size + 1 + 1, 0, none⟩) 0 0, .agg #[.int .i64 0, .slice none 0 0], .bool false]) (by simp [results, Try.results11, go_sem, r0', r1', z3]) rfl (bq_no HO.out (by repeat (first | with_reducible exact Below.refl _ _ | with_reducible exact B4 | with_reducible refine Below.setCell ?_ (by first | omega | (simp; done) | (simp; omega)) _ | with_reducible refine bDrewN ?_ _ | with_reducible refine Below.drew ?_ | with_reducible refine Below.alloc ?_ (by first | omega | (simp; done) | (simp; omega)) _)))
      · go_simp
        obtain ⟨v0_5, hV_⟩ : ∃ z, z = v0.alloc (.cells #[.int .i64 0, .slice none 0 0] 26) := ⟨_, rfl⟩
        obtain ⟨g4, hg4⟩ : ∃ z, z = v0.heap.size := ⟨_, rfl⟩
        rw [← hV_, ← hg4]
        have b9 : Below v0.heap.size v0 v0_5 := by rw [hV_]; exact below0 _ _
        have HG : Hid (Blk v0_5 g4 [.int .i64 0, .slice none 0 0]) := by show Blk _ _ _; rw [hV_, hg4]; exact Blk.new _ #[.int .i64 0, .slice none 0 0] _
        have lg0 : wr.heap.size ≤ g4 := by rw [hg4]; exact HB9.out.size
        replace HB9 : Hid (Below wr.heap.size wr v0_5) := HB9.out.trans (b9.mono HB9.out.size)
        clear b9 hV_ hg4
        refine hK.out _ _ (⟨(HB9.out.cell (p := ⟨P, 0, none⟩) zP).trans n0, (HB9.out.cell (p := ⟨P, 1, none⟩) zP).trans n1, (HB9.out.cell (p := ⟨b, o + k * 4, none⟩) zbw).trans c0_, (HB9.out.cell (p := ⟨b, o + k * 4 + 1, none⟩) zbw).trans c1_, (HB9.out.cell (p := ⟨b, o + k * 4 + 2, none⟩) zbw).trans c2_, (HB9.out.cell (p := ⟨b, o + k * 4 + 3, none⟩) zbw).trans c3_⟩) (fun hHeld => ?_)
        clear hK KK
        refine wpAnyH_ready (rs := [5]) (by kernel_rfl) (by simp) ?_
        refine (AllReadyH.cons rfl (fun KK hK => ?_) AllReadyH.nil)
        go_simp
        go_wp2_with (first | (go_at_call 30; refine (HST.out _ HB9.out).mono ?_; intro e v0_6 hx; obtain ⟨t0, d0, t1, d1, rfl, b9⟩ := bs_out_no hx q))
        clear hx
        replace HG : Hid (Blk v0_6 g4 [.int .i64 0, .slice none 0 0]) := HG.out.below b9
        replace HB9 : Hid (Below wr.heap.size wr v0_6) := HB9.out.trans (b9.mono HB9.out.size)
        clear b9
        refine hK.out _ _ (⟨(HB9.out.cell (p := ⟨P, 0, none⟩) zP).trans n0, (HB9.out.cell (p := ⟨P, 1, none⟩) zP).trans n1, (HB9.out.cell (p := ⟨b, o + k * 4, none⟩) zbw).trans c0_, (HB9.out.cell (p := ⟨b, o + k * 4 + 1, none⟩) zbw).trans c1_, (HB9.out.cell (p := ⟨b, o + k * 4 + 2, none⟩) zbw).trans c2_, (HB9.out.cell (p := ⟨b, o + k * 4 + 3, none⟩) zbw).trans c3_⟩) (fun hHeld => ?_)
        clear hK KK
        refine wpAnyH_take (i := 6) (v := .tuple #[.agg #[.int .i64 0, .slice t0 0 d0], .slice t1 0 d1, .bool false]) rfl (by kernel_rfl) (by kernel_rfl) (by kernel_rfl) (fun _ _ _ h => h) (Or.inl ⟨by kernel_rfl, ?_⟩) hHeld ?_
        · intro w' hSw
          obtain ⟨s0_, s1_, s2_, s3_, s4_, s5_⟩ := hSw
          first | (go_simp; done) | (go_simp; with_reducible rfl) | (go_simp; rw [IntKind.wrap_i64]; omega) | (go_simp; omega)
        simp only [Act.put, List.setIfInBounds_toArray, List.set_cons_zero, List.set_cons_succ]
        refine wpAnyH_take (i := 7) (v := .agg #[.int .i64 0, .slice t0 0 d0]) rfl (by kernel_rfl) (by kernel_rfl) (by kernel_rfl) (fun _ _ _ h => h) (Or.inl ⟨by kernel_rfl, ?_⟩) hHeld ?_
        · intro w' hSw
          obtain ⟨s0_, s1_, s2_, s3_, s4_, s5_⟩ := hSw
          first | (go_simp; done) | (go_simp; with_reducible rfl) | (go_simp; rw [IntKind.wrap_i64]; omega) | (go_simp; omega)
        simp only [Act.put, List.setIfInBounds_toArray, List.set_cons_zero, List.set_cons_succ]
        refine wpAnyH_take (i := 8) (v := .slice t1 0 d1) rfl (by kernel_rfl) (by kernel_rfl) (by kernel_rfl) (fun _ _ _ h => h) (Or.inl ⟨by kernel_rfl, ?_⟩) hHeld ?_
        · intro w' hSw
          obtain ⟨s0_, s1_, s2_, s3_, s4_, s5_⟩ := hSw
          first | (go_simp; done) | (go_simp; with_reducible rfl) | (go_simp; rw [IntKind.wrap_i64]; omega) | (go_simp; omega)
        simp only [Act.put, List.setIfInBounds_toArray, List.set_cons_zero, List.set_cons_succ]
        refine wpAnyH_take (i := 9) (v := .bool false) rfl (by kernel_rfl) (by kernel_rfl) (by kernel_rfl) (fun _ _ _ h => h) (Or.inl ⟨by kernel_rfl, ?_⟩) hHeld ?_
        · intro w' hSw
          obtain ⟨s0_, s1_, s2_, s3_, s4_, s5_⟩ := hSw
          first | (go_simp; done) | (go_simp; with_reducible rfl) | (go_simp; rw [IntKind.wrap_i64]; omega) | (go_simp; omega)
        simp only [Act.put, List.setIfInBounds_toArray, List.set_cons_zero, List.set_cons_succ]
        refine wpAnyH_ready (rs := [11]) (by kernel_rfl) (by simp) ?_
        refine (AllReadyH.cons rfl (fun KK hK => ?_) AllReadyH.nil)
        have q0_ : v0_6.cell? ⟨g4, 0, none⟩ = some (.int .i64 0) := HG.out.2.2 0 _ rfl
        have q1_ : v0_6.cell? ⟨g4, 1, none⟩ = some (.slice none 0 0) := HG.out.2.2 1 _ rfl
        have qf_ : ∀ o, v0_6.frozen? ⟨g4, o, none⟩ = false := HG.out.2.1
        have lp_ : g4 < v0_6.heap.size := HG.out.1
        go_simp
        obtain ⟨v0_7, hV_⟩ : ∃ z, z = (v0_6.setCell ⟨g4, 0, none⟩ (.int .i64 0)).setCell ⟨g4, 1, none⟩ (.slice t0 0 d0) := ⟨_, rfl⟩
        rw [← hV_]
        have bs9 : Beside g4 v0_6 v0_7 := by rw [hV_]; exact (Beside.setCell _ _ _ _).trans (Beside.setCell _ _ _ _)
        have sz9 : v0_7.heap.size = v0_6.heap.size := by rw [hV_]; simp
        replace HG : Hid (Blk v0_7 g4 [.int .i64 0, .slice t0 0 d0]) := by show Blk _ _ _; rw [hV_]; exact (HG.out.set 0 _).set 1 _
        replace HB9 : Hid (Below wr.heap.size wr v0_7) := HB9.out.trans (bs9.below lg0 HB9.out.size)
        clear hV_ bs9 q0_ q1_ qf_ lp_ sz9
        refine hK.out _ _ (⟨(HB9.out.cell (p := ⟨P, 0, none⟩) zP).trans n0, (HB9.out.cell (p := ⟨P, 1, none⟩) zP).trans n1, (HB9.out.cell (p := ⟨b, o + k * 4, none⟩) zbw).trans c0_, (HB9.out.cell (p := ⟨b, o + k * 4 + 1, none⟩) zbw).trans c1_, (HB9.out.cell (p := ⟨b, o + k * 4 + 2, none⟩) zbw).trans c2_, (HB9.out.cell (p := ⟨b, o + k * 4 + 3, none⟩) zbw).trans c3_⟩) (fun hHeld => ?_)
        clear hK KK
        refine wpAnyH_ready (rs := [12]) (by kernel_rfl) (by simp) ?_
        refine (AllReadyH.cons rfl (fun KK hK => ?_) AllReadyH.nil)
        go_simp
        refine hK.out _ _ (hHeld) (fun hHeld => ?_)
        clear hK KK
        refine wpAnyH_ready (rs := [13]) (by kernel_rfl) (by simp) ?_
        refine AllReadyH.cons rfl (fun KK hK => ?_) AllReadyH.nil
        go_simp
        refine hK.out _ _ hHeld (fun hHeld => ?_)
        clear hK KK
        refine wpAnyH_done (by kernel_rfl) ?_ _
        clear hHeld
        have r0' := (HB9.out.cell (p := ⟨w.heap.size + 1, 0, none⟩) (by show w.heap.size + 1 < _; omega)).trans r0
        have r1' := (HB9.out.cell (p := ⟨w.heap.size + 1, 1, none⟩) (by show w.heap.size + 1 < _; omega)).trans r1
        have fr' : ∀ o, v0_7.frozen? ⟨w.heap.size + 1, o, none⟩ = false := fun o => (HB9.out.frozen (p := ⟨w.heap.size + 1, o, none⟩) (by show w.heap.size + 1 < _; omega)).trans (fr o)
        have z3 : w.heap.size + 1 < v0_7.heap.size := by have := HB9.out.size; omega
        have B4 : Below w.heap.size w v0_7 := HBW.out.trans (HB9.out.mono HBW.out.size)
        clear HG HB9 r0 r1 fr
        go_wp2
        exact bodyPost_ret (v := .tuple #[.slice (some ⟨w.heap.size + 1 + 1, 0, none⟩) 0 0, .agg #[.int .i64 0, .slice none 0 0], .bool false]) (by simp [results, Try.results11, go_sem, r0', r1', z3]) rfl (bq_no HO.out (by repeat (first | with_reducible exact Below.refl _ _ | with_reducible exact B4 | with_reducible refine Below.setCell ?_ (by first | omega | (simp; done) | (simp; omega)) _ | with_reducible refine bDrewN ?_ _ | with_reducible refine Below.drew ?_ | with_reducible refine Below.alloc ?_ (by first | omega | (simp; done) | (simp; omega)) _)))
    case true =>
      have HT3 : Hid (bqT x n V Z (k + 1) = true) := by show _ = _; simp [bqT, HT.out, eO, q]
      clear eO r0 r1 fr HBW HF HT
      go_upto_region 9 with fail
      refine wp_region_held_drew (S := fun w' => w'.cell? ⟨P, 0, none⟩ = some (.int .i64 (x + (k : Int))) ∧ w'.cell? ⟨P, 1, none⟩ = some (.slice s' n c') ∧ w'.cell? ⟨b, o + k * 4, none⟩ = some (.int .i64 mo) ∧ w'.cell? ⟨b, o + k * 4 + 1, none⟩ = some (.slice s1 nt c1) ∧ w'.cell? ⟨b, o + k * 4 + 2, none⟩ = some (.slice s2 ns c2) ∧ w'.cell? ⟨b, o + k * 4 + 3, none⟩ = some (.slice s3 nh c3)) (by kernel_rfl) ?_ (fun hHeld => ?_)
      · exact ⟨by simpa [go_sem] using n0, by simpa [go_sem] using n1, by simpa [go_sem] using c0_, by simpa [go_sem] using c1_, by simpa [go_sem] using c2_, by simpa [go_sem] using c3_⟩
      obtain ⟨v0, hv0⟩ : ∃ z, z = wr.drew := ⟨_, rfl⟩
      try rw [← hv0] at hHeld
      rw [← hv0]
      have bv0 : Below wr.heap.size wr v0 := by rw [hv0]; exact Below.drew (Below.refl _ _)
      clear hv0
      have HB9 : Hid (Below wr.heap.size wr v0) := bv0
      clear bv0
      refine wpAnyH_take (i := 0) (v := .agg #[.int .i64 (x + (k : Int)), .slice s' n c']) rfl (by kernel_rfl) (by kernel_rfl) (by kernel_rfl) (fun _ _ _ h => h) (Or.inl ⟨by kernel_rfl, ?_⟩) hHeld ?_
      · intro w' hSw
        obtain ⟨s0_, s1_, s2_, s3_, s4_, s5_⟩ := hSw
        first | (go_simp; done) | (go_simp; with_reducible rfl) | (go_simp; rw [IntKind.wrap_i64]; omega) | (go_simp; omega)
      simp only [Act.put, List.setIfInBounds_toArray, List.set_cons_zero, List.set_cons_succ]
      refine wpAnyH_take (i := 1) (v := .slice (some ⟨b, o, none⟩) m cs) rfl (by kernel_rfl) (by kernel_rfl) (by kernel_rfl) (fun _ _ _ h => h) (Or.inl ⟨by kernel_rfl, ?_⟩) hHeld ?_
      · intro w' hSw
        obtain ⟨s0_, s1_, s2_, s3_, s4_, s5_⟩ := hSw
        first | (go_simp; done) | (go_simp; with_reducible rfl) | (go_simp; rw [IntKind.wrap_i64]; omega) | (go_simp; omega)
      simp only [Act.put, List.setIfInBounds_toArray, List.set_cons_zero, List.set_cons_succ]
      refine wpAnyH_take (i := 2) (v := .int .i64 (k : Int)) rfl (by kernel_rfl) (by kernel_rfl) (by kernel_rfl) (fun _ _ _ h => h) (Or.inl ⟨by kernel_rfl, ?_⟩) hHeld ?_
      · intro w' hSw
        obtain ⟨s0_, s1_, s2_, s3_, s4_, s5_⟩ := hSw
        first | (go_simp; done) | (go_simp; with_reducible rfl) | (go_simp; rw [IntKind.wrap_i64]; omega) | (go_simp; omega)
      simp only [Act.put, List.setIfInBounds_toArray, List.set_cons_zero, List.set_cons_succ]
      refine wpAnyH_take (i := 3) (v := .pointer (some ⟨b, o + k * 4, none⟩)) rfl (by kernel_rfl) (by kernel_rfl) (by kernel_rfl) (fun _ _ _ h => h) (Or.inl ⟨by kernel_rfl, ?_⟩) hHeld ?_
      · intro w' hSw
        obtain ⟨s0_, s1_, s2_, s3_, s4_, s5_⟩ := hSw
        first | (go_simp; done) | (go_simp; with_reducible rfl) | (go_simp; rw [IntKind.wrap_i64]; omega) | (go_simp; omega)
      simp only [Act.put, List.setIfInBounds_toArray, List.set_cons_zero, List.set_cons_succ]
      refine wpAnyH_take (i := 4) (v := .agg #[.int .i64 mo, .slice s1 nt c1, .slice s2 ns c2, .slice s3 nh c3]) rfl (by kernel_rfl) (by kernel_rfl) (by kernel_rfl) (fun _ _ _ h => h) (Or.inl ⟨by kernel_rfl, ?_⟩) hHeld ?_
      · intro w' hSw
        obtain ⟨s0_, s1_, s2_, s3_, s4_, s5_⟩ := hSw
        first | (go_simp; done) | (go_simp; with_reducible rfl) | (go_simp; rw [IntKind.wrap_i64]; omega) | (go_simp; omega)
      simp only [Act.put, List.setIfInBounds_toArray, List.set_cons_zero, List.set_cons_succ]
      refine wpAnyH_ready (rs := [5, 10]) (by kernel_rfl) (by simp) ?_
      refine (AllReadyH.cons rfl (fun KK hK => ?_) (AllReadyH.cons rfl (fun KK hK => ?_) AllReadyH.nil))
      · go_simp
        go_wp2_with (first | (go_at_call 30; refine (HST.out _ HB9.out).mono ?_; intro e v0_1 hx; obtain ⟨t0, d0, t1, d1, S0, S1, rfl, Q0, O0, Q1, O1, D01, b9⟩ := bs_out_yes hx q; rw [← HeV.out] at O0; rw [← HeL.out.1, ← HeL.out.2] at O1; rw [← HeL.out.1]))
        have l9_ := HB9.out.size
        have HQ0 : Hid (∀ k, S0 k → wr.heap.size ≤ k ∧ k < v0_1.heap.size) := fun k hk => by have := Q0 k hk; omega
        have HQ1 : Hid (∀ k, S1 k → wr.heap.size ≤ k ∧ k < v0_1.heap.size) := fun k hk => by have := Q1 k hk; omega
        have HO0 : Hid (AlarmR S0 v0_1 t0 n (bqV x n V Z (k + 1))) := O0
        have HO1 : Hid (I64R S1 v0_1 t1 (bqK x n V Z k) (bqU x n V Z k)) := O1
        have HD : Hid (∀ k, S0 k → ¬ S1 k) := D01
        clear hx Q0 O0 Q1 O1 D01 l9_ 
        replace HB9 : Hid (Below wr.heap.size wr v0_1) := HB9.out.trans (b9.mono HB9.out.size)
        clear b9
        refine hK.out _ _ (⟨(HB9.out.cell (p := ⟨P, 0, none⟩) zP).trans n0, (HB9.out.cell (p := ⟨P, 1, none⟩) zP).trans n1, (HB9.out.cell (p := ⟨b, o + k * 4, none⟩) zbw).trans c0_, (HB9.out.cell (p := ⟨b, o + k * 4 + 1, none⟩) zbw).trans c1_, (HB9.out.cell (p := ⟨b, o + k * 4 + 2, none⟩) zbw).trans c2_, (HB9.out.cell (p := ⟨b, o + k * 4 + 3, none⟩) zbw).trans c3_⟩) (fun hHeld => ?_)
        clear hK KK
        refine wpAnyH_take (i := 6) (v := .tuple #[.agg #[.int .i64 (x + (k : Int) + 1), .slice t0 n d0], .slice t1 (bqK x n V Z k) d1, .bool true]) rfl (by kernel_rfl) (by kernel_rfl) (by kernel_rfl) (fun _ _ _ h => h) (Or.inl ⟨by kernel_rfl, ?_⟩) hHeld ?_
        · intro w' hSw
          obtain ⟨s0_, s1_, s2_, s3_, s4_, s5_⟩ := hSw
          first | (go_simp; done) | (go_simp; with_reducible rfl) | (go_simp; rw [IntKind.wrap_i64]; omega) | (go_simp; omega)
        simp only [Act.put, List.setIfInBounds_toArray, List.set_cons_zero, List.set_cons_succ]
        refine wpAnyH_take (i := 7) (v := .agg #[.int .i64 (x + (k : Int) + 1), .slice t0 n d0]) rfl (by kernel_rfl) (by kernel_rfl) (by kernel_rfl) (fun _ _ _ h => h) (Or.inl ⟨by kernel_rfl, ?_⟩) hHeld ?_
        · intro w' hSw
          obtain ⟨s0_, s1_, s2_, s3_, s4_, s5_⟩ := hSw
          first | (go_simp; done) | (go_simp; with_reducible rfl) | (go_simp; rw [IntKind.wrap_i64]; omega) | (go_simp; omega)
        simp only [Act.put, List.setIfInBounds_toArray, List.set_cons_zero, List.set_cons_succ]
        refine wpAnyH_take (i := 8) (v := .slice t1 (bqK x n V Z k) d1) rfl (by kernel_rfl) (by kernel_rfl) (by kernel_rfl) (fun _ _ _ h => h) (Or.inl ⟨by kernel_rfl, ?_⟩) hHeld ?_
        · intro w' hSw
          obtain ⟨s0_, s1_, s2_, s3_, s4_, s5_⟩ := hSw
          first | (go_simp; done) | (go_simp; with_reducible rfl) | (go_simp; rw [IntKind.wrap_i64]; omega) | (go_simp; omega)
        simp only [Act.put, List.setIfInBounds_toArray, List.set_cons_zero, List.set_cons_succ]
        refine wpAnyH_take (i := 9) (v := .bool true) rfl (by kernel_rfl) (by kernel_rfl) (by kernel_rfl) (fun _ _ _ h => h) (Or.inl ⟨by kernel_rfl, ?_⟩) hHeld ?_
        · intro w' hSw
          obtain ⟨s0_, s1_, s2_, s3_, s4_, s5_⟩ := hSw
          first | (go_simp; done) | (go_simp; with_reducible rfl) | (go_simp; rw [IntKind.wrap_i64]; omega) | (go_simp; omega)
        simp only [Act.put, List.setIfInBounds_toArray, List.set_cons_zero, List.set_cons_succ]
        refine wpAnyH_ready (rs := [10]) (by kernel_rfl) (by simp) ?_
        refine (AllReadyH.cons rfl (fun KK hK => ?_) AllReadyH.nil)
        go_simp
        obtain ⟨v0_2, hV_⟩ : ∃ z, z = v0_1.alloc (.cells #[.int .i64 0, .slice none 0 0] 26) := ⟨_, rfl⟩
        obtain ⟨g4, hg4⟩ : ∃ z, z = v0_1.heap.size := ⟨_, rfl⟩
        rw [← hV_, ← hg4]
        have b9 : Below v0_1.heap.size v0_1 v0_2 := by rw [hV_]; exact below0 _ _
        have HG : Hid (Blk v0_2 g4 [.int .i64 0, .slice none 0 0]) := by show Blk _ _ _; rw [hV_, hg4]; exact Blk.new _ #[.int .i64 0, .slice none 0 0] _
        have lg0 : wr.heap.size ≤ g4 := by rw [hg4]; exact HB9.out.size
        replace HQ0 : Hid (∀ k, S0 k → wr.heap.size ≤ k ∧ k < v0_2.heap.size ∧ g4 ≠ k) := fun k hk => by have := HQ0.out k hk; have := b9.size; omega
        replace HQ1 : Hid (∀ k, S1 k → wr.heap.size ≤ k ∧ k < v0_2.heap.size ∧ g4 ≠ k) := fun k hk => by have := HQ1.out k hk; have := b9.size; omega
        replace HO0 : Hid (AlarmR S0 v0_2 t0 n (bqV x n V Z (k + 1))) := HO0.out.below b9
        replace HO1 : Hid (I64R S1 v0_2 t1 (bqK x n V Z k) (bqU x n V Z k)) := HO1.out.below b9
        replace HB9 : Hid (Below wr.heap.size wr v0_2) := HB9.out.trans (b9.mono HB9.out.size)
        clear b9 hV_ hg4
        refine hK.out _ _ (⟨(HB9.out.cell (p := ⟨P, 0, none⟩) zP).trans n0, (HB9.out.cell (p := ⟨P, 1, none⟩) zP).trans n1, (HB9.out.cell (p := ⟨b, o + k * 4, none⟩) zbw).trans c0_, (HB9.out.cell (p := ⟨b, o + k * 4 + 1, none⟩) zbw).trans c1_, (HB9.out.cell (p := ⟨b, o + k * 4 + 2, none⟩) zbw).trans c2_, (HB9.out.cell (p := ⟨b, o + k * 4 + 3, none⟩) zbw).trans c3_⟩) (fun hHeld => ?_)
        clear hK KK
        refine wpAnyH_ready (rs := [11]) (by kernel_rfl) (by simp) ?_
        refine (AllReadyH.cons rfl (fun KK hK => ?_) AllReadyH.nil)
        have q0_ : v0_2.cell? ⟨g4, 0, none⟩ = some (.int .i64 0) := HG.out.2.2 0 _ rfl
        have q1_ : v0_2.cell? ⟨g4, 1, none⟩ = some (.slice none 0 0) := HG.out.2.2 1 _ rfl
        have qf_ : ∀ o, v0_2.frozen? ⟨g4, o, none⟩ = false := HG.out.2.1
        have lp_ : g4 < v0_2.heap.size := HG.out.1
        go_simp
        obtain ⟨v0_3, hV_⟩ : ∃ z, z = (v0_2.setCell ⟨g4, 0, none⟩ (.int .i64 (x + (k : Int) + 1))).setCell ⟨g4, 1, none⟩ (.slice t0 n d0) := ⟨_, rfl⟩
        rw [← hV_]
        have bs9 : Beside g4 v0_2 v0_3 := by rw [hV_]; exact (Beside.setCell _ _ _ _).trans (Beside.setCell _ _ _ _)
        have sz9 : v0_3.heap.size = v0_2.heap.size := by rw [hV_]; simp
        replace HG : Hid (Blk v0_3 g4 [.int .i64 (x + (k : Int) + 1), .slice t0 n d0]) := by show Blk _ _ _; rw [hV_]; exact (HG.out.set 0 _).set 1 _
        replace HO0 : Hid (AlarmR S0 v0_3 t0 n (bqV x n V Z (k + 1))) := HO0.out.keep (by omega) (fun q hq hl => bs9.2.2.2.2 q hl (by have := HQ0.out q hq; omega))
        replace HO1 : Hid (I64R S1 v0_3 t1 (bqK x n V Z k) (bqU x n V Z k)) := HO1.out.keep (by omega) (fun q hq hl => bs9.2.2.2.2 q hl (by have := HQ1.out q hq; omega))
        replace HQ0 : Hid (∀ k, S0 k → wr.heap.size ≤ k ∧ k < v0_3.heap.size ∧ g4 ≠ k) := fun k hk => by have := HQ0.out k hk; omega
        replace HQ1 : Hid (∀ k, S1 k → wr.heap.size ≤ k ∧ k < v0_3.heap.size ∧ g4 ≠ k) := fun k hk => by have := HQ1.out k hk; omega
        replace HB9 : Hid (Below wr.heap.size wr v0_3) := HB9.out.trans (bs9.below lg0 HB9.out.size)
        clear hV_ bs9 q0_ q1_ qf_ lp_ sz9
        refine hK.out _ _ (⟨(HB9.out.cell (p := ⟨P, 0, none⟩) zP).trans n0, (HB9.out.cell (p := ⟨P, 1, none⟩) zP).trans n1, (HB9.out.cell (p := ⟨b, o + k * 4, none⟩) zbw).trans c0_, (HB9.out.cell (p := ⟨b, o + k * 4 + 1, none⟩) zbw).trans c1_, (HB9.out.cell (p := ⟨b, o + k * 4 + 2, none⟩) zbw).trans c2_, (HB9.out.cell (p := ⟨b, o + k * 4 + 3, none⟩) zbw).trans c3_⟩) (fun hHeld => ?_)
        clear hK KK
        refine wpAnyH_ready (rs := [12]) (by kernel_rfl) (by simp) ?_
        refine (AllReadyH.cons rfl (fun KK hK => ?_) AllReadyH.nil)
        go_simp
        refine hK.out _ _ (hHeld) (fun hHeld => ?_)
        clear hK KK
        refine wpAnyH_ready (rs := [13]) (by kernel_rfl) (by simp) ?_
        refine AllReadyH.cons rfl (fun KK hK => ?_) AllReadyH.nil
        go_simp
        refine hK.out _ _ hHeld (fun hHeld => ?_)
        clear hK KK
        refine wpAnyH_done (by kernel_rfl) ?_ _
        clear hHeld
        have HG4 : Hid (Blk v0_3 g4 [.int .i64 (x + (k : Int) + 1), .slice t0 n d0]) := HG
        have y0 : v0_3.cell? ⟨g4, 0, none⟩ = some (.int .i64 (x + (k : Int) + 1)) := HG.out.2.2 0 _ rfl
        have y1 : v0_3.cell? ⟨g4, 1, none⟩ = some (.slice t0 n d0) := HG.out.2.2 1 _ rfl
        have m0 := (HB9.out.cell (p := ⟨P, 0, none⟩) zP).trans n0
        have m1 := (HB9.out.cell (p := ⟨P, 1, none⟩) zP).trans n1
        have mf : ∀ o, v0_3.frozen? ⟨P, o, none⟩ = false := fun o => (HB9.out.frozen (p := ⟨P, o, none⟩) zP).trans (nf o)
        have zPW : P < v0_3.heap.size := Nat.lt_of_lt_of_le zP HB9.out.size
        have g4P : g4 ≠ P := by omega
        have sW := HB9.out.size
        clear HG c0_ c1_ c2_ c3_ n0 n1 nf HST HSc HeV HeL HA
        go_upto_region 13 with fail
        obtain ⟨w5, hw5⟩ : ∃ z, z = (v0_3.setCell ⟨P, 0, none⟩ (.int .i64 (x + (k : Int) + 1))).setCell ⟨P, 1, none⟩ (.slice t0 n d0) := ⟨_, rfl⟩
        rw [← hw5]
        have bP : Beside P v0_3 w5 := by rw [hw5]; exact (Beside.setCell _ _ _ _).trans (Beside.setCell _ _ _ _)
        have s5 : w5.heap.size = v0_3.heap.size := by rw [hw5]; simp
        have HP5 : Hid (Blk w5 P [.int .i64 (x + ((k + 1 : Nat) : Int)), .slice t0 n d0]) := by
          show Blk _ _ _
          have e1 : x + ((k + 1 : Nat) : Int) = x + (k : Int) + 1 := by omega
          rw [hw5, e1]
          exact ((HP.out.below HB9.out).set 0 (.int .i64 (x + (k : Int) + 1))).set 1 (.slice t0 n d0)
        have hb5 : Beside P wr w5 := (Beside.of HB9.out).trans bP
        have HO05 : Hid (AlarmR S0 w5 t0 n (bqV x n V Z (k + 1))) := HO0.out.keep (by omega) (fun q hq hl => bP.2.2.2.2 q hl (by have := HQ0.out q hq; omega))
        have HO15 : Hid (I64R S1 w5 t1 (bqK x n V Z k) (bqU x n V Z k)) := HO1.out.keep (by omega) (fun q hq hl => bP.2.2.2.2 q hl (by have := HQ1.out q hq; omega))
        have hown : OwnI wr.heap.size w5 t1 (bqK x n V Z k) (bqU x n V Z k) := HO15.out.own (fun q hq => (HQ1.out q hq).1)
        have HOWN : Hid (OwnI wr.heap.size w5 t1 (bqK x n V Z k) (bqU x n V Z k)) := hown
        have HM5 : Hid (MT w1.heap.size w1 w5 u8 k xs (bqK x n V Z) (bqU x n V Z)) := HM.out.besideX hb5 lP1 zw HvP.out.1 HvP.out.2
        have HMY : Hid (w5.ownsRow w1.heap.size 33 1 u8 k xs) := HM5.out.2.1
        have HXlt : Hid (∀ q, InX xs q → q < wr.heap.size) := fun q hq => HM.out.in_lt hq
        have HVlt : Hid (∀ q, u8.ownBlock = some q → q < wr.heap.size) := own_lt HM.out.2.1
        have lw5 : w1.heap.size ≤ w5.heap.size := by omega
        have s5a : v0_3.heap.size ≤ w5.heap.size := by omega
        have s5b : w5.heap.size ≤ v0_3.heap.size := by omega
        clear hw5 bP hown hb5 m0 m1 mf y0 y1 HO0 HO1 HP HB9 HM HG4 s5
        go_wp2_with (at_builtin; refine list_slh (x := .slice t1 (bqK x n V Z k) d1) rfl w1.heap.size u8 k xs (.tmp 54) (.tmp 56) (by rfl) (by rfl) (by rfl) (by rfl) HMY.out (by omega) (by omega) ?_; intro g' cap' w6 hown6 hgrow6 hlt6 hat6)
        have HM6 : Hid (MT w1.heap.size w1 w6 (.slice (some ⟨g', 0, none⟩) (k + 1) cap') (k + 1) (xs ++ [Value.slice t1 (bqK x n V Z k) d1]) (bqK x n V Z) (bqU x n V Z)) := MT.onW (B := wr.heap.size) HM5.out HXlt.out HVlt.out zw lw5 HOWN.out hown6 hgrow6 hat6
        have gno : ∀ q, q < w5.heap.size → u8.ownBlock ≠ some q → (Value.slice (some ⟨g', 0, none⟩) (k + 1) cap').ownBlock ≠ some q := fun q h2 h3 e => by
          have e' : g' = q := by simpa [Value.ownBlock] using e
          rcases hat6 with h4 | h4
          · exact h3 (by rw [h4, e'])
          · omega
        have xno : ∀ q, ¬ InX xs q → ¬ S1 q → ¬ InX (xs ++ [Value.slice t1 (bqK x n V Z k) d1]) q := fun q h2 h3 h4 => by
          rcases h4.push with h5 | ⟨h5, o5, h6⟩
          · exact h2 h5
          · obtain ⟨b5, e5, _⟩ := HO15.out.1 0 h5
            have h7 := HO15.out.2 h5 b5 e5
            rw [h6] at e5
            simp only [Option.some.injEq, Addr.mk.injEq] at e5
            exact h3 (by rw [e5.1]; exact h7)
        have HN : Hid (BqS w1 P x n V m Z (k + 1) w6 (.slice (some ⟨g', 0, none⟩) (k + 1) cap') (xs ++ [Value.slice t1 (bqK x n V Z k) d1])) := by
          have vlo : ∀ q, wr.heap.size ≤ q → u8.ownBlock ≠ some q := fun q h e => by have := HVlt.out q e; omega
          refine ⟨t0, d0, S0, ?_, lP1, HM6.out, gno P (by omega) HvP.out.1, xno P HvP.out.2 (fun h => by have := HQ1.out P h; omega), HO05.out.keep hgrow6.size (fun q hq hl => hgrow6.block q hl (fun e => vlo q (HQ0.out q hq).1 e.symm)), fun q hq => ?_⟩
          · obtain ⟨a1, a2, a3⟩ := HP5.out
            have eb : w6.heap[P]? = w5.heap[P]? := hgrow6.block P a1 (fun e => HvP.out.1 e.symm)
            exact ⟨Nat.lt_of_lt_of_le a1 hgrow6.size, fun o => (World.frozen?_of_block (w := w5) (a := ⟨P, o, none⟩) eb).trans (a2 o), fun i v h => (World.cell?_of_block (w := w5) (a := ⟨P, i, none⟩) eb).trans (a3 i v h)⟩
          · have h2 := HQ0.out q hq
            have h3 := hgrow6.size
            exact ⟨by omega, gno q (by omega) (vlo q h2.1), xno q (fun h => by have := HXlt.out q h; omega) (HD.out q hq), by omega, by omega⟩
        clear gno xno hown6 hgrow6 hat6 hlt6
        go_roundw
        case rel => exact ⟨k + 1, _, by omega, by go_num, HT3, HN⟩
        case measure => simp [intOf]; omega
      · go_simp
        obtain ⟨v0_5, hV_⟩ : ∃ z, z = v0.alloc (.cells #[.int .i64 0, .slice none 0 0] 26) := ⟨_, rfl⟩
        obtain ⟨g4, hg4⟩ : ∃ z, z = v0.heap.size := ⟨_, rfl⟩
        rw [← hV_, ← hg4]
        have b9 : Below v0.heap.size v0 v0_5 := by rw [hV_]; exact below0 _ _
        have HG : Hid (Blk v0_5 g4 [.int .i64 0, .slice none 0 0]) := by show Blk _ _ _; rw [hV_, hg4]; exact Blk.new _ #[.int .i64 0, .slice none 0 0] _
        have lg0 : wr.heap.size ≤ g4 := by rw [hg4]; exact HB9.out.size
        replace HB9 : Hid (Below wr.heap.size wr v0_5) := HB9.out.trans (b9.mono HB9.out.size)
        clear b9 hV_ hg4
        refine hK.out _ _ (⟨(HB9.out.cell (p := ⟨P, 0, none⟩) zP).trans n0, (HB9.out.cell (p := ⟨P, 1, none⟩) zP).trans n1, (HB9.out.cell (p := ⟨b, o + k * 4, none⟩) zbw).trans c0_, (HB9.out.cell (p := ⟨b, o + k * 4 + 1, none⟩) zbw).trans c1_, (HB9.out.cell (p := ⟨b, o + k * 4 + 2, none⟩) zbw).trans c2_, (HB9.out.cell (p := ⟨b, o + k * 4 + 3, none⟩) zbw).trans c3_⟩) (fun hHeld => ?_)
        clear hK KK
        refine wpAnyH_ready (rs := [5]) (by kernel_rfl) (by simp) ?_
        refine (AllReadyH.cons rfl (fun KK hK => ?_) AllReadyH.nil)
        have lg_ : g4 < v0_5.heap.size := HG.out.1
        go_simp
        go_wp2_with (first | (go_at_call 30; refine (HST.out _ HB9.out).mono ?_; intro e v0_6 hx; obtain ⟨t0, d0, t1, d1, S0, S1, rfl, Q0, O0, Q1, O1, D01, b9⟩ := bs_out_yes hx q; rw [← HeV.out] at O0; rw [← HeL.out.1, ← HeL.out.2] at O1; rw [← HeL.out.1]))
        have l9_ := HB9.out.size
        have HQ0 : Hid (∀ k, S0 k → wr.heap.size ≤ k ∧ k < v0_6.heap.size ∧ g4 ≠ k) := fun k hk => by have := Q0 k hk; omega
        have HQ1 : Hid (∀ k, S1 k → wr.heap.size ≤ k ∧ k < v0_6.heap.size ∧ g4 ≠ k) := fun k hk => by have := Q1 k hk; omega
        have HO0 : Hid (AlarmR S0 v0_6 t0 n (bqV x n V Z (k + 1))) := O0
        have HO1 : Hid (I64R S1 v0_6 t1 (bqK x n V Z k) (bqU x n V Z k)) := O1
        have HD : Hid (∀ k, S0 k → ¬ S1 k) := D01
        clear hx Q0 O0 Q1 O1 D01 l9_ lg_
        replace HG : Hid (Blk v0_6 g4 [.int .i64 0, .slice none 0 0]) := HG.out.below b9
        replace HB9 : Hid (Below wr.heap.size wr v0_6) := HB9.out.trans (b9.mono HB9.out.size)
        clear b9
        refine hK.out _ _ (⟨(HB9.out.cell (p := ⟨P, 0, none⟩) zP).trans n0, (HB9.out.cell (p := ⟨P, 1, none⟩) zP).trans n1, (HB9.out.cell (p := ⟨b, o + k * 4, none⟩) zbw).trans c0_, (HB9.out.cell (p := ⟨b, o + k * 4 + 1, none⟩) zbw).trans c1_, (HB9.out.cell (p := ⟨b, o + k * 4 + 2, none⟩) zbw).trans c2_, (HB9.out.cell (p := ⟨b, o + k * 4 + 3, none⟩) zbw).trans c3_⟩) (fun hHeld => ?_)
        clear hK KK
        refine wpAnyH_take (i := 6) (v := .tuple #[.agg #[.int .i64 (x + (k : Int) + 1), .slice t0 n d0], .slice t1 (bqK x n V Z k) d1, .bool true]) rfl (by kernel_rfl) (by kernel_rfl) (by kernel_rfl) (fun _ _ _ h => h) (Or.inl ⟨by kernel_rfl, ?_⟩) hHeld ?_
        · intro w' hSw
          obtain ⟨s0_, s1_, s2_, s3_, s4_, s5_⟩ := hSw
          first | (go_simp; done) | (go_simp; with_reducible rfl) | (go_simp; rw [IntKind.wrap_i64]; omega) | (go_simp; omega)
        simp only [Act.put, List.setIfInBounds_toArray, List.set_cons_zero, List.set_cons_succ]
        refine wpAnyH_take (i := 7) (v := .agg #[.int .i64 (x + (k : Int) + 1), .slice t0 n d0]) rfl (by kernel_rfl) (by kernel_rfl) (by kernel_rfl) (fun _ _ _ h => h) (Or.inl ⟨by kernel_rfl, ?_⟩) hHeld ?_
        · intro w' hSw
          obtain ⟨s0_, s1_, s2_, s3_, s4_, s5_⟩ := hSw
          first | (go_simp; done) | (go_simp; with_reducible rfl) | (go_simp; rw [IntKind.wrap_i64]; omega) | (go_simp; omega)
        simp only [Act.put, List.setIfInBounds_toArray, List.set_cons_zero, List.set_cons_succ]
        refine wpAnyH_take (i := 8) (v := .slice t1 (bqK x n V Z k) d1) rfl (by kernel_rfl) (by kernel_rfl) (by kernel_rfl) (fun _ _ _ h => h) (Or.inl ⟨by kernel_rfl, ?_⟩) hHeld ?_
        · intro w' hSw
          obtain ⟨s0_, s1_, s2_, s3_, s4_, s5_⟩ := hSw
          first | (go_simp; done) | (go_simp; with_reducible rfl) | (go_simp; rw [IntKind.wrap_i64]; omega) | (go_simp; omega)
        simp only [Act.put, List.setIfInBounds_toArray, List.set_cons_zero, List.set_cons_succ]
        refine wpAnyH_take (i := 9) (v := .bool true) rfl (by kernel_rfl) (by kernel_rfl) (by kernel_rfl) (fun _ _ _ h => h) (Or.inl ⟨by kernel_rfl, ?_⟩) hHeld ?_
        · intro w' hSw
          obtain ⟨s0_, s1_, s2_, s3_, s4_, s5_⟩ := hSw
          first | (go_simp; done) | (go_simp; with_reducible rfl) | (go_simp; rw [IntKind.wrap_i64]; omega) | (go_simp; omega)
        simp only [Act.put, List.setIfInBounds_toArray, List.set_cons_zero, List.set_cons_succ]
        refine wpAnyH_ready (rs := [11]) (by kernel_rfl) (by simp) ?_
        refine (AllReadyH.cons rfl (fun KK hK => ?_) AllReadyH.nil)
        have q0_ : v0_6.cell? ⟨g4, 0, none⟩ = some (.int .i64 0) := HG.out.2.2 0 _ rfl
        have q1_ : v0_6.cell? ⟨g4, 1, none⟩ = some (.slice none 0 0) := HG.out.2.2 1 _ rfl
        have qf_ : ∀ o, v0_6.frozen? ⟨g4, o, none⟩ = false := HG.out.2.1
        have lp_ : g4 < v0_6.heap.size := HG.out.1
        go_simp
        obtain ⟨v0_7, hV_⟩ : ∃ z, z = (v0_6.setCell ⟨g4, 0, none⟩ (.int .i64 (x + (k : Int) + 1))).setCell ⟨g4, 1, none⟩ (.slice t0 n d0) := ⟨_, rfl⟩
        rw [← hV_]
        have bs9 : Beside g4 v0_6 v0_7 := by rw [hV_]; exact (Beside.setCell _ _ _ _).trans (Beside.setCell _ _ _ _)
        have sz9 : v0_7.heap.size = v0_6.heap.size := by rw [hV_]; simp
        replace HG : Hid (Blk v0_7 g4 [.int .i64 (x + (k : Int) + 1), .slice t0 n d0]) := by show Blk _ _ _; rw [hV_]; exact (HG.out.set 0 _).set 1 _
        replace HO0 : Hid (AlarmR S0 v0_7 t0 n (bqV x n V Z (k + 1))) := HO0.out.keep (by omega) (fun q hq hl => bs9.2.2.2.2 q hl (by have := HQ0.out q hq; omega))
        replace HO1 : Hid (I64R S1 v0_7 t1 (bqK x n V Z k) (bqU x n V Z k)) := HO1.out.keep (by omega) (fun q hq hl => bs9.2.2.2.2 q hl (by have := HQ1.out q hq; omega))
        replace HQ0 : Hid (∀ k, S0 k → wr.heap.size ≤ k ∧ k < v0_7.heap.size ∧ g4 ≠ k) := fun k hk => by have := HQ0.out k hk; omega
        replace HQ1 : Hid (∀ k, S1 k → wr.heap.size ≤ k ∧ k < v0_7.heap.size ∧ g4 ≠ k) := fun k hk => by have := HQ1.out k hk; omega
        replace HB9 : Hid (Below wr.heap.size wr v0_7) := HB9.out.trans (bs9.below lg0 HB9.out.size)
        clear hV_ bs9 q0_ q1_ qf_ lp_ sz9
        refine hK.out _ _ (⟨(HB9.out.cell (p := ⟨P, 0, none⟩) zP).trans n0, (HB9.out.cell (p := ⟨P, 1, none⟩) zP).trans n1, (HB9.out.cell (p := ⟨b, o + k * 4, none⟩) zbw).trans c0_, (HB9.out.cell (p := ⟨b, o + k * 4 + 1, none⟩) zbw).trans c1_, (HB9.out.cell (p := ⟨b, o + k * 4 + 2, none⟩) zbw).trans c2_, (HB9.out.cell (p := ⟨b, o + k * 4 + 3, none⟩) zbw).trans c3_⟩) (fun hHeld => ?_)
        clear hK KK
        refine wpAnyH_ready (rs := [12]) (by kernel_rfl) (by simp) ?_
        refine (AllReadyH.cons rfl (fun KK hK => ?_) AllReadyH.nil)
        go_simp
        refine hK.out _ _ (hHeld) (fun hHeld => ?_)
        clear hK KK
        refine wpAnyH_ready (rs := [13]) (by kernel_rfl) (by simp) ?_
        refine AllReadyH.cons rfl (fun KK hK => ?_) AllReadyH.nil
        go_simp
        refine hK.out _ _ hHeld (fun hHeld => ?_)
        clear hK KK
        refine wpAnyH_done (by kernel_rfl) ?_ _
        clear hHeld
        have HG4 : Hid (Blk v0_7 g4 [.int .i64 (x + (k : Int) + 1), .slice t0 n d0]) := HG
        have y0 : v0_7.cell? ⟨g4, 0, none⟩ = some (.int .i64 (x + (k : Int) + 1)) := HG.out.2.2 0 _ rfl
        have y1 : v0_7.cell? ⟨g4, 1, none⟩ = some (.slice t0 n d0) := HG.out.2.2 1 _ rfl
        have m0 := (HB9.out.cell (p := ⟨P, 0, none⟩) zP).trans n0
        have m1 := (HB9.out.cell (p := ⟨P, 1, none⟩) zP).trans n1
        have mf : ∀ o, v0_7.frozen? ⟨P, o, none⟩ = false := fun o => (HB9.out.frozen (p := ⟨P, o, none⟩) zP).trans (nf o)
        have zPW : P < v0_7.heap.size := Nat.lt_of_lt_of_le zP HB9.out.size
        have g4P : g4 ≠ P := by omega
        have sW := HB9.out.size
        clear HG c0_ c1_ c2_ c3_ n0 n1 nf HST HSc HeV HeL HA
        go_upto_region 13 with fail
        obtain ⟨w5, hw5⟩ : ∃ z, z = (v0_7.setCell ⟨P, 0, none⟩ (.int .i64 (x + (k : Int) + 1))).setCell ⟨P, 1, none⟩ (.slice t0 n d0) := ⟨_, rfl⟩
        rw [← hw5]
        have bP : Beside P v0_7 w5 := by rw [hw5]; exact (Beside.setCell _ _ _ _).trans (Beside.setCell _ _ _ _)
        have s5 : w5.heap.size = v0_7.heap.size := by rw [hw5]; simp
        have HP5 : Hid (Blk w5 P [.int .i64 (x + ((k + 1 : Nat) : Int)), .slice t0 n d0]) := by
          show Blk _ _ _
          have e1 : x + ((k + 1 : Nat) : Int) = x + (k : Int) + 1 := by omega
          rw [hw5, e1]
          exact ((HP.out.below HB9.out).set 0 (.int .i64 (x + (k : Int) + 1))).set 1 (.slice t0 n d0)
        have hb5 : Beside P wr w5 := (Beside.of HB9.out).trans bP
        have HO05 : Hid (AlarmR S0 w5 t0 n (bqV x n V Z (k + 1))) := HO0.out.keep (by omega) (fun q hq hl => bP.2.2.2.2 q hl (by have := HQ0.out q hq; omega))
        have HO15 : Hid (I64R S1 w5 t1 (bqK x n V Z k) (bqU x n V Z k)) := HO1.out.keep (by omega) (fun q hq hl => bP.2.2.2.2 q hl (by have := HQ1.out q hq; omega))
        have hown : OwnI wr.heap.size w5 t1 (bqK x n V Z k) (bqU x n V Z k) := HO15.out.own (fun q hq => (HQ1.out q hq).1)
        have HOWN : Hid (OwnI wr.heap.size w5 t1 (bqK x n V Z k) (bqU x n V Z k)) := hown
        have HM5 : Hid (MT w1.heap.size w1 w5 u8 k xs (bqK x n V Z) (bqU x n V Z)) := HM.out.besideX hb5 lP1 zw HvP.out.1 HvP.out.2
        have HMY : Hid (w5.ownsRow w1.heap.size 33 1 u8 k xs) := HM5.out.2.1
        have HXlt : Hid (∀ q, InX xs q → q < wr.heap.size) := fun q hq => HM.out.in_lt hq
        have HVlt : Hid (∀ q, u8.ownBlock = some q → q < wr.heap.size) := own_lt HM.out.2.1
        have lw5 : w1.heap.size ≤ w5.heap.size := by omega
        have s5a : v0_7.heap.size ≤ w5.heap.size := by omega
        have s5b : w5.heap.size ≤ v0_7.heap.size := by omega
        clear hw5 bP hown hb5 m0 m1 mf y0 y1 HO0 HO1 HP HB9 HM HG4 s5
        go_wp2_with (at_builtin; refine list_slh (x := .slice t1 (bqK x n V Z k) d1) rfl w1.heap.size u8 k xs (.tmp 54) (.tmp 56) (by rfl) (by rfl) (by rfl) (by rfl) HMY.out (by omega) (by omega) ?_; intro g' cap' w6 hown6 hgrow6 hlt6 hat6)
        have HM6 : Hid (MT w1.heap.size w1 w6 (.slice (some ⟨g', 0, none⟩) (k + 1) cap') (k + 1) (xs ++ [Value.slice t1 (bqK x n V Z k) d1]) (bqK x n V Z) (bqU x n V Z)) := MT.onW (B := wr.heap.size) HM5.out HXlt.out HVlt.out zw lw5 HOWN.out hown6 hgrow6 hat6
        have gno : ∀ q, q < w5.heap.size → u8.ownBlock ≠ some q → (Value.slice (some ⟨g', 0, none⟩) (k + 1) cap').ownBlock ≠ some q := fun q h2 h3 e => by
          have e' : g' = q := by simpa [Value.ownBlock] using e
          rcases hat6 with h4 | h4
          · exact h3 (by rw [h4, e'])
          · omega
        have xno : ∀ q, ¬ InX xs q → ¬ S1 q → ¬ InX (xs ++ [Value.slice t1 (bqK x n V Z k) d1]) q := fun q h2 h3 h4 => by
          rcases h4.push with h5 | ⟨h5, o5, h6⟩
          · exact h2 h5
          · obtain ⟨b5, e5, _⟩ := HO15.out.1 0 h5
            have h7 := HO15.out.2 h5 b5 e5
            rw [h6] at e5
            simp only [Option.some.injEq, Addr.mk.injEq] at e5
            exact h3 (by rw [e5.1]; exact h7)
        have HN : Hid (BqS w1 P x n V m Z (k + 1) w6 (.slice (some ⟨g', 0, none⟩) (k + 1) cap') (xs ++ [Value.slice t1 (bqK x n V Z k) d1])) := by
          have vlo : ∀ q, wr.heap.size ≤ q → u8.ownBlock ≠ some q := fun q h e => by have := HVlt.out q e; omega
          refine ⟨t0, d0, S0, ?_, lP1, HM6.out, gno P (by omega) HvP.out.1, xno P HvP.out.2 (fun h => by have := HQ1.out P h; omega), HO05.out.keep hgrow6.size (fun q hq hl => hgrow6.block q hl (fun e => vlo q (HQ0.out q hq).1 e.symm)), fun q hq => ?_⟩
          · obtain ⟨a1, a2, a3⟩ := HP5.out
            have eb : w6.heap[P]? = w5.heap[P]? := hgrow6.block P a1 (fun e => HvP.out.1 e.symm)
            exact ⟨Nat.lt_of_lt_of_le a1 hgrow6.size, fun o => (World.frozen?_of_block (w := w5) (a := ⟨P, o, none⟩) eb).trans (a2 o), fun i v h => (World.cell?_of_block (w := w5) (a := ⟨P, i, none⟩) eb).trans (a3 i v h)⟩
          · have h2 := HQ0.out q hq
            have h3 := hgrow6.size
            exact ⟨by omega, gno q (by omega) (vlo q h2.1), xno q (fun h => by have := HXlt.out q h; omega) (HD.out q hq), by omega, by omega⟩
        clear gno xno hown6 hgrow6 hat6 hlt6
        go_roundw
        case rel => exact ⟨k + 1, _, by omega, by go_num, HT3, HN⟩
        case measure => simp [intOf]; omega
end Go.Proofs.Ytlbbdifmjdpfiaa
