/-
What is proved: a step of a board, as the specification does it.
-/
import Derived.Test.YtlbbdifmjdpfiaaBsQz
import Derived.Test.YtlbbdifmjdpfiaaBsOz
import Derived.Test.YtlbbdifmjdpfiaaBsRz
import Derived.Test.YtlbbdifmjdpfiaaBsLz
import Derived.Deep.RegionHeld3
import Derived.Deep.DeepCutAuto
namespace Go.Proofs.Ytlbbdifmjdpfiaa
set_option maxRecDepth 40000
open Go.ChangeShapes Go.WideShapes Go.ChangeAt Go.RowKit
set_option linter.unusedVariables false
set_option linter.unusedSimpArgs false

theorem upd_upd (V : Nat → Int × Int × Int × Bool × Int) (j : Nat) (y z : Int × Int × Int × Bool × Int) : upd (upd V j y) j z = upd V j z := by
  funext i
  by_cases e : i = j
  · subst e; rw [upd_at, upd_at]
  · rw [upd_off _ z e, upd_off _ y e, upd_off _ z e]
theorem litA (w2 : World) : ((w2.alloc (.cells #[] 43)).alloc (.cells #[.int .i64 0, .slice none 0 0] 26)).heap[w2.heap.size]? = some (.cells #[] 43 (0, 0)) := by
  rw [heap_alloc_old _ _ (by simp)]
  exact heap_alloc_new _ _
theorem litB (w2 : World) : ((w2.alloc (.cells #[.int .i64 0, .slice none 0 0] 26)).alloc (.cells #[] 43)).heap[w2.heap.size + 1]? = some (.cells #[] 43 (0, 0)) := by
  have := heap_alloc_new (w2.alloc (.cells #[.int .i64 0, .slice none 0 0] 26)) (.cells #[] 43)
  simpa using this
theorem litC (w2 : World) : (w2.alloc (.cells #[] 43)).heap[w2.heap.size]? = some (.cells #[] 43 (0, 0)) := heap_alloc_new _ _
theorem keepS4 {W W' : World} {p q g i j : Nat} {v0 v1 v2 v3 : Value} (h0 : W.cell? ⟨p, 0, none⟩ = some v0) (h1 : W.cell? ⟨q, 3, none⟩ = some v1) (h2 : W.cell? ⟨g, i, none⟩ = some v2) (h3 : W.cell? ⟨g, j, none⟩ = some v3) {b : Nat} (zp : p < W.heap.size) (zq : q < W.heap.size) (zg : g < W.heap.size) (pb : p ≠ b) (qb : q ≠ b) (gb : g ≠ b) (hb : Beside b W W') : W'.cell? ⟨p, 0, none⟩ = some v0 ∧ W'.cell? ⟨q, 3, none⟩ = some v1 ∧ W'.cell? ⟨g, i, none⟩ = some v2 ∧ W'.cell? ⟨g, j, none⟩ = some v3 :=
  ⟨(hb.cell (p := ⟨p, 0, none⟩) zp pb).trans h0, (hb.cell (p := ⟨q, 3, none⟩) zq qb).trans h1, (hb.cell (p := ⟨g, i, none⟩) zg gb).trans h2, (hb.cell (p := ⟨g, j, none⟩) zg gb).trans h3⟩
theorem keepS2 {W W' : World} {p : Nat} {v0 v1 : Value} (h0 : W.cell? ⟨p, 0, none⟩ = some v0) (h1 : W.cell? ⟨p, 1, none⟩ = some v1) (zp : p < W.heap.size) (hb : Below W.heap.size W W') : W'.cell? ⟨p, 0, none⟩ = some v0 ∧ W'.cell? ⟨p, 1, none⟩ = some v1 := ⟨(hb.cell (p := ⟨p, 0, none⟩) zp).trans h0, (hb.cell (p := ⟨p, 1, none⟩) zp).trans h1⟩
theorem grown_cells {W w2 : World} {H P : Nat} (hg : W.grownBy w2 (some H)) (hP : P < W.heap.size) (hn : P ≠ H) : (∀ i, w2.cell? ⟨P, i, none⟩ = W.cell? ⟨P, i, none⟩) ∧ (∀ i, w2.frozen? ⟨P, i, none⟩ = W.frozen? ⟨P, i, none⟩) :=
  ⟨fun i => hg.cell_far ⟨P, i, none⟩ hP (by intro e; cases e; exact hn rfl), fun i => hg.frozen_far ⟨P, i, none⟩ hP (by intro e; cases e; exact hn rfl)⟩
/-- A copy of a board on its way out of the region that makes it. -/
def CpAt (wd : World) (x : Int) (n : Nat) (V : Nat → Int × Int × Int × Bool × Int) (v : Value) (wx : World) : Prop := ∃ P b cap, v = .pointer (some ⟨P, 0, none⟩) ∧ wx.cell? ⟨P, 0, none⟩ = some (.int .i64 x) ∧ wx.cell? ⟨P, 1, none⟩ = some (.slice (some ⟨b, 0, none⟩) n cap) ∧ P ≠ b ∧ wd.heap.size ≤ P ∧ wd.heap.size ≤ b ∧ P < wx.heap.size ∧ AlM b wx n V ∧ Below wd.heap.size wd wx
set_option maxRecDepth 20000 in
set_option maxHeartbeats 16000000 in
theorem specBoardStep_any (x : Int) (s : Option Addr) (n c : Nat) (V : Nat → Int × Int × Int × Bool × Int) (mo : Int) (st : Option Addr) (nt ct : Nat) (Th : Nat → Bool) (ss : Option Addr) (ns cs : Nat) (Se : Nat → Int) (sh : Option Addr) (nh ch : Nat) (Sh : Nat → Int × Int) (w : World) (hn : (n : Int) ≤ 1048576) (hnt : (nt : Int) ≤ 1048576) (hns : (ns : Int) ≤ 1048576) (hnh : (nh : Int) ≤ 1048576) (HR : Hid (RowAlarm w s n V)) (HTh : Hid (RowB w st nt Th)) (HSe : Hid (RowI w ss ns Se)) (HSh : Hid (RowShelf w sh nh Sh)) :
    Calls Try.prog 30 #[.agg #[.int .i64 x, .slice s n c], .agg #[.int .i64 mo, .slice st nt ct, .slice ss ns cs, .slice sh nh ch]] w fun e w' => BsPost w x n V mo nt Th ns Se nh Sh e w' := by
  have sto := store_slT
  go_enter Try.func30, Try.ntmps30
  go_upto_region 1 with fail
  obtain ⟨wa, hwa⟩ : ∃ wa, wa = ((w.alloc (.cells #[.int .i64 x, .slice s n c] 26)).alloc (.cells #[.int .i64 mo, .slice st nt ct, .slice ss ns cs, .slice sh nh ch] 39)).alloc (.cells #[.int .i64 0, .slice none 0 0] 26) := ⟨_, rfl⟩
  rw [← hwa]
  have p0 : wa.cell? ⟨w.heap.size, 0, none⟩ = some (.int .i64 x) := by rw [hwa]; simp [go_sem]
  have p1 : wa.cell? ⟨w.heap.size, 1, none⟩ = some (.slice s n c) := by rw [hwa]; simp [go_sem]
  have k0 : wa.cell? ⟨w.heap.size + 1, 0, none⟩ = some (.int .i64 mo) := by rw [hwa]; simp [go_sem]
  have k1 : wa.cell? ⟨w.heap.size + 1, 1, none⟩ = some (.slice st nt ct) := by rw [hwa]; simp [go_sem]
  have k2 : wa.cell? ⟨w.heap.size + 1, 2, none⟩ = some (.slice ss ns cs) := by rw [hwa]; simp [go_sem]
  have k3 : wa.cell? ⟨w.heap.size + 1, 3, none⟩ = some (.slice sh nh ch) := by rw [hwa]; simp [go_sem]
  have r0 : wa.cell? ⟨w.heap.size + 1 + 1, 0, none⟩ = some (.int .i64 0) := by rw [hwa]; simp [go_sem]
  have r1 : wa.cell? ⟨w.heap.size + 1 + 1, 1, none⟩ = some (.slice none 0 0) := by rw [hwa]; simp [go_sem]
  have fr : ∀ o, wa.frozen? ⟨w.heap.size + 1 + 1, o, none⟩ = false := by intro o; rw [hwa]; simp [go_sem]
  have z2 : w.heap.size + 1 + 1 < wa.heap.size := by rw [hwa]; simp
  have z1 : w.heap.size + 1 < wa.heap.size := by omega
  have z0 : w.heap.size < wa.heap.size := by omega
  have B0 : Below w.heap.size w wa := by rw [hwa]; exact (by repeat (first | with_reducible exact Below.refl _ _ | with_reducible refine Below.setCell ?_ (by first | omega | (simp; done) | (simp; omega)) _ | with_reducible refine bDrewN ?_ _ | with_reducible refine Below.drew ?_ | with_reducible refine Below.alloc ?_ (by first | omega | (simp; done) | (simp; omega)) _))
  have HE : Hid (stpB x n V mo nt ns Se nh Sh = (boardB x n V && (scnB n mo nt ns Se nh Sh && !decide (x = 1000000000)))) := rfl
  clear hwa
  go_wp2_with fail
  refine (specBoardOk_any x s n c V _ hn (HR.out.below B0)).mono ?_
  rintro e w1 ⟨rfl, h1⟩
  replace p0 := (h1.cell (p := ⟨w.heap.size, 0, none⟩) z0).trans p0
  replace p1 := (h1.cell (p := ⟨w.heap.size, 1, none⟩) z0).trans p1
  replace k0 := (h1.cell (p := ⟨w.heap.size + 1, 0, none⟩) z1).trans k0
  replace k1 := (h1.cell (p := ⟨w.heap.size + 1, 1, none⟩) z1).trans k1
  replace k2 := (h1.cell (p := ⟨w.heap.size + 1, 2, none⟩) z1).trans k2
  replace k3 := (h1.cell (p := ⟨w.heap.size + 1, 3, none⟩) z1).trans k3
  replace r0 := (h1.cell (p := ⟨w.heap.size + 1 + 1, 0, none⟩) z2).trans r0
  replace r1 := (h1.cell (p := ⟨w.heap.size + 1 + 1, 1, none⟩) z2).trans r1
  replace fr : ∀ o, w1.frozen? ⟨w.heap.size + 1 + 1, o, none⟩ = false := fun o => (h1.frozen (p := ⟨w.heap.size + 1 + 1, o, none⟩) z2).trans (fr o)
  replace z2 := Nat.lt_of_lt_of_le z2 h1.size
  replace z1 := Nat.lt_of_lt_of_le z1 h1.size
  replace z0 := Nat.lt_of_lt_of_le z0 h1.size
  replace B0 : Below w.heap.size w w1 := B0.trans (h1.mono B0.size)
  have l1 := B0.size
  clear h1
  cases b0 : boardB x n V
  · have HO : Hid (stpB x n V mo nt ns Se nh Sh = false) := by show _ = _; rw [HE.out, b0]; rfl
    go_wp2
    exact bodyPost_ret (v := .tuple #[.agg #[.int .i64 0, .slice none 0 0], .slice (some ⟨w1.heap.size, 0, none⟩) 0 0, .bool false]) (by simp [results, Try.results30, go_sem, r0, r1, z0, z1, z2]) rfl (bs_no HO.out (by repeat (first | with_reducible exact Below.refl _ _ | with_reducible exact B0 | with_reducible refine Below.setCell ?_ (by first | omega | (simp; done) | (simp; omega)) _ | with_reducible refine bDrewN ?_ _ | with_reducible refine Below.drew ?_ | with_reducible refine Below.alloc ?_ (by first | omega | (simp; done) | (simp; omega)) _)))
  go_wp2_with fail
  refine (l21Scan_any x s n c V mo st nt ct Th ss ns cs Se sh nh ch Sh _ hn hns hnh (HSe.out.below B0) (HSh.out.below B0)).mono ?_
  rintro e w2 ⟨rfl, h2⟩
  replace p0 := (h2.cell (p := ⟨w.heap.size, 0, none⟩) z0).trans p0
  replace p1 := (h2.cell (p := ⟨w.heap.size, 1, none⟩) z0).trans p1
  replace k0 := (h2.cell (p := ⟨w.heap.size + 1, 0, none⟩) z1).trans k0
  replace k1 := (h2.cell (p := ⟨w.heap.size + 1, 1, none⟩) z1).trans k1
  replace k2 := (h2.cell (p := ⟨w.heap.size + 1, 2, none⟩) z1).trans k2
  replace k3 := (h2.cell (p := ⟨w.heap.size + 1, 3, none⟩) z1).trans k3
  replace r0 := (h2.cell (p := ⟨w.heap.size + 1 + 1, 0, none⟩) z2).trans r0
  replace r1 := (h2.cell (p := ⟨w.heap.size + 1 + 1, 1, none⟩) z2).trans r1
  replace fr : ∀ o, w2.frozen? ⟨w.heap.size + 1 + 1, o, none⟩ = false := fun o => (h2.frozen (p := ⟨w.heap.size + 1 + 1, o, none⟩) z2).trans (fr o)
  replace z2 := Nat.lt_of_lt_of_le z2 h2.size
  replace z1 := Nat.lt_of_lt_of_le z1 h2.size
  replace z0 := Nat.lt_of_lt_of_le z0 h2.size
  replace B0 : Below w.heap.size w w2 := B0.trans (h2.mono B0.size)
  have l2 := B0.size
  clear h2
  cases b1 : scnB n mo nt ns Se nh Sh
  · have HO : Hid (stpB x n V mo nt ns Se nh Sh = false) := by show _ = _; rw [HE.out, b0, b1]; rfl
    go_wp2
    exact bodyPost_ret (v := .tuple #[.agg #[.int .i64 0, .slice none 0 0], .slice (some ⟨w2.heap.size, 0, none⟩) 0 0, .bool false]) (by simp [results, Try.results30, go_sem, r0, r1, z0, z1, z2]) rfl (bs_no HO.out (by repeat (first | with_reducible exact Below.refl _ _ | with_reducible exact B0 | with_reducible refine Below.setCell ?_ (by first | omega | (simp; done) | (simp; omega)) _ | with_reducible refine bDrewN ?_ _ | with_reducible refine Below.drew ?_ | with_reducible refine Below.alloc ?_ (by first | omega | (simp; done) | (simp; omega)) _)))
  by_cases b2 : x = 1000000000
  · have b2' : (x == 1000000000) = true := by simpa using b2
    have HO : Hid (stpB x n V mo nt ns Se nh Sh = false) := by show _ = _; rw [HE.out, b0, b1, decide_eq_true b2]; rfl
    clear b2
    go_wp2
    exact bodyPost_ret (v := .tuple #[.agg #[.int .i64 0, .slice none 0 0], .slice (some ⟨w2.heap.size, 0, none⟩) 0 0, .bool false]) (by simp [results, Try.results30, go_sem, r0, r1, z0, z1, z2]) rfl (bs_no HO.out (by repeat (first | with_reducible exact Below.refl _ _ | with_reducible exact B0 | with_reducible refine Below.setCell ?_ (by first | omega | (simp; done) | (simp; omega)) _ | with_reducible refine bDrewN ?_ _ | with_reducible refine Below.drew ?_ | with_reducible refine Below.alloc ?_ (by first | omega | (simp; done) | (simp; omega)) _)))
  have b2' : (x == 1000000000) = false := by simpa using b2
  have HO : Hid (stpB x n V mo nt ns Se nh Sh = true) := by show _ = _; rw [HE.out, b0, b1, decide_eq_false b2]; rfl
  have HTy : Hid (tidy n V) := tidy_board b0
  obtain ⟨⟨x0, x1⟩, n60, -⟩ := board_yes b0
  have hn2 : (n : Int) ≤ 60 := by omega
  have x2 : x + 1 ≤ 1000000000 := by omega
  obtain ⟨ms, mnt, mns, mall, msh⟩ : inB 0 7 mo = true ∧ nt = n ∧ ns ≤ 60 ∧ allInB 0 ((n : Int) - 1) Se ns = true ∧ shsB n nh Sh = true := by
    unfold scnB at b1
    simp only [Bool.and_eq_true, decide_eq_true_iff] at b1
    exact ⟨b1.1, b1.2.1, b1.2.2.1, b1.2.2.2.1, b1.2.2.2.2⟩
  obtain ⟨m0, m1⟩ := inB_yes ms
  have hall := allIn_yes mall.symm
  obtain ⟨nh60, hsh⟩ : nh ≤ 60 ∧ ∀ j, j < nh → shfB n (Sh j) = true := by
    unfold shsB at msh
    simp only [Bool.and_eq_true, decide_eq_true_iff] at msh
    exact msh
  have HAll : Hid (∀ j, j < ns → 0 ≤ Se j ∧ Se j ≤ (n : Int) - 1) := hall
  have HShs : Hid (∀ j, j < nh → shfB n (Sh j) = true) := hsh
  have hns2 : (ns : Int) ≤ 60 := by omega
  have hnh2 : (nh : Int) ≤ 60 := by omega
  subst mnt
  clear b0 b1 b2 ms mall msh hall hsh HE
  have wx1 : IntKind.i64.wrap (x + 1) = x + 1 := by rw [IntKind.wrap_i64]; omega
  have lo2 : w.heap.size + 1 + 1 < w2.heap.size := z2
  go_upto_region 3 with fail
  go_cut [7] (fun v wx => CpAt w2 (x + 1) nt V v wx)
  case first =>
    go_region_held3 (fun w' => w'.cell? ⟨w.heap.size, 0, none⟩ = some (.int .i64 x) ∧ w'.cell? ⟨w.heap.size, 1, none⟩ = some (.slice s nt c)) (first | with_reducible exact ⟨p0, p1⟩ | (refine keepS2 p0 p1 z0 ?_; exact (by repeat (first | with_reducible exact Below.refl _ _ | with_reducible exact B7 | with_reducible refine Below.setCell ?_ (by first | omega | (simp; done) | (simp; omega)) _ | with_reducible refine bDrewN ?_ _ | with_reducible refine Below.drew ?_ | with_reducible refine Below.alloc ?_ (by first | omega | (simp; done) | (simp; omega)) _)))) (first
      | (refine step_cloneA (by rfl) (.tmp 35) (.tmp 37) (by rfl) _ s nt c V (by rfl) (by rfl) (litA w2) (HR.out.below (B0.trans (Below.mono (by repeat (first | with_reducible exact Below.refl _ _ | with_reducible refine Below.setCell ?_ (by first | omega | (simp; done) | (simp; omega)) _ | with_reducible refine bDrewN ?_ _ | with_reducible refine Below.drew ?_ | with_reducible refine Below.alloc ?_ (by first | omega | (simp; done) | (simp; omega)) _)) l2))) n60 ?_; intro g cap w7 hg hA gr; have gr' : ((w2.alloc (.cells #[] 43)).alloc (.cells #[.int .i64 0, .slice none 0 0] 26)).grownBy w7 (some w2.heap.size) := ⟨gr.os, gr.tape, gr.output, gr.size, gr.block⟩; have zW : ((w2.alloc (.cells #[] 43)).alloc (.cells #[.int .i64 0, .slice none 0 0] 26)).heap.size = w2.heap.size + 2 := (by simp); have hg' : g = w2.heap.size ∨ w2.heap.size + 2 ≤ g := (hg.elim (fun h => Or.inl h) (fun h => Or.inr (by rw [← zW]; exact h))); have s7 : w2.heap.size + 2 ≤ w7.heap.size := (by have := gr'.size; omega); have B7 : Below w2.heap.size w2 w7 := Below.trans (Below.mono (B := w2.heap.size) (by repeat (first | with_reducible exact Below.refl _ _ | with_reducible refine Below.setCell ?_ (by first | omega | (simp; done) | (simp; omega)) _ | with_reducible refine bDrewN ?_ _ | with_reducible refine Below.drew ?_ | with_reducible refine Below.alloc ?_ (by first | omega | (simp; done) | (simp; omega)) _)) (Nat.le_refl _)) (grown_below gr' (by omega) (fun r e => by cases e; omega)); have HA7 : Hid (AlM g w7 nt V) := hA; have Q7 := grown_cells (P := w2.heap.size + 1) gr' (by omega) (by omega); have a0 : w7.cell? ⟨w2.heap.size + 1, 0, none⟩ = some (.int .i64 0) := (Q7.1 0).trans (by simp [go_sem]); have a1 : w7.cell? ⟨w2.heap.size + 1, 1, none⟩ = some (.slice none 0 0) := (Q7.1 1).trans (by simp [go_sem]); have af : ∀ i, w7.frozen? ⟨w2.heap.size + 1, i, none⟩ = false := fun i => (Q7.2 i).trans (by simp [go_sem]); clear Q7; clear hA gr gr' hg zW)
      | (refine step_cloneA (by rfl) (.tmp 35) (.tmp 37) (by rfl) _ s nt c V (by rfl) (by rfl) (litB w2) (HR.out.below (B0.trans (Below.mono (by repeat (first | with_reducible exact Below.refl _ _ | with_reducible refine Below.setCell ?_ (by first | omega | (simp; done) | (simp; omega)) _ | with_reducible refine bDrewN ?_ _ | with_reducible refine Below.drew ?_ | with_reducible refine Below.alloc ?_ (by first | omega | (simp; done) | (simp; omega)) _)) l2))) n60 ?_; intro g cap w7 hg hA gr; have gr' : ((w2.alloc (.cells #[.int .i64 0, .slice none 0 0] 26)).alloc (.cells #[] 43)).grownBy w7 (some (w2.heap.size + 1)) := ⟨gr.os, gr.tape, gr.output, gr.size, gr.block⟩; have zW : ((w2.alloc (.cells #[.int .i64 0, .slice none 0 0] 26)).alloc (.cells #[] 43)).heap.size = w2.heap.size + 2 := (by simp); have hg' : g = (w2.heap.size + 1) ∨ w2.heap.size + 2 ≤ g := (hg.elim (fun h => Or.inl h) (fun h => Or.inr (by rw [← zW]; exact h))); have s7 : w2.heap.size + 2 ≤ w7.heap.size := (by have := gr'.size; omega); have B7 : Below w2.heap.size w2 w7 := Below.trans (Below.mono (B := w2.heap.size) (by repeat (first | with_reducible exact Below.refl _ _ | with_reducible refine Below.setCell ?_ (by first | omega | (simp; done) | (simp; omega)) _ | with_reducible refine bDrewN ?_ _ | with_reducible refine Below.drew ?_ | with_reducible refine Below.alloc ?_ (by first | omega | (simp; done) | (simp; omega)) _)) (Nat.le_refl _)) (grown_below gr' (by omega) (fun r e => by cases e; omega)); have HA7 : Hid (AlM g w7 nt V) := hA; have Q7 := grown_cells (P := w2.heap.size) gr' (by omega) (by omega); have a0 : w7.cell? ⟨w2.heap.size, 0, none⟩ = some (.int .i64 0) := (Q7.1 0).trans (by simp [go_sem]); have a1 : w7.cell? ⟨w2.heap.size, 1, none⟩ = some (.slice none 0 0) := (Q7.1 1).trans (by simp [go_sem]); have af : ∀ i, w7.frozen? ⟨w2.heap.size, i, none⟩ = false := fun i => (Q7.2 i).trans (by simp [go_sem]); clear Q7; clear hA gr gr' hg zW)
      | (refine step_cloneA (by rfl) (.tmp 35) (.tmp 37) (by rfl) _ s nt c V (by rfl) (by rfl) (litC w2) (HR.out.below (B0.trans (Below.mono (by repeat (first | with_reducible exact Below.refl _ _ | with_reducible refine Below.setCell ?_ (by first | omega | (simp; done) | (simp; omega)) _ | with_reducible refine bDrewN ?_ _ | with_reducible refine Below.drew ?_ | with_reducible refine Below.alloc ?_ (by first | omega | (simp; done) | (simp; omega)) _)) l2))) n60 ?_; intro g cap w7 hg hA gr; have gr' : (w2.alloc (.cells #[] 43)).grownBy w7 (some w2.heap.size) := ⟨gr.os, gr.tape, gr.output, gr.size, gr.block⟩; have zW : (w2.alloc (.cells #[] 43)).heap.size = w2.heap.size + 1 := (by simp); have hg' : g = w2.heap.size ∨ w2.heap.size + 1 ≤ g := (hg.elim (fun h => Or.inl h) (fun h => Or.inr (by rw [← zW]; exact h))); have s7 : w2.heap.size + 1 ≤ w7.heap.size := (by have := gr'.size; omega); have B7 : Below w2.heap.size w2 w7 := Below.trans (Below.mono (B := w2.heap.size) (by repeat (first | with_reducible exact Below.refl _ _ | with_reducible refine Below.setCell ?_ (by first | omega | (simp; done) | (simp; omega)) _ | with_reducible refine bDrewN ?_ _ | with_reducible refine Below.drew ?_ | with_reducible refine Below.alloc ?_ (by first | omega | (simp; done) | (simp; omega)) _)) (Nat.le_refl _)) (grown_below gr' (by omega) (fun r e => by cases e; omega)); have HA7 : Hid (AlM g w7 nt V) := hA; clear hA gr gr' hg zW))
    all_goals
      go_wp2_with fail
      go_meet
    all_goals
      have zg := HA7.out.1
      refine ⟨_, g, cap, rfl, ?_, ?_, ?_, ?_, ?_, ?_, ?_, ?_⟩
      · first | (simp [go_sem, a0, a1]; done) | (simp [go_sem]; done)
      · first | (simp [go_sem, a0, a1]; done) | (simp [go_sem]; done)
      · omega
      · omega
      · omega
      · first | (simp; done) | (simp; omega) | omega
      · first | exact (HA7.out.beside (Beside.setCell _ _ _ _) (by omega)).beside (Beside.setCell _ _ _ _) (by omega) | exact HA7.out.below (below0 _ _)
      · exact (by repeat (first | with_reducible exact Below.refl _ _ | with_reducible exact B7 | with_reducible refine Below.setCell ?_ (by first | omega | (simp; done) | (simp; omega)) _ | with_reducible refine bDrewN ?_ _ | with_reducible refine Below.drew ?_ | with_reducible refine Below.alloc ?_ (by first | omega | (simp; done) | (simp; omega)) _))
  obtain ⟨P, b, cap, rfl, n0, n1, Pb, lP, lb, zP, hA, hC⟩ := hcut
  rename World => w3
  replace p0 := (hC.cell (p := ⟨w.heap.size, 0, none⟩) z0).trans p0
  replace p1 := (hC.cell (p := ⟨w.heap.size, 1, none⟩) z0).trans p1
  replace k0 := (hC.cell (p := ⟨w.heap.size + 1, 0, none⟩) z1).trans k0
  replace k1 := (hC.cell (p := ⟨w.heap.size + 1, 1, none⟩) z1).trans k1
  replace k2 := (hC.cell (p := ⟨w.heap.size + 1, 2, none⟩) z1).trans k2
  replace k3 := (hC.cell (p := ⟨w.heap.size + 1, 3, none⟩) z1).trans k3
  replace r0 := (hC.cell (p := ⟨w.heap.size + 1 + 1, 0, none⟩) z2).trans r0
  replace r1 := (hC.cell (p := ⟨w.heap.size + 1 + 1, 1, none⟩) z2).trans r1
  replace fr : ∀ o, w3.frozen? ⟨w.heap.size + 1 + 1, o, none⟩ = false := fun o => (hC.frozen (p := ⟨w.heap.size + 1 + 1, o, none⟩) z2).trans (fr o)
  replace z2 := Nat.lt_of_lt_of_le z2 hC.size
  replace z1 := Nat.lt_of_lt_of_le z1 hC.size
  replace z0 := Nat.lt_of_lt_of_le z0 hC.size
  replace B0 : Below w.heap.size w w3 := B0.trans (hC.mono B0.size)
  have HA : Hid (AlM b w3 nt V) := hA
  have zb := hA.1
  have lS := hC.size
  clear hC hA p0 p1 b2'
  have HWb : Hid (Below w.heap.size w w3) := B0
  go_wp2_with fail
  go_loopw [9] (fun i wr => ∃ k : Nat, k ≤ nh ∧ i = .int .i64 k ∧ AlM b wr nt (shV (x + 1) V Sh k) ∧ Beside b w3 wr) (fun i _ => nh - (intOf i).toNat)
  case atStart => exact ⟨0, Nat.zero_le _, rfl, HA.out, Beside.of (Below.refl _ _)⟩
  case round =>
    clear HA
    obtain ⟨k, hk, rfl, hA, hB⟩ := hrel
    have HA : Hid (AlM b wr nt (shV (x + 1) V Sh k)) := hA
    have zs := hB.2.2.2.1
    have u3 := (hB.cell (p := ⟨w.heap.size + 1, 3, none⟩) z1 (by show w.heap.size + 1 ≠ b; omega)).trans k3
    by_cases h1 : k < nh
    · obtain ⟨g, o, rfl, hg, c0, c1⟩ := HSh.out k h1
      have gb : g ≠ b := by omega
      have zg3 : g < w3.heap.size := by omega
      replace c0 := (hB.cell (p := ⟨g, o + k * 2, none⟩) zg3 gb).trans ((HWb.out.cell (p := ⟨g, o + k * 2, none⟩) hg).trans c0)
      replace c1 := (hB.cell (p := ⟨g, o + k * 2 + 1, none⟩) zg3 gb).trans ((HWb.out.cell (p := ⟨g, o + k * 2 + 1, none⟩) hg).trans c1)
      obtain ⟨⟨a, t⟩, hV⟩ : ∃ z, Sh k = z := ⟨_, rfl⟩
      rw [hV] at c0 c1
      simp only at c0 c1
      obtain ⟨⟨a0, a1⟩, t0, t1⟩ := shf_yes (HShs.out k h1)
      rw [hV] at a0 a1 t0 t1
      simp only at a0 a1 t0 t1
      obtain ⟨j, rfl⟩ : ∃ j : Nat, a = (j : Int) := ⟨a.toNat, by omega⟩
      have HV : Hid (Sh k = ((j : Int), t)) := hV
      have hj : j < nt := by omega
      have jn : (j : Int) < (nt : Int) := by omega
      have r0' := (hB.cell (p := ⟨P, 0, none⟩) zP Pb).trans n0
      obtain ⟨-, hf, hc⟩ := hA
      obtain ⟨-, -, -, -, e4⟩ := hc j hj
      have f4 := hf (j * 5 + 4)
      have k1' : (k : Int) < (nh : Int) := by omega
      have zPr : P < wr.heap.size := by omega
      have z1r : w.heap.size + 1 < wr.heap.size := by omega
      have zgr : g < wr.heap.size := by omega
      have nq : w.heap.size + 1 ≠ b := by omega
      have wk : IntKind.i64.wrap (x + 1 + t) = x + 1 + t := by rw [IntKind.wrap_i64]; omega
      have HX : Hid (AlM b (wr.setCell ⟨b, j * 5 + 4, none⟩ (.int .i64 (x + 1 + t))) nt (shV (x + 1) V Sh (k + 1))) := by
        have := HA.out.f4 hj (x + 1 + t)
        show AlM b _ nt (upd (shV (x + 1) V Sh k) (Sh k).1.toNat (toF (shV (x + 1) V Sh k (Sh k).1.toNat) (x + 1 + (Sh k).2)))
        rw [HV.out]
        exact this
      have HY : Hid (Beside b w3 (wr.setCell ⟨b, j * 5 + 4, none⟩ (.int .i64 (x + 1 + t)))) := hB.trans (Beside.setCell b wr _ _)
      have BS := Beside.setCell b wr (j * 5 + 4) (.int .i64 (x + 1 + t))
      clear hB hc hf hV hg
      go_wp2_with fail
      go_region_held3 (fun w' => w'.cell? ⟨P, 0, none⟩ = some (.int .i64 (x + 1)) ∧ w'.cell? ⟨w.heap.size + 1, 3, none⟩ = some (.slice (some ⟨g, o, none⟩) nh ch) ∧ w'.cell? ⟨g, o + k * 2, none⟩ = some (.int .i64 (j : Int)) ∧ w'.cell? ⟨g, o + k * 2 + 1, none⟩ = some (.int .i64 t)) (first | with_reducible exact ⟨r0', u3, c0, c1⟩ | (refine keepS4 r0' u3 c0 c1 zPr z1r zgr Pb nq gb ?_; exact BS) | exact ⟨r0', u3, c0, c1⟩) (fail)
      all_goals
        go_wp2
        go_roundw
        case rel => exact ⟨k + 1, by omega, by go_num, HX.out, HY.out⟩
        case measure => first | (simp [intOf]; done) | (simp [intOf]; omega)
    · obtain rfl : k = nh := by omega
      obtain ⟨W0, hW0⟩ : ∃ W0, shV (x + 1) V Sh k = W0 := ⟨_, rfl⟩
      rw [hW0] at HA
      have HW0 : Hid (shV (x + 1) V Sh k = W0) := hW0
      have HT0 : Hid (tidy nt W0) := by rw [← HW0.out]; exact tidy_sh HTy.out k (fun j hj => by have := (shf_yes (HShs.out j hj)).1; omega)
      clear hA hW0
      rename World => wc
      have HBc : Hid (Beside b w3 wc) := hB
      clear hB
      go_wp2_with fail
      go_loopw [10] (fun i wr => ∃ q : Nat, q ≤ ns ∧ i = .int .i64 q ∧ AlM b wr nt (seV W0 Se q) ∧ Beside b w3 wr) (fun i _ => ns - (intOf i).toNat)
      case atStart => exact ⟨0, Nat.zero_le _, rfl, HA.out, HBc.out⟩
      case round =>
        clear HA HBc
        obtain ⟨q, hq, rfl, hA, hB⟩ := hrel
        have HA : Hid (AlM b wr nt (seV W0 Se q)) := hA
        have zs := hB.2.2.2.1
        have u2 := (hB.cell (p := ⟨w.heap.size + 1, 2, none⟩) z1 (by show w.heap.size + 1 ≠ b; omega)).trans k2
        by_cases h1 : q < ns
        · obtain ⟨g, o, rfl, hg, c0⟩ := HSe.out q h1
          have gb : g ≠ b := by omega
          have zg3 : g < w3.heap.size := by omega
          replace c0 := (hB.cell (p := ⟨g, o + q, none⟩) zg3 gb).trans ((HWb.out.cell (p := ⟨g, o + q, none⟩) hg).trans c0)
          obtain ⟨a0, a1⟩ := HAll.out q h1
          obtain ⟨j, hV⟩ : ∃ j : Nat, Se q = (j : Int) := ⟨(Se q).toNat, by omega⟩
          rw [hV] at c0 a0 a1
          have hj : j < nt := by omega
          have jn : (j : Int) < (nt : Int) := by omega
          obtain ⟨-, hf, hc⟩ := hA
          obtain ⟨e0, e1, e2, e3, e4⟩ := hc j hj
          obtain ⟨⟨G, O, T, F, U⟩, hW⟩ : ∃ z, seV W0 Se q j = z := ⟨_, rfl⟩
          rw [hW] at e0 e1 e2 e3 e4
          simp only at e0 e1 e2 e3 e4
          have f2 := hf (j * 5 + 2)
          have f3 := hf (j * 5 + 3)
          have HE2 : Hid (∀ z, seenF (G, O, T, F, U) = z → seV W0 Se (q + 1) = upd (seV W0 Se q) j z) := fun z hz => by
            show upd (seV W0 Se q) (Se q).toNat (seenF (seV W0 Se q (Se q).toNat)) = _
            rw [hV, Int.toNat_natCast, hW, hz]
          have HWj : Hid (seV W0 Se q j = (G, O, T, F, U)) := hW
          have k1' : (q : Int) < (ns : Int) := by omega
          have HBq : Hid (Beside b w3 wr) := hB
          clear hc hf hV hg hW hB
          by_cases t1 : T = 1
          · subst t1
            have HX : Hid (AlM b (wr.setCell ⟨b, j * 5 + 2, none⟩ (.int .i64 2)) nt (seV W0 Se (q + 1))) := by
              rw [HE2.out (G, O, 2, F, U) (by simp [seenF])]
              have := HA.out.f2 hj 2
              rw [HWj.out] at this
              exact this
            have HY : Hid (Beside b w3 (wr.setCell ⟨b, j * 5 + 2, none⟩ (.int .i64 2))) := HBq.out.trans (Beside.setCell b wr _ _)
            go_wp2
            go_roundw
            case rel => exact ⟨q + 1, by omega, by go_num, HX.out, HY.out⟩
            case measure => first | (simp [intOf]; done) | (simp [intOf]; omega)
          have t1' : (T == 1) = false := by simpa using t1
          by_cases t3 : T = 3
          · subst t3
            have HX : Hid (AlM b ((wr.setCell ⟨b, j * 5 + 2, none⟩ (.int .i64 0)).setCell ⟨b, j * 5 + 3, none⟩ (.bool false)) nt (seV W0 Se (q + 1))) := by
              rw [HE2.out (G, O, 0, false, U) (by simp [seenF])]
              have := (HA.out.f2 hj 0).f3 hj false
              rw [upd_at, upd_upd, HWj.out] at this
              exact this
            have HY : Hid (Beside b w3 ((wr.setCell ⟨b, j * 5 + 2, none⟩ (.int .i64 0)).setCell ⟨b, j * 5 + 3, none⟩ (.bool false))) := (HBq.out.trans (Beside.setCell b wr _ _)).trans (Beside.setCell b _ _ _)
            clear t1 t1'
            go_wp2
            go_roundw
            case rel => exact ⟨q + 1, by omega, by go_num, HX.out, HY.out⟩
            case measure => first | (simp [intOf]; done) | (simp [intOf]; omega)
          have t3' : (T == 3) = false := by simpa using t3
          have HX : Hid (AlM b wr nt (seV W0 Se (q + 1))) := by
            rw [HE2.out (G, O, T, F, U) (by simp [seenF, t1, t3]), upd_same HWj.out]
            exact HA.out
          clear t1 t3
          go_wp2
          go_roundw
          case rel => exact ⟨q + 1, by omega, by go_num, HX.out, HBq.out⟩
          case measure => first | (simp [intOf]; done) | (simp [intOf]; omega)
        · obtain rfl : q = ns := by omega
          obtain ⟨W1, hW1⟩ : ∃ W1, seV W0 Se q = W1 := ⟨_, rfl⟩
          rw [hW1] at HA
          have HW1 : Hid (seV (shV (x + 1) V Sh k) Se q = W1) := by show _ = _; rw [HW0.out, hW1]
          have HT1 : Hid (tidy nt W1) := by rw [← hW1]; exact tidy_se HT0.out q (fun j hj => by have := HAll.out j hj; omega)
          clear hA hW1
          rename World => wB
          have HBB : Hid (Beside b w3 wB) := hB
          have k0B := (hB.cell (p := ⟨w.heap.size + 1, 0, none⟩) z1 (by show w.heap.size + 1 ≠ b; omega)).trans k0
          have k1B := (hB.cell (p := ⟨w.heap.size + 1, 1, none⟩) z1 (by show w.heap.size + 1 ≠ b; omega)).trans k1
          have r0B := (hB.cell (p := ⟨w.heap.size + 1 + 1, 0, none⟩) z2 (by show w.heap.size + 1 + 1 ≠ b; omega)).trans r0
          have r1B := (hB.cell (p := ⟨w.heap.size + 1 + 1, 1, none⟩) z2 (by show w.heap.size + 1 + 1 ≠ b; omega)).trans r1
          have frB : ∀ o, wB.frozen? ⟨w.heap.size + 1 + 1, o, none⟩ = false := fun o => (hB.frozen (p := ⟨w.heap.size + 1 + 1, o, none⟩) z2 (by show w.heap.size + 1 + 1 ≠ b; omega)).trans (fr o)
          have n0B := (hB.cell (p := ⟨P, 0, none⟩) zP Pb).trans n0
          have n1B := (hB.cell (p := ⟨P, 1, none⟩) zP Pb).trans n1
          have HThB : Hid (∀ j, j < nt → ∃ g o, st = some ⟨g, o, none⟩ ∧ g < w.heap.size ∧ wB.cell? ⟨g, o + j, none⟩ = some (.bool (Th j))) := fun j hj => by
            obtain ⟨g, o, e, hl, hc⟩ := HTh.out j hj
            exact ⟨g, o, e, hl, (HBB.out.cell (p := ⟨g, o + j, none⟩) (by show g < w3.heap.size; omega) (by show g ≠ b; omega)).trans ((HWb.out.cell (p := ⟨g, o + j, none⟩) hl).trans hc)⟩
          have HBW : Hid (Below w.heap.size w wB) := HWb.out.trans (hB.below (by omega) (by omega))
          have zPB : P < wB.heap.size := by omega
          have zbB : b < wB.heap.size := by omega
          have z2B : w.heap.size + 1 + 1 < wB.heap.size := by omega
          clear k0 k1 k2 k3 r0 r1 fr n0 n1 hB
          go_wp2_with fail
          go_loopw [12, 13] (fun v i wr => ∃ m : Nat, m ≤ nt ∧ i = .int .i64 m ∧ AlM b wr nt (liV W1 nt Th mo (x + 1) m) ∧ wr.ownsRow wB.heap.size 2 1 v (liL W1 nt Th mo (x + 1) m).length (cellsOf (liL W1 nt Th mo (x + 1) m)) ∧ Turn (fun y => y = b ∨ wB.heap.size ≤ y) wB wr) (fun _ i _ => nt - (intOf i).toNat)
          case atStart => exact ⟨0, Nat.zero_le _, rfl, HA.out.below (below0 _ _), by simpa [cellsOf, liL] using World.ownsRow_lit (base := wB.heap.size) (size := 1) (e := 2) wB #[] 0 (Nat.le_refl _) (by simp [maxLen]) (by simp), Turn.grown (below0 _ _)⟩
          case round =>
            clear HA
            obtain ⟨m, hm, rfl, hA, hown, hTu⟩ := hrel
            have HA : Hid (AlM b wr nt (liV W1 nt Th mo (x + 1) m)) := hA
            have HO2 : Hid (wr.ownsRow wB.heap.size 2 1 u12 (liL W1 nt Th mo (x + 1) m).length (cellsOf (liL W1 nt Th mo (x + 1) m))) := hown
            have HTu : Hid (Turn (fun y => y = b ∨ wB.heap.size ≤ y) wB wr) := hTu
            have hl := liL_le W1 nt Th mo (x + 1) m
            have zs := hTu.size
            have TC : ∀ y, y < wB.heap.size → y ≠ b → ∀ i, wr.cell? ⟨y, i, none⟩ = wB.cell? ⟨y, i, none⟩ := fun y h1 h2 i => hTu.cell (p := ⟨y, i, none⟩) h1 (show ¬ (y = b ∨ wB.heap.size ≤ y) by omega)
            have TF : ∀ y, y < wB.heap.size → y ≠ b → ∀ i, wr.frozen? ⟨y, i, none⟩ = wB.frozen? ⟨y, i, none⟩ := fun y h1 h2 i => hTu.frozen (p := ⟨y, i, none⟩) h1 (show ¬ (y = b ∨ wB.heap.size ≤ y) by omega)
            have y0 := (TC (w.heap.size + 1) (by omega) (by omega) 0).trans k0B
            have y1 := (TC (w.heap.size + 1) (by omega) (by omega) 1).trans k1B
            have v0 := (TC P zPB Pb 0).trans n0B
            have v1 := (TC P zPB Pb 1).trans n1B
            by_cases h1 : m < nt
            · obtain ⟨zbr, hf, hc⟩ := hA
              obtain ⟨e0, e1, e2, e3, e4⟩ := hc m h1
              obtain ⟨⟨G, O, T, F, U⟩, hW⟩ : ∃ z, liV W1 nt Th mo (x + 1) m m = z := ⟨_, rfl⟩
              rw [hW] at e0 e1 e2 e3 e4
              simp only at e0 e1 e2 e3 e4
              have HW : Hid (liV W1 nt Th mo (x + 1) m m = (G, O, T, F, U)) := hW
              have htk := tidy_li (Th := Th) (mo := mo) (x := x + 1) HT1.out m (by omega)
              obtain ⟨⟨o0, o1⟩, -, T0, T3⟩ := htk m h1
              rw [hW] at o0 o1 T0 T3
              simp only at o0 o1 T0 T3
              obtain ⟨g, o, rfl, hgw, tc⟩ := HThB.out m h1
              replace tc := (TC g (by omega) (by omega) (o + m)).trans tc
              have f2 := hf (m * 5 + 2)
              have f3 := hf (m * 5 + 3)
              have mn : (m : Int) < (nt : Int) := by omega
              have HE3 : Hid (∀ hea, heaB (G, O, T, F, U) (Th m) mo (x + 1) = hea → ∀ z, lisF (G, O, T, F, U) hea (aloB (liV W1 nt Th mo (x + 1) m) nt G) = z → liV W1 nt Th mo (x + 1) (m + 1) = upd (liV W1 nt Th mo (x + 1) m) m z) := fun hea hh z hz => by
                show upd (liV W1 nt Th mo (x + 1) m) m (lisF (liV W1 nt Th mo (x + 1) m m) (heaB (liV W1 nt Th mo (x + 1) m m) (Th m) mo (x + 1)) (aloB (liV W1 nt Th mo (x + 1) m) nt (liV W1 nt Th mo (x + 1) m m).1)) = _
                rw [HW.out]
                show upd (liV W1 nt Th mo (x + 1) m) m (lisF (G, O, T, F, U) (heaB (G, O, T, F, U) (Th m) mo (x + 1)) (aloB (liV W1 nt Th mo (x + 1) m) nt G)) = _
                rw [hh, hz]
              have HEL : Hid (∀ hea, heaB (G, O, T, F, U) (Th m) mo (x + 1) = hea → ∀ y : Bool, telB (G, O, T, F, U) hea = y → liL W1 nt Th mo (x + 1) (m + 1) = if y = true then liL W1 nt Th mo (x + 1) m ++ [(m : Int)] else liL W1 nt Th mo (x + 1) m) := fun hea hh y hy => by
                show (if telB (liV W1 nt Th mo (x + 1) m m) (heaB (liV W1 nt Th mo (x + 1) m m) (Th m) mo (x + 1)) = true then liL W1 nt Th mo (x + 1) m ++ [(m : Int)] else liL W1 nt Th mo (x + 1) m) = _
                rw [HW.out, hh, hy]
              have HH : Hid (heaB (G, O, T, F, U) (Th m) mo (x + 1) = (Th m && ((bits BinOp.and IntKind.i64 (O / 2 ^ mo.toNat) 1 == 0) && decide (U < x + 1)))) := rfl
              obtain ⟨thk, hthk⟩ : ∃ thk, Th m = thk := ⟨_, rfl⟩
              rw [hthk] at tc
              have HTK : Hid (Th m = thk) := hthk
              clear hown hTu hc hf hW htk TC TF hthk
              obtain ⟨hea, hh⟩ : ∃ hea, heaB (G, O, T, F, U) (Th m) mo (x + 1) = hea := ⟨_, rfl⟩
              have HE4 := HE3.out hea hh
              have HE5 := HEL.out hea hh
              have HHe : Hid (hea = (thk && ((bits BinOp.and IntKind.i64 (O / 2 ^ mo.toNat) 1 == 0) && decide (U < x + 1)))) := by show hea = _; rw [← hh, HH.out, HTK.out]
              have HE6 : Hid (∀ z, lisF (G, O, T, F, U) hea (aloB (liV W1 nt Th mo (x + 1) m) nt G) = z → liV W1 nt Th mo (x + 1) (m + 1) = upd (liV W1 nt Th mo (x + 1) m) m z) := HE4
              have HE7 : Hid (∀ y : Bool, telB (G, O, T, F, U) hea = y → liL W1 nt Th mo (x + 1) (m + 1) = if y = true then liL W1 nt Th mo (x + 1) m ++ [(m : Int)] else liL W1 nt Th mo (x + 1) m) := HE5
              clear HE3 HEL HE4 HE5 hh HH
              go_upto_region 22 with fail
              go_cut [14] (fun v wx => v = .bool hea ∧ ∃ y, wx = wr.drewN y)
              case first =>
                cases thk
                · have hx : hea = false := HHe.out
                  subst hx
                  go_quiet (fail)
                  go_wp2_with fail
                  go_meet
                  exact ⟨rfl, _, rfl⟩
                cases hbt : (bits BinOp.and IntKind.i64 (O / 2 ^ mo.toNat) 1 == 0)
                · have hx : hea = false := by have := HHe.out; rw [hbt] at this; exact this
                  subst hx
                  go_quiet (fail)
                  go_wp2_with fail
                  go_meet
                  exact ⟨rfl, _, rfl⟩
                · obtain ⟨lt, hlt⟩ : ∃ lt, decide (U < x + 1) = lt := ⟨_, rfl⟩
                  have hx : hea = lt := by have := HHe.out; rw [hbt, hlt] at this; exact this
                  subst hx
                  go_quiet (fail)
                  go_wp2_with fail
                  go_meet
                  exact ⟨rfl, _, rfl⟩
              obtain ⟨rfl, dq, hw8⟩ := hcut
              rename World => w8
              have BX : Below wr.heap.size wr w8 := by rw [hw8]; exact below_drewN _ _
              replace e0 := (BX.cell (p := ⟨b, m * 5, none⟩) zbr).trans e0
              replace e1 := (BX.cell (p := ⟨b, m * 5 + 1, none⟩) zbr).trans e1
              replace e2 := (BX.cell (p := ⟨b, m * 5 + 2, none⟩) zbr).trans e2
              replace e3 := (BX.cell (p := ⟨b, m * 5 + 3, none⟩) zbr).trans e3
              replace e4 := (BX.cell (p := ⟨b, m * 5 + 4, none⟩) zbr).trans e4
              replace f2 := (BX.frozen (p := ⟨b, m * 5 + 2, none⟩) zbr).trans f2
              replace f3 := (BX.frozen (p := ⟨b, m * 5 + 3, none⟩) zbr).trans f3
              have HA8 : Hid (AlM b w8 nt (liV W1 nt Th mo (x + 1) m)) := HA.out.below BX
              have HO8 : Hid (w8.ownsRow wB.heap.size 2 1 u12 (liL W1 nt Th mo (x + 1) m).length (cellsOf (liL W1 nt Th mo (x + 1) m))) := own_below HO2.out BX
              have HT8 : Hid (Turn (fun y => y = b ∨ wB.heap.size ≤ y) wB w8) := HTu.out.trans (Turn.grown BX)
              have z8 := BX.size
              have zb8 : b < w8.heap.size := by omega
              clear hw8 BX HA HO2 HTu tc y0 y1 v0 v1 HHe
              have T4 : T = 0 ∨ T = 1 ∨ T = 2 ∨ T = 3 := by omega
              cases hea
              case false =>
                rcases T4 with rfl | rfl | rfl | rfl
                · skip
                  have E1 : Hid (liV W1 nt Th mo (x + 1) (m + 1) = liV W1 nt Th mo (x + 1) m) := (HE6.out (G, O, 0, F, U) (by simp [lisF])).trans (upd_same HW.out)
                  have E2 : Hid (liL W1 nt Th mo (x + 1) (m + 1) = liL W1 nt Th mo (x + 1) m) := (show liL W1 nt Th mo (x + 1) (m + 1) = liL W1 nt Th mo (x + 1) m from by have := HE7.out false (by simp [telB]); simpa using this)
                  go_wp2
                  go_roundw
                  case rel => exact ⟨m + 1, by omega, by go_num, by rw [E1.out]; exact HA8.out, by rw [E2.out]; exact HO8.out, HT8.out⟩
                  case measure => first | (simp [intOf]; done) | (simp [intOf]; omega)
                · have E1 : Hid (liV W1 nt Th mo (x + 1) (m + 1) = upd (liV W1 nt Th mo (x + 1) m) m (G, O, 3, F, U)) := HE6.out _ (by simp [lisF])
                  have E2 : Hid (liL W1 nt Th mo (x + 1) (m + 1) = liL W1 nt Th mo (x + 1) m) := (show liL W1 nt Th mo (x + 1) (m + 1) = liL W1 nt Th mo (x + 1) m from by have := HE7.out false (by simp [telB]); simpa using this)
                  have HX : Hid (AlM b (w8.setCell ⟨b, m * 5 + 2, none⟩ (.int .i64 3)) nt (liV W1 nt Th mo (x + 1) (m + 1))) := by
                    rw [E1.out]
                    have := HA8.out.f2 h1 3
                    rw [HW.out] at this
                    exact this
                  have bes := Beside.setCell b w8 (m * 5 + 2) (.int .i64 3)
                  have HX2 : Hid ((w8.setCell ⟨b, m * 5 + 2, none⟩ (.int .i64 3)).ownsRow wB.heap.size 2 1 u12 (liL W1 nt Th mo (x + 1) (m + 1)).length (cellsOf (liL W1 nt Th mo (x + 1) (m + 1)))) := by rw [E2.out]; exact own_beside HO8.out bes zbB
                  have HX3 : Hid (Turn (fun y => y = b ∨ wB.heap.size ≤ y) wB (w8.setCell ⟨b, m * 5 + 2, none⟩ (.int .i64 3))) := HT8.out.trans (Turn.of bes (.inl rfl))
                  go_wp2
                  go_roundw
                  case rel => exact ⟨m + 1, by omega, by go_num, HX.out, HX2.out, HX3.out⟩
                  case measure => first | (simp [intOf]; done) | (simp [intOf]; omega)
                · have E1 : Hid (liV W1 nt Th mo (x + 1) (m + 1) = upd (liV W1 nt Th mo (x + 1) m) m (G, O, 0, false, U)) := HE6.out _ (by simp [lisF])
                  have E2 : Hid (liL W1 nt Th mo (x + 1) (m + 1) = liL W1 nt Th mo (x + 1) m) := (show liL W1 nt Th mo (x + 1) (m + 1) = liL W1 nt Th mo (x + 1) m from by have := HE7.out false (by simp [telB]); simpa using this)
                  have HX : Hid (AlM b ((w8.setCell ⟨b, m * 5 + 2, none⟩ (.int .i64 0)).setCell ⟨b, m * 5 + 3, none⟩ (.bool false)) nt (liV W1 nt Th mo (x + 1) (m + 1))) := by
                    rw [E1.out]
                    have := (HA8.out.f2 h1 0).f3 h1 false
                    rw [upd_at, upd_upd, HW.out] at this
                    exact this
                  have bes := (Beside.setCell b w8 (m * 5 + 2) (.int .i64 0)).trans (Beside.setCell b _ (m * 5 + 3) (.bool false))
                  have HX2 : Hid (((w8.setCell ⟨b, m * 5 + 2, none⟩ (.int .i64 0)).setCell ⟨b, m * 5 + 3, none⟩ (.bool false)).ownsRow wB.heap.size 2 1 u12 (liL W1 nt Th mo (x + 1) (m + 1)).length (cellsOf (liL W1 nt Th mo (x + 1) (m + 1)))) := by rw [E2.out]; exact own_beside HO8.out bes zbB
                  have HX3 : Hid (Turn (fun y => y = b ∨ wB.heap.size ≤ y) wB ((w8.setCell ⟨b, m * 5 + 2, none⟩ (.int .i64 0)).setCell ⟨b, m * 5 + 3, none⟩ (.bool false))) := HT8.out.trans (Turn.of bes (.inl rfl))
                  go_wp2
                  go_roundw
                  case rel => exact ⟨m + 1, by omega, by go_num, HX.out, HX2.out, HX3.out⟩
                  case measure => first | (simp [intOf]; done) | (simp [intOf]; omega)
                · skip
                  have E1 : Hid (liV W1 nt Th mo (x + 1) (m + 1) = liV W1 nt Th mo (x + 1) m) := (HE6.out (G, O, 3, F, U) (by simp [lisF])).trans (upd_same HW.out)
                  have E2 : Hid (liL W1 nt Th mo (x + 1) (m + 1) = liL W1 nt Th mo (x + 1) m) := (show liL W1 nt Th mo (x + 1) (m + 1) = liL W1 nt Th mo (x + 1) m from by have := HE7.out false (by simp [telB]); simpa using this)
                  go_wp2
                  go_roundw
                  case rel => exact ⟨m + 1, by omega, by go_num, by rw [E1.out]; exact HA8.out, by rw [E2.out]; exact HO8.out, HT8.out⟩
                  case measure => first | (simp [intOf]; done) | (simp [intOf]; omega)
              case true =>
                rcases T4 with rfl | rfl | rfl | rfl
                · obtain ⟨al, hal⟩ : ∃ al, aloB (liV W1 nt Th mo (x + 1) m) nt G = al := ⟨_, rfl⟩
                  have E1 : Hid (liV W1 nt Th mo (x + 1) (m + 1) = upd (liV W1 nt Th mo (x + 1) m) m (G, O, 1, al, U)) := HE6.out _ (by rw [hal]; simp [lisF])
                  have E2 : Hid (liL W1 nt Th mo (x + 1) (m + 1) = liL W1 nt Th mo (x + 1) m ++ [(m : Int)]) := (show liL W1 nt Th mo (x + 1) (m + 1) = liL W1 nt Th mo (x + 1) m ++ [(m : Int)] from by have := HE7.out true (by simp [telB]); simpa using this)
                  have HAl : Hid (∀ W, Below w8.heap.size w8 W → Calls Try.prog 65 #[.slice (some ⟨b, 0, none⟩) nt cap, .int .i64 (m : Int)] W fun e w' => e = .returned (.bool al) ∧ Below W.heap.size W w') := fun W hWW => by
                    have := l21Alone_any (some ⟨b, 0, none⟩) nt cap m (liV W1 nt Th mo (x + 1) m) W hn2 h1 (by rw [HW.out]) (HA8.out.below hWW).row
                    rw [HW.out] at this
                    show Calls _ _ _ _ _
                    rw [← hal]
                    exact this
                  clear hal
                  go_wp2_with fail
                  refine (HAl.out _ (Below.refl _ _)).mono ?_
                  rintro e w8b ⟨rfl, hb8⟩
                  replace e2 := (hb8.cell (p := ⟨b, m * 5 + 2, none⟩) zb8).trans e2
                  replace e3 := (hb8.cell (p := ⟨b, m * 5 + 3, none⟩) zb8).trans e3
                  replace f2 := (hb8.frozen (p := ⟨b, m * 5 + 2, none⟩) zb8).trans f2
                  replace f3 := (hb8.frozen (p := ⟨b, m * 5 + 3, none⟩) zb8).trans f3
                  have bes := (Beside.setCell b w8b (m * 5 + 3) (.bool al)).trans (Beside.setCell b _ (m * 5 + 2) (.int .i64 1))
                  have HA9 : Hid (AlM b ((w8b.setCell ⟨b, m * 5 + 3, none⟩ (.bool al)).setCell ⟨b, m * 5 + 2, none⟩ (.int .i64 1)) nt (liV W1 nt Th mo (x + 1) (m + 1))) := by
                    rw [E1.out]
                    have := ((HA8.out.below hb8).f3 h1 al).f2 h1 1
                    rw [upd_at, upd_upd, HW.out] at this
                    exact this
                  have HO9 : Hid (((w8b.setCell ⟨b, m * 5 + 3, none⟩ (.bool al)).setCell ⟨b, m * 5 + 2, none⟩ (.int .i64 1)).ownsRow wB.heap.size 2 1 u12 (liL W1 nt Th mo (x + 1) m).length (cellsOf (liL W1 nt Th mo (x + 1) m))) := own_beside (own_below HO8.out hb8) bes zbB
                  have HT9 : Hid (Turn (fun y => y = b ∨ wB.heap.size ≤ y) wB ((w8b.setCell ⟨b, m * 5 + 3, none⟩ (.bool al)).setCell ⟨b, m * 5 + 2, none⟩ (.int .i64 1))) := (HT8.out.trans (Turn.grown hb8)).trans (Turn.of bes (.inl rfl))
                  clear hb8 bes HAl
                  go_upto_region 28 with fail
                  obtain ⟨w9, hw9⟩ : ∃ w9, w9 = (w8b.setCell ⟨b, m * 5 + 3, none⟩ (.bool al)).setCell ⟨b, m * 5 + 2, none⟩ (.int .i64 1) := ⟨_, rfl⟩
                  rw [← hw9]
                  rw [← hw9] at HA9 HO9 HT9
                  clear hw9
                  have z9 := HT9.out.size
                  obtain ⟨l, hL⟩ : ∃ l, liL W1 nt Th mo (x + 1) m = l := ⟨_, rfl⟩
                  rw [hL] at HO9 E2 hl
                  clear hL
                  go_wp2_with (at_builtin; refine list_i64h wB.heap.size u12 l.length (cellsOf l) (.tmp 165) (.tmp 167) (by rfl) (by rfl) (by rfl) (by rfl) HO9.out (by omega) z9 ?_; intro g' cap' wz hownz hgrowz hltz hatz)
                  go_roundw
                  case rel => exact ⟨m + 1, by omega, by go_num, HA9.out.keep hgrowz.size (hgrowz.block b HA9.out.1 (fun e => by have := own_block HO9.out b e.symm; omega)), by rw [E2.out, cellsOf_snoc]; simpa using hownz, HT9.out.trans (turn_grown hgrowz (fun y hy => .inr (own_block HO9.out y hy)))⟩
                  case measure => first | (simp [intOf]; done) | (simp [intOf]; omega)
                · skip
                  have E1 : Hid (liV W1 nt Th mo (x + 1) (m + 1) = liV W1 nt Th mo (x + 1) m) := (HE6.out (G, O, 1, F, U) (by simp [lisF])).trans (upd_same HW.out)
                  have E2 : Hid (liL W1 nt Th mo (x + 1) (m + 1) = liL W1 nt Th mo (x + 1) m) := (show liL W1 nt Th mo (x + 1) (m + 1) = liL W1 nt Th mo (x + 1) m from by have := HE7.out false (by simp [telB]); simpa using this)
                  go_wp2
                  go_roundw
                  case rel => exact ⟨m + 1, by omega, by go_num, by rw [E1.out]; exact HA8.out, by rw [E2.out]; exact HO8.out, HT8.out⟩
                  case measure => first | (simp [intOf]; done) | (simp [intOf]; omega)
                · skip
                  have E1 : Hid (liV W1 nt Th mo (x + 1) (m + 1) = liV W1 nt Th mo (x + 1) m) := (HE6.out (G, O, 2, F, U) (by simp [lisF])).trans (upd_same HW.out)
                  have E2 : Hid (liL W1 nt Th mo (x + 1) (m + 1) = liL W1 nt Th mo (x + 1) m) := (show liL W1 nt Th mo (x + 1) (m + 1) = liL W1 nt Th mo (x + 1) m from by have := HE7.out false (by simp [telB]); simpa using this)
                  go_wp2
                  go_roundw
                  case rel => exact ⟨m + 1, by omega, by go_num, by rw [E1.out]; exact HA8.out, by rw [E2.out]; exact HO8.out, HT8.out⟩
                  case measure => first | (simp [intOf]; done) | (simp [intOf]; omega)
                · have E1 : Hid (liV W1 nt Th mo (x + 1) (m + 1) = upd (liV W1 nt Th mo (x + 1) m) m (G, O, 1, F, U)) := HE6.out _ (by simp [lisF])
                  have E2 : Hid (liL W1 nt Th mo (x + 1) (m + 1) = liL W1 nt Th mo (x + 1) m ++ [(m : Int)]) := (show liL W1 nt Th mo (x + 1) (m + 1) = liL W1 nt Th mo (x + 1) m ++ [(m : Int)] from by have := HE7.out true (by simp [telB]); simpa using this)
                  have bes := Beside.setCell b w8 (m * 5 + 2) (.int .i64 1)
                  have HA9 : Hid (AlM b (w8.setCell ⟨b, m * 5 + 2, none⟩ (.int .i64 1)) nt (liV W1 nt Th mo (x + 1) (m + 1))) := by
                    rw [E1.out]
                    have := HA8.out.f2 h1 1
                    rw [HW.out] at this
                    exact this
                  have HO9 : Hid ((w8.setCell ⟨b, m * 5 + 2, none⟩ (.int .i64 1)).ownsRow wB.heap.size 2 1 u12 (liL W1 nt Th mo (x + 1) m).length (cellsOf (liL W1 nt Th mo (x + 1) m))) := own_beside HO8.out bes zbB
                  have HT9 : Hid (Turn (fun y => y = b ∨ wB.heap.size ≤ y) wB (w8.setCell ⟨b, m * 5 + 2, none⟩ (.int .i64 1))) := HT8.out.trans (Turn.of bes (.inl rfl))
                  clear bes
                  go_upto_region 28 with fail
                  obtain ⟨w9, hw9⟩ : ∃ w9, w9 = w8.setCell ⟨b, m * 5 + 2, none⟩ (.int .i64 1) := ⟨_, rfl⟩
                  rw [← hw9]
                  rw [← hw9] at HA9 HO9 HT9
                  clear hw9
                  have z9 := HT9.out.size
                  obtain ⟨l, hL⟩ : ∃ l, liL W1 nt Th mo (x + 1) m = l := ⟨_, rfl⟩
                  rw [hL] at HO9 E2 hl
                  clear hL
                  go_wp2_with (at_builtin; refine list_i64h wB.heap.size u12 l.length (cellsOf l) (.tmp 165) (.tmp 167) (by rfl) (by rfl) (by rfl) (by rfl) HO9.out (by omega) z9 ?_; intro g' cap' wz hownz hgrowz hltz hatz)
                  go_roundw
                  case rel => exact ⟨m + 1, by omega, by go_num, HA9.out.keep hgrowz.size (hgrowz.block b HA9.out.1 (fun e => by have := own_block HO9.out b e.symm; omega)), by rw [E2.out, cellsOf_snoc]; simpa using hownz, HT9.out.trans (turn_grown hgrowz (fun y hy => .inr (own_block HO9.out y hy)))⟩
                  case measure => first | (simp [intOf]; done) | (simp [intOf]; omega)
            · obtain rfl : m = nt := by omega
              have HD := HTu.out
              have r0w := (TC (w.heap.size + 1 + 1) z2B (by omega) 0).trans r0B
              have r1w := (TC (w.heap.size + 1 + 1) z2B (by omega) 1).trans r1B
              have frw : ∀ o, wr.frozen? ⟨w.heap.size + 1 + 1, o, none⟩ = false := fun o => (TF (w.heap.size + 1 + 1) z2B (by omega) o).trans (frB o)
              have Bw : Below w.heap.size w wr := HBW.out.trans (HD.below (fun y hy => by rcases hy with h | h <;> omega) (by omega))
              have HAf : Hid (AlM b wr m (stV x m V mo m Th q Se k Sh)) := by
                show AlM b wr m (liV (seV (shV (x + 1) V Sh k) Se q) m Th mo (x + 1) m)
                rw [HW1.out]
                exact hA
              have HOf : Hid (wr.ownsRow wB.heap.size 2 1 u12 (liL (seV (shV (x + 1) V Sh k) Se q) m Th mo (x + 1) m).length (cellsOf (liL (seV (shV (x + 1) V Sh k) Se q) m Th mo (x + 1) m))) := by
                rw [HW1.out]
                exact hown
              have zr7 : w.heap.size + 1 + 1 < wr.heap.size := by omega
              obtain ⟨s1, c1, ev, -⟩ := bs_yes (w := w) (c := cap) HO.out HAf.out (by omega) zbB HOf.out Bw
              clear hA hown hTu TC TF HD
              subst ev
              go_wp2
              obtain ⟨wz, hwz⟩ : ∃ wz, wz = (wr.setCell ⟨w.heap.size + 1 + 1, 0, none⟩ (.int .i64 (x + 1))).setCell ⟨w.heap.size + 1 + 1, 1, none⟩ (.slice (some ⟨b, 0, none⟩) m cap) := ⟨_, rfl⟩
              have bes : Beside (w.heap.size + 1 + 1) wr wz := by rw [hwz]; exact (Beside.setCell _ _ _ _).trans (Beside.setCell _ _ _ _)
              have hfin := bs_yes (w := w) (w' := wz) (c := cap) HO.out (HAf.out.beside bes (by omega)) (by omega) zbB (own_beside HOf.out bes (by omega)) (Bw.trans (bes.below (by omega) Bw.size))
              obtain ⟨s1', c1', ev', hfin⟩ := hfin
              rw [hwz] at hfin
              exact bodyPost_ret (v := .tuple #[.agg #[.int .i64 (x + 1), .slice (some ⟨b, 0, none⟩) m cap], .slice s1 (stT x m V mo m Th q Se k Sh).length c1, .bool true]) (by simp [results, Try.results30, go_sem, r0w, r1w]) rfl hfin
end Go.Proofs.Ytlbbdifmjdpfiaa
