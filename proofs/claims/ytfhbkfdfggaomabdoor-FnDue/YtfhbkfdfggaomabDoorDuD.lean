/-
What is proved: tests and a moment that are drawn from a code: any int64s, at most 61 tests.
-/
import Derived.Test.YtfhbkfdfggaomabDoorLsTst
import Derived.Test.YtfhbkfdfggaomabDoorSiz
import Derived.Test.YtfhbkfdfggaomabDoorRdO
import Derived.Test.YtfhbkfdfggaomabDoorRdC
import Derived.Deep.DeepCutAuto
import Derived.RegionTactic
namespace Go.Proofs.YtfhbkfdfggaomabDoor
set_option maxRecDepth 40000
open Go.ChangeShapes Go.WideShapes Go.ChangeAt Go.RowKit
set_option linter.unusedVariables false
set_option linter.unusedSimpArgs false

theorem make_Test (n : Nat) (hn : n ≤ 1048576) (w : World) : (Instr.makeSlice 40 (.int .i64 (n : Int)) (.int .i64 (n : Int))).run Tryd.prog w = .ok (.slice (some ⟨w.heap.size, 0, none⟩) n n) (w.alloc (.cells (madeCells #[.int .i64 0, .int .i64 0] (n * 2)) 46)) := by
  have hinfo : (Tryd.prog.info? 46).map (fun i => (i.zero, i.size, decide (i.bytes ≤ 80))) = some (some (.agg #[.int .i64 0, .int .i64 0]), 2, true) := by kernel_rfl
  obtain ⟨i, hi, hzz⟩ := Option.map_eq_some_iff.1 hinfo
  simp only [Prod.mk.injEq, decide_eq_true_eq] at hzz
  obtain ⟨hz, hs, hb⟩ := hzz
  have hl : n * i.bytes ≤ 1048576 * 80 := Nat.mul_le_mul hn hb
  have hr := run_make (P := Tryd.prog) w 40 46 i _ Tryd.underlying40 hi hz .i64 .i64 n n (by omega) (Int.le_refl _) (by rw [← Int.natCast_mul]; have := Nat.mul_comm n i.bytes; omega) (by omega)
  simp only [Int.toNat_natCast, hs] at hr
  exact hr
theorem ownB_beside {base r : Nat} {w w' : World} {s : Option Addr} {m : Nat} {V : Nat → Int} (h : OwnI base w s m V) (hb : Beside r w w') (hr : r < base) : OwnI base w' s m V := fun j hj => by
  obtain ⟨b, e, hB, hl, hc, hf⟩ := h j hj
  exact ⟨b, e, hB, Nat.lt_of_lt_of_le hl hb.2.2.2.1, (hb.cell (p := ⟨b, j, none⟩) hl (by simp only; omega)).trans hc, (hb.frozen (p := ⟨b, j, none⟩) hl (by simp only; omega)).trans hf⟩
theorem OwnI.putB {base g m : Nat} {w : World} {V : Nat → Int} (h : OwnI base w (some ⟨g, 0, none⟩) m V) (i : Nat) (x : Int) : OwnI base (w.setCell ⟨g, i, none⟩ (.int .i64 x)) (some ⟨g, 0, none⟩) m (fun j => if j = i then x else V j) := fun j hj => by
  obtain ⟨b, e, hB, hl, hc, hf⟩ := h j hj
  cases e
  refine ⟨g, rfl, hB, by simpa using hl, ?_, by simp [go_sem, hf]⟩
  by_cases q : j = i
  · subst q; simp [go_sem, hc]
  · simp [go_sem, hc, q]
theorem made_OwnI (w : World) (M base : Nat) (t : TypeId) (hb : base ≤ w.heap.size) : OwnI base (w.alloc (.cells (madeCells #[.int .i64 0, .int .i64 0] (M * 2)) t)) (some ⟨w.heap.size, 0, none⟩) (M * 2) (fun _ => 0) := fun j hj => by
  have m0 : (madeCells #[.int .i64 0, .int .i64 0] (M * 2))[j]? = some (.int .i64 0) := by
    simp only [madeCells, Array.getElem?_map, Array.getElem?_range, hj, if_true, Option.map_some]
    have h : j % 2 = 0 ∨ j % 2 = 1 := by omega
    show some ((#[Value.int .i64 0, Value.int .i64 0] : Array Value)[j % 2]!) = _
    rcases h with h | h <;> rw [h] <;> rfl
  exact ⟨_, rfl, hb, by simp, by simp [go_sem, m0], by simp [go_sem]⟩
def DrwPost (w : World) (e : Ending) (w' : World) : Prop := ∃ (g m cap : Nat) (U : Nat → Int) (now : Int), e = .returned (.tuple #[.slice (some ⟨g, 0, none⟩) m cap, .int .i64 now]) ∧ m ≤ 61 ∧ RowI w' (some ⟨g, 0, none⟩) (m * 2) U ∧ Below w.heap.size w w'
set_option maxRecDepth 20000 in
set_option maxHeartbeats 8000000 in
theorem drawDue_any {s : Option Addr} {n c : Nat} {w : World} (h : Hid (Code8 w s n)) :
    Calls Tryd.prog 10 #[.slice s n c] w fun e w' => DrwPost w e w' := by
  go_enter Tryd.func10, Tryd.ntmps10
  go_wp2_with fail
  refine (open_any (h.out.below (by repeat (first | with_reducible exact Below.refl _ _ | with_reducible refine Below.setCell ?_ (by first | omega | (simp; done) | (simp; omega)) _ | with_reducible refine bDrewN ?_ _ | with_reducible refine Below.drew ?_ | with_reducible refine Below.alloc ?_ (by first | omega | (simp; done) | (simp; omega)) _)))).mono ?_
  rintro e w1 ⟨rfl, R_, b_⟩
  obtain ⟨r, hr⟩ : ∃ r, r = w.heap.size := ⟨_, rfl⟩
  have HR : Hid (Rd w1 r s n c 0) := by show Rd _ _ _ _ _ _; rw [hr]; simpa using R_
  have HB : Hid (Below w.heap.size w w1) := (show Below w.heap.size w _ from (by repeat (first | with_reducible exact Below.refl _ _ | with_reducible refine Below.setCell ?_ (by first | omega | (simp; done) | (simp; omega)) _ | with_reducible refine bDrewN ?_ _ | with_reducible refine Below.drew ?_ | with_reducible refine Below.alloc ?_ (by first | omega | (simp; done) | (simp; omega)) _))).trans (b_.mono (by first | omega | (simp; done) | (simp; omega)))
  have zr : w.heap.size ≤ r := by omega
  try rw [show w.heap.size = r by rw [hr]; simp]
  try rw [← hr]
  clear R_ b_ h hr
  go_wp2_with fail
  refine (near_any 0 500 (by omega) (by omega) (by omega) (HR.out.below (by repeat (first | with_reducible exact Below.refl _ _ | with_reducible refine Below.setCell ?_ (by first | omega | (simp; done) | (simp; omega)) _ | with_reducible refine bDrewN ?_ _ | with_reducible refine Below.drew ?_ | with_reducible refine Below.alloc ?_ (by first | omega | (simp; done) | (simp; omega)) _)))).mono ?_
  rintro e w2 ⟨nw, pw, rfl, nw0, nw1, R_, b_⟩
  have sz_ : w.heap.size ≤ w1.heap.size := HB.out.size
  have zr_ : r < w1.heap.size := HR.out.1
  have bb : Beside r w1 w2 := (Beside.of (show Below w1.heap.size w1 _ from (by repeat (first | with_reducible exact Below.refl _ _ | with_reducible refine Below.setCell ?_ (by first | omega | (simp; done) | (simp; omega)) _ | with_reducible refine bDrewN ?_ _ | with_reducible refine Below.drew ?_ | with_reducible refine Below.alloc ?_ (by first | omega | (simp; done) | (simp; omega)) _)))).trans b_
  replace HB : Hid (Below w.heap.size w w2) := HB.out.trans (bb.below (by omega) HB.out.size)
  replace HR : Hid (Rd w2 r s n c pw) := R_
  clear R_
  clear bb b_ sz_ zr_ 
  go_upto_region 4 with fail
  have sz_ : w.heap.size ≤ w2.heap.size := HB.out.size
  have zr_ : r < w2.heap.size := HR.out.1
  obtain ⟨w3, hw_⟩ : ∃ x_, x_ = w2.alloc (.cells #[] 46) := ⟨_, rfl⟩
  rw [← hw_]
  have bl_ : Below w2.heap.size w2 w3 := by rw [hw_]; exact below0 _ _
  obtain ⟨bo, hbo⟩ : ∃ g, g = w2.heap.size := ⟨_, rfl⟩
  have Ho : Hid (Lst bo 46 2 w3 (.slice (some ⟨bo, 0, none⟩) 0 0) 0 (fun _ => 0)) := by show Lst _ _ _ _ _ _ _; rw [hw_, hbo]; exact Lst.lit w2 _ 46 46 2 _ (Nat.le_refl _)
  replace HR : Hid (Rd w3 r s n c pw) := HR.out.below bl_
  replace HB : Hid (Below w.heap.size w w3) := HB.out.trans (bl_.mono sz_)
  have lbo : w.heap.size ≤ bo := by omega
  have rbo : r < bo := by omega
  have zso : bo < w3.heap.size := by rw [hw_, hbo]; simp
  have Zo : Hid (bo ≤ w3.heap.size) := by show _ ≤ _; have := bl_.size; omega
  try rw [← hbo]
  clear hw_ hbo bl_ sz_ zr_ 
  go_wp2_with fail
  refine (size_any 5 20 (by omega) (by omega) (by omega) (by omega) (HR.out.below (by repeat (first | with_reducible exact Below.refl _ _ | with_reducible refine Below.setCell ?_ (by first | omega | (simp; done) | (simp; omega)) _ | with_reducible refine bDrewN ?_ _ | with_reducible refine Below.drew ?_ | with_reducible refine Below.alloc ?_ (by first | omega | (simp; done) | (simp; omega)) _)))).mono ?_
  rintro e w4 ⟨N, pN, rfl, N0, N1, R_, b_⟩
  have sz_ : w.heap.size ≤ w3.heap.size := HB.out.size
  have zr_ : r < w3.heap.size := HR.out.1
  have bb : Beside r w3 w4 := (Beside.of (show Below w3.heap.size w3 _ from (by repeat (first | with_reducible exact Below.refl _ _ | with_reducible refine Below.setCell ?_ (by first | omega | (simp; done) | (simp; omega)) _ | with_reducible refine bDrewN ?_ _ | with_reducible refine Below.drew ?_ | with_reducible refine Below.alloc ?_ (by first | omega | (simp; done) | (simp; omega)) _)))).trans b_
  replace Ho : Hid (Lst bo 46 2 w4 (.slice (some ⟨bo, 0, none⟩) 0 0) 0 (fun _ => 0)) := Ho.out.beside bb (by omega)
  replace Zo : Hid (bo ≤ w4.heap.size) := Nat.le_trans Zo.out bb.2.2.2.1
  replace HB : Hid (Below w.heap.size w w4) := HB.out.trans (bb.below (by omega) HB.out.size)
  replace HR : Hid (Rd w4 r s n c pN) := R_
  clear R_
  clear bb b_ sz_ zr_ 
  go_wp2_with fail
  go_loopw [6, 7] (fun v i wr => ∃ (k : Nat) (U : Nat → Int) (p5 : Nat), (k : Int) ≤ N ∧ i = .int .i64 (N - k) ∧ Hid (Rd wr r s n c p5) ∧ Hid (Below w.heap.size w wr) ∧ Hid (Lst bo 46 2 wr v k U) ∧ Hid (bo ≤ wr.heap.size)) (fun _ i _ => (intOf i).toNat)
  case atStart => exact ⟨0, fun _ => 0, pN, by omega, by simp, HR, HB, Ho, Zo⟩
  case round =>
    clear HR HB Ho Zo
    obtain ⟨k, U, p5, hk, rfl, HR, HB, Ho, Zo⟩ := hrel
    by_cases hlt : (k : Int) < N
    case pos =>
      have q0 : 0 < N - (k : Int) := by omega
      go_wp2_with fail
      refine (upto_any 90 (wfi (by omega) (by omega)) (HR.out.below (by repeat (first | with_reducible exact Below.refl _ _ | with_reducible refine Below.setCell ?_ (by first | omega | (simp; done) | (simp; omega)) _ | with_reducible refine bDrewN ?_ _ | with_reducible refine Below.drew ?_ | with_reducible refine Below.alloc ?_ (by first | omega | (simp; done) | (simp; omega)) _)))).mono ?_
      rintro e w5 ⟨a0, pa, rfl, a0a, a0b, R_, b_⟩
      have sz_ : w.heap.size ≤ wr.heap.size := HB.out.size
      have zr_ : r < wr.heap.size := HR.out.1
      have bb : Beside r wr w5 := (Beside.of (show Below wr.heap.size wr _ from (by repeat (first | with_reducible exact Below.refl _ _ | with_reducible refine Below.setCell ?_ (by first | omega | (simp; done) | (simp; omega)) _ | with_reducible refine bDrewN ?_ _ | with_reducible refine Below.drew ?_ | with_reducible refine Below.alloc ?_ (by first | omega | (simp; done) | (simp; omega)) _)))).trans b_
      replace Ho : Hid (Lst bo 46 2 w5 u6 k U) := Ho.out.beside bb (by omega)
      replace Zo : Hid (bo ≤ w5.heap.size) := Nat.le_trans Zo.out bb.2.2.2.1
      replace HB : Hid (Below w.heap.size w w5) := HB.out.trans (bb.below (by omega) HB.out.size)
      replace HR : Hid (Rd w5 r s n c pa) := R_
      clear R_
      clear bb b_ sz_ zr_ 
      by_cases hmx : 0 < nw - 200
      case pos =>
        have hmx2 : (nw - 200 < 0) = False := by simp; omega
        go_wp2_with fail
        refine (near_any (nw - 200) nw (by omega) (by omega) (by omega) (HR.out.below (by repeat (first | with_reducible exact Below.refl _ _ | with_reducible refine Below.setCell ?_ (by first | omega | (simp; done) | (simp; omega)) _ | with_reducible refine bDrewN ?_ _ | with_reducible refine Below.drew ?_ | with_reducible refine Below.alloc ?_ (by first | omega | (simp; done) | (simp; omega)) _)))).mono ?_
        rintro e w6 ⟨a1, pb, rfl, a1a, a1b, R_, b_⟩
        have sz_ : w.heap.size ≤ w5.heap.size := HB.out.size
        have zr_ : r < w5.heap.size := HR.out.1
        have bb : Beside r w5 w6 := (Beside.of (show Below w5.heap.size w5 _ from (by repeat (first | with_reducible exact Below.refl _ _ | with_reducible refine Below.setCell ?_ (by first | omega | (simp; done) | (simp; omega)) _ | with_reducible refine bDrewN ?_ _ | with_reducible refine Below.drew ?_ | with_reducible refine Below.alloc ?_ (by first | omega | (simp; done) | (simp; omega)) _)))).trans b_
        replace Ho : Hid (Lst bo 46 2 w6 u6 k U) := Ho.out.beside bb (by omega)
        replace Zo : Hid (bo ≤ w6.heap.size) := Nat.le_trans Zo.out bb.2.2.2.1
        replace HB : Hid (Below w.heap.size w w6) := HB.out.trans (bb.below (by omega) HB.out.size)
        replace HR : Hid (Rd w6 r s n c pb) := R_
        clear R_
        clear bb b_ sz_ zr_ 
        have zl_ : bo ≤ w6.heap.size := Zo.out
        go_wp2_with (at_builtin; refine list_Test bo u6 k U (.tmp 20) (.tmp 31) (by rfl) (by rfl) (by rfl) (by rfl) Ho.out (by omega) (by omega) ?_; intro g9 cap9 w7 l9 b9)
        have No : Hid (Lst bo 46 2 w7 (.slice (some ⟨g9, 0, none⟩) (k + 1) cap9) (k + 1) (putL U 2 k [(1 + a0), a1])) := l9
        clear zl_ l9
        replace Zo : Hid (bo ≤ w7.heap.size) := Nat.le_trans Zo.out b9.size
        replace HR : Hid (Rd w7 r s n c pb) := Rd.below' HR.out (b9.mono (by omega))
        replace HB : Hid (Below w.heap.size w w7) := HB.out.trans (b9.mono (by omega))
        replace Ho := No
        clear b9
        go_roundw
        case rel => exact ⟨k + 1, _, pb, by omega, by congr 1; omega, HR, HB, Ho, Zo⟩
        case measure => simp [intOf]; omega
      case neg =>
        have hmx2 : nw - 200 ≤ 0 := by omega
        go_wp2_with fail
        refine (near_any 0 nw (by omega) (by omega) (by omega) (HR.out.below (by repeat (first | with_reducible exact Below.refl _ _ | with_reducible refine Below.setCell ?_ (by first | omega | (simp; done) | (simp; omega)) _ | with_reducible refine bDrewN ?_ _ | with_reducible refine Below.drew ?_ | with_reducible refine Below.alloc ?_ (by first | omega | (simp; done) | (simp; omega)) _)))).mono ?_
        rintro e w6 ⟨a1, pb, rfl, a1a, a1b, R_, b_⟩
        have sz_ : w.heap.size ≤ w5.heap.size := HB.out.size
        have zr_ : r < w5.heap.size := HR.out.1
        have bb : Beside r w5 w6 := (Beside.of (show Below w5.heap.size w5 _ from (by repeat (first | with_reducible exact Below.refl _ _ | with_reducible refine Below.setCell ?_ (by first | omega | (simp; done) | (simp; omega)) _ | with_reducible refine bDrewN ?_ _ | with_reducible refine Below.drew ?_ | with_reducible refine Below.alloc ?_ (by first | omega | (simp; done) | (simp; omega)) _)))).trans b_
        replace Ho : Hid (Lst bo 46 2 w6 u6 k U) := Ho.out.beside bb (by omega)
        replace Zo : Hid (bo ≤ w6.heap.size) := Nat.le_trans Zo.out bb.2.2.2.1
        replace HB : Hid (Below w.heap.size w w6) := HB.out.trans (bb.below (by omega) HB.out.size)
        replace HR : Hid (Rd w6 r s n c pb) := R_
        clear R_
        clear bb b_ sz_ zr_ 
        have zl_ : bo ≤ w6.heap.size := Zo.out
        go_wp2_with (at_builtin; refine list_Test bo u6 k U (.tmp 20) (.tmp 31) (by rfl) (by rfl) (by rfl) (by rfl) Ho.out (by omega) (by omega) ?_; intro g9 cap9 w7 l9 b9)
        have No : Hid (Lst bo 46 2 w7 (.slice (some ⟨g9, 0, none⟩) (k + 1) cap9) (k + 1) (putL U 2 k [(1 + a0), a1])) := l9
        clear zl_ l9
        replace Zo : Hid (bo ≤ w7.heap.size) := Nat.le_trans Zo.out b9.size
        replace HR : Hid (Rd w7 r s n c pb) := Rd.below' HR.out (b9.mono (by omega))
        replace HB : Hid (Below w.heap.size w w7) := HB.out.trans (b9.mono (by omega))
        replace Ho := No
        clear b9
        go_roundw
        case rel => exact ⟨k + 1, _, pb, by omega, by congr 1; omega, HR, HB, Ho, Zo⟩
        case measure => simp [intOf]; omega
    case neg =>
      obtain rfl : (k : Int) = N := by omega
      rename World => wl
      have k21 : k ≤ 21 := by omega
      have k1 : 1 ≤ k := by omega
      clear hk hlt N0 N1
      obtain ⟨t1, cap, eu, OW⟩ := Ho.out.own
      cases eu
      obtain ⟨g, rfl, gb, -, -, -⟩ := OW 0 (by omega)
      have HO : Hid (OwnI bo wl (some ⟨g, 0, none⟩) (k * 2) U) := OW
      clear OW Ho Zo
      go_wp2_with fail
      refine (below_any 30 (HR.out.below (by repeat (first | with_reducible exact Below.refl _ _ | with_reducible refine Below.setCell ?_ (by first | omega | (simp; done) | (simp; omega)) _ | with_reducible refine bDrewN ?_ _ | with_reducible refine Below.drew ?_ | with_reducible refine Below.alloc ?_ (by first | omega | (simp; done) | (simp; omega)) _)))).mono ?_
      rintro e w5 ⟨kk, pk, rfl, kk0, kk1, kk2, R_, b_⟩
      have sz_ : w.heap.size ≤ wl.heap.size := HB.out.size
      have zr_ : r < wl.heap.size := HR.out.1
      have bb : Beside r wl w5 := (Beside.of (show Below wl.heap.size wl _ from (by repeat (first | with_reducible exact Below.refl _ _ | with_reducible refine Below.setCell ?_ (by first | omega | (simp; done) | (simp; omega)) _ | with_reducible refine bDrewN ?_ _ | with_reducible refine Below.drew ?_ | with_reducible refine Below.alloc ?_ (by first | omega | (simp; done) | (simp; omega)) _)))).trans b_
      replace HB : Hid (Below w.heap.size w w5) := HB.out.trans (bb.below (by omega) HB.out.size)
      replace HR : Hid (Rd w5 r s n c pk) := R_
      clear R_
      replace HO : Hid (OwnI bo w5 (some ⟨g, 0, none⟩) (k * 2) U) := ownB_beside HO.out bb (by omega)
      clear bb b_ sz_ zr_ 
      clear kk1 kk2
      by_cases e0 : kk = 0
      case pos =>
        subst e0
        go_wp2_with fail
        refine (off_any 1 1000000 (by omega) (by omega) (by omega) (HR.out.below (by repeat (first | with_reducible exact Below.refl _ _ | with_reducible refine Below.setCell ?_ (by first | omega | (simp; done) | (simp; omega)) _ | with_reducible refine bDrewN ?_ _ | with_reducible refine Below.drew ?_ | with_reducible refine Below.alloc ?_ (by first | omega | (simp; done) | (simp; omega)) _)))).mono ?_
        rintro e w6 ⟨m9, pm, rfl, m90, R_, b_⟩
        have sz_ : w.heap.size ≤ w5.heap.size := HB.out.size
        have zr_ : r < w5.heap.size := HR.out.1
        have bb : Beside r w5 w6 := (Beside.of (show Below w5.heap.size w5 _ from (by repeat (first | with_reducible exact Below.refl _ _ | with_reducible refine Below.setCell ?_ (by first | omega | (simp; done) | (simp; omega)) _ | with_reducible refine bDrewN ?_ _ | with_reducible refine Below.drew ?_ | with_reducible refine Below.alloc ?_ (by first | omega | (simp; done) | (simp; omega)) _)))).trans b_
        replace HB : Hid (Below w.heap.size w w6) := HB.out.trans (bb.below (by omega) HB.out.size)
        replace HR : Hid (Rd w6 r s n c pm) := R_
        clear R_
        replace HO : Hid (OwnI bo w6 (some ⟨g, 0, none⟩) (k * 2) U) := ownB_beside HO.out bb (by omega)
        clear bb b_ sz_ zr_ 
        obtain ⟨gg_, eg_, -, zz_a, cea, cfa⟩ := HO.out 0 (by omega)
        cases eg_
        have zk : (0 : Int) < (k : Int) := by omega
        have OF := HO.out.putB 0 m9
        have lbg : w.heap.size ≤ g := Nat.le_trans lbo gb
        have BF := HB.out
        have szBF := BF.size
        go_wp2
        refine bodyPost_ret (v := .tuple #[.slice (some ⟨g, 0, none⟩) k cap, .int .i64 nw]) (by simp [results, Tryd.results10, go_sem]) rfl ?_
        unfold DrwPost
        exact ⟨_, k, cap, _, nw, rfl, by omega, OF.row, (show Below w.heap.size w _ from (by repeat (first | with_reducible exact Below.refl _ _ | with_reducible exact BF | with_reducible refine Below.setCell ?_ (by first | omega | (simp; done) | (simp; omega)) _ | with_reducible refine bDrewN ?_ _ | with_reducible refine Below.drew ?_ | with_reducible refine Below.alloc ?_ (by first | omega | (simp; done) | (simp; omega)) _)))⟩
      have ne0 : (kk == 0) = false := by simpa using e0
      by_cases e1 : kk = 1
      case pos =>
        subst e1
        go_wp2_with fail
        refine (off_any 0 nw (by omega) (by omega) (by omega) (HR.out.below (by repeat (first | with_reducible exact Below.refl _ _ | with_reducible refine Below.setCell ?_ (by first | omega | (simp; done) | (simp; omega)) _ | with_reducible refine bDrewN ?_ _ | with_reducible refine Below.drew ?_ | with_reducible refine Below.alloc ?_ (by first | omega | (simp; done) | (simp; omega)) _)))).mono ?_
        rintro e w6 ⟨m9, pm, rfl, m90, R_, b_⟩
        have sz_ : w.heap.size ≤ w5.heap.size := HB.out.size
        have zr_ : r < w5.heap.size := HR.out.1
        have bb : Beside r w5 w6 := (Beside.of (show Below w5.heap.size w5 _ from (by repeat (first | with_reducible exact Below.refl _ _ | with_reducible refine Below.setCell ?_ (by first | omega | (simp; done) | (simp; omega)) _ | with_reducible refine bDrewN ?_ _ | with_reducible refine Below.drew ?_ | with_reducible refine Below.alloc ?_ (by first | omega | (simp; done) | (simp; omega)) _)))).trans b_
        replace HB : Hid (Below w.heap.size w w6) := HB.out.trans (bb.below (by omega) HB.out.size)
        replace HR : Hid (Rd w6 r s n c pm) := R_
        clear R_
        replace HO : Hid (OwnI bo w6 (some ⟨g, 0, none⟩) (k * 2) U) := ownB_beside HO.out bb (by omega)
        clear bb b_ sz_ zr_ 
        obtain ⟨gg_, eg_, -, zz_a, cea, cfa⟩ := HO.out 1 (by omega)
        cases eg_
        have zk : (0 : Int) < (k : Int) := by omega
        have OF := HO.out.putB 1 m9
        have lbg : w.heap.size ≤ g := Nat.le_trans lbo gb
        have BF := HB.out
        have szBF := BF.size
        go_wp2
        refine bodyPost_ret (v := .tuple #[.slice (some ⟨g, 0, none⟩) k cap, .int .i64 nw]) (by simp [results, Tryd.results10, go_sem]) rfl ?_
        unfold DrwPost
        exact ⟨_, k, cap, _, nw, rfl, by omega, OF.row, (show Below w.heap.size w _ from (by repeat (first | with_reducible exact Below.refl _ _ | with_reducible exact BF | with_reducible refine Below.setCell ?_ (by first | omega | (simp; done) | (simp; omega)) _ | with_reducible refine bDrewN ?_ _ | with_reducible refine Below.drew ?_ | with_reducible refine Below.alloc ?_ (by first | omega | (simp; done) | (simp; omega)) _)))⟩
      have ne1 : (kk == 1) = false := by simpa using e1
      by_cases e2 : kk = 2
      case pos =>
        subst e2
        go_wp2_with fail
        refine (below_any 2 (HR.out.below (by repeat (first | with_reducible exact Below.refl _ _ | with_reducible refine Below.setCell ?_ (by first | omega | (simp; done) | (simp; omega)) _ | with_reducible refine bDrewN ?_ _ | with_reducible refine Below.drew ?_ | with_reducible refine Below.alloc ?_ (by first | omega | (simp; done) | (simp; omega)) _)))).mono ?_
        rintro e w6 ⟨m9, pm, rfl, m90, m91, m92, R_, b_⟩
        have sz_ : w.heap.size ≤ w5.heap.size := HB.out.size
        have zr_ : r < w5.heap.size := HR.out.1
        have bb : Beside r w5 w6 := (Beside.of (show Below w5.heap.size w5 _ from (by repeat (first | with_reducible exact Below.refl _ _ | with_reducible refine Below.setCell ?_ (by first | omega | (simp; done) | (simp; omega)) _ | with_reducible refine bDrewN ?_ _ | with_reducible refine Below.drew ?_ | with_reducible refine Below.alloc ?_ (by first | omega | (simp; done) | (simp; omega)) _)))).trans b_
        replace HB : Hid (Below w.heap.size w w6) := HB.out.trans (bb.below (by omega) HB.out.size)
        replace HR : Hid (Rd w6 r s n c pm) := R_
        clear R_
        replace HO : Hid (OwnI bo w6 (some ⟨g, 0, none⟩) (k * 2) U) := ownB_beside HO.out bb (by omega)
        clear bb b_ sz_ zr_ 
        have m93 : m9 ≤ 1 := by omega
        clear m91 m92 HO
        obtain ⟨M, hM⟩ : ∃ M : Nat, 60 + m9 = (M : Int) := ⟨(60 + m9).toNat, by omega⟩
        have M1 : 60 ≤ M := by omega
        have M2 : M ≤ 61 := by omega
        have hmk := make_Test M (by omega)
        have wm : IntKind.i64.wrap (60 + m9) = (M : Int) := by rw [IntKind.wrap_i64]; omega
        have wm2 : (60 + m9) = (M : Int) := hM
        go_upto_region 15 with fail
        obtain ⟨w7, hw_⟩ : ∃ x_, x_ = w6.alloc (.cells (madeCells #[.int .i64 0, .int .i64 0] (M * 2)) 46) := ⟨_, rfl⟩
        rw [← hw_]
        have bl_ : Below w6.heap.size w6 w7 := by rw [hw_]; exact below0 _ _
        have HO : Hid (OwnI w.heap.size w7 (some ⟨w6.heap.size, 0, none⟩) (M * 2) (fun _ => 0)) := by show OwnI _ _ _ _ _; rw [hw_]; exact made_OwnI w6 M w.heap.size 46 HB.out.size
        replace HB : Hid (Below w.heap.size w w7) := HB.out.trans (bl_.mono HB.out.size)
        obtain ⟨g2, hg2⟩ : ∃ g2, g2 = w6.heap.size := ⟨_, rfl⟩
        rw [← hg2] at HO ⊢
        clear hw_ bl_ hg2 hmk wm wm2 hM m90 m93 HR
        go_wp2_with fail
        go_loopw [8] (fun i wq => ∃ (j : Nat) (U2 : Nat → Int), j ≤ M ∧ i = .int .i64 j ∧ Hid (OwnI w.heap.size wq (some ⟨g2, 0, none⟩) (M * 2) U2) ∧ Hid (Below w.heap.size w wq)) (fun i _ => M - (intOf i).toNat)
        case atStart => exact ⟨0, _, Nat.zero_le _, rfl, HO, HB⟩
        case round =>
          clear HO HB
          obtain ⟨j, U2, hj, rfl, HO, HB⟩ := hrel
          by_cases h2 : j < M
          case pos =>
            have j1 : (j : Int) < (M : Int) := by omega
            obtain ⟨gg_, eg_, gb2, zz_a, cea, cfa⟩ := HO.out (j * 2) (by omega)
            cases eg_
            have OF := HO.out.putB (j * 2) 1
            have BF := HB.out
            go_wp2
            go_roundw
            case rel => exact ⟨j + 1, _, by omega, by go_num, OF, (show Below w.heap.size w _ from (by repeat (first | with_reducible exact Below.refl _ _ | with_reducible exact BF | with_reducible refine Below.setCell ?_ (by first | omega | (simp; done) | (simp; omega)) _ | with_reducible refine bDrewN ?_ _ | with_reducible refine Below.drew ?_ | with_reducible refine Below.alloc ?_ (by first | omega | (simp; done) | (simp; omega)) _)))⟩
            case measure => first | (simp [intOf]; done) | (simp [intOf]; omega)
          case neg =>
            obtain rfl : j = M := by omega
            rename World => wq
            have BF := HB.out
            have szBF := BF.size
            go_wp2
            refine bodyPost_ret (v := .tuple #[.slice (some ⟨g2, 0, none⟩) j j, .int .i64 nw]) (by simp [results, Tryd.results10, go_sem]) rfl ?_
            unfold DrwPost
            exact ⟨_, j, j, _, nw, rfl, by omega, HO.out.row, (show Below w.heap.size w _ from (by repeat (first | with_reducible exact Below.refl _ _ | with_reducible exact BF | with_reducible refine Below.setCell ?_ (by first | omega | (simp; done) | (simp; omega)) _ | with_reducible refine bDrewN ?_ _ | with_reducible refine Below.drew ?_ | with_reducible refine Below.alloc ?_ (by first | omega | (simp; done) | (simp; omega)) _)))⟩
      have ne2 : (kk == 2) = false := by simpa using e2
      by_cases e3 : kk = 3
      case pos =>
        subst e3
        go_wp2_with fail
        refine (off_any 0 1000000000 (by omega) (by omega) (by omega) (HR.out.below (by repeat (first | with_reducible exact Below.refl _ _ | with_reducible refine Below.setCell ?_ (by first | omega | (simp; done) | (simp; omega)) _ | with_reducible refine bDrewN ?_ _ | with_reducible refine Below.drew ?_ | with_reducible refine Below.alloc ?_ (by first | omega | (simp; done) | (simp; omega)) _)))).mono ?_
        rintro e w6 ⟨m9, pm, rfl, m90, R_, b_⟩
        have sz_ : w.heap.size ≤ w5.heap.size := HB.out.size
        have zr_ : r < w5.heap.size := HR.out.1
        have bb : Beside r w5 w6 := (Beside.of (show Below w5.heap.size w5 _ from (by repeat (first | with_reducible exact Below.refl _ _ | with_reducible refine Below.setCell ?_ (by first | omega | (simp; done) | (simp; omega)) _ | with_reducible refine bDrewN ?_ _ | with_reducible refine Below.drew ?_ | with_reducible refine Below.alloc ?_ (by first | omega | (simp; done) | (simp; omega)) _)))).trans b_
        replace HB : Hid (Below w.heap.size w w6) := HB.out.trans (bb.below (by omega) HB.out.size)
        replace HR : Hid (Rd w6 r s n c pm) := R_
        clear R_
        replace HO : Hid (OwnI bo w6 (some ⟨g, 0, none⟩) (k * 2) U) := ownB_beside HO.out bb (by omega)
        clear bb b_ sz_ zr_ 
        have BF := HB.out
        have szBF := BF.size
        go_wp2
        refine bodyPost_ret (v := .tuple #[.slice (some ⟨g, 0, none⟩) k cap, .int .i64 m9]) (by simp [results, Tryd.results10, go_sem]) rfl ?_
        unfold DrwPost
        exact ⟨_, k, cap, _, m9, rfl, by omega, HO.out.row, (show Below w.heap.size w _ from (by repeat (first | with_reducible exact Below.refl _ _ | with_reducible exact BF | with_reducible refine Below.setCell ?_ (by first | omega | (simp; done) | (simp; omega)) _ | with_reducible refine bDrewN ?_ _ | with_reducible refine Below.drew ?_ | with_reducible refine Below.alloc ?_ (by first | omega | (simp; done) | (simp; omega)) _)))⟩
      have ne3 : (kk == 3) = false := by simpa using e3
      have BF := HB.out
      have szBF := BF.size
      go_wp2
      refine bodyPost_ret (v := .tuple #[.slice (some ⟨g, 0, none⟩) k cap, .int .i64 nw]) (by simp [results, Tryd.results10, go_sem]) rfl ?_
      unfold DrwPost
      exact ⟨_, k, cap, _, nw, rfl, by omega, HO.out.row, (show Below w.heap.size w _ from (by repeat (first | with_reducible exact Below.refl _ _ | with_reducible exact BF | with_reducible refine Below.setCell ?_ (by first | omega | (simp; done) | (simp; omega)) _ | with_reducible refine bDrewN ?_ _ | with_reducible refine Below.drew ?_ | with_reducible refine Below.alloc ?_ (by first | omega | (simp; done) | (simp; omega)) _)))⟩
end Go.Proofs.YtfhbkfdfggaomabDoor
