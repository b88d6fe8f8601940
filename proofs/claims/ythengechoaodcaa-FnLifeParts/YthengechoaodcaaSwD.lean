/-
What is proved: a course that is drawn: any int64s, at most 401 of them; two lists of numbers held against one another.
-/
import Derived.Test.YthengechoaodcaaLsInt
import Derived.Test.YthengechoaodcaaSiz
import Derived.Test.YthengechoaodcaaRdC
import Derived.Test.YthengechoaodcaaRowI
import Derived.Deep.DeepCutAuto
import Derived.RegionTactic
import Derived.Deep.RegionHeld3
import Derived.BigQuiet
namespace Go.Proofs.Ythengechoaodcaa
set_option maxRecDepth 40000
open Go.ChangeShapes Go.WideShapes Go.ChangeAt Go.RowKit
set_option linter.unusedVariables false
set_option linter.unusedSimpArgs false

theorem Lst.lowB {base b : Nat} {T : TypeId} {M : Nat} {w : World} {v : Value} {k : Nat} {U : Nat → Int} (h : Lst base T M w v k U) (hb : b ≤ base) : Lst b T M w v k U := by
  refine ⟨h.1, ?_⟩
  rcases h.2 with q | ⟨g, cap, cur, e1, h1, r⟩
  · exact .inl q
  · exact .inr ⟨g, cap, cur, e1, by omega, r⟩
theorem Lst.none0 {base g k cap : Nat} {w : World} {U U' : Nat → Int} (h : Lst base 2 1 w (.slice (some ⟨g, 0, none⟩) k cap) k U) : Lst base 2 1 w (.slice (some ⟨g, 0, none⟩) 0 cap) 0 U' := by
  rcases h.2 with ⟨q, _⟩ | ⟨g', cap', cur, e1, h1, h2, h3, h4, h5, h6⟩
  · cases q
  · cases e1
    exact ⟨rfl, .inr ⟨g, cap, cur, rfl, h1, h2, Nat.zero_le _, h4, h5, by simp [vals]⟩⟩
theorem Lst.cellAt {base g k cap : Nat} {w : World} {U : Nat → Int} (h : Lst base 2 1 w (.slice (some ⟨g, 0, none⟩) k cap) k U) {q : Nat} (hq : q < k) : w.cell? ⟨g, q, none⟩ = some (.int .i64 (U q)) := by
  rw [World.ownsRow.cellAt h q (by omega)]
  exact vals_at U (by omega)
theorem Lst.put1 {base g k cap : Nat} {w : World} {U : Nat → Int} (h : Lst base 2 1 w (.slice (some ⟨g, 0, none⟩) k cap) k U) (q : Nat) (x : Int) (hq : q < k) : Lst base 2 1 (w.setCell ⟨g, q, none⟩ (.int .i64 x)) (.slice (some ⟨g, 0, none⟩) k cap) k (fun j => if j = q then x else U j) := by
  have := (World.ownsRow.stored h q (.int .i64 x)).1
  have e : (vals U (k * 1)).set q (.int .i64 x) = vals (fun j => if j = q then x else U j) (k * 1) := by
    refine List.ext_getElem? fun j => ?_
    rw [List.getElem?_set]
    by_cases hj : j < k * 1
    · by_cases z : q = j
      · subst z
        rw [if_pos rfl, if_pos (by rw [vals_length]; exact hj), vals_at _ hj]
        simp
      · rw [if_neg z, vals_at _ hj, vals_at _ hj, if_neg (fun e => z e.symm)]
    · rw [List.getElem?_eq_none (l := vals (fun j => if j = q then x else U j) (k * 1)) (by rw [vals_length]; omega)]
      by_cases z : q = j
      · omega
      · rw [if_neg z, List.getElem?_eq_none (by rw [vals_length]; omega)]
  rw [e] at this
  exact this
def CrsPost (r : Nat) (s : Option Addr) (n c : Nat) (w : World) (e : Ending) (w' : World) : Prop := ∃ (v : Value) (m : Nat) (U : Nat → Int) (p' : Nat), e = .returned v ∧ m ≤ 61 ∧ Lst w.heap.size 2 1 w' v m U ∧ Rd w' r s n c p' ∧ Beside r w w'
set_option maxRecDepth 20000 in
set_option maxHeartbeats 8000000 in
theorem course_any {r : Nat} {s : Option Addr} {n c p : Nat} {w : World} (h : Hid (Rd w r s n c p)) :
    Calls Try.prog 47 #[.pointer (some ⟨r, 0, none⟩)] w fun e w' => CrsPost r s n c w e w' := by
  have zr : r < w.heap.size := h.out.1
  have HR : Hid (Rd w r s n c p) := h
  have HS : Hid (Beside r w w) := Beside.of (Below.refl _ _)
  clear h
  go_enter Try.func47, Try.ntmps47
  go_upto_region 2 with fail
  have sz_ : w.heap.size ≤ w.heap.size := HS.out.2.2.2.1
  have zr_ : r < w.heap.size := HR.out.1
  obtain ⟨w1, hw_⟩ : ∃ x_, x_ = w.alloc (.cells #[] 2) := ⟨_, rfl⟩
  rw [← hw_]
  have bl_ : Below w.heap.size w w1 := by rw [hw_]; exact below0 _ _
  obtain ⟨bo, hbo⟩ : ∃ g, g = w.heap.size := ⟨_, rfl⟩
  have Ho : Hid (Lst bo 2 1 w1 (.slice (some ⟨bo, 0, none⟩) 0 0) 0 (fun _ => 0)) := by show Lst _ _ _ _ _ _ _; rw [hw_, hbo]; exact Lst.lit w _ 2 2 1 _ (Nat.le_refl _)
  replace HR : Hid (Rd w1 r s n c p) := HR.out.below bl_
  replace HS : Hid (Beside r w w1) := HS.out.onB (bl_.mono sz_)
  have lbo : w.heap.size ≤ bo := by omega
  have rbo : r < bo := by omega
  have zso : bo < w1.heap.size := by rw [hw_, hbo]; simp
  have Zo : Hid (bo ≤ w1.heap.size) := by show _ ≤ _; have := bl_.size; omega
  try rw [← hbo]
  clear hw_ hbo bl_ sz_ zr_ 
  go_wp2_with fail
  refine (below_any 4 (HR.out.below (by repeat (first | with_reducible exact Below.refl _ _ | with_reducible refine Below.setCell ?_ (by first | omega | (simp; done) | (simp; omega)) _ | with_reducible refine bDrewN ?_ _ | with_reducible refine Below.drew ?_ | with_reducible refine Below.alloc ?_ (by first | omega | (simp; done) | (simp; omega)) _)))).mono ?_
  rintro e w2 ⟨j1, p1, rfl, j1a, j1b, j1c, R_, b_⟩
  have sz_ : w.heap.size ≤ w1.heap.size := HS.out.2.2.2.1
  have zr_ : r < w1.heap.size := HR.out.1
  have bb : Beside r w1 w2 := (Beside.of (show Below w1.heap.size w1 _ from (by repeat (first | with_reducible exact Below.refl _ _ | with_reducible refine Below.setCell ?_ (by first | omega | (simp; done) | (simp; omega)) _ | with_reducible refine bDrewN ?_ _ | with_reducible refine Below.drew ?_ | with_reducible refine Below.alloc ?_ (by first | omega | (simp; done) | (simp; omega)) _)))).trans b_
  obtain ⟨gl, hgl⟩ : ∃ g, g = w1.heap.size := ⟨_, rfl⟩
  have Hl : Hid (Blk w2 gl [.int .i64 3, .int .i64 20, .int .i64 600, .int .i64 100000]) := by
    show Blk _ _ _
    have q := ((Blk.new w1 #[.int .i64 3, .int .i64 20, .int .i64 600, .int .i64 100000] 2)).beside b_ (by first | omega | (simp; omega))
    rw [hgl]; exact q
  replace Ho : Hid (Lst bo 2 1 w2 (.slice (some ⟨bo, 0, none⟩) 0 0) 0 (fun _ => 0)) := Ho.out.beside bb (by omega)
  replace Zo : Hid (bo ≤ w2.heap.size) := Nat.le_trans Zo.out bb.2.2.2.1
  replace HS : Hid (Beside r w w2) := HS.out.trans bb
  replace HR : Hid (Rd w2 r s n c p1) := R_
  clear R_
  have lgl : w.heap.size ≤ gl := by omega
  have rgl : r < gl := by omega
  try rw [← hgl]
  clear hgl
  clear bb b_ sz_ zr_ 
  have pk_ : Hid (Blk w2 gl (List.map (Value.int .i64) [3, 20, 600, 100000])) := Hl
  obtain ⟨j1n, mo, rfl, j1l, j1v, j1m⟩ := picked (w' := w2) pk_.out j1a (by simp; omega)
  have moa : 3 ≤ mo := by simp at j1m; omega
  have mob : mo ≤ 100000 := by simp at j1m; omega
  have j1l2 : ((j1n : Nat) : Int) < 4 := by simpa using j1l
  clear pk_ j1m j1b j1c j1l
  obtain ⟨z_l, f_l, c_l⟩ := Hl.out
  have lc0 : w2.cell? ⟨gl, 0, none⟩ = some (.int .i64 3) := c_l 0 _ rfl
  have lc1 : w2.cell? ⟨gl, 1, none⟩ = some (.int .i64 20) := c_l 1 _ rfl
  have lc2 : w2.cell? ⟨gl, 2, none⟩ = some (.int .i64 600) := c_l 2 _ rfl
  have lc3 : w2.cell? ⟨gl, 3, none⟩ = some (.int .i64 100000) := c_l 3 _ rfl
  have fl := f_l
  clear f_l c_l
  go_upto_region 3 with fail
  clear lc0 lc1 lc2 lc3 z_l fl
  clear Hl
  clear j1v j1a j1l2
  go_wp2_with fail
  refine (size_any 3 60 (by omega) (by omega) (by omega) (by omega) (HR.out.below (by repeat (first | with_reducible exact Below.refl _ _ | with_reducible refine Below.setCell ?_ (by first | omega | (simp; done) | (simp; omega)) _ | with_reducible refine bDrewN ?_ _ | with_reducible refine Below.drew ?_ | with_reducible refine Below.alloc ?_ (by first | omega | (simp; done) | (simp; omega)) _)))).mono ?_
  rintro e w3 ⟨N, pN, rfl, N0, N1, R_, b_⟩
  have sz_ : w.heap.size ≤ w2.heap.size := HS.out.2.2.2.1
  have zr_ : r < w2.heap.size := HR.out.1
  have bb : Beside r w2 w3 := (Beside.of (show Below w2.heap.size w2 _ from (by repeat (first | with_reducible exact Below.refl _ _ | with_reducible refine Below.setCell ?_ (by first | omega | (simp; done) | (simp; omega)) _ | with_reducible refine bDrewN ?_ _ | with_reducible refine Below.drew ?_ | with_reducible refine Below.alloc ?_ (by first | omega | (simp; done) | (simp; omega)) _)))).trans b_
  replace Ho : Hid (Lst bo 2 1 w3 (.slice (some ⟨bo, 0, none⟩) 0 0) 0 (fun _ => 0)) := Ho.out.beside bb (by omega)
  replace Zo : Hid (bo ≤ w3.heap.size) := Nat.le_trans Zo.out bb.2.2.2.1
  replace HS : Hid (Beside r w w3) := HS.out.trans bb
  replace HR : Hid (Rd w3 r s n c pN) := R_
  clear R_
  clear bb b_ sz_ zr_ 
  go_wp2_with fail
  go_loopw [3, 5] (fun v i wr => ∃ (k : Nat) (U : Nat → Int) (p5 : Nat), (k : Int) ≤ N ∧ i = .int .i64 (N - k) ∧ Hid (Rd wr r s n c p5) ∧ Hid (Beside r w wr) ∧ Hid (Lst bo 2 1 wr v k U) ∧ Hid (bo ≤ wr.heap.size)) (fun _ i _ => (intOf i).toNat)
  case atStart => exact ⟨0, fun _ => 0, pN, by omega, by simp, HR, HS, Ho, Zo⟩
  case round =>
    clear HR HS Ho Zo
    obtain ⟨k, U, p5, hk, rfl, HR, HS, Ho, Zo⟩ := hrel
    by_cases hlt : (k : Int) < N
    case pos =>
      have q0 : 0 < N - (k : Int) := by omega
      go_wp2_with fail
      refine (near_any (-mo) mo (by omega) (by omega) (by omega) (HR.out.below (by repeat (first | with_reducible exact Below.refl _ _ | with_reducible refine Below.setCell ?_ (by first | omega | (simp; done) | (simp; omega)) _ | with_reducible refine bDrewN ?_ _ | with_reducible refine Below.drew ?_ | with_reducible refine Below.alloc ?_ (by first | omega | (simp; done) | (simp; omega)) _)))).mono ?_
      rintro e w4 ⟨a0, pa, rfl, a0a, a0b, R_, b_⟩
      have sz_ : w.heap.size ≤ wr.heap.size := HS.out.2.2.2.1
      have zr_ : r < wr.heap.size := HR.out.1
      have bb : Beside r wr w4 := (Beside.of (show Below wr.heap.size wr _ from (by repeat (first | with_reducible exact Below.refl _ _ | with_reducible refine Below.setCell ?_ (by first | omega | (simp; done) | (simp; omega)) _ | with_reducible refine bDrewN ?_ _ | with_reducible refine Below.drew ?_ | with_reducible refine Below.alloc ?_ (by first | omega | (simp; done) | (simp; omega)) _)))).trans b_
      replace Ho : Hid (Lst bo 2 1 w4 u3 k U) := Ho.out.beside bb (by omega)
      replace Zo : Hid (bo ≤ w4.heap.size) := Nat.le_trans Zo.out bb.2.2.2.1
      replace HS : Hid (Beside r w w4) := HS.out.trans bb
      replace HR : Hid (Rd w4 r s n c pa) := R_
      clear R_
      clear bb b_ sz_ zr_ 
      have zl_ : bo ≤ w4.heap.size := Zo.out
      go_wp2_with (at_builtin; refine list_i64L bo u3 k U (.tmp 18) (.tmp 24) (by rfl) (by rfl) (by rfl) (by rfl) Ho.out (by omega) (by omega) ?_; intro g9 cap9 w5 l9 b9)
      have No : Hid (Lst bo 2 1 w5 (.slice (some ⟨g9, 0, none⟩) (k + 1) cap9) (k + 1) (putL U 1 k [a0])) := l9
      clear zl_ l9
      replace Zo : Hid (bo ≤ w5.heap.size) := Nat.le_trans Zo.out b9.size
      replace HR : Hid (Rd w5 r s n c pa) := Rd.below' HR.out (b9.mono (by omega))
      replace HS : Hid (Beside r w w5) := HS.out.onB (b9.mono (by omega))
      replace Ho := No
      clear b9
      go_roundw
      case rel => exact ⟨k + 1, _, pa, by omega, by congr 1; omega, HR, HS, Ho, Zo⟩
      case measure => simp [intOf]; omega
    case neg =>
      obtain rfl : (k : Int) = N := by omega
      rename World => wl
      have k61 : k ≤ 61 := by omega
      have k1 : 1 ≤ k := by omega
      clear hk hlt N0 N1
      obtain ⟨t1, cap, eu, OW⟩ := Ho.out.own
      cases eu
      obtain ⟨g, rfl, gb, -, -, -⟩ := OW 0 (by omega)
      clear OW
      replace Ho : Hid (Lst bo 2 1 wl (.slice (some ⟨g, 0, none⟩) k cap) k U) := Ho
      go_wp2_with fail
      refine (once_any 24 (by omega) (by omega) (HR.out.below (by repeat (first | with_reducible exact Below.refl _ _ | with_reducible refine Below.setCell ?_ (by first | omega | (simp; done) | (simp; omega)) _ | with_reducible refine bDrewN ?_ _ | with_reducible refine Below.drew ?_ | with_reducible refine Below.alloc ?_ (by first | omega | (simp; done) | (simp; omega)) _)))).mono ?_
      rintro e w4 ⟨f1, p1, rfl, R_, b_⟩
      have sz_ : w.heap.size ≤ wl.heap.size := HS.out.2.2.2.1
      have zr_ : r < wl.heap.size := HR.out.1
      have bb : Beside r wl w4 := (Beside.of (show Below wl.heap.size wl _ from (by repeat (first | with_reducible exact Below.refl _ _ | with_reducible refine Below.setCell ?_ (by first | omega | (simp; done) | (simp; omega)) _ | with_reducible refine bDrewN ?_ _ | with_reducible refine Below.drew ?_ | with_reducible refine Below.alloc ?_ (by first | omega | (simp; done) | (simp; omega)) _)))).trans b_
      replace Ho : Hid (Lst bo 2 1 w4 (.slice (some ⟨g, 0, none⟩) k cap) k U) := Ho.out.beside bb (by omega)
      replace Zo : Hid (bo ≤ w4.heap.size) := Nat.le_trans Zo.out bb.2.2.2.1
      replace HS : Hid (Beside r w w4) := HS.out.trans bb
      replace HR : Hid (Rd w4 r s n c p1) := R_
      clear R_
      clear bb b_ sz_ zr_ 
      cases f1
      case false =>
        go_wp2_with fail
        refine (once_any 24 (by omega) (by omega) (HR.out.below (by repeat (first | with_reducible exact Below.refl _ _ | with_reducible refine Below.setCell ?_ (by first | omega | (simp; done) | (simp; omega)) _ | with_reducible refine bDrewN ?_ _ | with_reducible refine Below.drew ?_ | with_reducible refine Below.alloc ?_ (by first | omega | (simp; done) | (simp; omega)) _)))).mono ?_
        rintro e w5 ⟨f2, p2, rfl, R_, b_⟩
        have sz_ : w.heap.size ≤ w4.heap.size := HS.out.2.2.2.1
        have zr_ : r < w4.heap.size := HR.out.1
        have bb : Beside r w4 w5 := (Beside.of (show Below w4.heap.size w4 _ from (by repeat (first | with_reducible exact Below.refl _ _ | with_reducible refine Below.setCell ?_ (by first | omega | (simp; done) | (simp; omega)) _ | with_reducible refine bDrewN ?_ _ | with_reducible refine Below.drew ?_ | with_reducible refine Below.alloc ?_ (by first | omega | (simp; done) | (simp; omega)) _)))).trans b_
        replace Ho : Hid (Lst bo 2 1 w5 (.slice (some ⟨g, 0, none⟩) k cap) k U) := Ho.out.beside bb (by omega)
        replace Zo : Hid (bo ≤ w5.heap.size) := Nat.le_trans Zo.out bb.2.2.2.1
        replace HS : Hid (Beside r w w5) := HS.out.trans bb
        replace HR : Hid (Rd w5 r s n c p2) := R_
        clear R_
        clear bb b_ sz_ zr_ 
        cases f2
        case false =>
          have BS := HS.out
          go_wp2
          go_ret
          unfold CrsPost
          exact ⟨_, k, _, p2, rfl, by omega, Lst.lowB Ho.out lbo, HR.out, BS⟩
        case true =>
          replace Ho : Hid (Lst bo 2 1 w5 (.slice (some ⟨g, 0, none⟩) 0 cap) 0 (fun _ => 0)) := Lst.none0 Ho.out
          have BS := HS.out
          go_wp2
          go_ret
          unfold CrsPost
          exact ⟨_, 0, _, p2, rfl, by omega, Lst.lowB Ho.out lbo, HR.out, BS⟩
      case true =>
        go_wp2_with fail
        refine (below_any (k : Int) (HR.out.below (by repeat (first | with_reducible exact Below.refl _ _ | with_reducible refine Below.setCell ?_ (by first | omega | (simp; done) | (simp; omega)) _ | with_reducible refine bDrewN ?_ _ | with_reducible refine Below.drew ?_ | with_reducible refine Below.alloc ?_ (by first | omega | (simp; done) | (simp; omega)) _)))).mono ?_
        rintro e w5 ⟨ix, px, rfl, ix0, ix1, ix2, R_, b_⟩
        have sz_ : w.heap.size ≤ w4.heap.size := HS.out.2.2.2.1
        have zr_ : r < w4.heap.size := HR.out.1
        have bb : Beside r w4 w5 := (Beside.of (show Below w4.heap.size w4 _ from (by repeat (first | with_reducible exact Below.refl _ _ | with_reducible refine Below.setCell ?_ (by first | omega | (simp; done) | (simp; omega)) _ | with_reducible refine bDrewN ?_ _ | with_reducible refine Below.drew ?_ | with_reducible refine Below.alloc ?_ (by first | omega | (simp; done) | (simp; omega)) _)))).trans b_
        replace Ho : Hid (Lst bo 2 1 w5 (.slice (some ⟨g, 0, none⟩) k cap) k U) := Ho.out.beside bb (by omega)
        replace Zo : Hid (bo ≤ w5.heap.size) := Nat.le_trans Zo.out bb.2.2.2.1
        replace HS : Hid (Beside r w w5) := HS.out.trans bb
        replace HR : Hid (Rd w5 r s n c px) := R_
        clear R_
        clear bb b_ sz_ zr_ 
        obtain ⟨q, rfl⟩ : ∃ q : Nat, ix = q := ⟨ix.toNat, by omega⟩
        have qk : q < k := by omega
        have qki : (q : Int) < (k : Int) := by omega
        go_wp2_with fail
        refine (off_any (-100000) 100000 (by omega) (by omega) (by omega) (HR.out.below (by repeat (first | with_reducible exact Below.refl _ _ | with_reducible refine Below.setCell ?_ (by first | omega | (simp; done) | (simp; omega)) _ | with_reducible refine bDrewN ?_ _ | with_reducible refine Below.drew ?_ | with_reducible refine Below.alloc ?_ (by first | omega | (simp; done) | (simp; omega)) _)))).mono ?_
        rintro e w6 ⟨va, pv, rfl, va0, R_, b_⟩
        have sz_ : w.heap.size ≤ w5.heap.size := HS.out.2.2.2.1
        have zr_ : r < w5.heap.size := HR.out.1
        have bb : Beside r w5 w6 := (Beside.of (show Below w5.heap.size w5 _ from (by repeat (first | with_reducible exact Below.refl _ _ | with_reducible refine Below.setCell ?_ (by first | omega | (simp; done) | (simp; omega)) _ | with_reducible refine bDrewN ?_ _ | with_reducible refine Below.drew ?_ | with_reducible refine Below.alloc ?_ (by first | omega | (simp; done) | (simp; omega)) _)))).trans b_
        replace Ho : Hid (Lst bo 2 1 w6 (.slice (some ⟨g, 0, none⟩) k cap) k U) := Ho.out.beside bb (by omega)
        replace Zo : Hid (bo ≤ w6.heap.size) := Nat.le_trans Zo.out bb.2.2.2.1
        replace HS : Hid (Beside r w w6) := HS.out.trans bb
        replace HR : Hid (Rd w6 r s n c pv) := R_
        clear R_
        clear bb b_ sz_ zr_ 
        have cq : w6.cell? ⟨g, q, none⟩ = some (.int .i64 (U q)) := Lst.cellAt Ho.out qk
        have fq : w6.frozen? ⟨g, q, none⟩ = false := World.ownsRow.frozenAt Ho.out q
        go_upto_region 9 with fail
        obtain ⟨w7, hw_⟩ : ∃ x_, x_ = w6.setCell ⟨g, q, none⟩ (.int .i64 va) := ⟨_, rfl⟩
        rw [← hw_]
        have sz_ : w.heap.size ≤ w6.heap.size := HS.out.2.2.2.1
        have zr_ : r < w6.heap.size := HR.out.1
        replace HR : Hid (Rd w7 r s n c pv) := by show Rd _ _ _ _ _ _; rw [hw_]; exact Rd.below' HR.out (show Below (r + 1) w6 _ from (by repeat (first | with_reducible exact Below.refl _ _ | with_reducible refine Below.setCell ?_ (by first | omega | (simp; done) | (simp; omega)) _ | with_reducible refine bDrewN ?_ _ | with_reducible refine Below.drew ?_ | with_reducible refine Below.alloc ?_ (by first | omega | (simp; done) | (simp; omega)) _)))
        replace HS : Hid (Beside r w w7) := by show Beside _ _ _; rw [hw_]; exact HS.out.onB (show Below w.heap.size w6 _ from (by repeat (first | with_reducible exact Below.refl _ _ | with_reducible refine Below.setCell ?_ (by first | omega | (simp; done) | (simp; omega)) _ | with_reducible refine bDrewN ?_ _ | with_reducible refine Below.drew ?_ | with_reducible refine Below.alloc ?_ (by first | omega | (simp; done) | (simp; omega)) _)))
        replace Ho : Hid (∃ U2, Lst bo 2 1 w7 (.slice (some ⟨g, 0, none⟩) k cap) k U2) := by show ∃ U2, Lst _ _ _ _ _ _ U2; rw [hw_]; exact ⟨_, Lst.put1 Ho.out q va qk⟩
        obtain ⟨U2, Ho2⟩ := Ho.out
        replace Ho : Hid (Lst bo 2 1 w7 (.slice (some ⟨g, 0, none⟩) k cap) k U2) := Ho2
        replace Zo : Hid (bo ≤ w7.heap.size) := by show _ ≤ _; rw [hw_]; simpa using Zo.out
        clear hw_ Ho2 cq fq sz_ zr_
        go_wp2_with fail
        refine (once_any 24 (by omega) (by omega) (HR.out.below (by repeat (first | with_reducible exact Below.refl _ _ | with_reducible refine Below.setCell ?_ (by first | omega | (simp; done) | (simp; omega)) _ | with_reducible refine bDrewN ?_ _ | with_reducible refine Below.drew ?_ | with_reducible refine Below.alloc ?_ (by first | omega | (simp; done) | (simp; omega)) _)))).mono ?_
        rintro e w8 ⟨f2, p2, rfl, R_, b_⟩
        have sz_ : w.heap.size ≤ w7.heap.size := HS.out.2.2.2.1
        have zr_ : r < w7.heap.size := HR.out.1
        have bb : Beside r w7 w8 := (Beside.of (show Below w7.heap.size w7 _ from (by repeat (first | with_reducible exact Below.refl _ _ | with_reducible refine Below.setCell ?_ (by first | omega | (simp; done) | (simp; omega)) _ | with_reducible refine bDrewN ?_ _ | with_reducible refine Below.drew ?_ | with_reducible refine Below.alloc ?_ (by first | omega | (simp; done) | (simp; omega)) _)))).trans b_
        replace Ho : Hid (Lst bo 2 1 w8 (.slice (some ⟨g, 0, none⟩) k cap) k U2) := Ho.out.beside bb (by omega)
        replace Zo : Hid (bo ≤ w8.heap.size) := Nat.le_trans Zo.out bb.2.2.2.1
        replace HS : Hid (Beside r w w8) := HS.out.trans bb
        replace HR : Hid (Rd w8 r s n c p2) := R_
        clear R_
        clear bb b_ sz_ zr_ 
        cases f2
        case false =>
          have BS := HS.out
          go_wp2
          go_ret
          unfold CrsPost
          exact ⟨_, k, _, p2, rfl, by omega, Lst.lowB Ho.out lbo, HR.out, BS⟩
        case true =>
          replace Ho : Hid (Lst bo 2 1 w8 (.slice (some ⟨g, 0, none⟩) 0 cap) 0 (fun _ => 0)) := Lst.none0 Ho.out
          have BS := HS.out
          go_wp2
          go_ret
          unfold CrsPost
          exact ⟨_, 0, _, p2, rfl, by omega, Lst.lowB Ho.out lbo, HR.out, BS⟩
def TrnPost (w : World) (e : Ending) (w' : World) : Prop := ∃ (t : Option Addr) (m cap : Nat) (U : Nat → Int), e = .returned (.slice t m cap) ∧ m ≤ 401 ∧ RowI w' t m U ∧ Below w.heap.size w w'
theorem Lst.val {base : Nat} {w : World} {v : Value} {k : Nat} {U : Nat → Int} (h : Lst base 2 1 w v k U) : ∃ t cap, v = .slice t k cap ∧ RowI w t k U := by
  obtain ⟨t, cap, e, O⟩ := h.own
  rw [Nat.mul_one] at O
  exact ⟨t, cap, e, O.row⟩
set_option maxRecDepth 20000 in
set_option maxHeartbeats 8000000 in
theorem drawTurnings_any {s : Option Addr} {n c : Nat} {w : World} (h : Hid (Code8 w s n)) :
    Calls Try.prog 42 #[.slice s n c] w fun e w' => TrnPost w e w' := by
  go_enter Try.func42, Try.ntmps42
  go_wp2_with fail
  refine (open_any (h.out.below (by repeat (first | with_reducible exact Below.refl _ _ | with_reducible refine Below.setCell ?_ (by first | omega | (simp; done) | (simp; omega)) _ | with_reducible refine bDrewN ?_ _ | with_reducible refine Below.drew ?_ | with_reducible refine Below.alloc ?_ (by first | omega | (simp; done) | (simp; omega)) _)))).mono ?_
  rintro e w1 ⟨rfl, R_, b_⟩
  obtain ⟨r, hr⟩ : ∃ r, r = w.heap.size := ⟨_, rfl⟩
  have HR : Hid (Rd w1 r s n c 0) := by show Rd _ _ _ _ _ _; rw [hr]; simpa using R_
  have HB : Hid (Below w.heap.size w w1) := b_
  have zr : w.heap.size ≤ r := by omega
  try rw [← hr]
  clear R_ b_ h hr
  go_wp2_with fail
  refine (course_any HR).mono ?_
  rintro e w2 hC
  unfold CrsPost at hC
  obtain ⟨v, m, U, p2, rfl, hm, hL, hR, bS⟩ := hC
  have z1 : r < w1.heap.size := HR.out.1
  replace HR : Hid (Rd w2 r s n c p2) := hR
  have HL : Hid (Lst (r + 1) 2 1 w2 v m U) := Lst.lowB hL (by omega)
  replace HB : Hid (Below w.heap.size w w2) := HB.out.trans (bS.below (by omega) HB.out.size)
  clear hL hR bS z1
  go_wp2_with fail
  refine (once_any 40 (by omega) (by omega) HR).mono ?_
  rintro e w3 ⟨f1, p3, rfl, hR, bS⟩
  have z2 : r < w2.heap.size := HR.out.1
  replace HR : Hid (Rd w3 r s n c p3) := hR
  replace HL : Hid (Lst (r + 1) 2 1 w3 v m U) := HL.out.beside bS (by omega)
  replace HB : Hid (Below w.heap.size w w3) := HB.out.trans (bS.below (by omega) HB.out.size)
  clear hR bS z2
  cases f1
  case false =>
    obtain ⟨t, cap, rfl, hrow⟩ := Lst.val HL.out
    have hB := HB.out
    go_wp2
    go_ret
    unfold TrnPost
    exact ⟨t, m, cap, U, rfl, by omega, hrow, hB⟩
  case true =>
    go_wp2_with fail
    refine (below_any 2 HR).mono ?_
    rintro e w4 ⟨x, p4, rfl, x0, -, x2, hR, bS⟩
    have z3 : r < w3.heap.size := HR.out.1
    replace HL : Hid (Lst (r + 1) 2 1 w4 v m U) := HL.out.beside bS (by omega)
    replace HB : Hid (Below w.heap.size w w4) := HB.out.trans (bS.below (by omega) HB.out.size)
    have z4 : r < w4.heap.size := hR.1
    clear hR bS z3 HR
    obtain ⟨M, hM⟩ : ∃ M : Nat, 400 + x = (M : Int) := ⟨(400 + x).toNat, by omega⟩
    have M1 : 400 ≤ M := by omega
    have M2 : M ≤ 401 := by omega
    go_upto_region 5 with fail
    try rw [hM]
    clear hM x0 x2
    go_wp2_with fail
    go_loopw [4] (fun v wx => ∃ (k : Nat) (U : Nat → Int), k ≤ M ∧ Hid (Lst (r + 1) 2 1 wx v k U) ∧ Hid (Below w.heap.size w wx) ∧ r < wx.heap.size) (fun v _ => 500 - lenL v)
    case atStart => exact ⟨m, U, by omega, HL, HB, z4⟩
    case round =>
      clear HL HB z4
      obtain ⟨k, U1, hk, HL, HB, z5⟩ := hrel
      obtain ⟨t, cap, e9, hrow⟩ := Lst.val HL.out
      subst e9
      by_cases hlt : k < M
      · have k1 : (k : Int) < (M : Int) := by omega
        have k2 : (k : Int) ≤ 401 := by omega
        obtain ⟨y, hy⟩ : ∃ y, (k : Int) * 7 = y := ⟨_, rfl⟩
        have y0 : 0 ≤ y := by omega
        have y1 : y ≤ 10000 := by omega
        have w7 : IntKind.i64.wrap ((k : Int) * 7) = y := by rw [hy, IntKind.wrap_i64]; omega
        obtain ⟨z, hz⟩ : ∃ z, Int.tmod y 11 = z := ⟨_, rfl⟩
        clear hrow
        go_wp2_with (at_builtin; refine list_i64L (r + 1) (.slice t k cap) k U1 (.tmp 19) (.tmp 24) (by rfl) (by rfl) (by rfl) (by rfl) HL.out (by omega) (by omega) ?_; intro g9 cap9 w9 l9 b9)
        have HB9 : Hid (Below w.heap.size w w9) := HB.out.trans (b9.mono (by omega))
        have z9 : r < w9.heap.size := Nat.lt_of_lt_of_le z5 b9.size
        go_roundw
        case rel => exact ⟨k + 1, _, by omega, l9, HB9, z9⟩
        case measure => simp [lenL]; omega
      · have k1 : ¬ (k : Int) < (M : Int) := by omega
        have hB := HB.out
        go_wp2
        go_ret
        unfold TrnPost
        exact ⟨t, k, cap, U1, rfl, by omega, hrow, hB⟩
theorem drawRain_any {s : Option Addr} {n c : Nat} {w : World} (h : Hid (Code8 w s n)) :
    Calls Try.prog 18 #[.slice s n c] w fun e w' => TrnPost w e w' := by
  go_enter Try.func18, Try.ntmps18
  go_wp2_with fail
  refine (drawTurnings_any h).mono ?_
  rintro e w1 hT
  unfold TrnPost at hT
  obtain ⟨t, m, cap, U, rfl, h1, h2, h3⟩ := hT
  go_wp2
  go_ret
  unfold TrnPost
  exact ⟨t, m, cap, U, rfl, h1, h2, h3⟩
set_option maxHeartbeats 1000000 in
theorem abs_any (a : Int) (w : World) (h : -1000000 ≤ a ∧ a ≤ 1000000) : Calls Try.prog 22 #[.int .i64 a] w fun e w' => e = .returned (.int .i64 (if a < 0 then -a else a)) ∧ w' = w := by
  by_cases q : a < 0
  · rw [if_pos q]
    go_enter Try.func22, Try.ntmps22
    go_wp2
    go_ret
    exact ⟨rfl, rfl⟩
  · rw [if_neg q]
    go_enter Try.func22, Try.ntmps22
    go_wp2
    go_ret
    exact ⟨rfl, rfl⟩
set_option maxRecDepth 20000 in
set_option maxHeartbeats 2000000 in
theorem sameInts_any (s t : Option Addr) (n c d : Nat) (V : Nat → Int) (w : World) (hn : (n : Int) ≤ 1048576) (HR : Hid (RowI w s n V)) (HT : Hid (RowI w t n V)) :
    Calls Try.prog 21 #[.slice s n c, .slice t n d] w fun e w' => e = .returned (.bool true) ∧ Below w.heap.size w w' := by
  go_enter Try.func21, Try.ntmps21
  go_wp2_with fail
  go_loopw [5] (fun i wx => ∃ k : Nat, k ≤ n ∧ i = .int .i64 k ∧ Below w.heap.size w wx) (fun i _ => n - (intOf i).toNat)
  case atStart => exact ⟨0, Nat.zero_le _, rfl, Below.refl _ _⟩
  case round =>
    obtain ⟨k, hk, rfl, hB⟩ := hrel
    have HB : Hid (Below w.heap.size w wr) := hB
    by_cases h1 : k < n
    · obtain ⟨g, o, rfl, hg, c0⟩ := HR.out k h1
      obtain ⟨g2, o2, rfl, hg2, c1⟩ := HT.out k h1
      replace c0 := (hB.cell (p := ⟨g, o + k, none⟩) hg).trans c0
      replace c1 := (hB.cell (p := ⟨g2, o2 + k, none⟩) hg2).trans c1
      have kn : (k : Int) < (n : Int) := by omega
      have nv : (V k != V k) = false := by simp
      clear hB
      go_upto_region 6 with fail
      go_quiet (fail)
      go_wp2
      go_roundw
      case rel => exact ⟨k + 1, by omega, by go_num, HB.out.trans ((bDrewN (Below.refl _ _) _).mono HB.out.size)⟩
      case measure => simp [intOf]; omega
    · obtain rfl : k = n := by omega
      go_wp2
      go_ret
      exact ⟨rfl, hB⟩
end Go.Proofs.Ythengechoaodcaa
