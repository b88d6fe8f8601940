/-
What is proved: a curve that is drawn, not steep: any knots, at most 14.
-/
import Derived.Test.YtiamhpopgnblcaaLsKnot
import Derived.Deep.DeepCutAuto
import Derived.RegionTactic
namespace Go.Proofs.Ytiamhpopgnblcaa
set_option maxRecDepth 40000
open Go.ChangeShapes Go.WideShapes Go.ChangeAt Go.RowKit
set_option linter.unusedVariables false
set_option linter.unusedSimpArgs false

def CurPost (r : Nat) (s : Option Addr) (n c : Nat) (w : World) (e : Ending) (w' : World) : Prop := ∃ (t : Option Addr) (m cap : Nat) (U : Nat → Int) (p' : Nat), e = .returned (.slice t m cap) ∧ 1 ≤ m ∧ m ≤ 14 ∧ OwnI w.heap.size w' t (m * 2) U ∧ Rd w' r s n c p' ∧ Beside r w w'
theorem ownB_beside {base r : Nat} {w w' : World} {s : Option Addr} {m : Nat} {V : Nat → Int} (h : OwnI base w s m V) (hb : Beside r w w') (hr : r < base) : OwnI base w' s m V := fun j hj => by
  obtain ⟨b, e, hB, hl, hc, hf⟩ := h j hj
  exact ⟨b, e, hB, Nat.lt_of_lt_of_le hl hb.2.2.2.1, (hb.cell (p := ⟨b, j, none⟩) hl (by simp only; omega)).trans hc, (hb.frozen (p := ⟨b, j, none⟩) hl (by simp only; omega)).trans hf⟩
theorem OwnI.putB {base g m : Nat} {w : World} {V : Nat → Int} (h : OwnI base w (some ⟨g, 0, none⟩) m V) (i : Nat) (x : Int) : OwnI base (w.setCell ⟨g, i, none⟩ (.int .i64 x)) (some ⟨g, 0, none⟩) m (fun j => if j = i then x else V j) := fun j hj => by
  obtain ⟨b, e, hB, hl, hc, hf⟩ := h j hj
  cases e
  refine ⟨g, rfl, hB, by simpa using hl, ?_, by simp [go_sem, hf]⟩
  by_cases q : j = i
  · subst q; simp [go_sem, hc]
  · simp [go_sem, hc, q]
set_option maxRecDepth 20000 in
set_option maxHeartbeats 16000000 in
theorem curve_any {r : Nat} {s : Option Addr} {n c p : Nat} {w : World} (h : Hid (Rd w r s n c p)) :
    Calls Try.prog 44 #[.pointer (some ⟨r, 0, none⟩), .bool false] w fun e w' => CurPost r s n c w e w' := by
  have zr : r < w.heap.size := h.out.1
  have HR : Hid (Rd w r s n c p) := h
  have HS : Hid (Beside r w w) := Beside.of (Below.refl _ _)
  clear h
  go_enter Try.func44, Try.ntmps44
  obtain ⟨-, -, rc0, -, -, rn, -⟩ := HR.out
  have n1 : (n : Int) ≤ 1048576 := by omega
  clear rn
  obtain ⟨mm, hm_, hm8⟩ : ∃ mm : Int, (if (12 : Int) < 1 + (n : Int) / 6 then 12 else 1 + (n : Int) / 6) = mm ∧ mm ≤ 12 := ⟨_, rfl, by split <;> omega⟩
  go_wp2_with fail
  refine (below_any mm (HR.out.below (by repeat (first | with_reducible exact Below.refl _ _ | with_reducible refine Below.setCell ?_ (by first | omega | (simp; done) | (simp; omega)) _ | with_reducible refine bDrewN ?_ _ | with_reducible refine Below.drew ?_ | with_reducible refine Below.alloc ?_ (by first | omega | (simp; done) | (simp; omega)) _)))).mono ?_
  rintro e w1 ⟨N, pN, rfl, N0, N1, N2, R_, b_⟩
  have sz_ : w.heap.size ≤ w.heap.size := HS.out.2.2.2.1
  have zr_ : r < w.heap.size := HR.out.1
  have bb : Beside r w w1 := (Beside.of (show Below w.heap.size w _ from (by repeat (first | with_reducible exact Below.refl _ _ | with_reducible refine Below.setCell ?_ (by first | omega | (simp; done) | (simp; omega)) _ | with_reducible refine bDrewN ?_ _ | with_reducible refine Below.drew ?_ | with_reducible refine Below.alloc ?_ (by first | omega | (simp; done) | (simp; omega)) _)))).trans b_
  replace HS : Hid (Beside r w w1) := HS.out.trans bb
  replace HR : Hid (Rd w1 r s n c pN) := R_
  clear R_
  clear bb b_ sz_ zr_ 
  clear rc0 hm_
  have N12 : N ≤ 12 := by omega
  clear N1 N2
  have wN : IntKind.i64.wrap (2 + N) = 2 + N := by rw [IntKind.wrap_i64]; omega
  go_wp2_with fail
  refine (below_any 4 (HR.out.below (by repeat (first | with_reducible exact Below.refl _ _ | with_reducible refine Below.setCell ?_ (by first | omega | (simp; done) | (simp; omega)) _ | with_reducible refine bDrewN ?_ _ | with_reducible refine Below.drew ?_ | with_reducible refine Below.alloc ?_ (by first | omega | (simp; done) | (simp; omega)) _)))).mono ?_
  rintro e w2 ⟨j1, p1, rfl, j1a, j1b, j1c, R_, b_⟩
  have sz_ : w.heap.size ≤ w1.heap.size := HS.out.2.2.2.1
  have zr_ : r < w1.heap.size := HR.out.1
  have bb : Beside r w1 w2 := (Beside.of (show Below w1.heap.size w1 _ from (by repeat (first | with_reducible exact Below.refl _ _ | with_reducible refine Below.setCell ?_ (by first | omega | (simp; done) | (simp; omega)) _ | with_reducible refine bDrewN ?_ _ | with_reducible refine Below.drew ?_ | with_reducible refine Below.alloc ?_ (by first | omega | (simp; done) | (simp; omega)) _)))).trans b_
  obtain ⟨gt, hgt⟩ : ∃ g, g = w1.heap.size := ⟨_, rfl⟩
  have Ht : Hid (Blk w2 gt [.int .i64 1, .int .i64 3, .int .i64 40, .int .i64 5000]) := by
    show Blk _ _ _
    have q := ((Blk.new w1 #[.int .i64 1, .int .i64 3, .int .i64 40, .int .i64 5000] 2)).beside b_ (by first | omega | (simp; omega))
    rw [hgt]; exact q
  replace HS : Hid (Beside r w w2) := HS.out.trans bb
  replace HR : Hid (Rd w2 r s n c p1) := R_
  clear R_
  have lgt : w.heap.size ≤ gt := by omega
  have rgt : r < gt := by omega
  try rw [← hgt]
  clear hgt
  clear bb b_ sz_ zr_ 
  have pk_ : Hid (Blk w2 gt (List.map (Value.int .i64) [1, 3, 40, 5000])) := Ht
  obtain ⟨j1n, ga, rfl, j1l, j1v, j1m⟩ := picked (w' := w2) pk_.out j1a (by simp; omega)
  have gaa : 1 ≤ ga := by simp at j1m; omega
  have gab : ga ≤ 5000 := by simp at j1m; omega
  have j1l2 : ((j1n : Nat) : Int) < 4 := by simpa using j1l
  clear pk_ j1m j1b j1c j1l
  go_wp2_with fail
  refine (near_any (-40) 40 (by omega) (by omega) (by omega) (HR.out.below (by repeat (first | with_reducible exact Below.refl _ _ | with_reducible refine Below.setCell ?_ (by first | omega | (simp; done) | (simp; omega)) _ | with_reducible refine bDrewN ?_ _ | with_reducible refine Below.drew ?_ | with_reducible refine Below.alloc ?_ (by first | omega | (simp; done) | (simp; omega)) _)))).mono ?_
  rintro e w3 ⟨x, px, rfl, x0, x1, R_, b_⟩
  have Ht_z : gt < w2.heap.size := Ht.out.1
  have sz_ : w.heap.size ≤ w2.heap.size := HS.out.2.2.2.1
  have zr_ : r < w2.heap.size := HR.out.1
  have bb : Beside r w2 w3 := (Beside.of (show Below w2.heap.size w2 _ from (by repeat (first | with_reducible exact Below.refl _ _ | with_reducible refine Below.setCell ?_ (by first | omega | (simp; done) | (simp; omega)) _ | with_reducible refine bDrewN ?_ _ | with_reducible refine Below.drew ?_ | with_reducible refine Below.alloc ?_ (by first | omega | (simp; done) | (simp; omega)) _)))).trans b_
  replace Ht : Hid (Blk w3 gt [.int .i64 1, .int .i64 3, .int .i64 40, .int .i64 5000]) := Ht.out.beside bb (by omega)
  replace HS : Hid (Beside r w w3) := HS.out.trans bb
  replace HR : Hid (Rd w3 r s n c px) := R_
  clear R_
  clear bb b_ sz_ zr_ Ht_z
  clear j1v
  clear Ht
  go_wp2_with fail
  refine (near_any (-40) 40 (by omega) (by omega) (by omega) (HR.out.below (by repeat (first | with_reducible exact Below.refl _ _ | with_reducible refine Below.setCell ?_ (by first | omega | (simp; done) | (simp; omega)) _ | with_reducible refine bDrewN ?_ _ | with_reducible refine Below.drew ?_ | with_reducible refine Below.alloc ?_ (by first | omega | (simp; done) | (simp; omega)) _)))).mono ?_
  rintro e w4 ⟨y, py, rfl, y0, y1, R_, b_⟩
  have sz_ : w.heap.size ≤ w3.heap.size := HS.out.2.2.2.1
  have zr_ : r < w3.heap.size := HR.out.1
  have bb : Beside r w3 w4 := (Beside.of (show Below w3.heap.size w3 _ from (by repeat (first | with_reducible exact Below.refl _ _ | with_reducible refine Below.setCell ?_ (by first | omega | (simp; done) | (simp; omega)) _ | with_reducible refine bDrewN ?_ _ | with_reducible refine Below.drew ?_ | with_reducible refine Below.alloc ?_ (by first | omega | (simp; done) | (simp; omega)) _)))).trans b_
  replace HS : Hid (Beside r w w4) := HS.out.trans bb
  replace HR : Hid (Rd w4 r s n c py) := R_
  clear R_
  clear bb b_ sz_ zr_ 
  go_upto_region 6 with fail
  have sz_ : w.heap.size ≤ w4.heap.size := HS.out.2.2.2.1
  have zr_ : r < w4.heap.size := HR.out.1
  obtain ⟨w5, hw_⟩ : ∃ x_, x_ = w4.alloc (.cells #[] 67) := ⟨_, rfl⟩
  rw [← hw_]
  have bl_ : Below w4.heap.size w4 w5 := by rw [hw_]; exact below0 _ _
  obtain ⟨bo, hbo⟩ : ∃ g, g = w4.heap.size := ⟨_, rfl⟩
  have Ho : Hid (Lst bo 67 2 w5 (.slice (some ⟨bo, 0, none⟩) 0 0) 0 (fun _ => 0)) := by show Lst _ _ _ _ _ _ _; rw [hw_, hbo]; exact Lst.lit w4 _ 67 67 2 _ (Nat.le_refl _)
  replace HR : Hid (Rd w5 r s n c py) := HR.out.below bl_
  replace HS : Hid (Beside r w w5) := HS.out.onB (bl_.mono sz_)
  have lbo : w.heap.size ≤ bo := by omega
  have rbo : r < bo := by omega
  have Zo : Hid (bo ≤ w5.heap.size) := by show _ ≤ _; have := bl_.size; omega
  try rw [← hbo]
  clear hw_ hbo bl_ sz_ zr_ 
  obtain ⟨M, hM⟩ : ∃ M : Nat, 2 + N = (M : Int) := ⟨(2 + N).toNat, by omega⟩
  have M2 : 2 ≤ M := by omega
  have M14 : M ≤ 14 := by omega
  rw [hM]
  clear hM N0 N12 wN
  go_wp2_with fail
  go_loopw [7, 8, 9, 10] (fun xv yv v i wr => ∃ (k : Nat) (U : Nat → Int) (p5 : Nat) (x y : Int), k ≤ M ∧ xv = .int .i64 x ∧ yv = .int .i64 y ∧ i = .int .i64 (k : Int) ∧ Hid (Rd wr r s n c p5) ∧ Hid (Beside r w wr) ∧ Hid (Lst bo 67 2 wr v k U) ∧ Hid (bo ≤ wr.heap.size)) (fun _ _ _ i _ => M - (intOf i).toNat)
  case atStart => exact ⟨0, fun _ => 0, py, x, y, by omega, rfl, rfl, rfl, HR, HS, Ho, Zo⟩
  case round =>
    clear x0 x1 y0 y1
    clear HR HS Ho Zo
    obtain ⟨k, U, p5, x, y, hk, rfl, rfl, rfl, HR, HS, Ho, Zo⟩ := hrel
    by_cases hlt : k < M
    case pos =>
      have k1 : (k : Int) < (M : Int) := by omega
      go_upto_region 10 with (at_builtin; refine list_Knot bo u9 k U (.tmp 39) (.tmp 43) (by rfl) (by rfl) (by rfl) (by rfl) Ho.out (by omega) Zo.out ?_; intro g9 cap9 w6 l9 b9)
      have No : Hid (Lst bo 67 2 w6 (.slice (some ⟨g9, 0, none⟩) (k + 1) cap9) (k + 1) (putL U 2 k [x, y])) := l9
      clear l9
      replace Zo : Hid (bo ≤ w6.heap.size) := Nat.le_trans Zo.out b9.size
      replace HR : Hid (Rd w6 r s n c p5) := Rd.below' HR.out (b9.mono (by omega))
      replace HS : Hid (Beside r w w6) := HS.out.onB (b9.mono (by omega))
      replace Ho := No
      clear b9 No
      obtain ⟨z1, hz1⟩ : ∃ z : Int, IntKind.i64.wrap (x + 1) = z := ⟨_, rfl⟩
      go_wp2_with fail
      refine (upto_any ga (wfi (by omega) (by omega)) (HR.out.below (by repeat (first | with_reducible exact Below.refl _ _ | with_reducible refine Below.setCell ?_ (by first | omega | (simp; done) | (simp; omega)) _ | with_reducible refine bDrewN ?_ _ | with_reducible refine Below.drew ?_ | with_reducible refine Below.alloc ?_ (by first | omega | (simp; done) | (simp; omega)) _)))).mono ?_
      rintro e w7 ⟨u1, pu, rfl, u1a, u1b, R_, b_⟩
      have sz_ : w.heap.size ≤ w6.heap.size := HS.out.2.2.2.1
      have zr_ : r < w6.heap.size := HR.out.1
      have bb : Beside r w6 w7 := (Beside.of (show Below w6.heap.size w6 _ from (by repeat (first | with_reducible exact Below.refl _ _ | with_reducible refine Below.setCell ?_ (by first | omega | (simp; done) | (simp; omega)) _ | with_reducible refine bDrewN ?_ _ | with_reducible refine Below.drew ?_ | with_reducible refine Below.alloc ?_ (by first | omega | (simp; done) | (simp; omega)) _)))).trans b_
      replace Ho : Hid (Lst bo 67 2 w7 (.slice (some ⟨g9, 0, none⟩) (k + 1) cap9) (k + 1) (putL U 2 k [x, y])) := Ho.out.beside bb (by omega)
      replace Zo : Hid (bo ≤ w7.heap.size) := Nat.le_trans Zo.out bb.2.2.2.1
      replace HS : Hid (Beside r w w7) := HS.out.trans bb
      replace HR : Hid (Rd w7 r s n c pu) := R_
      clear R_
      clear bb b_ sz_ zr_ 
      try rw [hz1]
      obtain ⟨z2, hz2⟩ : ∃ z : Int, IntKind.i64.wrap (z1 + u1) = z := ⟨_, rfl⟩
      go_wp2_with fail
      refine (once_any 2 (by omega) (by omega) (HR.out.below (by repeat (first | with_reducible exact Below.refl _ _ | with_reducible refine Below.setCell ?_ (by first | omega | (simp; done) | (simp; omega)) _ | with_reducible refine bDrewN ?_ _ | with_reducible refine Below.drew ?_ | with_reducible refine Below.alloc ?_ (by first | omega | (simp; done) | (simp; omega)) _)))).mono ?_
      rintro e w8 ⟨fl, pf, rfl, R_, b_⟩
      have sz_ : w.heap.size ≤ w7.heap.size := HS.out.2.2.2.1
      have zr_ : r < w7.heap.size := HR.out.1
      have bb : Beside r w7 w8 := (Beside.of (show Below w7.heap.size w7 _ from (by repeat (first | with_reducible exact Below.refl _ _ | with_reducible refine Below.setCell ?_ (by first | omega | (simp; done) | (simp; omega)) _ | with_reducible refine bDrewN ?_ _ | with_reducible refine Below.drew ?_ | with_reducible refine Below.alloc ?_ (by first | omega | (simp; done) | (simp; omega)) _)))).trans b_
      replace Ho : Hid (Lst bo 67 2 w8 (.slice (some ⟨g9, 0, none⟩) (k + 1) cap9) (k + 1) (putL U 2 k [x, y])) := Ho.out.beside bb (by omega)
      replace Zo : Hid (bo ≤ w8.heap.size) := Nat.le_trans Zo.out bb.2.2.2.1
      replace HS : Hid (Beside r w w8) := HS.out.trans bb
      replace HR : Hid (Rd w8 r s n c pf) := R_
      clear R_
      clear bb b_ sz_ zr_ 
      try rw [hz2]
      clear hz1 hz2 u1a u1b
      have wg : IntKind.i64.wrap (2 * ga) = 2 * ga := by rw [IntKind.wrap_i64]; omega
      cases fl
      · skip
        go_wp2_with fail
        refine (upto_any (2 * ga) (wfi (by omega) (by omega)) (HR.out.below (by repeat (first | with_reducible exact Below.refl _ _ | with_reducible refine Below.setCell ?_ (by first | omega | (simp; done) | (simp; omega)) _ | with_reducible refine bDrewN ?_ _ | with_reducible refine Below.drew ?_ | with_reducible refine Below.alloc ?_ (by first | omega | (simp; done) | (simp; omega)) _)))).mono ?_
        rintro e w9 ⟨u2, pv, rfl, u2a, u2b, R_, b_⟩
        have sz_ : w.heap.size ≤ w8.heap.size := HS.out.2.2.2.1
        have zr_ : r < w8.heap.size := HR.out.1
        have bb : Beside r w8 w9 := (Beside.of (show Below w8.heap.size w8 _ from (by repeat (first | with_reducible exact Below.refl _ _ | with_reducible refine Below.setCell ?_ (by first | omega | (simp; done) | (simp; omega)) _ | with_reducible refine bDrewN ?_ _ | with_reducible refine Below.drew ?_ | with_reducible refine Below.alloc ?_ (by first | omega | (simp; done) | (simp; omega)) _)))).trans b_
        replace Ho : Hid (Lst bo 67 2 w9 (.slice (some ⟨g9, 0, none⟩) (k + 1) cap9) (k + 1) (putL U 2 k [x, y])) := Ho.out.beside bb (by omega)
        replace Zo : Hid (bo ≤ w9.heap.size) := Nat.le_trans Zo.out bb.2.2.2.1
        replace HS : Hid (Beside r w w9) := HS.out.trans bb
        replace HR : Hid (Rd w9 r s n c pv) := R_
        clear R_
        clear bb b_ sz_ zr_ 
        obtain ⟨z4, hz4⟩ : ∃ z : Int, IntKind.i64.wrap (y - u2) = z := ⟨_, rfl⟩
        go_wp2
        go_roundw
        case rel => exact ⟨k + 1, _, pv, _, _, by omega, rfl, rfl, by go_num, HR, HS, Ho, Zo⟩
        case measure => simp [intOf]; omega
      · skip
        obtain ⟨z3, hz3⟩ : ∃ z : Int, IntKind.i64.wrap (y + 1) = z := ⟨_, rfl⟩
        go_wp2_with fail
        refine (upto_any (2 * ga) (wfi (by omega) (by omega)) (HR.out.below (by repeat (first | with_reducible exact Below.refl _ _ | with_reducible refine Below.setCell ?_ (by first | omega | (simp; done) | (simp; omega)) _ | with_reducible refine bDrewN ?_ _ | with_reducible refine Below.drew ?_ | with_reducible refine Below.alloc ?_ (by first | omega | (simp; done) | (simp; omega)) _)))).mono ?_
        rintro e w9 ⟨u2, pv, rfl, u2a, u2b, R_, b_⟩
        have sz_ : w.heap.size ≤ w8.heap.size := HS.out.2.2.2.1
        have zr_ : r < w8.heap.size := HR.out.1
        have bb : Beside r w8 w9 := (Beside.of (show Below w8.heap.size w8 _ from (by repeat (first | with_reducible exact Below.refl _ _ | with_reducible refine Below.setCell ?_ (by first | omega | (simp; done) | (simp; omega)) _ | with_reducible refine bDrewN ?_ _ | with_reducible refine Below.drew ?_ | with_reducible refine Below.alloc ?_ (by first | omega | (simp; done) | (simp; omega)) _)))).trans b_
        replace Ho : Hid (Lst bo 67 2 w9 (.slice (some ⟨g9, 0, none⟩) (k + 1) cap9) (k + 1) (putL U 2 k [x, y])) := Ho.out.beside bb (by omega)
        replace Zo : Hid (bo ≤ w9.heap.size) := Nat.le_trans Zo.out bb.2.2.2.1
        replace HS : Hid (Beside r w w9) := HS.out.trans bb
        replace HR : Hid (Rd w9 r s n c pv) := R_
        clear R_
        clear bb b_ sz_ zr_ 
        try rw [hz3]
        obtain ⟨z4, hz4⟩ : ∃ z : Int, IntKind.i64.wrap (z3 + u2) = z := ⟨_, rfl⟩
        go_wp2
        go_roundw
        case rel => exact ⟨k + 1, _, pv, _, _, by omega, rfl, rfl, by go_num, HR, HS, Ho, Zo⟩
        case measure => simp [intOf]; omega
    case neg =>
      obtain rfl : k = M := by omega
      clear hlt hk
      rename World => wl
      obtain ⟨t1, cap, eu, OW⟩ := Ho.out.own
      cases eu
      obtain ⟨g, rfl, gb, -, -, -⟩ := OW 0 (by omega)
      have hcap := Ho.out.cap
      have HO : Hid (OwnI bo wl (some ⟨g, 0, none⟩) (k * 2) U) := OW
      clear OW Ho Zo
      go_wp2_with fail
      refine (below_any 20 (HR.out.below (by repeat (first | with_reducible exact Below.refl _ _ | with_reducible refine Below.setCell ?_ (by first | omega | (simp; done) | (simp; omega)) _ | with_reducible refine bDrewN ?_ _ | with_reducible refine Below.drew ?_ | with_reducible refine Below.alloc ?_ (by first | omega | (simp; done) | (simp; omega)) _)))).mono ?_
      rintro e w6 ⟨kk, pk, rfl, kk0, kk1, kk2, R_, b_⟩
      have sz_ : w.heap.size ≤ wl.heap.size := HS.out.2.2.2.1
      have zr_ : r < wl.heap.size := HR.out.1
      have bb : Beside r wl w6 := (Beside.of (show Below wl.heap.size wl _ from (by repeat (first | with_reducible exact Below.refl _ _ | with_reducible refine Below.setCell ?_ (by first | omega | (simp; done) | (simp; omega)) _ | with_reducible refine bDrewN ?_ _ | with_reducible refine Below.drew ?_ | with_reducible refine Below.alloc ?_ (by first | omega | (simp; done) | (simp; omega)) _)))).trans b_
      replace HS : Hid (Beside r w w6) := HS.out.trans bb
      replace HR : Hid (Rd w6 r s n c pk) := R_
      clear R_
      replace HO : Hid (OwnI bo w6 (some ⟨g, 0, none⟩) (k * 2) U) := ownB_beside HO.out bb (by omega)
      clear bb b_ sz_ zr_ 
      clear kk1 kk2
      by_cases e0 : kk = 0
      case pos =>
        subst e0
        go_wp2_with fail
        refine (below_any 2 (HR.out.below (by repeat (first | with_reducible exact Below.refl _ _ | with_reducible refine Below.setCell ?_ (by first | omega | (simp; done) | (simp; omega)) _ | with_reducible refine bDrewN ?_ _ | with_reducible refine Below.drew ?_ | with_reducible refine Below.alloc ?_ (by first | omega | (simp; done) | (simp; omega)) _)))).mono ?_
        rintro e w7 ⟨m9, pm, rfl, m90, m91, m92, R_, b_⟩
        have sz_ : w.heap.size ≤ w6.heap.size := HS.out.2.2.2.1
        have zr_ : r < w6.heap.size := HR.out.1
        have bb : Beside r w6 w7 := (Beside.of (show Below w6.heap.size w6 _ from (by repeat (first | with_reducible exact Below.refl _ _ | with_reducible refine Below.setCell ?_ (by first | omega | (simp; done) | (simp; omega)) _ | with_reducible refine bDrewN ?_ _ | with_reducible refine Below.drew ?_ | with_reducible refine Below.alloc ?_ (by first | omega | (simp; done) | (simp; omega)) _)))).trans b_
        replace HS : Hid (Beside r w w7) := HS.out.trans bb
        replace HR : Hid (Rd w7 r s n c pm) := R_
        clear R_
        replace HO : Hid (OwnI bo w7 (some ⟨g, 0, none⟩) (k * 2) U) := ownB_beside HO.out bb (by omega)
        clear bb b_ sz_ zr_ 
        have m93 : m9 ≤ 1 := by omega
        clear m91 m92
        obtain ⟨k2, rfl⟩ : ∃ k2, k = k2 + 1 := ⟨k - 1, by omega⟩
        obtain ⟨gg_, eg_, -, zz_a, cea, cfa⟩ := HO.out (k2 * 2) (by omega)
        cases eg_
        have wk : IntKind.i64.wrap (((k2 + 1 : Nat) : Int) - 1) = (k2 : Int) := by rw [IntKind.wrap_i64]; omega
        have wk2 : ((k2 + 1 : Nat) : Int) - 1 = (k2 : Int) := by omega
        have wm : IntKind.i64.wrap (1000000 + m9) = 1000000 + m9 := by rw [IntKind.wrap_i64]; omega
        have BS := HS.out
        have sBS := BS.2.2.2.1
        have OF := HO.out.putB (k2 * 2) (1000000 + m9)
        go_wp2
        go_ret
        unfold CurPost
        exact ⟨_, k2 + 1, cap, _, pm, rfl, by omega, by omega, OF.mono lbo, Rd.below' HR.out (show Below (r + 1) w7 _ from (by repeat (first | with_reducible exact Below.refl _ _ | with_reducible refine Below.setCell ?_ (by first | omega | (simp; done) | (simp; omega)) _ | with_reducible refine bDrewN ?_ _ | with_reducible refine Below.drew ?_ | with_reducible refine Below.alloc ?_ (by first | omega | (simp; done) | (simp; omega)) _))), BS.onB (show Below w.heap.size w7 _ from (by repeat (first | with_reducible exact Below.refl _ _ | with_reducible refine Below.setCell ?_ (by first | omega | (simp; done) | (simp; omega)) _ | with_reducible refine bDrewN ?_ _ | with_reducible refine Below.drew ?_ | with_reducible refine Below.alloc ?_ (by first | omega | (simp; done) | (simp; omega)) _)))⟩
      have ne0 : (kk == 0) = false := by simpa using e0
      by_cases e1 : kk = 1
      case pos =>
        subst e1
        go_wp2_with fail
        refine (below_any (k : Int) (HR.out.below (by repeat (first | with_reducible exact Below.refl _ _ | with_reducible refine Below.setCell ?_ (by first | omega | (simp; done) | (simp; omega)) _ | with_reducible refine bDrewN ?_ _ | with_reducible refine Below.drew ?_ | with_reducible refine Below.alloc ?_ (by first | omega | (simp; done) | (simp; omega)) _)))).mono ?_
        rintro e w7 ⟨m9, pm, rfl, m90, m91, m92, R_, b_⟩
        have sz_ : w.heap.size ≤ w6.heap.size := HS.out.2.2.2.1
        have zr_ : r < w6.heap.size := HR.out.1
        have bb : Beside r w6 w7 := (Beside.of (show Below w6.heap.size w6 _ from (by repeat (first | with_reducible exact Below.refl _ _ | with_reducible refine Below.setCell ?_ (by first | omega | (simp; done) | (simp; omega)) _ | with_reducible refine bDrewN ?_ _ | with_reducible refine Below.drew ?_ | with_reducible refine Below.alloc ?_ (by first | omega | (simp; done) | (simp; omega)) _)))).trans b_
        replace HS : Hid (Beside r w w7) := HS.out.trans bb
        replace HR : Hid (Rd w7 r s n c pm) := R_
        clear R_
        replace HO : Hid (OwnI bo w7 (some ⟨g, 0, none⟩) (k * 2) U) := ownB_beside HO.out bb (by omega)
        clear bb b_ sz_ zr_ 
        have m93 : m9 < (k : Int) := by omega
        clear m91 m92
        obtain ⟨i9, rfl⟩ : ∃ i9 : Nat, m9 = (i9 : Int) := ⟨m9.toNat, by omega⟩
        obtain ⟨j9, hj9, hj9b⟩ : ∃ j9 : Nat, ((i9 : Int) + 1) % (k : Int) = (j9 : Int) ∧ (j9 : Int) < (k : Int) := ⟨(((i9 : Int) + 1) % (k : Int)).toNat, by have := Int.emod_nonneg ((i9 : Int) + 1) (show (k : Int) ≠ 0 by omega); omega, by have := Int.emod_lt_of_pos ((i9 : Int) + 1) (show (0 : Int) < (k : Int) by omega); have := Int.emod_nonneg ((i9 : Int) + 1) (show (k : Int) ≠ 0 by omega); omega⟩
        have kz : ¬ ((k : Int) = 0) := by omega
        obtain ⟨gg_, eg_, -, zz_a, cea, cfa⟩ := HO.out (i9 * 2 + 1) (by omega)
        cases eg_
        obtain ⟨gg_, eg_, -, zz_b, ceb, cfb⟩ := HO.out (j9 * 2 + 1) (by omega)
        cases eg_
        have BS := HS.out
        have sBS := BS.2.2.2.1
        have OF := HO.out.putB (i9 * 2 + 1) (U (j9 * 2 + 1))
        go_wp2
        go_ret
        unfold CurPost
        exact ⟨_, k, cap, _, pm, rfl, by omega, by omega, OF.mono lbo, Rd.below' HR.out (show Below (r + 1) w7 _ from (by repeat (first | with_reducible exact Below.refl _ _ | with_reducible refine Below.setCell ?_ (by first | omega | (simp; done) | (simp; omega)) _ | with_reducible refine bDrewN ?_ _ | with_reducible refine Below.drew ?_ | with_reducible refine Below.alloc ?_ (by first | omega | (simp; done) | (simp; omega)) _))), BS.onB (show Below w.heap.size w7 _ from (by repeat (first | with_reducible exact Below.refl _ _ | with_reducible refine Below.setCell ?_ (by first | omega | (simp; done) | (simp; omega)) _ | with_reducible refine bDrewN ?_ _ | with_reducible refine Below.drew ?_ | with_reducible refine Below.alloc ?_ (by first | omega | (simp; done) | (simp; omega)) _)))⟩
      have ne1 : (kk == 1) = false := by simpa using e1
      by_cases e2 : kk = 2
      case pos =>
        subst e2
        go_wp2_with fail
        refine (below_any (k : Int) (HR.out.below (by repeat (first | with_reducible exact Below.refl _ _ | with_reducible refine Below.setCell ?_ (by first | omega | (simp; done) | (simp; omega)) _ | with_reducible refine bDrewN ?_ _ | with_reducible refine Below.drew ?_ | with_reducible refine Below.alloc ?_ (by first | omega | (simp; done) | (simp; omega)) _)))).mono ?_
        rintro e w7 ⟨m9, pm, rfl, m90, m91, m92, R_, b_⟩
        have sz_ : w.heap.size ≤ w6.heap.size := HS.out.2.2.2.1
        have zr_ : r < w6.heap.size := HR.out.1
        have bb : Beside r w6 w7 := (Beside.of (show Below w6.heap.size w6 _ from (by repeat (first | with_reducible exact Below.refl _ _ | with_reducible refine Below.setCell ?_ (by first | omega | (simp; done) | (simp; omega)) _ | with_reducible refine bDrewN ?_ _ | with_reducible refine Below.drew ?_ | with_reducible refine Below.alloc ?_ (by first | omega | (simp; done) | (simp; omega)) _)))).trans b_
        replace HS : Hid (Beside r w w7) := HS.out.trans bb
        replace HR : Hid (Rd w7 r s n c pm) := R_
        clear R_
        replace HO : Hid (OwnI bo w7 (some ⟨g, 0, none⟩) (k * 2) U) := ownB_beside HO.out bb (by omega)
        clear bb b_ sz_ zr_ 
        have m93 : m9 < (k : Int) := by omega
        clear m91 m92
        obtain ⟨i9, rfl⟩ : ∃ i9 : Nat, m9 = (i9 : Int) := ⟨m9.toNat, by omega⟩
        obtain ⟨j9, hj9, hj9b⟩ : ∃ j9 : Nat, ((i9 : Int) + 1) % (k : Int) = (j9 : Int) ∧ (j9 : Int) < (k : Int) := ⟨(((i9 : Int) + 1) % (k : Int)).toNat, by have := Int.emod_nonneg ((i9 : Int) + 1) (show (k : Int) ≠ 0 by omega); omega, by have := Int.emod_lt_of_pos ((i9 : Int) + 1) (show (0 : Int) < (k : Int) by omega); have := Int.emod_nonneg ((i9 : Int) + 1) (show (k : Int) ≠ 0 by omega); omega⟩
        have kz : ¬ ((k : Int) = 0) := by omega
        obtain ⟨gg_, eg_, -, zz_a, cea, cfa⟩ := HO.out (i9 * 2) (by omega)
        cases eg_
        obtain ⟨gg_, eg_, -, zz_b, ceb, cfb⟩ := HO.out (j9 * 2) (by omega)
        cases eg_
        have BS := HS.out
        have sBS := BS.2.2.2.1
        have OF := HO.out.putB (i9 * 2) (U (j9 * 2))
        go_wp2
        go_ret
        unfold CurPost
        exact ⟨_, k, cap, _, pm, rfl, by omega, by omega, OF.mono lbo, Rd.below' HR.out (show Below (r + 1) w7 _ from (by repeat (first | with_reducible exact Below.refl _ _ | with_reducible refine Below.setCell ?_ (by first | omega | (simp; done) | (simp; omega)) _ | with_reducible refine bDrewN ?_ _ | with_reducible refine Below.drew ?_ | with_reducible refine Below.alloc ?_ (by first | omega | (simp; done) | (simp; omega)) _))), BS.onB (show Below w.heap.size w7 _ from (by repeat (first | with_reducible exact Below.refl _ _ | with_reducible refine Below.setCell ?_ (by first | omega | (simp; done) | (simp; omega)) _ | with_reducible refine bDrewN ?_ _ | with_reducible refine Below.drew ?_ | with_reducible refine Below.alloc ?_ (by first | omega | (simp; done) | (simp; omega)) _)))⟩
      have ne2 : (kk == 2) = false := by simpa using e2
      by_cases e3 : kk = 3
      case pos =>
        subst e3
        have BS := HS.out
        have sBS := BS.2.2.2.1
        have c1c : (1 : Int) ≤ (cap : Int) := by omega
        have OF : OwnI bo w6 (some ⟨g, 0, none⟩) (1 * 2) U := fun j hj => HO.out j (by omega)
        go_wp2
        go_ret
        unfold CurPost
        exact ⟨_, 1, cap, U, pk, rfl, by omega, by omega, OF.mono lbo, HR.out, BS⟩
      have ne3 : (kk == 3) = false := by simpa using e3
      by_cases e4 : kk = 4
      case pos =>
        subst e4
        go_wp2_with fail
        refine (below_any 2 (HR.out.below (by repeat (first | with_reducible exact Below.refl _ _ | with_reducible refine Below.setCell ?_ (by first | omega | (simp; done) | (simp; omega)) _ | with_reducible refine bDrewN ?_ _ | with_reducible refine Below.drew ?_ | with_reducible refine Below.alloc ?_ (by first | omega | (simp; done) | (simp; omega)) _)))).mono ?_
        rintro e w7 ⟨m9, pm, rfl, m90, m91, m92, R_, b_⟩
        have sz_ : w.heap.size ≤ w6.heap.size := HS.out.2.2.2.1
        have zr_ : r < w6.heap.size := HR.out.1
        have bb : Beside r w6 w7 := (Beside.of (show Below w6.heap.size w6 _ from (by repeat (first | with_reducible exact Below.refl _ _ | with_reducible refine Below.setCell ?_ (by first | omega | (simp; done) | (simp; omega)) _ | with_reducible refine bDrewN ?_ _ | with_reducible refine Below.drew ?_ | with_reducible refine Below.alloc ?_ (by first | omega | (simp; done) | (simp; omega)) _)))).trans b_
        replace HS : Hid (Beside r w w7) := HS.out.trans bb
        replace HR : Hid (Rd w7 r s n c pm) := R_
        clear R_
        replace HO : Hid (OwnI bo w7 (some ⟨g, 0, none⟩) (k * 2) U) := ownB_beside HO.out bb (by omega)
        clear bb b_ sz_ zr_ 
        have m93 : m9 ≤ 1 := by omega
        clear m91 m92
        obtain ⟨gg_, eg_, -, zz_a, cea, cfa⟩ := HO.out (0) (by omega)
        cases eg_
        have wm : IntKind.i64.wrap (-1000000 - m9) = -1000000 - m9 := by rw [IntKind.wrap_i64]; omega
        have zk : (0 : Int) < (k : Int) := by omega
        go_upto_region 27 with fail
        obtain ⟨w8, hw_⟩ : ∃ x_, x_ = w7.setCell ⟨g, 0, none⟩ (.int .i64 (-1000000 - m9)) := ⟨_, rfl⟩
        rw [← hw_]
        have sz_ : w.heap.size ≤ w7.heap.size := HS.out.2.2.2.1
        replace HR : Hid (Rd w8 r s n c pm) := by show Rd _ _ _ _ _ _; rw [hw_]; exact Rd.below' HR.out (show Below (r + 1) w7 _ from (by repeat (first | with_reducible exact Below.refl _ _ | with_reducible refine Below.setCell ?_ (by first | omega | (simp; done) | (simp; omega)) _ | with_reducible refine bDrewN ?_ _ | with_reducible refine Below.drew ?_ | with_reducible refine Below.alloc ?_ (by first | omega | (simp; done) | (simp; omega)) _)))
        replace HS : Hid (Beside r w w8) := by show Beside _ _ _; rw [hw_]; exact HS.out.onB (show Below w.heap.size w7 _ from (by repeat (first | with_reducible exact Below.refl _ _ | with_reducible refine Below.setCell ?_ (by first | omega | (simp; done) | (simp; omega)) _ | with_reducible refine bDrewN ?_ _ | with_reducible refine Below.drew ?_ | with_reducible refine Below.alloc ?_ (by first | omega | (simp; done) | (simp; omega)) _)))
        have HO2 : Hid (∃ U2, OwnI bo w8 (some ⟨g, 0, none⟩) (k * 2) U2) := by show ∃ U2, OwnI _ _ _ _ U2; rw [hw_]; exact ⟨_, HO.out.putB 0 _⟩
        obtain ⟨U2, OU⟩ := HO2.out
        replace HO : Hid (OwnI bo w8 (some ⟨g, 0, none⟩) (k * 2) U2) := OU
        clear hw_ sz_ OU HO2 cea cfa zz_a m90 m93 wm
        go_wp2_with fail
        refine (below_any 2 (HR.out.below (by repeat (first | with_reducible exact Below.refl _ _ | with_reducible refine Below.setCell ?_ (by first | omega | (simp; done) | (simp; omega)) _ | with_reducible refine bDrewN ?_ _ | with_reducible refine Below.drew ?_ | with_reducible refine Below.alloc ?_ (by first | omega | (simp; done) | (simp; omega)) _)))).mono ?_
        rintro e w9 ⟨m8, pm2, rfl, m80, m81, m82, R_, b_⟩
        have sz_ : w.heap.size ≤ w8.heap.size := HS.out.2.2.2.1
        have zr_ : r < w8.heap.size := HR.out.1
        have bb : Beside r w8 w9 := (Beside.of (show Below w8.heap.size w8 _ from (by repeat (first | with_reducible exact Below.refl _ _ | with_reducible refine Below.setCell ?_ (by first | omega | (simp; done) | (simp; omega)) _ | with_reducible refine bDrewN ?_ _ | with_reducible refine Below.drew ?_ | with_reducible refine Below.alloc ?_ (by first | omega | (simp; done) | (simp; omega)) _)))).trans b_
        replace HS : Hid (Beside r w w9) := HS.out.trans bb
        replace HR : Hid (Rd w9 r s n c pm2) := R_
        clear R_
        replace HO : Hid (OwnI bo w9 (some ⟨g, 0, none⟩) (k * 2) U2) := ownB_beside HO.out bb (by omega)
        clear bb b_ sz_ zr_ 
        have m83 : m8 ≤ 1 := by omega
        clear m81 m82
        obtain ⟨gg_, eg_, -, zz_a, cea, cfa⟩ := HO.out 1 (by omega)
        cases eg_
        have wm : IntKind.i64.wrap (-1000000 + m8) = -1000000 + m8 := by rw [IntKind.wrap_i64]; omega
        have BS := HS.out
        have sBS := BS.2.2.2.1
        have OF := HO.out.putB 1 (-1000000 + m8)
        go_wp2
        go_ret
        unfold CurPost
        exact ⟨_, k, cap, _, pm2, rfl, by omega, by omega, OF.mono lbo, Rd.below' HR.out (show Below (r + 1) w9 _ from (by repeat (first | with_reducible exact Below.refl _ _ | with_reducible refine Below.setCell ?_ (by first | omega | (simp; done) | (simp; omega)) _ | with_reducible refine bDrewN ?_ _ | with_reducible refine Below.drew ?_ | with_reducible refine Below.alloc ?_ (by first | omega | (simp; done) | (simp; omega)) _))), BS.onB (show Below w.heap.size w9 _ from (by repeat (first | with_reducible exact Below.refl _ _ | with_reducible refine Below.setCell ?_ (by first | omega | (simp; done) | (simp; omega)) _ | with_reducible refine bDrewN ?_ _ | with_reducible refine Below.drew ?_ | with_reducible refine Below.alloc ?_ (by first | omega | (simp; done) | (simp; omega)) _)))⟩
      have ne4 : (kk == 4) = false := by simpa using e4
      have BS := HS.out
      have sBS := BS.2.2.2.1
      have OF := HO.out
      go_wp2
      go_ret
      unfold CurPost
      exact ⟨_, k, cap, _, pk, rfl, by omega, by omega, OF.mono lbo, Rd.below' HR.out (show Below (r + 1) w6 _ from (by repeat (first | with_reducible exact Below.refl _ _ | with_reducible refine Below.setCell ?_ (by first | omega | (simp; done) | (simp; omega)) _ | with_reducible refine bDrewN ?_ _ | with_reducible refine Below.drew ?_ | with_reducible refine Below.alloc ?_ (by first | omega | (simp; done) | (simp; omega)) _))), BS.onB (show Below w.heap.size w6 _ from (by repeat (first | with_reducible exact Below.refl _ _ | with_reducible refine Below.setCell ?_ (by first | omega | (simp; done) | (simp; omega)) _ | with_reducible refine bDrewN ?_ _ | with_reducible refine Below.drew ?_ | with_reducible refine Below.alloc ?_ (by first | omega | (simp; done) | (simp; omega)) _)))⟩
end Go.Proofs.Ytiamhpopgnblcaa
