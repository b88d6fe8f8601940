/-
What is proved: a plan that is drawn: any numbers, at most 41 steps.
-/
import Derived.Test.YtlkegoofpmgcjaaLsStep
import Derived.Test.YtlkegoofpmgcjaaRdC
import Derived.Test.YtlkegoofpmgcjaaRdO
import Derived.Deep.DeepCutAuto
import Derived.RegionTactic
namespace Go.Proofs.Ytlkegoofpmgcjaa
set_option maxRecDepth 40000
open Go.ChangeShapes Go.WideShapes Go.ChangeAt Go.RowKit
set_option linter.unusedVariables false
set_option linter.unusedSimpArgs false

def PlnPost (r : Nat) (s : Option Addr) (n c : Nat) (w : World) (e : Ending) (w' : World) : Prop := ∃ (t : Option Addr) (m cap : Nat) (U : Nat → Int) (p' : Nat), e = .returned (.slice t m cap) ∧ 1 ≤ m ∧ m ≤ 41 ∧ OwnI w.heap.size w' t (m * 5) U ∧ Rd w' r s n c p' ∧ Beside r w w'
theorem ownB_besideP {base r : Nat} {w w' : World} {s : Option Addr} {m : Nat} {V : Nat → Int} (h : OwnI base w s m V) (hb : Beside r w w') (hr : r < base) : OwnI base w' s m V := fun j hj => by
  obtain ⟨b, e, hB, hl, hc, hf⟩ := h j hj
  exact ⟨b, e, hB, Nat.lt_of_lt_of_le hl hb.2.2.2.1, (hb.cell (p := ⟨b, j, none⟩) hl (by simp only; omega)).trans hc, (hb.frozen (p := ⟨b, j, none⟩) hl (by simp only; omega)).trans hf⟩
theorem OwnI.putP {base g m : Nat} {w : World} {V : Nat → Int} (h : OwnI base w (some ⟨g, 0, none⟩) m V) (i : Nat) (x : Int) : OwnI base (w.setCell ⟨g, i, none⟩ (.int .i64 x)) (some ⟨g, 0, none⟩) m (fun j => if j = i then x else V j) := fun j hj => by
  obtain ⟨b, e, hB, hl, hc, hf⟩ := h j hj
  cases e
  refine ⟨g, rfl, hB, by simpa using hl, ?_, by simp [go_sem, hf]⟩
  by_cases q : j = i
  · subst q; simp [go_sem, hc]
  · simp [go_sem, hc, q]
set_option maxRecDepth 20000 in
set_option maxHeartbeats 16000000 in
theorem plan_any {r : Nat} {s : Option Addr} {n c p : Nat} {w : World} (h : Hid (Rd w r s n c p)) :
    Calls Try.prog 28 #[.pointer (some ⟨r, 0, none⟩)] w fun e w' => PlnPost r s n c w e w' := by
  have zr : r < w.heap.size := h.out.1
  have HR : Hid (Rd w r s n c p) := h
  have HS : Hid (Beside r w w) := Beside.of (Below.refl _ _)
  clear h
  go_enter Try.func28, Try.ntmps28
  obtain ⟨-, -, rc0, -, -, rn, -⟩ := HR.out
  have n1 : (n : Int) ≤ 1048576 := by omega
  clear rn
  obtain ⟨mm, hm_, hm8⟩ : ∃ mm : Int, (if (14 : Int) < 1 + (n : Int) / 6 then 14 else 1 + (n : Int) / 6) = mm ∧ mm ≤ 14 := ⟨_, rfl, by split <;> omega⟩
  go_wp2_with fail
  refine (below_any mm (HR.out.below (by repeat (first | with_reducible exact Below.refl _ _ | with_reducible refine Below.setCell ?_ (by first | omega | (simp; done) | (simp; omega)) _ | with_reducible refine bDrewN ?_ _ | with_reducible refine Below.drew ?_ | with_reducible refine Below.alloc ?_ (by first | omega | (simp; done) | (simp; omega)) _)))).mono ?_
  rintro e w1 ⟨N, pN, rfl, N0, N1, N2, R_, b_⟩
  have sz_ : w.heap.size ≤ w.heap.size := HS.out.2.2.2.1
  have zr_ : r < w.heap.size := HR.out.1
  have bb : Beside r w w1 := (Beside.of (show Below w.heap.size w _ from (by repeat (first | with_reducible exact Below.refl _ _ | with_reducible refine Below.setCell ?_ (by first | omega | (simp; done) | (simp; omega)) _ | with_reducible refine bDrewN ?_ _ | with_reducible refine Below.drew ?_ | with_reducible refine Below.alloc ?_ (by first | omega | (simp; done) | (simp; omega)) _)))).trans b_
  replace HS : Hid (Beside r w w1) := HS.out.trans bb
  replace HR : Hid (Rd w1 r s n c pN) := R_
  clear R_
  clear bb b_ sz_ zr_ 
  clear rc0 hm_
  have N12 : N ≤ 14 := by omega
  clear N1 N2
  go_upto_region 3 with fail
  have sz_ : w.heap.size ≤ w1.heap.size := HS.out.2.2.2.1
  have zr_ : r < w1.heap.size := HR.out.1
  obtain ⟨w2, hw_⟩ : ∃ x_, x_ = w1.alloc (.cells #[] 33) := ⟨_, rfl⟩
  rw [← hw_]
  have bl_ : Below w1.heap.size w1 w2 := by rw [hw_]; exact below0 _ _
  obtain ⟨bo, hbo⟩ : ∃ g, g = w1.heap.size := ⟨_, rfl⟩
  have Ho : Hid (Lst bo 33 5 w2 (.slice (some ⟨bo, 0, none⟩) 0 0) 0 (fun _ => 0)) := by show Lst _ _ _ _ _ _ _; rw [hw_, hbo]; exact Lst.lit w1 _ 33 33 5 _ (Nat.le_refl _)
  replace HR : Hid (Rd w2 r s n c pN) := HR.out.below bl_
  replace HS : Hid (Beside r w w2) := HS.out.onB (bl_.mono sz_)
  have lbo : w.heap.size ≤ bo := by omega
  have rbo : r < bo := by omega
  have zso : bo < w2.heap.size := by rw [hw_, hbo]; simp
  have Zo : Hid (bo ≤ w2.heap.size) := by show _ ≤ _; have := bl_.size; omega
  try rw [← hbo]
  clear hw_ hbo bl_ sz_ zr_ 
  obtain ⟨M, hM⟩ : ∃ M : Nat, 1 + N = (M : Int) := ⟨(1 + N).toNat, by omega⟩
  have M2 : 1 ≤ M := by omega
  have M14 : M ≤ 15 := by omega
  try rw [hM]
  clear hM N0 N12
  go_wp2_with fail
  go_loopw [4, 5] (fun v i wr => ∃ (k : Nat) (U : Nat → Int) (p5 : Nat), k ≤ M ∧ i = .int .i64 (k : Int) ∧ Hid (Rd wr r s n c p5) ∧ Hid (Beside r w wr) ∧ Hid (Lst bo 33 5 wr v k U) ∧ Hid (bo ≤ wr.heap.size)) (fun _ i _ => M - (intOf i).toNat)
  case atStart => exact ⟨0, fun _ => 0, pN, by omega, rfl, HR, HS, Ho, Zo⟩
  case round =>
    clear HR HS Ho Zo
    obtain ⟨k, U, p5, hk, rfl, HR, HS, Ho, Zo⟩ := hrel
    by_cases hlt : k < M
    case pos =>
      have k1 : (k : Int) < (M : Int) := by omega
      have k15 : (k : Int) ≤ 15 := by omega
      go_wp2_with fail
      refine (near_any 0 999 (by omega) (by omega) (by omega) (HR.out.below (by repeat (first | with_reducible exact Below.refl _ _ | with_reducible refine Below.setCell ?_ (by first | omega | (simp; done) | (simp; omega)) _ | with_reducible refine bDrewN ?_ _ | with_reducible refine Below.drew ?_ | with_reducible refine Below.alloc ?_ (by first | omega | (simp; done) | (simp; omega)) _)))).mono ?_
      rintro e w3 ⟨a0, pa, rfl, a00, a01, R_, b_⟩
      have sz_ : w.heap.size ≤ wr.heap.size := HS.out.2.2.2.1
      have zr_ : r < wr.heap.size := HR.out.1
      have bb : Beside r wr w3 := (Beside.of (show Below wr.heap.size wr _ from (by repeat (first | with_reducible exact Below.refl _ _ | with_reducible refine Below.setCell ?_ (by first | omega | (simp; done) | (simp; omega)) _ | with_reducible refine bDrewN ?_ _ | with_reducible refine Below.drew ?_ | with_reducible refine Below.alloc ?_ (by first | omega | (simp; done) | (simp; omega)) _)))).trans b_
      replace Ho : Hid (Lst bo 33 5 w3 u4 k U) := Ho.out.beside bb (by omega)
      replace Zo : Hid (bo ≤ w3.heap.size) := Nat.le_trans Zo.out bb.2.2.2.1
      replace HS : Hid (Beside r w w3) := HS.out.trans bb
      replace HR : Hid (Rd w3 r s n c pa) := R_
      clear R_
      clear bb b_ sz_ zr_ 
      go_wp2_with fail
      refine (below_any 16 (HR.out.below (by repeat (first | with_reducible exact Below.refl _ _ | with_reducible refine Below.setCell ?_ (by first | omega | (simp; done) | (simp; omega)) _ | with_reducible refine bDrewN ?_ _ | with_reducible refine Below.drew ?_ | with_reducible refine Below.alloc ?_ (by first | omega | (simp; done) | (simp; omega)) _)))).mono ?_
      rintro e w4 ⟨a1, pb, rfl, a10, a11, a12, R_, b_⟩
      have sz_ : w.heap.size ≤ w3.heap.size := HS.out.2.2.2.1
      have zr_ : r < w3.heap.size := HR.out.1
      have bb : Beside r w3 w4 := (Beside.of (show Below w3.heap.size w3 _ from (by repeat (first | with_reducible exact Below.refl _ _ | with_reducible refine Below.setCell ?_ (by first | omega | (simp; done) | (simp; omega)) _ | with_reducible refine bDrewN ?_ _ | with_reducible refine Below.drew ?_ | with_reducible refine Below.alloc ?_ (by first | omega | (simp; done) | (simp; omega)) _)))).trans b_
      replace Ho : Hid (Lst bo 33 5 w4 u4 k U) := Ho.out.beside bb (by omega)
      replace Zo : Hid (bo ≤ w4.heap.size) := Nat.le_trans Zo.out bb.2.2.2.1
      replace HS : Hid (Beside r w w4) := HS.out.trans bb
      replace HR : Hid (Rd w4 r s n c pb) := R_
      clear R_
      clear bb b_ sz_ zr_ 
      go_wp2_with fail
      refine (upto_any 6 (wfi (by omega) (by omega)) (HR.out.below (by repeat (first | with_reducible exact Below.refl _ _ | with_reducible refine Below.setCell ?_ (by first | omega | (simp; done) | (simp; omega)) _ | with_reducible refine bDrewN ?_ _ | with_reducible refine Below.drew ?_ | with_reducible refine Below.alloc ?_ (by first | omega | (simp; done) | (simp; omega)) _)))).mono ?_
      rintro e w5 ⟨a2, pc, rfl, a20, a21, R_, b_⟩
      have sz_ : w.heap.size ≤ w4.heap.size := HS.out.2.2.2.1
      have zr_ : r < w4.heap.size := HR.out.1
      have bb : Beside r w4 w5 := (Beside.of (show Below w4.heap.size w4 _ from (by repeat (first | with_reducible exact Below.refl _ _ | with_reducible refine Below.setCell ?_ (by first | omega | (simp; done) | (simp; omega)) _ | with_reducible refine bDrewN ?_ _ | with_reducible refine Below.drew ?_ | with_reducible refine Below.alloc ?_ (by first | omega | (simp; done) | (simp; omega)) _)))).trans b_
      replace Ho : Hid (Lst bo 33 5 w5 u4 k U) := Ho.out.beside bb (by omega)
      replace Zo : Hid (bo ≤ w5.heap.size) := Nat.le_trans Zo.out bb.2.2.2.1
      replace HS : Hid (Beside r w w5) := HS.out.trans bb
      replace HR : Hid (Rd w5 r s n c pc) := R_
      clear R_
      clear bb b_ sz_ zr_ 
      have a22 : 1 + a2 ≤ 6 := by omega
      have Q0 : ∀ g, Value.ownBlock u4 = some g → g < w5.heap.size := fun g e => (Ho.out.lt g e).2
      go_upto_region 7 with fail
      have sz_ : w.heap.size ≤ w5.heap.size := HS.out.2.2.2.1
      have zr_ : r < w5.heap.size := HR.out.1
      obtain ⟨w6, hw_⟩ : ∃ x_, x_ = (w5.alloc (.cells #[.int .i64 a0, .int .i64 a1, .int .i64 (1 + a2), .int .i64 0, .int .i64 0] 33)) := ⟨_, rfl⟩
      rw [← hw_]
      replace Ho : Hid (Lst bo 33 5 w6 u4 k U) := by show Lst _ _ _ _ _ _ _; rw [hw_]; exact (Ho.out.below (below0 _ _))
      replace Zo : Hid (bo ≤ w6.heap.size) := by have := Zo.out; show _ ≤ _; rw [hw_]; simp; omega
      obtain ⟨gs, hgs⟩ : ∃ g, g = w5.heap.size := ⟨_, rfl⟩
      have Hs : Hid (Blk w6 gs [.int .i64 a0, .int .i64 a1, .int .i64 (1 + a2), .int .i64 0, .int .i64 0]) := by show Blk _ _ _; rw [hw_, hgs]; have q := (Blk.new w5 #[.int .i64 a0, .int .i64 a1, .int .i64 (1 + a2), .int .i64 0, .int .i64 0] 33); first | exact q | exact (by simpa using q)
      replace HR : Hid (Rd w6 r s n c pc) := by show Rd _ _ _ _ _ _; rw [hw_]; exact Rd.below' HR.out (show Below (r + 1) w5 _ from (by repeat (first | with_reducible exact Below.refl _ _ | with_reducible refine Below.setCell ?_ (by first | omega | (simp; done) | (simp; omega)) _ | with_reducible refine bDrewN ?_ _ | with_reducible refine Below.drew ?_ | with_reducible refine Below.alloc ?_ (by first | omega | (simp; done) | (simp; omega)) _)))
      replace HS : Hid (Beside r w w6) := by show Beside _ _ _; rw [hw_]; exact HS.out.onB (show Below w.heap.size w5 _ from (by repeat (first | with_reducible exact Below.refl _ _ | with_reducible refine Below.setCell ?_ (by first | omega | (simp; done) | (simp; omega)) _ | with_reducible refine bDrewN ?_ _ | with_reducible refine Below.drew ?_ | with_reducible refine Below.alloc ?_ (by first | omega | (simp; done) | (simp; omega)) _)))
      clear hw_
      have lgs : w.heap.size ≤ gs := by omega
      have rgs : r < gs := by omega
      have QS : Hid (Value.ownBlock u4 ≠ some gs) := fun e => by have := Q0 gs e; omega
      try rw [← hgs]
      clear hgs
      clear sz_ zr_ 
      clear Q0
      go_wp2_with fail
      refine (below_any 2 (HR.out.below (by repeat (first | with_reducible exact Below.refl _ _ | with_reducible refine Below.setCell ?_ (by first | omega | (simp; done) | (simp; omega)) _ | with_reducible refine bDrewN ?_ _ | with_reducible refine Below.drew ?_ | with_reducible refine Below.alloc ?_ (by first | omega | (simp; done) | (simp; omega)) _)))).mono ?_
      rintro e w7 ⟨b1, pd, rfl, b10, b11, b12, R_, b_⟩
      have Hs_z : gs < w6.heap.size := Hs.out.1
      have sz_ : w.heap.size ≤ w6.heap.size := HS.out.2.2.2.1
      have zr_ : r < w6.heap.size := HR.out.1
      have bb : Beside r w6 w7 := (Beside.of (show Below w6.heap.size w6 _ from (by repeat (first | with_reducible exact Below.refl _ _ | with_reducible refine Below.setCell ?_ (by first | omega | (simp; done) | (simp; omega)) _ | with_reducible refine bDrewN ?_ _ | with_reducible refine Below.drew ?_ | with_reducible refine Below.alloc ?_ (by first | omega | (simp; done) | (simp; omega)) _)))).trans b_
      replace Hs : Hid (Blk w7 gs [.int .i64 a0, .int .i64 a1, .int .i64 (1 + a2), .int .i64 0, .int .i64 0]) := Hs.out.beside bb (by omega)
      replace Ho : Hid (Lst bo 33 5 w7 u4 k U) := Ho.out.beside bb (by omega)
      replace Zo : Hid (bo ≤ w7.heap.size) := Nat.le_trans Zo.out bb.2.2.2.1
      replace HS : Hid (Beside r w w7) := HS.out.trans bb
      replace HR : Hid (Rd w7 r s n c pd) := R_
      clear R_
      clear bb b_ sz_ zr_ Hs_z
      have b13 : b1 ≤ 1 := by omega
      clear b11 b12
      obtain ⟨z_s, f_s, c_s⟩ := Hs.out
      have sc0 : w7.cell? ⟨gs, 0, none⟩ = some (.int .i64 a0) := c_s 0 _ rfl
      have sc1 : w7.cell? ⟨gs, 1, none⟩ = some (.int .i64 a1) := c_s 1 _ rfl
      have sc2 : w7.cell? ⟨gs, 2, none⟩ = some (.int .i64 (1 + a2)) := c_s 2 _ rfl
      have sc3 : w7.cell? ⟨gs, 3, none⟩ = some (.int .i64 0) := c_s 3 _ rfl
      have sc4 : w7.cell? ⟨gs, 4, none⟩ = some (.int .i64 0) := c_s 4 _ rfl
      have fs := f_s
      clear f_s c_s
      have fs3 := fs 3
      have fs4 := fs 4
      go_upto_region 8 with fail
      have Hs_z : gs < w7.heap.size := Hs.out.1
      have sz_ : w.heap.size ≤ w7.heap.size := HS.out.2.2.2.1
      have zr_ : r < w7.heap.size := HR.out.1
      obtain ⟨w8, hw_⟩ : ∃ x_, x_ = (w7.setCell ⟨gs, 3, none⟩ (.int .i64 ((k : Int) + 1 + b1))) := ⟨_, rfl⟩
      rw [← hw_]
      replace Hs : Hid (Blk w8 gs [.int .i64 a0, .int .i64 a1, .int .i64 (1 + a2), .int .i64 ((k : Int) + 1 + b1), .int .i64 0]) := by show Blk _ _ _; rw [hw_]; exact (Hs.out.set 3 (.int .i64 ((k : Int) + 1 + b1)))
      replace Ho : Hid (Lst bo 33 5 w8 u4 k U) := by show Lst _ _ _ _ _ _ _; rw [hw_]; exact Ho.out.same fun g hg => (Beside.setCell gs _ 3 _).2.2.2.2 g (Ho.out.lt g hg).2 (fun e => QS.out (by rw [← e]; exact hg))
      replace Zo : Hid (bo ≤ w8.heap.size) := by have := Zo.out; show _ ≤ _; rw [hw_]; simp; omega
      replace HR : Hid (Rd w8 r s n c pd) := by show Rd _ _ _ _ _ _; rw [hw_]; exact Rd.below' HR.out (show Below (r + 1) w7 _ from (by repeat (first | with_reducible exact Below.refl _ _ | with_reducible refine Below.setCell ?_ (by first | omega | (simp; done) | (simp; omega)) _ | with_reducible refine bDrewN ?_ _ | with_reducible refine Below.drew ?_ | with_reducible refine Below.alloc ?_ (by first | omega | (simp; done) | (simp; omega)) _)))
      replace HS : Hid (Beside r w w8) := by show Beside _ _ _; rw [hw_]; exact HS.out.onB (show Below w.heap.size w7 _ from (by repeat (first | with_reducible exact Below.refl _ _ | with_reducible refine Below.setCell ?_ (by first | omega | (simp; done) | (simp; omega)) _ | with_reducible refine bDrewN ?_ _ | with_reducible refine Below.drew ?_ | with_reducible refine Below.alloc ?_ (by first | omega | (simp; done) | (simp; omega)) _)))
      clear hw_
      clear sz_ zr_ Hs_z
      clear fs3 fs4
      clear sc0 sc1 sc2 sc3 sc4 z_s fs
      go_wp2_with fail
      refine (below_any 4 (HR.out.below (by repeat (first | with_reducible exact Below.refl _ _ | with_reducible refine Below.setCell ?_ (by first | omega | (simp; done) | (simp; omega)) _ | with_reducible refine bDrewN ?_ _ | with_reducible refine Below.drew ?_ | with_reducible refine Below.alloc ?_ (by first | omega | (simp; done) | (simp; omega)) _)))).mono ?_
      rintro e w9 ⟨b2, pe, rfl, b20, b21, b22, R_, b_⟩
      have Hs_z : gs < w8.heap.size := Hs.out.1
      have sz_ : w.heap.size ≤ w8.heap.size := HS.out.2.2.2.1
      have zr_ : r < w8.heap.size := HR.out.1
      have bb : Beside r w8 w9 := (Beside.of (show Below w8.heap.size w8 _ from (by repeat (first | with_reducible exact Below.refl _ _ | with_reducible refine Below.setCell ?_ (by first | omega | (simp; done) | (simp; omega)) _ | with_reducible refine bDrewN ?_ _ | with_reducible refine Below.drew ?_ | with_reducible refine Below.alloc ?_ (by first | omega | (simp; done) | (simp; omega)) _)))).trans b_
      replace Hs : Hid (Blk w9 gs [.int .i64 a0, .int .i64 a1, .int .i64 (1 + a2), .int .i64 ((k : Int) + 1 + b1), .int .i64 0]) := Hs.out.beside bb (by omega)
      replace Ho : Hid (Lst bo 33 5 w9 u4 k U) := Ho.out.beside bb (by omega)
      replace Zo : Hid (bo ≤ w9.heap.size) := Nat.le_trans Zo.out bb.2.2.2.1
      replace HS : Hid (Beside r w w9) := HS.out.trans bb
      replace HR : Hid (Rd w9 r s n c pe) := R_
      clear R_
      clear bb b_ sz_ zr_ Hs_z
      have b23 : b2 ≤ 3 := by omega
      clear b21 b22
      obtain ⟨z_s, f_s, c_s⟩ := Hs.out
      have sc0 : w9.cell? ⟨gs, 0, none⟩ = some (.int .i64 a0) := c_s 0 _ rfl
      have sc1 : w9.cell? ⟨gs, 1, none⟩ = some (.int .i64 a1) := c_s 1 _ rfl
      have sc2 : w9.cell? ⟨gs, 2, none⟩ = some (.int .i64 (1 + a2)) := c_s 2 _ rfl
      have sc3 : w9.cell? ⟨gs, 3, none⟩ = some (.int .i64 ((k : Int) + 1 + b1)) := c_s 3 _ rfl
      have sc4 : w9.cell? ⟨gs, 4, none⟩ = some (.int .i64 0) := c_s 4 _ rfl
      have fs := f_s
      clear f_s c_s
      have fs3 := fs 3
      have fs4 := fs 4
      go_upto_region 9 with fail
      have Hs_z : gs < w9.heap.size := Hs.out.1
      have sz_ : w.heap.size ≤ w9.heap.size := HS.out.2.2.2.1
      have zr_ : r < w9.heap.size := HR.out.1
      obtain ⟨w10, hw_⟩ : ∃ x_, x_ = (w9.setCell ⟨gs, 4, none⟩ (.int .i64 ((k : Int) + 1 + b2))) := ⟨_, rfl⟩
      rw [← hw_]
      replace Hs : Hid (Blk w10 gs [.int .i64 a0, .int .i64 a1, .int .i64 (1 + a2), .int .i64 ((k : Int) + 1 + b1), .int .i64 ((k : Int) + 1 + b2)]) := by show Blk _ _ _; rw [hw_]; exact (Hs.out.set 4 (.int .i64 ((k : Int) + 1 + b2)))
      replace Ho : Hid (Lst bo 33 5 w10 u4 k U) := by show Lst _ _ _ _ _ _ _; rw [hw_]; exact Ho.out.same fun g hg => (Beside.setCell gs _ 4 _).2.2.2.2 g (Ho.out.lt g hg).2 (fun e => QS.out (by rw [← e]; exact hg))
      replace Zo : Hid (bo ≤ w10.heap.size) := by have := Zo.out; show _ ≤ _; rw [hw_]; simp; omega
      replace HR : Hid (Rd w10 r s n c pe) := by show Rd _ _ _ _ _ _; rw [hw_]; exact Rd.below' HR.out (show Below (r + 1) w9 _ from (by repeat (first | with_reducible exact Below.refl _ _ | with_reducible refine Below.setCell ?_ (by first | omega | (simp; done) | (simp; omega)) _ | with_reducible refine bDrewN ?_ _ | with_reducible refine Below.drew ?_ | with_reducible refine Below.alloc ?_ (by first | omega | (simp; done) | (simp; omega)) _)))
      replace HS : Hid (Beside r w w10) := by show Beside _ _ _; rw [hw_]; exact HS.out.onB (show Below w.heap.size w9 _ from (by repeat (first | with_reducible exact Below.refl _ _ | with_reducible refine Below.setCell ?_ (by first | omega | (simp; done) | (simp; omega)) _ | with_reducible refine bDrewN ?_ _ | with_reducible refine Below.drew ?_ | with_reducible refine Below.alloc ?_ (by first | omega | (simp; done) | (simp; omega)) _)))
      clear hw_
      clear sz_ zr_ Hs_z
      clear fs3 fs4
      clear sc0 sc1 sc2 sc3 sc4 z_s fs
      by_cases hN : (M : Int) ≤ (k : Int) + 1 + b1
      case pos =>
        obtain ⟨z_s, f_s, c_s⟩ := Hs.out
        have sc0 : w10.cell? ⟨gs, 0, none⟩ = some (.int .i64 a0) := c_s 0 _ rfl
        have sc1 : w10.cell? ⟨gs, 1, none⟩ = some (.int .i64 a1) := c_s 1 _ rfl
        have sc2 : w10.cell? ⟨gs, 2, none⟩ = some (.int .i64 (1 + a2)) := c_s 2 _ rfl
        have sc3 : w10.cell? ⟨gs, 3, none⟩ = some (.int .i64 ((k : Int) + 1 + b1)) := c_s 3 _ rfl
        have sc4 : w10.cell? ⟨gs, 4, none⟩ = some (.int .i64 ((k : Int) + 1 + b2)) := c_s 4 _ rfl
        have fs := f_s
        clear f_s c_s
        have fs3 := fs 3
        go_upto_region 11 with fail
        have Hs_z : gs < w10.heap.size := Hs.out.1
        have sz_ : w.heap.size ≤ w10.heap.size := HS.out.2.2.2.1
        have zr_ : r < w10.heap.size := HR.out.1
        obtain ⟨w11, hw_⟩ : ∃ x_, x_ = (w10.setCell ⟨gs, 3, none⟩ (.int .i64 (-1))) := ⟨_, rfl⟩
        rw [← hw_]
        replace Hs : Hid (Blk w11 gs [.int .i64 a0, .int .i64 a1, .int .i64 (1 + a2), .int .i64 (-1), .int .i64 ((k : Int) + 1 + b2)]) := by show Blk _ _ _; rw [hw_]; exact (Hs.out.set 3 (.int .i64 (-1)))
        replace Ho : Hid (Lst bo 33 5 w11 u4 k U) := by show Lst _ _ _ _ _ _ _; rw [hw_]; exact Ho.out.same fun g hg => (Beside.setCell gs _ 3 _).2.2.2.2 g (Ho.out.lt g hg).2 (fun e => QS.out (by rw [← e]; exact hg))
        replace Zo : Hid (bo ≤ w11.heap.size) := by have := Zo.out; show _ ≤ _; rw [hw_]; simp; omega
        replace HR : Hid (Rd w11 r s n c pe) := by show Rd _ _ _ _ _ _; rw [hw_]; exact Rd.below' HR.out (show Below (r + 1) w10 _ from (by repeat (first | with_reducible exact Below.refl _ _ | with_reducible refine Below.setCell ?_ (by first | omega | (simp; done) | (simp; omega)) _ | with_reducible refine bDrewN ?_ _ | with_reducible refine Below.drew ?_ | with_reducible refine Below.alloc ?_ (by first | omega | (simp; done) | (simp; omega)) _)))
        replace HS : Hid (Beside r w w11) := by show Beside _ _ _; rw [hw_]; exact HS.out.onB (show Below w.heap.size w10 _ from (by repeat (first | with_reducible exact Below.refl _ _ | with_reducible refine Below.setCell ?_ (by first | omega | (simp; done) | (simp; omega)) _ | with_reducible refine bDrewN ?_ _ | with_reducible refine Below.drew ?_ | with_reducible refine Below.alloc ?_ (by first | omega | (simp; done) | (simp; omega)) _)))
        clear hw_
        clear sz_ zr_ Hs_z
        clear fs3
        clear sc0 sc1 sc2 sc3 sc4 z_s fs
        by_cases hE : (M : Int) ≤ (k : Int) + 1 + b2
        case pos =>
          obtain ⟨z_s, f_s, c_s⟩ := Hs.out
          have sc0 : w11.cell? ⟨gs, 0, none⟩ = some (.int .i64 a0) := c_s 0 _ rfl
          have sc1 : w11.cell? ⟨gs, 1, none⟩ = some (.int .i64 a1) := c_s 1 _ rfl
          have sc2 : w11.cell? ⟨gs, 2, none⟩ = some (.int .i64 (1 + a2)) := c_s 2 _ rfl
          have sc3 : w11.cell? ⟨gs, 3, none⟩ = some (.int .i64 (-1)) := c_s 3 _ rfl
          have sc4 : w11.cell? ⟨gs, 4, none⟩ = some (.int .i64 ((k : Int) + 1 + b2)) := c_s 4 _ rfl
          have fs := f_s
          clear f_s c_s
          go_upto_region 12 with fail
          clear sc0 sc1 sc2 sc3 sc4 z_s fs
          go_wp2_with fail
          refine (below_any 3 (HR.out.below (by repeat (first | with_reducible exact Below.refl _ _ | with_reducible refine Below.setCell ?_ (by first | omega | (simp; done) | (simp; omega)) _ | with_reducible refine bDrewN ?_ _ | with_reducible refine Below.drew ?_ | with_reducible refine Below.alloc ?_ (by first | omega | (simp; done) | (simp; omega)) _)))).mono ?_
          rintro e w12 ⟨b3, pf, rfl, b30, b31, b32, R_, b_⟩
          have Hs_z : gs < w11.heap.size := Hs.out.1
          have sz_ : w.heap.size ≤ w11.heap.size := HS.out.2.2.2.1
          have zr_ : r < w11.heap.size := HR.out.1
          have bb : Beside r w11 w12 := (Beside.of (show Below w11.heap.size w11 _ from (by repeat (first | with_reducible exact Below.refl _ _ | with_reducible refine Below.setCell ?_ (by first | omega | (simp; done) | (simp; omega)) _ | with_reducible refine bDrewN ?_ _ | with_reducible refine Below.drew ?_ | with_reducible refine Below.alloc ?_ (by first | omega | (simp; done) | (simp; omega)) _)))).trans b_
          replace Hs : Hid (Blk w12 gs [.int .i64 a0, .int .i64 a1, .int .i64 (1 + a2), .int .i64 (-1), .int .i64 ((k : Int) + 1 + b2)]) := Hs.out.beside bb (by omega)
          replace Ho : Hid (Lst bo 33 5 w12 u4 k U) := Ho.out.beside bb (by omega)
          replace Zo : Hid (bo ≤ w12.heap.size) := Nat.le_trans Zo.out bb.2.2.2.1
          replace HS : Hid (Beside r w w12) := HS.out.trans bb
          replace HR : Hid (Rd w12 r s n c pf) := R_
          clear R_
          clear bb b_ sz_ zr_ Hs_z
          have b33 : b3 ≤ 2 := by omega
          clear b31 b32
          obtain ⟨z_s, f_s, c_s⟩ := Hs.out
          have sc0 : w12.cell? ⟨gs, 0, none⟩ = some (.int .i64 a0) := c_s 0 _ rfl
          have sc1 : w12.cell? ⟨gs, 1, none⟩ = some (.int .i64 a1) := c_s 1 _ rfl
          have sc2 : w12.cell? ⟨gs, 2, none⟩ = some (.int .i64 (1 + a2)) := c_s 2 _ rfl
          have sc3 : w12.cell? ⟨gs, 3, none⟩ = some (.int .i64 (-1)) := c_s 3 _ rfl
          have sc4 : w12.cell? ⟨gs, 4, none⟩ = some (.int .i64 ((k : Int) + 1 + b2)) := c_s 4 _ rfl
          have fs := f_s
          clear f_s c_s
          have fs4 := fs 4
          go_upto_region 13 with fail
          have Hs_z : gs < w12.heap.size := Hs.out.1
          have sz_ : w.heap.size ≤ w12.heap.size := HS.out.2.2.2.1
          have zr_ : r < w12.heap.size := HR.out.1
          obtain ⟨w13, hw_⟩ : ∃ x_, x_ = (w12.setCell ⟨gs, 4, none⟩ (.int .i64 (-1 - b3))) := ⟨_, rfl⟩
          rw [← hw_]
          replace Hs : Hid (Blk w13 gs [.int .i64 a0, .int .i64 a1, .int .i64 (1 + a2), .int .i64 (-1), .int .i64 (-1 - b3)]) := by show Blk _ _ _; rw [hw_]; exact (Hs.out.set 4 (.int .i64 (-1 - b3)))
          replace Ho : Hid (Lst bo 33 5 w13 u4 k U) := by show Lst _ _ _ _ _ _ _; rw [hw_]; exact Ho.out.same fun g hg => (Beside.setCell gs _ 4 _).2.2.2.2 g (Ho.out.lt g hg).2 (fun e => QS.out (by rw [← e]; exact hg))
          replace Zo : Hid (bo ≤ w13.heap.size) := by have := Zo.out; show _ ≤ _; rw [hw_]; simp; omega
          replace HR : Hid (Rd w13 r s n c pf) := by show Rd _ _ _ _ _ _; rw [hw_]; exact Rd.below' HR.out (show Below (r + 1) w12 _ from (by repeat (first | with_reducible exact Below.refl _ _ | with_reducible refine Below.setCell ?_ (by first | omega | (simp; done) | (simp; omega)) _ | with_reducible refine bDrewN ?_ _ | with_reducible refine Below.drew ?_ | with_reducible refine Below.alloc ?_ (by first | omega | (simp; done) | (simp; omega)) _)))
          replace HS : Hid (Beside r w w13) := by show Beside _ _ _; rw [hw_]; exact HS.out.onB (show Below w.heap.size w12 _ from (by repeat (first | with_reducible exact Below.refl _ _ | with_reducible refine Below.setCell ?_ (by first | omega | (simp; done) | (simp; omega)) _ | with_reducible refine bDrewN ?_ _ | with_reducible refine Below.drew ?_ | with_reducible refine Below.alloc ?_ (by first | omega | (simp; done) | (simp; omega)) _)))
          clear hw_
          clear sz_ zr_ Hs_z
          clear fs4
          clear sc0 sc1 sc2 sc3 sc4 z_s fs
          obtain ⟨z_s, f_s, c_s⟩ := Hs.out
          have sc0 : w13.cell? ⟨gs, 0, none⟩ = some (.int .i64 a0) := c_s 0 _ rfl
          have sc1 : w13.cell? ⟨gs, 1, none⟩ = some (.int .i64 a1) := c_s 1 _ rfl
          have sc2 : w13.cell? ⟨gs, 2, none⟩ = some (.int .i64 (1 + a2)) := c_s 2 _ rfl
          have sc3 : w13.cell? ⟨gs, 3, none⟩ = some (.int .i64 (-1)) := c_s 3 _ rfl
          have sc4 : w13.cell? ⟨gs, 4, none⟩ = some (.int .i64 (-1 - b3)) := c_s 4 _ rfl
          have fs := f_s
          clear f_s c_s
          have zl_ : bo ≤ w13.heap.size := Zo.out
          go_wp2_with (at_builtin; refine list_Step bo u4 k U (.tmp 62) (.tmp 64) (by rfl) (by rfl) (by rfl) (by rfl) Ho.out (by omega) (by omega) ?_; intro g9 cap9 w14 l9 b9)
          have No : Hid (Lst bo 33 5 w14 (.slice (some ⟨g9, 0, none⟩) (k + 1) cap9) (k + 1) (putL U 5 k [a0, a1, (1 + a2), (-1), (-1 - b3)])) := l9
          clear sc0 sc1 sc2 sc3 sc4 z_s fs
          clear zl_ l9 Hs
          replace Zo : Hid (bo ≤ w14.heap.size) := Nat.le_trans Zo.out b9.size
          replace HR : Hid (Rd w14 r s n c pf) := Rd.below' HR.out (b9.mono (by omega))
          replace HS : Hid (Beside r w w14) := HS.out.onB (b9.mono (by omega))
          replace Ho := No
          clear b9
          go_roundw
          case rel => exact ⟨k + 1, _, pf, by omega, by go_num, HR, HS, Ho, Zo⟩
          case measure => simp [intOf]; omega
        case neg =>
          obtain ⟨z_s, f_s, c_s⟩ := Hs.out
          have sc0 : w11.cell? ⟨gs, 0, none⟩ = some (.int .i64 a0) := c_s 0 _ rfl
          have sc1 : w11.cell? ⟨gs, 1, none⟩ = some (.int .i64 a1) := c_s 1 _ rfl
          have sc2 : w11.cell? ⟨gs, 2, none⟩ = some (.int .i64 (1 + a2)) := c_s 2 _ rfl
          have sc3 : w11.cell? ⟨gs, 3, none⟩ = some (.int .i64 (-1)) := c_s 3 _ rfl
          have sc4 : w11.cell? ⟨gs, 4, none⟩ = some (.int .i64 ((k : Int) + 1 + b2)) := c_s 4 _ rfl
          have fs := f_s
          clear f_s c_s
          go_wp2_with fail
          clear sc0 sc1 sc2 sc3 sc4 z_s fs
          go_wp2_with fail
          refine (once_any 2 (by omega) (by omega) (HR.out.below (by repeat (first | with_reducible exact Below.refl _ _ | with_reducible refine Below.setCell ?_ (by first | omega | (simp; done) | (simp; omega)) _ | with_reducible refine bDrewN ?_ _ | with_reducible refine Below.drew ?_ | with_reducible refine Below.alloc ?_ (by first | omega | (simp; done) | (simp; omega)) _)))).mono ?_
          rintro e w12 ⟨fl, pg, rfl, R_, b_⟩
          have Hs_z : gs < w11.heap.size := Hs.out.1
          have sz_ : w.heap.size ≤ w11.heap.size := HS.out.2.2.2.1
          have zr_ : r < w11.heap.size := HR.out.1
          have bb : Beside r w11 w12 := (Beside.of (show Below w11.heap.size w11 _ from (by repeat (first | with_reducible exact Below.refl _ _ | with_reducible refine Below.setCell ?_ (by first | omega | (simp; done) | (simp; omega)) _ | with_reducible refine bDrewN ?_ _ | with_reducible refine Below.drew ?_ | with_reducible refine Below.alloc ?_ (by first | omega | (simp; done) | (simp; omega)) _)))).trans b_
          replace Hs : Hid (Blk w12 gs [.int .i64 a0, .int .i64 a1, .int .i64 (1 + a2), .int .i64 (-1), .int .i64 ((k : Int) + 1 + b2)]) := Hs.out.beside bb (by omega)
          replace Ho : Hid (Lst bo 33 5 w12 u4 k U) := Ho.out.beside bb (by omega)
          replace Zo : Hid (bo ≤ w12.heap.size) := Nat.le_trans Zo.out bb.2.2.2.1
          replace HS : Hid (Beside r w w12) := HS.out.trans bb
          replace HR : Hid (Rd w12 r s n c pg) := R_
          clear R_
          clear bb b_ sz_ zr_ Hs_z
          cases fl
          case true =>
            go_wp2_with fail
            refine (below_any 3 (HR.out.below (by repeat (first | with_reducible exact Below.refl _ _ | with_reducible refine Below.setCell ?_ (by first | omega | (simp; done) | (simp; omega)) _ | with_reducible refine bDrewN ?_ _ | with_reducible refine Below.drew ?_ | with_reducible refine Below.alloc ?_ (by first | omega | (simp; done) | (simp; omega)) _)))).mono ?_
            rintro e w13 ⟨b3, pf, rfl, b30, b31, b32, R_, b_⟩
            have Hs_z : gs < w12.heap.size := Hs.out.1
            have sz_ : w.heap.size ≤ w12.heap.size := HS.out.2.2.2.1
            have zr_ : r < w12.heap.size := HR.out.1
            have bb : Beside r w12 w13 := (Beside.of (show Below w12.heap.size w12 _ from (by repeat (first | with_reducible exact Below.refl _ _ | with_reducible refine Below.setCell ?_ (by first | omega | (simp; done) | (simp; omega)) _ | with_reducible refine bDrewN ?_ _ | with_reducible refine Below.drew ?_ | with_reducible refine Below.alloc ?_ (by first | omega | (simp; done) | (simp; omega)) _)))).trans b_
            replace Hs : Hid (Blk w13 gs [.int .i64 a0, .int .i64 a1, .int .i64 (1 + a2), .int .i64 (-1), .int .i64 ((k : Int) + 1 + b2)]) := Hs.out.beside bb (by omega)
            replace Ho : Hid (Lst bo 33 5 w13 u4 k U) := Ho.out.beside bb (by omega)
            replace Zo : Hid (bo ≤ w13.heap.size) := Nat.le_trans Zo.out bb.2.2.2.1
            replace HS : Hid (Beside r w w13) := HS.out.trans bb
            replace HR : Hid (Rd w13 r s n c pf) := R_
            clear R_
            clear bb b_ sz_ zr_ Hs_z
            have b33 : b3 ≤ 2 := by omega
            clear b31 b32
            obtain ⟨z_s, f_s, c_s⟩ := Hs.out
            have sc0 : w13.cell? ⟨gs, 0, none⟩ = some (.int .i64 a0) := c_s 0 _ rfl
            have sc1 : w13.cell? ⟨gs, 1, none⟩ = some (.int .i64 a1) := c_s 1 _ rfl
            have sc2 : w13.cell? ⟨gs, 2, none⟩ = some (.int .i64 (1 + a2)) := c_s 2 _ rfl
            have sc3 : w13.cell? ⟨gs, 3, none⟩ = some (.int .i64 (-1)) := c_s 3 _ rfl
            have sc4 : w13.cell? ⟨gs, 4, none⟩ = some (.int .i64 ((k : Int) + 1 + b2)) := c_s 4 _ rfl
            have fs := f_s
            clear f_s c_s
            have fs4 := fs 4
            go_upto_region 13 with fail
            have Hs_z : gs < w13.heap.size := Hs.out.1
            have sz_ : w.heap.size ≤ w13.heap.size := HS.out.2.2.2.1
            have zr_ : r < w13.heap.size := HR.out.1
            obtain ⟨w14, hw_⟩ : ∃ x_, x_ = (w13.setCell ⟨gs, 4, none⟩ (.int .i64 (-1 - b3))) := ⟨_, rfl⟩
            rw [← hw_]
            replace Hs : Hid (Blk w14 gs [.int .i64 a0, .int .i64 a1, .int .i64 (1 + a2), .int .i64 (-1), .int .i64 (-1 - b3)]) := by show Blk _ _ _; rw [hw_]; exact (Hs.out.set 4 (.int .i64 (-1 - b3)))
            replace Ho : Hid (Lst bo 33 5 w14 u4 k U) := by show Lst _ _ _ _ _ _ _; rw [hw_]; exact Ho.out.same fun g hg => (Beside.setCell gs _ 4 _).2.2.2.2 g (Ho.out.lt g hg).2 (fun e => QS.out (by rw [← e]; exact hg))
            replace Zo : Hid (bo ≤ w14.heap.size) := by have := Zo.out; show _ ≤ _; rw [hw_]; simp; omega
            replace HR : Hid (Rd w14 r s n c pf) := by show Rd _ _ _ _ _ _; rw [hw_]; exact Rd.below' HR.out (show Below (r + 1) w13 _ from (by repeat (first | with_reducible exact Below.refl _ _ | with_reducible refine Below.setCell ?_ (by first | omega | (simp; done) | (simp; omega)) _ | with_reducible refine bDrewN ?_ _ | with_reducible refine Below.drew ?_ | with_reducible refine Below.alloc ?_ (by first | omega | (simp; done) | (simp; omega)) _)))
            replace HS : Hid (Beside r w w14) := by show Beside _ _ _; rw [hw_]; exact HS.out.onB (show Below w.heap.size w13 _ from (by repeat (first | with_reducible exact Below.refl _ _ | with_reducible refine Below.setCell ?_ (by first | omega | (simp; done) | (simp; omega)) _ | with_reducible refine bDrewN ?_ _ | with_reducible refine Below.drew ?_ | with_reducible refine Below.alloc ?_ (by first | omega | (simp; done) | (simp; omega)) _)))
            clear hw_
            clear sz_ zr_ Hs_z
            clear fs4
            clear sc0 sc1 sc2 sc3 sc4 z_s fs
            obtain ⟨z_s, f_s, c_s⟩ := Hs.out
            have sc0 : w14.cell? ⟨gs, 0, none⟩ = some (.int .i64 a0) := c_s 0 _ rfl
            have sc1 : w14.cell? ⟨gs, 1, none⟩ = some (.int .i64 a1) := c_s 1 _ rfl
            have sc2 : w14.cell? ⟨gs, 2, none⟩ = some (.int .i64 (1 + a2)) := c_s 2 _ rfl
            have sc3 : w14.cell? ⟨gs, 3, none⟩ = some (.int .i64 (-1)) := c_s 3 _ rfl
            have sc4 : w14.cell? ⟨gs, 4, none⟩ = some (.int .i64 (-1 - b3)) := c_s 4 _ rfl
            have fs := f_s
            clear f_s c_s
            have zl_ : bo ≤ w14.heap.size := Zo.out
            go_wp2_with (at_builtin; refine list_Step bo u4 k U (.tmp 62) (.tmp 64) (by rfl) (by rfl) (by rfl) (by rfl) Ho.out (by omega) (by omega) ?_; intro g9 cap9 w15 l9 b9)
            have No : Hid (Lst bo 33 5 w15 (.slice (some ⟨g9, 0, none⟩) (k + 1) cap9) (k + 1) (putL U 5 k [a0, a1, (1 + a2), (-1), (-1 - b3)])) := l9
            clear sc0 sc1 sc2 sc3 sc4 z_s fs
            clear zl_ l9 Hs
            replace Zo : Hid (bo ≤ w15.heap.size) := Nat.le_trans Zo.out b9.size
            replace HR : Hid (Rd w15 r s n c pf) := Rd.below' HR.out (b9.mono (by omega))
            replace HS : Hid (Beside r w w15) := HS.out.onB (b9.mono (by omega))
            replace Ho := No
            clear b9
            go_roundw
            case rel => exact ⟨k + 1, _, pf, by omega, by go_num, HR, HS, Ho, Zo⟩
            case measure => simp [intOf]; omega
          case false =>
            obtain ⟨z_s, f_s, c_s⟩ := Hs.out
            have sc0 : w12.cell? ⟨gs, 0, none⟩ = some (.int .i64 a0) := c_s 0 _ rfl
            have sc1 : w12.cell? ⟨gs, 1, none⟩ = some (.int .i64 a1) := c_s 1 _ rfl
            have sc2 : w12.cell? ⟨gs, 2, none⟩ = some (.int .i64 (1 + a2)) := c_s 2 _ rfl
            have sc3 : w12.cell? ⟨gs, 3, none⟩ = some (.int .i64 (-1)) := c_s 3 _ rfl
            have sc4 : w12.cell? ⟨gs, 4, none⟩ = some (.int .i64 ((k : Int) + 1 + b2)) := c_s 4 _ rfl
            have fs := f_s
            clear f_s c_s
            have zl_ : bo ≤ w12.heap.size := Zo.out
            go_wp2_with (at_builtin; refine list_Step bo u4 k U (.tmp 62) (.tmp 64) (by rfl) (by rfl) (by rfl) (by rfl) Ho.out (by omega) (by omega) ?_; intro g9 cap9 w13 l9 b9)
            have No : Hid (Lst bo 33 5 w13 (.slice (some ⟨g9, 0, none⟩) (k + 1) cap9) (k + 1) (putL U 5 k [a0, a1, (1 + a2), (-1), ((k : Int) + 1 + b2)])) := l9
            clear sc0 sc1 sc2 sc3 sc4 z_s fs
            clear zl_ l9 Hs
            replace Zo : Hid (bo ≤ w13.heap.size) := Nat.le_trans Zo.out b9.size
            replace HR : Hid (Rd w13 r s n c pg) := Rd.below' HR.out (b9.mono (by omega))
            replace HS : Hid (Beside r w w13) := HS.out.onB (b9.mono (by omega))
            replace Ho := No
            clear b9
            go_roundw
            case rel => exact ⟨k + 1, _, pg, by omega, by go_num, HR, HS, Ho, Zo⟩
            case measure => simp [intOf]; omega
      case neg =>
        obtain ⟨z_s, f_s, c_s⟩ := Hs.out
        have sc0 : w10.cell? ⟨gs, 0, none⟩ = some (.int .i64 a0) := c_s 0 _ rfl
        have sc1 : w10.cell? ⟨gs, 1, none⟩ = some (.int .i64 a1) := c_s 1 _ rfl
        have sc2 : w10.cell? ⟨gs, 2, none⟩ = some (.int .i64 (1 + a2)) := c_s 2 _ rfl
        have sc3 : w10.cell? ⟨gs, 3, none⟩ = some (.int .i64 ((k : Int) + 1 + b1)) := c_s 3 _ rfl
        have sc4 : w10.cell? ⟨gs, 4, none⟩ = some (.int .i64 ((k : Int) + 1 + b2)) := c_s 4 _ rfl
        have fs := f_s
        clear f_s c_s
        go_upto_region 11 with fail
        clear sc0 sc1 sc2 sc3 sc4 z_s fs
        by_cases hE : (M : Int) ≤ (k : Int) + 1 + b2
        case pos =>
          obtain ⟨z_s, f_s, c_s⟩ := Hs.out
          have sc0 : w10.cell? ⟨gs, 0, none⟩ = some (.int .i64 a0) := c_s 0 _ rfl
          have sc1 : w10.cell? ⟨gs, 1, none⟩ = some (.int .i64 a1) := c_s 1 _ rfl
          have sc2 : w10.cell? ⟨gs, 2, none⟩ = some (.int .i64 (1 + a2)) := c_s 2 _ rfl
          have sc3 : w10.cell? ⟨gs, 3, none⟩ = some (.int .i64 ((k : Int) + 1 + b1)) := c_s 3 _ rfl
          have sc4 : w10.cell? ⟨gs, 4, none⟩ = some (.int .i64 ((k : Int) + 1 + b2)) := c_s 4 _ rfl
          have fs := f_s
          clear f_s c_s
          go_upto_region 12 with fail
          clear sc0 sc1 sc2 sc3 sc4 z_s fs
          go_wp2_with fail
          refine (below_any 3 (HR.out.below (by repeat (first | with_reducible exact Below.refl _ _ | with_reducible refine Below.setCell ?_ (by first | omega | (simp; done) | (simp; omega)) _ | with_reducible refine bDrewN ?_ _ | with_reducible refine Below.drew ?_ | with_reducible refine Below.alloc ?_ (by first | omega | (simp; done) | (simp; omega)) _)))).mono ?_
          rintro e w11 ⟨b3, pf, rfl, b30, b31, b32, R_, b_⟩
          have Hs_z : gs < w10.heap.size := Hs.out.1
          have sz_ : w.heap.size ≤ w10.heap.size := HS.out.2.2.2.1
          have zr_ : r < w10.heap.size := HR.out.1
          have bb : Beside r w10 w11 := (Beside.of (show Below w10.heap.size w10 _ from (by repeat (first | with_reducible exact Below.refl _ _ | with_reducible refine Below.setCell ?_ (by first | omega | (simp; done) | (simp; omega)) _ | with_reducible refine bDrewN ?_ _ | with_reducible refine Below.drew ?_ | with_reducible refine Below.alloc ?_ (by first | omega | (simp; done) | (simp; omega)) _)))).trans b_
          replace Hs : Hid (Blk w11 gs [.int .i64 a0, .int .i64 a1, .int .i64 (1 + a2), .int .i64 ((k : Int) + 1 + b1), .int .i64 ((k : Int) + 1 + b2)]) := Hs.out.beside bb (by omega)
          replace Ho : Hid (Lst bo 33 5 w11 u4 k U) := Ho.out.beside bb (by omega)
          replace Zo : Hid (bo ≤ w11.heap.size) := Nat.le_trans Zo.out bb.2.2.2.1
          replace HS : Hid (Beside r w w11) := HS.out.trans bb
          replace HR : Hid (Rd w11 r s n c pf) := R_
          clear R_
          clear bb b_ sz_ zr_ Hs_z
          have b33 : b3 ≤ 2 := by omega
          clear b31 b32
          obtain ⟨z_s, f_s, c_s⟩ := Hs.out
          have sc0 : w11.cell? ⟨gs, 0, none⟩ = some (.int .i64 a0) := c_s 0 _ rfl
          have sc1 : w11.cell? ⟨gs, 1, none⟩ = some (.int .i64 a1) := c_s 1 _ rfl
          have sc2 : w11.cell? ⟨gs, 2, none⟩ = some (.int .i64 (1 + a2)) := c_s 2 _ rfl
          have sc3 : w11.cell? ⟨gs, 3, none⟩ = some (.int .i64 ((k : Int) + 1 + b1)) := c_s 3 _ rfl
          have sc4 : w11.cell? ⟨gs, 4, none⟩ = some (.int .i64 ((k : Int) + 1 + b2)) := c_s 4 _ rfl
          have fs := f_s
          clear f_s c_s
          have fs4 := fs 4
          go_upto_region 13 with fail
          have Hs_z : gs < w11.heap.size := Hs.out.1
          have sz_ : w.heap.size ≤ w11.heap.size := HS.out.2.2.2.1
          have zr_ : r < w11.heap.size := HR.out.1
          obtain ⟨w12, hw_⟩ : ∃ x_, x_ = (w11.setCell ⟨gs, 4, none⟩ (.int .i64 (-1 - b3))) := ⟨_, rfl⟩
          rw [← hw_]
          replace Hs : Hid (Blk w12 gs [.int .i64 a0, .int .i64 a1, .int .i64 (1 + a2), .int .i64 ((k : Int) + 1 + b1), .int .i64 (-1 - b3)]) := by show Blk _ _ _; rw [hw_]; exact (Hs.out.set 4 (.int .i64 (-1 - b3)))
          replace Ho : Hid (Lst bo 33 5 w12 u4 k U) := by show Lst _ _ _ _ _ _ _; rw [hw_]; exact Ho.out.same fun g hg => (Beside.setCell gs _ 4 _).2.2.2.2 g (Ho.out.lt g hg).2 (fun e => QS.out (by rw [← e]; exact hg))
          replace Zo : Hid (bo ≤ w12.heap.size) := by have := Zo.out; show _ ≤ _; rw [hw_]; simp; omega
          replace HR : Hid (Rd w12 r s n c pf) := by show Rd _ _ _ _ _ _; rw [hw_]; exact Rd.below' HR.out (show Below (r + 1) w11 _ from (by repeat (first | with_reducible exact Below.refl _ _ | with_reducible refine Below.setCell ?_ (by first | omega | (simp; done) | (simp; omega)) _ | with_reducible refine bDrewN ?_ _ | with_reducible refine Below.drew ?_ | with_reducible refine Below.alloc ?_ (by first | omega | (simp; done) | (simp; omega)) _)))
          replace HS : Hid (Beside r w w12) := by show Beside _ _ _; rw [hw_]; exact HS.out.onB (show Below w.heap.size w11 _ from (by repeat (first | with_reducible exact Below.refl _ _ | with_reducible refine Below.setCell ?_ (by first | omega | (simp; done) | (simp; omega)) _ | with_reducible refine bDrewN ?_ _ | with_reducible refine Below.drew ?_ | with_reducible refine Below.alloc ?_ (by first | omega | (simp; done) | (simp; omega)) _)))
          clear hw_
          clear sz_ zr_ Hs_z
          clear fs4
          clear sc0 sc1 sc2 sc3 sc4 z_s fs
          obtain ⟨z_s, f_s, c_s⟩ := Hs.out
          have sc0 : w12.cell? ⟨gs, 0, none⟩ = some (.int .i64 a0) := c_s 0 _ rfl
          have sc1 : w12.cell? ⟨gs, 1, none⟩ = some (.int .i64 a1) := c_s 1 _ rfl
          have sc2 : w12.cell? ⟨gs, 2, none⟩ = some (.int .i64 (1 + a2)) := c_s 2 _ rfl
          have sc3 : w12.cell? ⟨gs, 3, none⟩ = some (.int .i64 ((k : Int) + 1 + b1)) := c_s 3 _ rfl
          have sc4 : w12.cell? ⟨gs, 4, none⟩ = some (.int .i64 (-1 - b3)) := c_s 4 _ rfl
          have fs := f_s
          clear f_s c_s
          have zl_ : bo ≤ w12.heap.size := Zo.out
          go_wp2_with (at_builtin; refine list_Step bo u4 k U (.tmp 62) (.tmp 64) (by rfl) (by rfl) (by rfl) (by rfl) Ho.out (by omega) (by omega) ?_; intro g9 cap9 w13 l9 b9)
          have No : Hid (Lst bo 33 5 w13 (.slice (some ⟨g9, 0, none⟩) (k + 1) cap9) (k + 1) (putL U 5 k [a0, a1, (1 + a2), ((k : Int) + 1 + b1), (-1 - b3)])) := l9
          clear sc0 sc1 sc2 sc3 sc4 z_s fs
          clear zl_ l9 Hs
          replace Zo : Hid (bo ≤ w13.heap.size) := Nat.le_trans Zo.out b9.size
          replace HR : Hid (Rd w13 r s n c pf) := Rd.below' HR.out (b9.mono (by omega))
          replace HS : Hid (Beside r w w13) := HS.out.onB (b9.mono (by omega))
          replace Ho := No
          clear b9
          go_roundw
          case rel => exact ⟨k + 1, _, pf, by omega, by go_num, HR, HS, Ho, Zo⟩
          case measure => simp [intOf]; omega
        case neg =>
          obtain ⟨z_s, f_s, c_s⟩ := Hs.out
          have sc0 : w10.cell? ⟨gs, 0, none⟩ = some (.int .i64 a0) := c_s 0 _ rfl
          have sc1 : w10.cell? ⟨gs, 1, none⟩ = some (.int .i64 a1) := c_s 1 _ rfl
          have sc2 : w10.cell? ⟨gs, 2, none⟩ = some (.int .i64 (1 + a2)) := c_s 2 _ rfl
          have sc3 : w10.cell? ⟨gs, 3, none⟩ = some (.int .i64 ((k : Int) + 1 + b1)) := c_s 3 _ rfl
          have sc4 : w10.cell? ⟨gs, 4, none⟩ = some (.int .i64 ((k : Int) + 1 + b2)) := c_s 4 _ rfl
          have fs := f_s
          clear f_s c_s
          go_wp2_with fail
          clear sc0 sc1 sc2 sc3 sc4 z_s fs
          go_wp2_with fail
          refine (once_any 2 (by omega) (by omega) (HR.out.below (by repeat (first | with_reducible exact Below.refl _ _ | with_reducible refine Below.setCell ?_ (by first | omega | (simp; done) | (simp; omega)) _ | with_reducible refine bDrewN ?_ _ | with_reducible refine Below.drew ?_ | with_reducible refine Below.alloc ?_ (by first | omega | (simp; done) | (simp; omega)) _)))).mono ?_
          rintro e w11 ⟨fl, pg, rfl, R_, b_⟩
          have Hs_z : gs < w10.heap.size := Hs.out.1
          have sz_ : w.heap.size ≤ w10.heap.size := HS.out.2.2.2.1
          have zr_ : r < w10.heap.size := HR.out.1
          have bb : Beside r w10 w11 := (Beside.of (show Below w10.heap.size w10 _ from (by repeat (first | with_reducible exact Below.refl _ _ | with_reducible refine Below.setCell ?_ (by first | omega | (simp; done) | (simp; omega)) _ | with_reducible refine bDrewN ?_ _ | with_reducible refine Below.drew ?_ | with_reducible refine Below.alloc ?_ (by first | omega | (simp; done) | (simp; omega)) _)))).trans b_
          replace Hs : Hid (Blk w11 gs [.int .i64 a0, .int .i64 a1, .int .i64 (1 + a2), .int .i64 ((k : Int) + 1 + b1), .int .i64 ((k : Int) + 1 + b2)]) := Hs.out.beside bb (by omega)
          replace Ho : Hid (Lst bo 33 5 w11 u4 k U) := Ho.out.beside bb (by omega)
          replace Zo : Hid (bo ≤ w11.heap.size) := Nat.le_trans Zo.out bb.2.2.2.1
          replace HS : Hid (Beside r w w11) := HS.out.trans bb
          replace HR : Hid (Rd w11 r s n c pg) := R_
          clear R_
          clear bb b_ sz_ zr_ Hs_z
          cases fl
          case true =>
            go_wp2_with fail
            refine (below_any 3 (HR.out.below (by repeat (first | with_reducible exact Below.refl _ _ | with_reducible refine Below.setCell ?_ (by first | omega | (simp; done) | (simp; omega)) _ | with_reducible refine bDrewN ?_ _ | with_reducible refine Below.drew ?_ | with_reducible refine Below.alloc ?_ (by first | omega | (simp; done) | (simp; omega)) _)))).mono ?_
            rintro e w12 ⟨b3, pf, rfl, b30, b31, b32, R_, b_⟩
            have Hs_z : gs < w11.heap.size := Hs.out.1
            have sz_ : w.heap.size ≤ w11.heap.size := HS.out.2.2.2.1
            have zr_ : r < w11.heap.size := HR.out.1
            have bb : Beside r w11 w12 := (Beside.of (show Below w11.heap.size w11 _ from (by repeat (first | with_reducible exact Below.refl _ _ | with_reducible refine Below.setCell ?_ (by first | omega | (simp; done) | (simp; omega)) _ | with_reducible refine bDrewN ?_ _ | with_reducible refine Below.drew ?_ | with_reducible refine Below.alloc ?_ (by first | omega | (simp; done) | (simp; omega)) _)))).trans b_
            replace Hs : Hid (Blk w12 gs [.int .i64 a0, .int .i64 a1, .int .i64 (1 + a2), .int .i64 ((k : Int) + 1 + b1), .int .i64 ((k : Int) + 1 + b2)]) := Hs.out.beside bb (by omega)
            replace Ho : Hid (Lst bo 33 5 w12 u4 k U) := Ho.out.beside bb (by omega)
            replace Zo : Hid (bo ≤ w12.heap.size) := Nat.le_trans Zo.out bb.2.2.2.1
            replace HS : Hid (Beside r w w12) := HS.out.trans bb
            replace HR : Hid (Rd w12 r s n c pf) := R_
            clear R_
            clear bb b_ sz_ zr_ Hs_z
            have b33 : b3 ≤ 2 := by omega
            clear b31 b32
            obtain ⟨z_s, f_s, c_s⟩ := Hs.out
            have sc0 : w12.cell? ⟨gs, 0, none⟩ = some (.int .i64 a0) := c_s 0 _ rfl
            have sc1 : w12.cell? ⟨gs, 1, none⟩ = some (.int .i64 a1) := c_s 1 _ rfl
            have sc2 : w12.cell? ⟨gs, 2, none⟩ = some (.int .i64 (1 + a2)) := c_s 2 _ rfl
            have sc3 : w12.cell? ⟨gs, 3, none⟩ = some (.int .i64 ((k : Int) + 1 + b1)) := c_s 3 _ rfl
            have sc4 : w12.cell? ⟨gs, 4, none⟩ = some (.int .i64 ((k : Int) + 1 + b2)) := c_s 4 _ rfl
            have fs := f_s
            clear f_s c_s
            have fs4 := fs 4
            go_upto_region 13 with fail
            have Hs_z : gs < w12.heap.size := Hs.out.1
            have sz_ : w.heap.size ≤ w12.heap.size := HS.out.2.2.2.1
            have zr_ : r < w12.heap.size := HR.out.1
            obtain ⟨w13, hw_⟩ : ∃ x_, x_ = (w12.setCell ⟨gs, 4, none⟩ (.int .i64 (-1 - b3))) := ⟨_, rfl⟩
            rw [← hw_]
            replace Hs : Hid (Blk w13 gs [.int .i64 a0, .int .i64 a1, .int .i64 (1 + a2), .int .i64 ((k : Int) + 1 + b1), .int .i64 (-1 - b3)]) := by show Blk _ _ _; rw [hw_]; exact (Hs.out.set 4 (.int .i64 (-1 - b3)))
            replace Ho : Hid (Lst bo 33 5 w13 u4 k U) := by show Lst _ _ _ _ _ _ _; rw [hw_]; exact Ho.out.same fun g hg => (Beside.setCell gs _ 4 _).2.2.2.2 g (Ho.out.lt g hg).2 (fun e => QS.out (by rw [← e]; exact hg))
            replace Zo : Hid (bo ≤ w13.heap.size) := by have := Zo.out; show _ ≤ _; rw [hw_]; simp; omega
            replace HR : Hid (Rd w13 r s n c pf) := by show Rd _ _ _ _ _ _; rw [hw_]; exact Rd.below' HR.out (show Below (r + 1) w12 _ from (by repeat (first | with_reducible exact Below.refl _ _ | with_reducible refine Below.setCell ?_ (by first | omega | (simp; done) | (simp; omega)) _ | with_reducible refine bDrewN ?_ _ | with_reducible refine Below.drew ?_ | with_reducible refine Below.alloc ?_ (by first | omega | (simp; done) | (simp; omega)) _)))
            replace HS : Hid (Beside r w w13) := by show Beside _ _ _; rw [hw_]; exact HS.out.onB (show Below w.heap.size w12 _ from (by repeat (first | with_reducible exact Below.refl _ _ | with_reducible refine Below.setCell ?_ (by first | omega | (simp; done) | (simp; omega)) _ | with_reducible refine bDrewN ?_ _ | with_reducible refine Below.drew ?_ | with_reducible refine Below.alloc ?_ (by first | omega | (simp; done) | (simp; omega)) _)))
            clear hw_
            clear sz_ zr_ Hs_z
            clear fs4
            clear sc0 sc1 sc2 sc3 sc4 z_s fs
            obtain ⟨z_s, f_s, c_s⟩ := Hs.out
            have sc0 : w13.cell? ⟨gs, 0, none⟩ = some (.int .i64 a0) := c_s 0 _ rfl
            have sc1 : w13.cell? ⟨gs, 1, none⟩ = some (.int .i64 a1) := c_s 1 _ rfl
            have sc2 : w13.cell? ⟨gs, 2, none⟩ = some (.int .i64 (1 + a2)) := c_s 2 _ rfl
            have sc3 : w13.cell? ⟨gs, 3, none⟩ = some (.int .i64 ((k : Int) + 1 + b1)) := c_s 3 _ rfl
            have sc4 : w13.cell? ⟨gs, 4, none⟩ = some (.int .i64 (-1 - b3)) := c_s 4 _ rfl
            have fs := f_s
            clear f_s c_s
            have zl_ : bo ≤ w13.heap.size := Zo.out
            go_wp2_with (at_builtin; refine list_Step bo u4 k U (.tmp 62) (.tmp 64) (by rfl) (by rfl) (by rfl) (by rfl) Ho.out (by omega) (by omega) ?_; intro g9 cap9 w14 l9 b9)
            have No : Hid (Lst bo 33 5 w14 (.slice (some ⟨g9, 0, none⟩) (k + 1) cap9) (k + 1) (putL U 5 k [a0, a1, (1 + a2), ((k : Int) + 1 + b1), (-1 - b3)])) := l9
            clear sc0 sc1 sc2 sc3 sc4 z_s fs
            clear zl_ l9 Hs
            replace Zo : Hid (bo ≤ w14.heap.size) := Nat.le_trans Zo.out b9.size
            replace HR : Hid (Rd w14 r s n c pf) := Rd.below' HR.out (b9.mono (by omega))
            replace HS : Hid (Beside r w w14) := HS.out.onB (b9.mono (by omega))
            replace Ho := No
            clear b9
            go_roundw
            case rel => exact ⟨k + 1, _, pf, by omega, by go_num, HR, HS, Ho, Zo⟩
            case measure => simp [intOf]; omega
          case false =>
            obtain ⟨z_s, f_s, c_s⟩ := Hs.out
            have sc0 : w11.cell? ⟨gs, 0, none⟩ = some (.int .i64 a0) := c_s 0 _ rfl
            have sc1 : w11.cell? ⟨gs, 1, none⟩ = some (.int .i64 a1) := c_s 1 _ rfl
            have sc2 : w11.cell? ⟨gs, 2, none⟩ = some (.int .i64 (1 + a2)) := c_s 2 _ rfl
            have sc3 : w11.cell? ⟨gs, 3, none⟩ = some (.int .i64 ((k : Int) + 1 + b1)) := c_s 3 _ rfl
            have sc4 : w11.cell? ⟨gs, 4, none⟩ = some (.int .i64 ((k : Int) + 1 + b2)) := c_s 4 _ rfl
            have fs := f_s
            clear f_s c_s
            have zl_ : bo ≤ w11.heap.size := Zo.out
            go_wp2_with (at_builtin; refine list_Step bo u4 k U (.tmp 62) (.tmp 64) (by rfl) (by rfl) (by rfl) (by rfl) Ho.out (by omega) (by omega) ?_; intro g9 cap9 w12 l9 b9)
            have No : Hid (Lst bo 33 5 w12 (.slice (some ⟨g9, 0, none⟩) (k + 1) cap9) (k + 1) (putL U 5 k [a0, a1, (1 + a2), ((k : Int) + 1 + b1), ((k : Int) + 1 + b2)])) := l9
            clear sc0 sc1 sc2 sc3 sc4 z_s fs
            clear zl_ l9 Hs
            replace Zo : Hid (bo ≤ w12.heap.size) := Nat.le_trans Zo.out b9.size
            replace HR : Hid (Rd w12 r s n c pg) := Rd.below' HR.out (b9.mono (by omega))
            replace HS : Hid (Beside r w w12) := HS.out.onB (b9.mono (by omega))
            replace Ho := No
            clear b9
            go_roundw
            case rel => exact ⟨k + 1, _, pg, by omega, by go_num, HR, HS, Ho, Zo⟩
            case measure => simp [intOf]; omega
    case neg =>
      obtain rfl : k = M := by omega
      clear hlt hk
      rename World => wl
      go_wp2_with fail
      refine (below_any (k : Int) (HR.out.below (by repeat (first | with_reducible exact Below.refl _ _ | with_reducible refine Below.setCell ?_ (by first | omega | (simp; done) | (simp; omega)) _ | with_reducible refine bDrewN ?_ _ | with_reducible refine Below.drew ?_ | with_reducible refine Below.alloc ?_ (by first | omega | (simp; done) | (simp; omega)) _)))).mono ?_
      rintro e w3 ⟨ii, pi, rfl, ii0, ii1, ii2, R_, b_⟩
      have sz_ : w.heap.size ≤ wl.heap.size := HS.out.2.2.2.1
      have zr_ : r < wl.heap.size := HR.out.1
      have bb : Beside r wl w3 := (Beside.of (show Below wl.heap.size wl _ from (by repeat (first | with_reducible exact Below.refl _ _ | with_reducible refine Below.setCell ?_ (by first | omega | (simp; done) | (simp; omega)) _ | with_reducible refine bDrewN ?_ _ | with_reducible refine Below.drew ?_ | with_reducible refine Below.alloc ?_ (by first | omega | (simp; done) | (simp; omega)) _)))).trans b_
      replace Ho : Hid (Lst bo 33 5 w3 u4 k U) := Ho.out.beside bb (by omega)
      replace Zo : Hid (bo ≤ w3.heap.size) := Nat.le_trans Zo.out bb.2.2.2.1
      replace HS : Hid (Beside r w w3) := HS.out.trans bb
      replace HR : Hid (Rd w3 r s n c pi) := R_
      clear R_
      clear bb b_ sz_ zr_ 
      have ii3 : ii < (k : Int) := by omega
      clear ii1 ii2
      obtain ⟨i9, hi9⟩ : ∃ i9 : Nat, ii = (i9 : Int) := ⟨ii.toNat, by omega⟩
      subst hi9
      go_wp2_with fail
      refine (below_any 30 (HR.out.below (by repeat (first | with_reducible exact Below.refl _ _ | with_reducible refine Below.setCell ?_ (by first | omega | (simp; done) | (simp; omega)) _ | with_reducible refine bDrewN ?_ _ | with_reducible refine Below.drew ?_ | with_reducible refine Below.alloc ?_ (by first | omega | (simp; done) | (simp; omega)) _)))).mono ?_
      rintro e w4 ⟨kk, pk, rfl, kk0, kk1, kk2, R_, b_⟩
      have sz_ : w.heap.size ≤ w3.heap.size := HS.out.2.2.2.1
      have zr_ : r < w3.heap.size := HR.out.1
      have bb : Beside r w3 w4 := (Beside.of (show Below w3.heap.size w3 _ from (by repeat (first | with_reducible exact Below.refl _ _ | with_reducible refine Below.setCell ?_ (by first | omega | (simp; done) | (simp; omega)) _ | with_reducible refine bDrewN ?_ _ | with_reducible refine Below.drew ?_ | with_reducible refine Below.alloc ?_ (by first | omega | (simp; done) | (simp; omega)) _)))).trans b_
      replace Ho : Hid (Lst bo 33 5 w4 u4 k U) := Ho.out.beside bb (by omega)
      replace Zo : Hid (bo ≤ w4.heap.size) := Nat.le_trans Zo.out bb.2.2.2.1
      replace HS : Hid (Beside r w w4) := HS.out.trans bb
      replace HR : Hid (Rd w4 r s n c pk) := R_
      clear R_
      clear bb b_ sz_ zr_ 
      clear kk1 kk2
      obtain ⟨t1, cap, eu, OW⟩ := Ho.out.own
      cases eu
      obtain ⟨g, rfl, gb, -, -, -⟩ := OW 0 (by omega)
      have HL : Hid (Lst bo 33 5 w4 (.slice (some ⟨g, 0, none⟩) k cap) k U) := Ho
      have HO : Hid (OwnI bo w4 (some ⟨g, 0, none⟩) (k * 5) U) := OW
      clear OW Ho Zo
      by_cases e0 : kk = 0
      case pos =>
        subst e0
        have wk : IntKind.i64.wrap ((k : Int) - 1) = (k : Int) - 1 := by rw [IntKind.wrap_i64]; omega
        go_wp2_with fail
        refine (off_any (-3) ((k : Int) - 1) (by omega) (by omega) (by omega) (HR.out.below (by repeat (first | with_reducible exact Below.refl _ _ | with_reducible refine Below.setCell ?_ (by first | omega | (simp; done) | (simp; omega)) _ | with_reducible refine bDrewN ?_ _ | with_reducible refine Below.drew ?_ | with_reducible refine Below.alloc ?_ (by first | omega | (simp; done) | (simp; omega)) _)))).mono ?_
        rintro e w5 ⟨v9, pv, rfl, v90, R_, b_⟩
        have sz_ : w.heap.size ≤ w4.heap.size := HS.out.2.2.2.1
        have zr_ : r < w4.heap.size := HR.out.1
        have bb : Beside r w4 w5 := (Beside.of (show Below w4.heap.size w4 _ from (by repeat (first | with_reducible exact Below.refl _ _ | with_reducible refine Below.setCell ?_ (by first | omega | (simp; done) | (simp; omega)) _ | with_reducible refine bDrewN ?_ _ | with_reducible refine Below.drew ?_ | with_reducible refine Below.alloc ?_ (by first | omega | (simp; done) | (simp; omega)) _)))).trans b_
        replace HS : Hid (Beside r w w5) := HS.out.trans bb
        replace HR : Hid (Rd w5 r s n c pv) := R_
        clear R_
        replace HO : Hid (OwnI bo w5 (some ⟨g, 0, none⟩) (k * 5) U) := ownB_besideP HO.out bb (by omega)
        clear bb b_ sz_ zr_ 
        clear HL
        obtain ⟨gg_, eg_, -, zz_a, cea, cfa⟩ := HO.out (i9 * 5 + 3) (by omega)
        cases eg_
        have BS := HS.out
        have sBS := BS.2.2.2.1
        have OF := HO.out.putP (i9 * 5 + 3) v9
        go_wp2
        go_ret
        unfold PlnPost
        exact ⟨_, k, cap, _, pv, rfl, by omega, by omega, OF.mono lbo, Rd.below' HR.out (show Below (r + 1) w5 _ from (by repeat (first | with_reducible exact Below.refl _ _ | with_reducible refine Below.setCell ?_ (by first | omega | (simp; done) | (simp; omega)) _ | with_reducible refine bDrewN ?_ _ | with_reducible refine Below.drew ?_ | with_reducible refine Below.alloc ?_ (by first | omega | (simp; done) | (simp; omega)) _))), BS.onB (show Below w.heap.size w5 _ from (by repeat (first | with_reducible exact Below.refl _ _ | with_reducible refine Below.setCell ?_ (by first | omega | (simp; done) | (simp; omega)) _ | with_reducible refine bDrewN ?_ _ | with_reducible refine Below.drew ?_ | with_reducible refine Below.alloc ?_ (by first | omega | (simp; done) | (simp; omega)) _)))⟩
      have ne0 : (kk == 0) = false := by simpa using e0
      by_cases e1 : kk = 1
      case pos =>
        subst e1
        clear HL
        obtain ⟨gg_, eg_, -, zz_a, cea, cfa⟩ := HO.out (i9 * 5 + 4) (by omega)
        cases eg_
        have BS := HS.out
        have sBS := BS.2.2.2.1
        have OF := HO.out.putP (i9 * 5 + 4) (i9 : Int)
        go_wp2
        go_ret
        unfold PlnPost
        exact ⟨_, k, cap, _, pk, rfl, by omega, by omega, OF.mono lbo, Rd.below' HR.out (show Below (r + 1) w4 _ from (by repeat (first | with_reducible exact Below.refl _ _ | with_reducible refine Below.setCell ?_ (by first | omega | (simp; done) | (simp; omega)) _ | with_reducible refine bDrewN ?_ _ | with_reducible refine Below.drew ?_ | with_reducible refine Below.alloc ?_ (by first | omega | (simp; done) | (simp; omega)) _))), BS.onB (show Below w.heap.size w4 _ from (by repeat (first | with_reducible exact Below.refl _ _ | with_reducible refine Below.setCell ?_ (by first | omega | (simp; done) | (simp; omega)) _ | with_reducible refine bDrewN ?_ _ | with_reducible refine Below.drew ?_ | with_reducible refine Below.alloc ?_ (by first | omega | (simp; done) | (simp; omega)) _)))⟩
      have ne1 : (kk == 1) = false := by simpa using e1
      by_cases e2 : kk = 2
      case pos =>
        subst e2
        go_wp2_with fail
        refine (off_any 1 1000 (by omega) (by omega) (by omega) (HR.out.below (by repeat (first | with_reducible exact Below.refl _ _ | with_reducible refine Below.setCell ?_ (by first | omega | (simp; done) | (simp; omega)) _ | with_reducible refine bDrewN ?_ _ | with_reducible refine Below.drew ?_ | with_reducible refine Below.alloc ?_ (by first | omega | (simp; done) | (simp; omega)) _)))).mono ?_
        rintro e w5 ⟨v9, pv, rfl, v90, R_, b_⟩
        have sz_ : w.heap.size ≤ w4.heap.size := HS.out.2.2.2.1
        have zr_ : r < w4.heap.size := HR.out.1
        have bb : Beside r w4 w5 := (Beside.of (show Below w4.heap.size w4 _ from (by repeat (first | with_reducible exact Below.refl _ _ | with_reducible refine Below.setCell ?_ (by first | omega | (simp; done) | (simp; omega)) _ | with_reducible refine bDrewN ?_ _ | with_reducible refine Below.drew ?_ | with_reducible refine Below.alloc ?_ (by first | omega | (simp; done) | (simp; omega)) _)))).trans b_
        replace HS : Hid (Beside r w w5) := HS.out.trans bb
        replace HR : Hid (Rd w5 r s n c pv) := R_
        clear R_
        replace HO : Hid (OwnI bo w5 (some ⟨g, 0, none⟩) (k * 5) U) := ownB_besideP HO.out bb (by omega)
        clear bb b_ sz_ zr_ 
        clear HL
        obtain ⟨gg_, eg_, -, zz_a, cea, cfa⟩ := HO.out (i9 * 5 + 2) (by omega)
        cases eg_
        have BS := HS.out
        have sBS := BS.2.2.2.1
        have OF := HO.out.putP (i9 * 5 + 2) v9
        go_wp2
        go_ret
        unfold PlnPost
        exact ⟨_, k, cap, _, pv, rfl, by omega, by omega, OF.mono lbo, Rd.below' HR.out (show Below (r + 1) w5 _ from (by repeat (first | with_reducible exact Below.refl _ _ | with_reducible refine Below.setCell ?_ (by first | omega | (simp; done) | (simp; omega)) _ | with_reducible refine bDrewN ?_ _ | with_reducible refine Below.drew ?_ | with_reducible refine Below.alloc ?_ (by first | omega | (simp; done) | (simp; omega)) _))), BS.onB (show Below w.heap.size w5 _ from (by repeat (first | with_reducible exact Below.refl _ _ | with_reducible refine Below.setCell ?_ (by first | omega | (simp; done) | (simp; omega)) _ | with_reducible refine bDrewN ?_ _ | with_reducible refine Below.drew ?_ | with_reducible refine Below.alloc ?_ (by first | omega | (simp; done) | (simp; omega)) _)))⟩
      have ne2 : (kk == 2) = false := by simpa using e2
      by_cases e3 : kk = 3
      case pos =>
        subst e3
        go_wp2_with fail
        refine (off_any 0 15 (by omega) (by omega) (by omega) (HR.out.below (by repeat (first | with_reducible exact Below.refl _ _ | with_reducible refine Below.setCell ?_ (by first | omega | (simp; done) | (simp; omega)) _ | with_reducible refine bDrewN ?_ _ | with_reducible refine Below.drew ?_ | with_reducible refine Below.alloc ?_ (by first | omega | (simp; done) | (simp; omega)) _)))).mono ?_
        rintro e w5 ⟨v9, pv, rfl, v90, R_, b_⟩
        have sz_ : w.heap.size ≤ w4.heap.size := HS.out.2.2.2.1
        have zr_ : r < w4.heap.size := HR.out.1
        have bb : Beside r w4 w5 := (Beside.of (show Below w4.heap.size w4 _ from (by repeat (first | with_reducible exact Below.refl _ _ | with_reducible refine Below.setCell ?_ (by first | omega | (simp; done) | (simp; omega)) _ | with_reducible refine bDrewN ?_ _ | with_reducible refine Below.drew ?_ | with_reducible refine Below.alloc ?_ (by first | omega | (simp; done) | (simp; omega)) _)))).trans b_
        replace HS : Hid (Beside r w w5) := HS.out.trans bb
        replace HR : Hid (Rd w5 r s n c pv) := R_
        clear R_
        replace HO : Hid (OwnI bo w5 (some ⟨g, 0, none⟩) (k * 5) U) := ownB_besideP HO.out bb (by omega)
        clear bb b_ sz_ zr_ 
        clear HL
        obtain ⟨gg_, eg_, -, zz_a, cea, cfa⟩ := HO.out (i9 * 5 + 1) (by omega)
        cases eg_
        have BS := HS.out
        have sBS := BS.2.2.2.1
        have OF := HO.out.putP (i9 * 5 + 1) v9
        go_wp2
        go_ret
        unfold PlnPost
        exact ⟨_, k, cap, _, pv, rfl, by omega, by omega, OF.mono lbo, Rd.below' HR.out (show Below (r + 1) w5 _ from (by repeat (first | with_reducible exact Below.refl _ _ | with_reducible refine Below.setCell ?_ (by first | omega | (simp; done) | (simp; omega)) _ | with_reducible refine bDrewN ?_ _ | with_reducible refine Below.drew ?_ | with_reducible refine Below.alloc ?_ (by first | omega | (simp; done) | (simp; omega)) _))), BS.onB (show Below w.heap.size w5 _ from (by repeat (first | with_reducible exact Below.refl _ _ | with_reducible refine Below.setCell ?_ (by first | omega | (simp; done) | (simp; omega)) _ | with_reducible refine bDrewN ?_ _ | with_reducible refine Below.drew ?_ | with_reducible refine Below.alloc ?_ (by first | omega | (simp; done) | (simp; omega)) _)))⟩
      have ne3 : (kk == 3) = false := by simpa using e3
      by_cases e4 : kk = 4
      case pos =>
        subst e4
        clear HO
        have Ho : Hid (Lst bo 33 5 w4 (.slice (some ⟨g, 0, none⟩) k cap) k U) := HL
        clear HL
        have Zo : Hid (bo ≤ w4.heap.size) := by show _ ≤ _; have := (Ho.out.lt g rfl); omega
        go_wp2_with fail
        go_loopw [4] (fun v wr => ∃ (m : Nat) (U : Nat → Int), k ≤ m ∧ m ≤ 40 ∧ Hid (Rd wr r s n c pk) ∧ Hid (Beside r w wr) ∧ Hid (Lst bo 33 5 wr v m U) ∧ Hid (bo ≤ wr.heap.size)) (fun v _ => 40 - lenL v)
        case atStart => exact ⟨k, U, by omega, by omega, HR, HS, Ho, Zo⟩
        case round =>
          clear HR HS Ho Zo
          obtain ⟨m, U, hkm, hm, HR, HS, Ho, Zo⟩ := hrel
          rename World => wq
          obtain ⟨t4, c4, e4_⟩ := Ho.out.form
          subst e4_
          by_cases hq : m < 40
          case pos =>
            have q1 : (m : Int) < 40 := by omega
            go_wp2_with (at_builtin; refine list_Step bo (.slice t4 m c4) m U (.tmp 109) (.tmp 111) (by rfl) (by rfl) (by rfl) (by rfl) Ho.out (by omega) Zo.out ?_; intro g9 cap9 w5 l9 b9)
            have No : Hid (Lst bo 33 5 w5 (.slice (some ⟨g9, 0, none⟩) (m + 1) cap9) (m + 1) (putL U 5 m [0, 0, 1000, -1, -3])) := l9
            clear l9
            replace Zo : Hid (bo ≤ w5.heap.size) := Nat.le_trans Zo.out b9.size
            replace HR : Hid (Rd w5 r s n c pk) := Rd.below' HR.out (b9.mono (by omega))
            replace HS : Hid (Beside r w w5) := HS.out.onB (b9.mono (by omega))
            replace Ho := No
            clear b9
            go_roundw
            case rel => exact ⟨m + 1, _, by omega, by omega, HR, HS, Ho, Zo⟩
            case measure => simp [lenL]; omega
          case neg =>
            have q1 : ¬ (m : Int) < 40 := by omega
            go_wp2_with fail
            refine (once_any 2 (by omega) (by omega) (HR.out.below (by repeat (first | with_reducible exact Below.refl _ _ | with_reducible refine Below.setCell ?_ (by first | omega | (simp; done) | (simp; omega)) _ | with_reducible refine bDrewN ?_ _ | with_reducible refine Below.drew ?_ | with_reducible refine Below.alloc ?_ (by first | omega | (simp; done) | (simp; omega)) _)))).mono ?_
            rintro e w5 ⟨fl, pg, rfl, R_, b_⟩
            have sz_ : w.heap.size ≤ wq.heap.size := HS.out.2.2.2.1
            have zr_ : r < wq.heap.size := HR.out.1
            have bb : Beside r wq w5 := (Beside.of (show Below wq.heap.size wq _ from (by repeat (first | with_reducible exact Below.refl _ _ | with_reducible refine Below.setCell ?_ (by first | omega | (simp; done) | (simp; omega)) _ | with_reducible refine bDrewN ?_ _ | with_reducible refine Below.drew ?_ | with_reducible refine Below.alloc ?_ (by first | omega | (simp; done) | (simp; omega)) _)))).trans b_
            replace Ho : Hid (Lst bo 33 5 w5 (.slice t4 m c4) m U) := Ho.out.beside bb (by omega)
            replace Zo : Hid (bo ≤ w5.heap.size) := Nat.le_trans Zo.out bb.2.2.2.1
            replace HS : Hid (Beside r w w5) := HS.out.trans bb
            replace HR : Hid (Rd w5 r s n c pg) := R_
            clear R_
            clear bb b_ sz_ zr_ 
            cases fl
            case false =>
              obtain ⟨t5, c5, e5, OF⟩ := Ho.out.own
              cases e5
              have BS := HS.out
              go_wp2
              go_ret
              unfold PlnPost
              exact ⟨t4, m, c4, U, pg, rfl, by omega, by omega, OF.mono lbo, HR.out, BS⟩
            case true =>
              obtain ⟨t5, c5, e5, OW⟩ := Ho.out.own
              cases e5
              obtain ⟨g5, e6, -, z5, c50, -⟩ := OW 0 (by omega)
              cases e6
              obtain ⟨g6, e6, -, -, c51, -⟩ := OW 1 (by omega)
              cases e6
              obtain ⟨g6, e6, -, -, c52, -⟩ := OW 2 (by omega)
              cases e6
              obtain ⟨g6, e6, -, -, c53, -⟩ := OW 3 (by omega)
              cases e6
              obtain ⟨g6, e6, -, -, c54, -⟩ := OW 4 (by omega)
              cases e6
              obtain ⟨y0, hy0⟩ : ∃ z, U 0 = z := ⟨_, rfl⟩
              rw [hy0] at c50
              obtain ⟨y1, hy1⟩ : ∃ z, U 1 = z := ⟨_, rfl⟩
              rw [hy1] at c51
              obtain ⟨y2, hy2⟩ : ∃ z, U 2 = z := ⟨_, rfl⟩
              rw [hy2] at c52
              obtain ⟨y3, hy3⟩ : ∃ z, U 3 = z := ⟨_, rfl⟩
              rw [hy3] at c53
              obtain ⟨y4, hy4⟩ : ∃ z, U 4 = z := ⟨_, rfl⟩
              rw [hy4] at c54
              have m0 : (0 : Int) < (m : Int) := by omega
              clear OW hy0 hy1 hy2 hy3 hy4
              go_wp2_with (at_builtin; refine list_Step bo (.slice (some ⟨g5, 0, none⟩) m c4) m U (.tmp 115) (.tmp 119) (by rfl) (by rfl) (by rfl) (by rfl) Ho.out (by omega) Zo.out ?_; intro g9 cap9 w6 l9 b9)
              have BS : Beside r w w6 := HS.out.onB (b9.mono (by omega))
              have RF : Rd w6 r s n c pg := Rd.below' HR.out (b9.mono (by omega))
              obtain ⟨t7, c7, e7, OF⟩ := Lst.own l9
              cases e7
              go_wp2
              go_ret
              unfold PlnPost
              exact ⟨_, m + 1, cap9, _, pg, rfl, by omega, by omega, OF.mono lbo, RF, BS⟩
      have ne4 : (kk == 4) = false := by simpa using e4
      have BS := HS.out
      have sBS := BS.2.2.2.1
      have OF := HO.out
      clear HL
      go_wp2
      go_ret
      unfold PlnPost
      exact ⟨_, k, cap, _, pk, rfl, by omega, by omega, OF.mono lbo, HR.out, BS⟩
def DbPost (w : World) (e : Ending) (w' : World) : Prop := ∃ (t : Option Addr) (m cap : Nat) (U : Nat → Int), e = .returned (.slice t m cap) ∧ 1 ≤ m ∧ m ≤ 41 ∧ RowI w' t (m * 5) U ∧ Below w.heap.size w w'
end Go.Proofs.Ytlkegoofpmgcjaa
