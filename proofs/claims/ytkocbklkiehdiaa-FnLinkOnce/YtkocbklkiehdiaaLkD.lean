/-
What is proved: a link that is drawn: any int64s, up to 21 held values.
-/
import Derived.Test.YtkocbklkiehdiaaFrE
import Derived.Test.YtkocbklkiehdiaaLkNs
import Derived.Test.YtkocbklkiehdiaaFmK
import Derived.Deep.DeepCutAuto
import Derived.Deep.RegionHeldLaw

namespace Go.Proofs.Ytkocbklkiehdiaa
set_option maxRecDepth 40000
open Go.ChangeShapes Go.WideShapes Go.ChangeAt Go.RowKit
set_option linter.unusedVariables false
set_option linter.unusedSimpArgs false

def LnkPost (r : Nat) (s : Option Addr) (n c : Nat) (w : World) (e : Ending) (w' : World) : Prop := ∃ (t : Int) (h : Bool) (q a l : Int) (tt : Option Addr) (m cc : Nat) (V : Nat → Int) (p' : Nat), e = .returned (.agg #[.int .i64 t, .bool h, .int .i64 q, .int .i64 a, .int .i64 l, .slice tt m cc]) ∧ m ≤ 21 ∧ OwnI w.heap.size w' tt m V ∧ Rd w' r s n c p' ∧ Beside r w w'
theorem own_offD {base r : Nat} {w w' : World} {s : Option Addr} {m : Nat} {V : Nat → Int} (h : OwnI base w s m V) (hb : Beside r w w') (hn : ∀ g o, s = some ⟨g, o, none⟩ → g ≠ r ∨ m = 0) : OwnI base w' s m V := fun j hj => by
  obtain ⟨b, e, hB, hl, hc, hf⟩ := h j hj
  have hne : b ≠ r := (hn b 0 e).elim id (fun z => by omega)
  exact ⟨b, e, hB, Nat.lt_of_lt_of_le hl hb.2.2.2.1, (hb.cell (p := ⟨b, j, none⟩) hl hne).trans hc, (hb.frozen (p := ⟨b, j, none⟩) hl hne).trans hf⟩
theorem own_above {base gl : Nat} {w : World} {s : Option Addr} {m : Nat} {V : Nat → Int} (h : OwnI base w s m V) (hb : gl < base) : ∀ g o, s = some ⟨g, o, none⟩ → g ≠ gl ∨ m = 0 := fun g o e => by
  rcases Nat.eq_zero_or_pos m with z | z
  · exact .inr z
  · obtain ⟨b, e', hB, _⟩ := h 0 z
    rw [e] at e'; cases e'; left; omega
set_option maxRecDepth 20000 in
set_option maxHeartbeats 16000000 in
theorem link_any {r : Nat} {s : Option Addr} {n c p : Nat} {w : World} (h : Hid (Rd w r s n c p)) : Calls Try.prog 38 #[.pointer (some ⟨r, 0, none⟩)] w fun e w' => LnkPost r s n c w e w' := by
  have zr0 : r < w.heap.size := h.out.1
  have sto := store_slF
  go_enter Try.func38, Try.ntmps38
  go_upto_region 1 with fail
  obtain ⟨wa, hwa⟩ : ∃ z, z = w.alloc (.cells #[.int .i64 0, .bool false, .int .i64 0, .int .i64 0, .int .i64 0, .slice none 0 0] 26) := ⟨_, rfl⟩
  try rw [← hwa]
  obtain ⟨gq, hgq⟩ : ∃ z, z = w.heap.size := ⟨_, rfl⟩
  have ba : Below w.heap.size w wa := by rw [hwa]; exact below0 _ _
  have HQ : Hid (Blk wa gq [.int .i64 0, .bool false, .int .i64 0, .int .i64 0, .int .i64 0, .slice none 0 0]) := by rw [hwa, hgq]; exact Blk.new w #[.int .i64 0, .bool false, .int .i64 0, .int .i64 0, .int .i64 0, .slice none 0 0] _
  have HR : Hid (∃ q, Rd wa r s n c q) := ⟨p, h.out.below ba⟩
  have HS : Hid (Beside r w wa) := Beside.of ba
  have HGQ : Hid (w.heap.size = gq) := hgq.symm
  have zrq : r < gq := by omega
  try rw [← hgq]
  clear hwa ba hgq h
  obtain ⟨q0, R0⟩ := HR.out
  go_wp2_with fail
  refine (near_any 1 4 (by omega) (by omega) (by omega) R0).mono ?_
  rintro e x1 ⟨t, p1, rfl, -, -, R1, b1⟩
  replace HQ : Hid (Blk x1 gq [.int .i64 0, .bool false, .int .i64 0, .int .i64 0, .int .i64 0, .slice none 0 0]) := HQ.out.beside b1 (by omega)
  replace HS : Hid (Beside r w x1) := HS.out.trans b1
  replace HR : Hid (∃ q, Rd x1 r s n c q) := ⟨_, R1⟩
  clear R0 R1 b1
  go_wp2_with fail
  refine (specNewLink_any t x1).mono ?_
  rintro e x2 ⟨rfl, b2⟩
  replace HQ : Hid (Blk x2 gq [.int .i64 0, .bool false, .int .i64 0, .int .i64 0, .int .i64 0, .slice none 0 0]) := HQ.out.below b2
  replace HS : Hid (Beside r w x2) := HS.out.trans (Beside.of b2)
  replace HR : Hid (∃ q, Rd x2 r s n c q) := by obtain ⟨q_, R_⟩ := HR.out; exact ⟨q_, R_.below b2⟩
  clear b2
  obtain ⟨T, hT⟩ : ∃ T, newT t = T := ⟨_, rfl⟩
  obtain ⟨A, hA⟩ : ∃ A, newA t = A := ⟨_, rfl⟩
  rw [hT, hA]
  clear hT hA
  go_upto_region 2 with fail
  obtain ⟨x3, hx3⟩ : ∃ z, z = x2.alloc (.cells #[.int .i64 T, .bool false, .int .i64 0, .int .i64 A, .int .i64 0, .slice none 0 0] 26) := ⟨_, rfl⟩
  try rw [← hx3]
  obtain ⟨gl, hgl⟩ : ∃ z, z = x2.heap.size := ⟨_, rfl⟩
  have b3 : Below x2.heap.size x2 x3 := by rw [hx3]; exact below0 _ _
  have HL : Hid (Blk x3 gl [.int .i64 T, .bool false, .int .i64 0, .int .i64 A, .int .i64 0, .slice none 0 0]) := by show Blk _ _ _; rw [hx3, hgl]; exact Blk.new x2 #[.int .i64 T, .bool false, .int .i64 0, .int .i64 A, .int .i64 0, .slice none 0 0] _
  have zql : gq < gl := by have := HQ.out.1; omega
  replace HQ : Hid (Blk x3 gq [.int .i64 0, .bool false, .int .i64 0, .int .i64 0, .int .i64 0, .slice none 0 0]) := HQ.out.below b3
  replace HS : Hid (Beside r w x3) := HS.out.trans (Beside.of b3)
  replace HR : Hid (∃ q, Rd x3 r s n c q) := by obtain ⟨q_, R_⟩ := HR.out; exact ⟨q_, R_.below b3⟩
  try rw [← hgl]
  clear hx3 hgl b3
  obtain ⟨q0, R0⟩ := HR.out
  go_wp2_with fail
  refine (once_any 4 (by omega) (by omega) R0).mono ?_
  rintro e x4 ⟨bo, p2, rfl, R1, b1⟩
  replace HQ : Hid (Blk x4 gq [.int .i64 0, .bool false, .int .i64 0, .int .i64 0, .int .i64 0, .slice none 0 0]) := HQ.out.beside b1 (by omega)
  replace HL : Hid (Blk x4 gl [.int .i64 T, .bool false, .int .i64 0, .int .i64 A, .int .i64 0, .slice none 0 0]) := HL.out.beside b1 (by omega)
  replace HS : Hid (Beside r w x4) := HS.out.trans b1
  replace HR : Hid (∃ q, Rd x4 r s n c q) := ⟨_, R1⟩
  clear R0 R1 b1
  cases bo
  case true =>
    obtain ⟨q0, R0⟩ := HR.out
    go_wp2_with fail
    refine (below_any 24 R0).mono ?_
    rintro e y1 ⟨kk, p9, rfl, kk0, -, -, R1, b1⟩
    replace HQ : Hid (Blk y1 gq [.int .i64 0, .bool false, .int .i64 0, .int .i64 0, .int .i64 0, .slice none 0 0]) := HQ.out.beside b1 (by omega)
    replace HL : Hid (Blk y1 gl [.int .i64 T, .bool false, .int .i64 0, .int .i64 A, .int .i64 0, .slice none 0 0]) := HL.out.beside b1 (by omega)
    replace HS : Hid (Beside r w y1) := HS.out.trans b1
    replace HR : Hid (∃ q, Rd y1 r s n c q) := ⟨_, R1⟩
    clear R0 R1 b1
    by_cases e0 : kk = 0
    case pos =>
      subst e0
      obtain ⟨q0, R0⟩ := HR.out
      go_wp2_with fail
      refine (off_any 0 100 (by omega) (by omega) (by omega) R0).mono ?_
      rintro e y1_0 ⟨x9, px, rfl, -, R1, b1⟩
      replace HQ : Hid (Blk y1_0 gq [.int .i64 0, .bool false, .int .i64 0, .int .i64 0, .int .i64 0, .slice none 0 0]) := HQ.out.beside b1 (by omega)
      replace HL : Hid (Blk y1_0 gl [.int .i64 T, .bool false, .int .i64 0, .int .i64 A, .int .i64 0, .slice none 0 0]) := HL.out.beside b1 (by omega)
      replace HS : Hid (Beside r w y1_0) := HS.out.trans b1
      replace HR : Hid (∃ q, Rd y1_0 r s n c q) := ⟨_, R1⟩
      clear R0 R1 b1
      have c_ := HL.out.2.2 3 _ rfl
      have f_ := HL.out.2.1 3
      have z_ := HL.out.1
      go_upto_region 13 with fail
      clear c_ f_ z_
      obtain ⟨y1_0s, hw_⟩ : ∃ z, z = y1_0.setCell ⟨gl, 3, none⟩ (.int .i64 x9) := ⟨_, rfl⟩
      try rw [← hw_]
      have bs_ : Beside gl y1_0 y1_0s := by rw [hw_]; exact Beside.setCell gl _ _ _
      have zr_ : r < y1_0.heap.size := Nat.lt_of_lt_of_le zr0 HS.out.2.2.2.1
      replace HQ : Hid (Blk y1_0s gq [.int .i64 0, .bool false, .int .i64 0, .int .i64 0, .int .i64 0, .slice none 0 0]) := HQ.out.beside bs_ (by omega)
      replace HL : Hid (Blk y1_0s gl [.int .i64 T, .bool false, .int .i64 0, .int .i64 x9, .int .i64 0, .slice none 0 0]) := by show Blk _ _ _; rw [hw_]; exact HL.out.set 3 _
      replace HR : Hid (∃ q, Rd y1_0s r s n c q) := by obtain ⟨q_, R_⟩ := HR.out; exact ⟨q_, Rd.below' R_ (bs_.below (by omega) (by omega))⟩
      replace HS : Hid (Beside r w y1_0s) := HS.out.onB (bs_.below (by have := HGQ.out; omega) (by have := HS.out.2.2.2.1; omega))
      clear hw_ bs_ zr_
      obtain ⟨qz, Rz⟩ := HR.out
      have l0 := HL.out.2.2 0 _ rfl
      have l1 := HL.out.2.2 1 _ rfl
      have l2 := HL.out.2.2 2 _ rfl
      have l3 := HL.out.2.2 3 _ rfl
      have l4 := HL.out.2.2 4 _ rfl
      have l5 := HL.out.2.2 5 _ rfl
      have g0 := HQ.out.2.2 0 _ rfl
      have g1 := HQ.out.2.2 1 _ rfl
      have g2 := HQ.out.2.2 2 _ rfl
      have g3 := HQ.out.2.2 3 _ rfl
      have g4 := HQ.out.2.2 4 _ rfl
      have g5 := HQ.out.2.2 5 _ rfl
      have f0 := HQ.out.2.1 0
      have f1 := HQ.out.2.1 1
      have f2 := HQ.out.2.1 2
      have f3 := HQ.out.2.1 3
      have f4 := HQ.out.2.1 4
      have f5 := HQ.out.2.1 5
      have zq_ := HQ.out.1
      have zl_ := HL.out.1
      have zqw := HGQ.out
      have BS := HS.out
      have sBS := BS.2.2.2.1
      have n_ : gl ≠ gq := by omega
      have hRB : ∀ W2, Below gq y1_0s W2 → Rd W2 r s n c qz := fun W2 hb => Rd.below' Rz (hb.mono (by omega))
      go_wp2
      refine bodyPost_ret (v := .agg #[.int .i64 T, .bool false, .int .i64 0, .int .i64 x9, .int .i64 0, .slice none 0 0]) (by simp [results, Try.results38, go_sem, l0, l1, l2, l3, l4, l5, g0, g1, g2, g3, g4, g5, n_, n_.symm]) rfl ?_
      unfold LnkPost
      exact ⟨_, _, _, _, _, _, _, _, (fun _ => 0), qz, rfl, by omega, (fun j hj => absurd hj (Nat.not_lt_zero j)), hRB _ (show Below gq y1_0s _ from (by repeat (first | with_reducible exact Below.refl _ _ | with_reducible refine Below.setCell ?_ (by first | omega | (simp; done) | (simp; omega)) _ | with_reducible refine bDrewN ?_ _ | with_reducible refine Below.drew ?_ | with_reducible refine Below.alloc ?_ (by first | omega | (simp; done) | (simp; omega)) _))), BS.onB (show Below w.heap.size y1_0s _ from (by repeat (first | with_reducible exact Below.refl _ _ | with_reducible refine Below.setCell ?_ (by first | omega | (simp; done) | (simp; omega)) _ | with_reducible refine bDrewN ?_ _ | with_reducible refine Below.drew ?_ | with_reducible refine Below.alloc ?_ (by first | omega | (simp; done) | (simp; omega)) _)))⟩
    case neg =>
    have ne0 : (kk == 0) = false := by simpa using e0
    by_cases e1 : kk = 1
    case pos =>
      subst e1
      obtain ⟨q0, R0⟩ := HR.out
      go_wp2_with fail
      refine (off_any 999999997 1000000000 (by omega) (by omega) (by omega) R0).mono ?_
      rintro e y1_1 ⟨x9, px, rfl, -, R1, b1⟩
      replace HQ : Hid (Blk y1_1 gq [.int .i64 0, .bool false, .int .i64 0, .int .i64 0, .int .i64 0, .slice none 0 0]) := HQ.out.beside b1 (by omega)
      replace HL : Hid (Blk y1_1 gl [.int .i64 T, .bool false, .int .i64 0, .int .i64 A, .int .i64 0, .slice none 0 0]) := HL.out.beside b1 (by omega)
      replace HS : Hid (Beside r w y1_1) := HS.out.trans b1
      replace HR : Hid (∃ q, Rd y1_1 r s n c q) := ⟨_, R1⟩
      clear R0 R1 b1
      have c_ := HL.out.2.2 4 _ rfl
      have f_ := HL.out.2.1 4
      have z_ := HL.out.1
      go_upto_region 13 with fail
      clear c_ f_ z_
      obtain ⟨y1_1s, hw_⟩ : ∃ z, z = y1_1.setCell ⟨gl, 4, none⟩ (.int .i64 x9) := ⟨_, rfl⟩
      try rw [← hw_]
      have bs_ : Beside gl y1_1 y1_1s := by rw [hw_]; exact Beside.setCell gl _ _ _
      have zr_ : r < y1_1.heap.size := Nat.lt_of_lt_of_le zr0 HS.out.2.2.2.1
      replace HQ : Hid (Blk y1_1s gq [.int .i64 0, .bool false, .int .i64 0, .int .i64 0, .int .i64 0, .slice none 0 0]) := HQ.out.beside bs_ (by omega)
      replace HL : Hid (Blk y1_1s gl [.int .i64 T, .bool false, .int .i64 0, .int .i64 A, .int .i64 x9, .slice none 0 0]) := by show Blk _ _ _; rw [hw_]; exact HL.out.set 4 _
      replace HR : Hid (∃ q, Rd y1_1s r s n c q) := by obtain ⟨q_, R_⟩ := HR.out; exact ⟨q_, Rd.below' R_ (bs_.below (by omega) (by omega))⟩
      replace HS : Hid (Beside r w y1_1s) := HS.out.onB (bs_.below (by have := HGQ.out; omega) (by have := HS.out.2.2.2.1; omega))
      clear hw_ bs_ zr_
      obtain ⟨qz, Rz⟩ := HR.out
      have l0 := HL.out.2.2 0 _ rfl
      have l1 := HL.out.2.2 1 _ rfl
      have l2 := HL.out.2.2 2 _ rfl
      have l3 := HL.out.2.2 3 _ rfl
      have l4 := HL.out.2.2 4 _ rfl
      have l5 := HL.out.2.2 5 _ rfl
      have g0 := HQ.out.2.2 0 _ rfl
      have g1 := HQ.out.2.2 1 _ rfl
      have g2 := HQ.out.2.2 2 _ rfl
      have g3 := HQ.out.2.2 3 _ rfl
      have g4 := HQ.out.2.2 4 _ rfl
      have g5 := HQ.out.2.2 5 _ rfl
      have f0 := HQ.out.2.1 0
      have f1 := HQ.out.2.1 1
      have f2 := HQ.out.2.1 2
      have f3 := HQ.out.2.1 3
      have f4 := HQ.out.2.1 4
      have f5 := HQ.out.2.1 5
      have zq_ := HQ.out.1
      have zl_ := HL.out.1
      have zqw := HGQ.out
      have BS := HS.out
      have sBS := BS.2.2.2.1
      have n_ : gl ≠ gq := by omega
      have hRB : ∀ W2, Below gq y1_1s W2 → Rd W2 r s n c qz := fun W2 hb => Rd.below' Rz (hb.mono (by omega))
      go_wp2
      refine bodyPost_ret (v := .agg #[.int .i64 T, .bool false, .int .i64 0, .int .i64 A, .int .i64 x9, .slice none 0 0]) (by simp [results, Try.results38, go_sem, l0, l1, l2, l3, l4, l5, g0, g1, g2, g3, g4, g5, n_, n_.symm]) rfl ?_
      unfold LnkPost
      exact ⟨_, _, _, _, _, _, _, _, (fun _ => 0), qz, rfl, by omega, (fun j hj => absurd hj (Nat.not_lt_zero j)), hRB _ (show Below gq y1_1s _ from (by repeat (first | with_reducible exact Below.refl _ _ | with_reducible refine Below.setCell ?_ (by first | omega | (simp; done) | (simp; omega)) _ | with_reducible refine bDrewN ?_ _ | with_reducible refine Below.drew ?_ | with_reducible refine Below.alloc ?_ (by first | omega | (simp; done) | (simp; omega)) _))), BS.onB (show Below w.heap.size y1_1s _ from (by repeat (first | with_reducible exact Below.refl _ _ | with_reducible refine Below.setCell ?_ (by first | omega | (simp; done) | (simp; omega)) _ | with_reducible refine bDrewN ?_ _ | with_reducible refine Below.drew ?_ | with_reducible refine Below.alloc ?_ (by first | omega | (simp; done) | (simp; omega)) _)))⟩
    case neg =>
    have ne1 : (kk == 1) = false := by simpa using e1
    by_cases e2 : kk = 2
    case pos =>
      subst e2
      have c_ := HL.out.2.2 1 _ rfl
      have f_ := HL.out.2.1 1
      have z_ := HL.out.1
      go_upto_region 13 with fail
      clear c_ f_ z_
      obtain ⟨y1_2s, hw_⟩ : ∃ z, z = y1.setCell ⟨gl, 1, none⟩ (.bool true) := ⟨_, rfl⟩
      try rw [← hw_]
      have bs_ : Beside gl y1 y1_2s := by rw [hw_]; exact Beside.setCell gl _ _ _
      have zr_ : r < y1.heap.size := Nat.lt_of_lt_of_le zr0 HS.out.2.2.2.1
      replace HQ : Hid (Blk y1_2s gq [.int .i64 0, .bool false, .int .i64 0, .int .i64 0, .int .i64 0, .slice none 0 0]) := HQ.out.beside bs_ (by omega)
      replace HL : Hid (Blk y1_2s gl [.int .i64 T, .bool true, .int .i64 0, .int .i64 A, .int .i64 0, .slice none 0 0]) := by show Blk _ _ _; rw [hw_]; exact HL.out.set 1 _
      replace HR : Hid (∃ q, Rd y1_2s r s n c q) := by obtain ⟨q_, R_⟩ := HR.out; exact ⟨q_, Rd.below' R_ (bs_.below (by omega) (by omega))⟩
      replace HS : Hid (Beside r w y1_2s) := HS.out.onB (bs_.below (by have := HGQ.out; omega) (by have := HS.out.2.2.2.1; omega))
      clear hw_ bs_ zr_
      obtain ⟨qz, Rz⟩ := HR.out
      have l0 := HL.out.2.2 0 _ rfl
      have l1 := HL.out.2.2 1 _ rfl
      have l2 := HL.out.2.2 2 _ rfl
      have l3 := HL.out.2.2 3 _ rfl
      have l4 := HL.out.2.2 4 _ rfl
      have l5 := HL.out.2.2 5 _ rfl
      have g0 := HQ.out.2.2 0 _ rfl
      have g1 := HQ.out.2.2 1 _ rfl
      have g2 := HQ.out.2.2 2 _ rfl
      have g3 := HQ.out.2.2 3 _ rfl
      have g4 := HQ.out.2.2 4 _ rfl
      have g5 := HQ.out.2.2 5 _ rfl
      have f0 := HQ.out.2.1 0
      have f1 := HQ.out.2.1 1
      have f2 := HQ.out.2.1 2
      have f3 := HQ.out.2.1 3
      have f4 := HQ.out.2.1 4
      have f5 := HQ.out.2.1 5
      have zq_ := HQ.out.1
      have zl_ := HL.out.1
      have zqw := HGQ.out
      have BS := HS.out
      have sBS := BS.2.2.2.1
      have n_ : gl ≠ gq := by omega
      have hRB : ∀ W2, Below gq y1_2s W2 → Rd W2 r s n c qz := fun W2 hb => Rd.below' Rz (hb.mono (by omega))
      go_wp2
      refine bodyPost_ret (v := .agg #[.int .i64 T, .bool true, .int .i64 0, .int .i64 A, .int .i64 0, .slice none 0 0]) (by simp [results, Try.results38, go_sem, l0, l1, l2, l3, l4, l5, g0, g1, g2, g3, g4, g5, n_, n_.symm]) rfl ?_
      unfold LnkPost
      exact ⟨_, _, _, _, _, _, _, _, (fun _ => 0), qz, rfl, by omega, (fun j hj => absurd hj (Nat.not_lt_zero j)), hRB _ (show Below gq y1_2s _ from (by repeat (first | with_reducible exact Below.refl _ _ | with_reducible refine Below.setCell ?_ (by first | omega | (simp; done) | (simp; omega)) _ | with_reducible refine bDrewN ?_ _ | with_reducible refine Below.drew ?_ | with_reducible refine Below.alloc ?_ (by first | omega | (simp; done) | (simp; omega)) _))), BS.onB (show Below w.heap.size y1_2s _ from (by repeat (first | with_reducible exact Below.refl _ _ | with_reducible refine Below.setCell ?_ (by first | omega | (simp; done) | (simp; omega)) _ | with_reducible refine bDrewN ?_ _ | with_reducible refine Below.drew ?_ | with_reducible refine Below.alloc ?_ (by first | omega | (simp; done) | (simp; omega)) _)))⟩
    case neg =>
    have ne2 : (kk == 2) = false := by simpa using e2
    go_upto_region 13 with fail
    obtain ⟨qz, Rz⟩ := HR.out
    have l0 := HL.out.2.2 0 _ rfl
    have l1 := HL.out.2.2 1 _ rfl
    have l2 := HL.out.2.2 2 _ rfl
    have l3 := HL.out.2.2 3 _ rfl
    have l4 := HL.out.2.2 4 _ rfl
    have l5 := HL.out.2.2 5 _ rfl
    have g0 := HQ.out.2.2 0 _ rfl
    have g1 := HQ.out.2.2 1 _ rfl
    have g2 := HQ.out.2.2 2 _ rfl
    have g3 := HQ.out.2.2 3 _ rfl
    have g4 := HQ.out.2.2 4 _ rfl
    have g5 := HQ.out.2.2 5 _ rfl
    have f0 := HQ.out.2.1 0
    have f1 := HQ.out.2.1 1
    have f2 := HQ.out.2.1 2
    have f3 := HQ.out.2.1 3
    have f4 := HQ.out.2.1 4
    have f5 := HQ.out.2.1 5
    have zq_ := HQ.out.1
    have zl_ := HL.out.1
    have zqw := HGQ.out
    have BS := HS.out
    have sBS := BS.2.2.2.1
    have n_ : gl ≠ gq := by omega
    have hRB : ∀ W2, Below gq y1 W2 → Rd W2 r s n c qz := fun W2 hb => Rd.below' Rz (hb.mono (by omega))
    go_wp2
    refine bodyPost_ret (v := .agg #[.int .i64 T, .bool false, .int .i64 0, .int .i64 A, .int .i64 0, .slice none 0 0]) (by simp [results, Try.results38, go_sem, l0, l1, l2, l3, l4, l5, g0, g1, g2, g3, g4, g5, n_, n_.symm]) rfl ?_
    unfold LnkPost
    exact ⟨_, _, _, _, _, _, _, _, (fun _ => 0), qz, rfl, by omega, (fun j hj => absurd hj (Nat.not_lt_zero j)), hRB _ (show Below gq y1 _ from (by repeat (first | with_reducible exact Below.refl _ _ | with_reducible refine Below.setCell ?_ (by first | omega | (simp; done) | (simp; omega)) _ | with_reducible refine bDrewN ?_ _ | with_reducible refine Below.drew ?_ | with_reducible refine Below.alloc ?_ (by first | omega | (simp; done) | (simp; omega)) _))), BS.onB (show Below w.heap.size y1 _ from (by repeat (first | with_reducible exact Below.refl _ _ | with_reducible refine Below.setCell ?_ (by first | omega | (simp; done) | (simp; omega)) _ | with_reducible refine bDrewN ?_ _ | with_reducible refine Below.drew ?_ | with_reducible refine Below.alloc ?_ (by first | omega | (simp; done) | (simp; omega)) _)))⟩
  case false =>
  obtain ⟨q0, R0⟩ := HR.out
  go_wp2_with fail
  refine (frame_any R0).mono ?_
  rintro e x5 ⟨t5, q5, tt, m, cc, V, p5, rfl, m21, O5, R5, b5⟩
  have z4 : gl < x4.heap.size := HL.out.1
  have HO : Hid (OwnI (gl + 1) x5 tt m V) := O5.mono (by omega)
  have HNgl : Hid (∀ g o, tt = some ⟨g, o, none⟩ → g ≠ gl ∨ m = 0) := own_above HO.out (by omega)
  replace HQ : Hid (Blk x5 gq [.int .i64 0, .bool false, .int .i64 0, .int .i64 0, .int .i64 0, .slice none 0 0]) := HQ.out.beside b5 (by omega)
  replace HL : Hid (Blk x5 gl [.int .i64 T, .bool false, .int .i64 0, .int .i64 A, .int .i64 0, .slice none 0 0]) := HL.out.beside b5 (by omega)
  replace HS : Hid (Beside r w x5) := HS.out.trans b5
  replace HR : Hid (∃ q, Rd x5 r s n c q) := ⟨_, R5⟩
  replace HO : Hid (OwnI (gq + 1) x5 tt m V) := HO.out.mono (by omega)
  clear R0 R5 b5 O5 z4
  go_upto_region 4 with fail
  obtain ⟨x6, hx6⟩ : ∃ z, z = x5.alloc (.cells #[.int .i64 t5, .int .i64 q5, .slice tt m cc] 32) := ⟨_, rfl⟩
  try rw [← hx6]
  obtain ⟨gf, hgf⟩ : ∃ z, z = x5.heap.size := ⟨_, rfl⟩
  have b6 : Below x5.heap.size x5 x6 := by rw [hx6]; exact below0 _ _
  have HF : Hid (Blk x6 gf [.int .i64 t5, .int .i64 q5, .slice tt m cc]) := by show Blk _ _ _; rw [hx6, hgf]; exact Blk.new x5 #[.int .i64 t5, .int .i64 q5, .slice tt m cc] _
  have zlf : gl < gf := by have := HL.out.1; omega
  replace HQ : Hid (Blk x6 gq [.int .i64 0, .bool false, .int .i64 0, .int .i64 0, .int .i64 0, .slice none 0 0]) := HQ.out.below b6
  replace HL : Hid (Blk x6 gl [.int .i64 T, .bool false, .int .i64 0, .int .i64 A, .int .i64 0, .slice none 0 0]) := HL.out.below b6
  replace HO : Hid (OwnI (gq + 1) x6 tt m V) := HO.out.below b6
  replace HS : Hid (Beside r w x6) := HS.out.trans (Beside.of b6)
  replace HR : Hid (∃ q, Rd x6 r s n c q) := by obtain ⟨q_, R_⟩ := HR.out; exact ⟨q_, R_.below b6⟩
  try rw [← hgf]
  clear hx6 hgf b6
  have d0 := HF.out.2.2 0 _ rfl
  have d1 := HF.out.2.2 1 _ rfl
  have d2 := HF.out.2.2 2 _ rfl
  go_wp2_with fail
  refine (l13Ok_any t5 q5 tt m cc V _ HO.out.row).mono ?_
  rintro e x7 ⟨rfl, b7⟩
  replace HQ : Hid (Blk x7 gq [.int .i64 0, .bool false, .int .i64 0, .int .i64 0, .int .i64 0, .slice none 0 0]) := HQ.out.below b7
  replace HL : Hid (Blk x7 gl [.int .i64 T, .bool false, .int .i64 0, .int .i64 A, .int .i64 0, .slice none 0 0]) := HL.out.below b7
  replace HF : Hid (Blk x7 gf [.int .i64 t5, .int .i64 q5, .slice tt m cc]) := HF.out.below b7
  replace HO : Hid (OwnI (gq + 1) x7 tt m V) := HO.out.below b7
  replace HS : Hid (Beside r w x7) := HS.out.trans (Beside.of b7)
  replace HR : Hid (∃ q, Rd x7 r s n c q) := by obtain ⟨q_, R_⟩ := HR.out; exact ⟨q_, R_.below b7⟩
  clear b7 d0 d1 d2
  obtain ⟨ok, hok⟩ : ∃ z, frameB t5 q5 m V = z := ⟨_, rfl⟩
  rw [hok]
  clear hok
  cases ok
  case false =>
    clear HO HNgl
    obtain ⟨q0, R0⟩ := HR.out
    go_wp2_with fail
    refine (below_any 24 R0).mono ?_
    rintro e y2 ⟨kk, p9, rfl, kk0, -, -, R1, b1⟩
    replace HQ : Hid (Blk y2 gq [.int .i64 0, .bool false, .int .i64 0, .int .i64 0, .int .i64 0, .slice none 0 0]) := HQ.out.beside b1 (by omega)
    replace HL : Hid (Blk y2 gl [.int .i64 T, .bool false, .int .i64 0, .int .i64 A, .int .i64 0, .slice none 0 0]) := HL.out.beside b1 (by omega)
    replace HF : Hid (Blk y2 gf [.int .i64 t5, .int .i64 q5, .slice tt m cc]) := HF.out.beside b1 (by omega)
    replace HS : Hid (Beside r w y2) := HS.out.trans b1
    replace HR : Hid (∃ q, Rd y2 r s n c q) := ⟨_, R1⟩
    clear R0 R1 b1
    by_cases e0 : kk = 0
    case pos =>
      subst e0
      obtain ⟨q0, R0⟩ := HR.out
      go_wp2_with fail
      refine (off_any 0 100 (by omega) (by omega) (by omega) R0).mono ?_
      rintro e y2_0 ⟨x9, px, rfl, -, R1, b1⟩
      replace HQ : Hid (Blk y2_0 gq [.int .i64 0, .bool false, .int .i64 0, .int .i64 0, .int .i64 0, .slice none 0 0]) := HQ.out.beside b1 (by omega)
      replace HL : Hid (Blk y2_0 gl [.int .i64 T, .bool false, .int .i64 0, .int .i64 A, .int .i64 0, .slice none 0 0]) := HL.out.beside b1 (by omega)
      replace HF : Hid (Blk y2_0 gf [.int .i64 t5, .int .i64 q5, .slice tt m cc]) := HF.out.beside b1 (by omega)
      replace HS : Hid (Beside r w y2_0) := HS.out.trans b1
      replace HR : Hid (∃ q, Rd y2_0 r s n c q) := ⟨_, R1⟩
      clear R0 R1 b1
      have c_ := HL.out.2.2 3 _ rfl
      have f_ := HL.out.2.1 3
      have z_ := HL.out.1
      go_upto_region 13 with fail
      clear c_ f_ z_
      obtain ⟨y2_0s, hw_⟩ : ∃ z, z = y2_0.setCell ⟨gl, 3, none⟩ (.int .i64 x9) := ⟨_, rfl⟩
      try rw [← hw_]
      have bs_ : Beside gl y2_0 y2_0s := by rw [hw_]; exact Beside.setCell gl _ _ _
      have zr_ : r < y2_0.heap.size := Nat.lt_of_lt_of_le zr0 HS.out.2.2.2.1
      replace HQ : Hid (Blk y2_0s gq [.int .i64 0, .bool false, .int .i64 0, .int .i64 0, .int .i64 0, .slice none 0 0]) := HQ.out.beside bs_ (by omega)
      replace HL : Hid (Blk y2_0s gl [.int .i64 T, .bool false, .int .i64 0, .int .i64 x9, .int .i64 0, .slice none 0 0]) := by show Blk _ _ _; rw [hw_]; exact HL.out.set 3 _
      replace HF : Hid (Blk y2_0s gf [.int .i64 t5, .int .i64 q5, .slice tt m cc]) := HF.out.beside bs_ (by omega)
      replace HR : Hid (∃ q, Rd y2_0s r s n c q) := by obtain ⟨q_, R_⟩ := HR.out; exact ⟨q_, Rd.below' R_ (bs_.below (by omega) (by omega))⟩
      replace HS : Hid (Beside r w y2_0s) := HS.out.onB (bs_.below (by have := HGQ.out; omega) (by have := HS.out.2.2.2.1; omega))
      clear hw_ bs_ zr_
      obtain ⟨qz, Rz⟩ := HR.out
      have l0 := HL.out.2.2 0 _ rfl
      have l1 := HL.out.2.2 1 _ rfl
      have l2 := HL.out.2.2 2 _ rfl
      have l3 := HL.out.2.2 3 _ rfl
      have l4 := HL.out.2.2 4 _ rfl
      have l5 := HL.out.2.2 5 _ rfl
      have g0 := HQ.out.2.2 0 _ rfl
      have g1 := HQ.out.2.2 1 _ rfl
      have g2 := HQ.out.2.2 2 _ rfl
      have g3 := HQ.out.2.2 3 _ rfl
      have g4 := HQ.out.2.2 4 _ rfl
      have g5 := HQ.out.2.2 5 _ rfl
      have f0 := HQ.out.2.1 0
      have f1 := HQ.out.2.1 1
      have f2 := HQ.out.2.1 2
      have f3 := HQ.out.2.1 3
      have f4 := HQ.out.2.1 4
      have f5 := HQ.out.2.1 5
      have zq_ := HQ.out.1
      have zl_ := HL.out.1
      have zqw := HGQ.out
      have BS := HS.out
      have sBS := BS.2.2.2.1
      have n_ : gl ≠ gq := by omega
      have hRB : ∀ W2, Below gq y2_0s W2 → Rd W2 r s n c qz := fun W2 hb => Rd.below' Rz (hb.mono (by omega))
      go_wp2
      refine bodyPost_ret (v := .agg #[.int .i64 T, .bool false, .int .i64 0, .int .i64 x9, .int .i64 0, .slice none 0 0]) (by simp [results, Try.results38, go_sem, l0, l1, l2, l3, l4, l5, g0, g1, g2, g3, g4, g5, n_, n_.symm]) rfl ?_
      unfold LnkPost
      exact ⟨_, _, _, _, _, _, _, _, (fun _ => 0), qz, rfl, by omega, (fun j hj => absurd hj (Nat.not_lt_zero j)), hRB _ (show Below gq y2_0s _ from (by repeat (first | with_reducible exact Below.refl _ _ | with_reducible refine Below.setCell ?_ (by first | omega | (simp; done) | (simp; omega)) _ | with_reducible refine bDrewN ?_ _ | with_reducible refine Below.drew ?_ | with_reducible refine Below.alloc ?_ (by first | omega | (simp; done) | (simp; omega)) _))), BS.onB (show Below w.heap.size y2_0s _ from (by repeat (first | with_reducible exact Below.refl _ _ | with_reducible refine Below.setCell ?_ (by first | omega | (simp; done) | (simp; omega)) _ | with_reducible refine bDrewN ?_ _ | with_reducible refine Below.drew ?_ | with_reducible refine Below.alloc ?_ (by first | omega | (simp; done) | (simp; omega)) _)))⟩
    case neg =>
    have ne0 : (kk == 0) = false := by simpa using e0
    by_cases e1 : kk = 1
    case pos =>
      subst e1
      obtain ⟨q0, R0⟩ := HR.out
      go_wp2_with fail
      refine (off_any 999999997 1000000000 (by omega) (by omega) (by omega) R0).mono ?_
      rintro e y2_1 ⟨x9, px, rfl, -, R1, b1⟩
      replace HQ : Hid (Blk y2_1 gq [.int .i64 0, .bool false, .int .i64 0, .int .i64 0, .int .i64 0, .slice none 0 0]) := HQ.out.beside b1 (by omega)
      replace HL : Hid (Blk y2_1 gl [.int .i64 T, .bool false, .int .i64 0, .int .i64 A, .int .i64 0, .slice none 0 0]) := HL.out.beside b1 (by omega)
      replace HF : Hid (Blk y2_1 gf [.int .i64 t5, .int .i64 q5, .slice tt m cc]) := HF.out.beside b1 (by omega)
      replace HS : Hid (Beside r w y2_1) := HS.out.trans b1
      replace HR : Hid (∃ q, Rd y2_1 r s n c q) := ⟨_, R1⟩
      clear R0 R1 b1
      have c_ := HL.out.2.2 4 _ rfl
      have f_ := HL.out.2.1 4
      have z_ := HL.out.1
      go_upto_region 13 with fail
      clear c_ f_ z_
      obtain ⟨y2_1s, hw_⟩ : ∃ z, z = y2_1.setCell ⟨gl, 4, none⟩ (.int .i64 x9) := ⟨_, rfl⟩
      try rw [← hw_]
      have bs_ : Beside gl y2_1 y2_1s := by rw [hw_]; exact Beside.setCell gl _ _ _
      have zr_ : r < y2_1.heap.size := Nat.lt_of_lt_of_le zr0 HS.out.2.2.2.1
      replace HQ : Hid (Blk y2_1s gq [.int .i64 0, .bool false, .int .i64 0, .int .i64 0, .int .i64 0, .slice none 0 0]) := HQ.out.beside bs_ (by omega)
      replace HL : Hid (Blk y2_1s gl [.int .i64 T, .bool false, .int .i64 0, .int .i64 A, .int .i64 x9, .slice none 0 0]) := by show Blk _ _ _; rw [hw_]; exact HL.out.set 4 _
      replace HF : Hid (Blk y2_1s gf [.int .i64 t5, .int .i64 q5, .slice tt m cc]) := HF.out.beside bs_ (by omega)
      replace HR : Hid (∃ q, Rd y2_1s r s n c q) := by obtain ⟨q_, R_⟩ := HR.out; exact ⟨q_, Rd.below' R_ (bs_.below (by omega) (by omega))⟩
      replace HS : Hid (Beside r w y2_1s) := HS.out.onB (bs_.below (by have := HGQ.out; omega) (by have := HS.out.2.2.2.1; omega))
      clear hw_ bs_ zr_
      obtain ⟨qz, Rz⟩ := HR.out
      have l0 := HL.out.2.2 0 _ rfl
      have l1 := HL.out.2.2 1 _ rfl
      have l2 := HL.out.2.2 2 _ rfl
      have l3 := HL.out.2.2 3 _ rfl
      have l4 := HL.out.2.2 4 _ rfl
      have l5 := HL.out.2.2 5 _ rfl
      have g0 := HQ.out.2.2 0 _ rfl
      have g1 := HQ.out.2.2 1 _ rfl
      have g2 := HQ.out.2.2 2 _ rfl
      have g3 := HQ.out.2.2 3 _ rfl
      have g4 := HQ.out.2.2 4 _ rfl
      have g5 := HQ.out.2.2 5 _ rfl
      have f0 := HQ.out.2.1 0
      have f1 := HQ.out.2.1 1
      have f2 := HQ.out.2.1 2
      have f3 := HQ.out.2.1 3
      have f4 := HQ.out.2.1 4
      have f5 := HQ.out.2.1 5
      have zq_ := HQ.out.1
      have zl_ := HL.out.1
      have zqw := HGQ.out
      have BS := HS.out
      have sBS := BS.2.2.2.1
      have n_ : gl ≠ gq := by omega
      have hRB : ∀ W2, Below gq y2_1s W2 → Rd W2 r s n c qz := fun W2 hb => Rd.below' Rz (hb.mono (by omega))
      go_wp2
      refine bodyPost_ret (v := .agg #[.int .i64 T, .bool false, .int .i64 0, .int .i64 A, .int .i64 x9, .slice none 0 0]) (by simp [results, Try.results38, go_sem, l0, l1, l2, l3, l4, l5, g0, g1, g2, g3, g4, g5, n_, n_.symm]) rfl ?_
      unfold LnkPost
      exact ⟨_, _, _, _, _, _, _, _, (fun _ => 0), qz, rfl, by omega, (fun j hj => absurd hj (Nat.not_lt_zero j)), hRB _ (show Below gq y2_1s _ from (by repeat (first | with_reducible exact Below.refl _ _ | with_reducible refine Below.setCell ?_ (by first | omega | (simp; done) | (simp; omega)) _ | with_reducible refine bDrewN ?_ _ | with_reducible refine Below.drew ?_ | with_reducible refine Below.alloc ?_ (by first | omega | (simp; done) | (simp; omega)) _))), BS.onB (show Below w.heap.size y2_1s _ from (by repeat (first | with_reducible exact Below.refl _ _ | with_reducible refine Below.setCell ?_ (by first | omega | (simp; done) | (simp; omega)) _ | with_reducible refine bDrewN ?_ _ | with_reducible refine Below.drew ?_ | with_reducible refine Below.alloc ?_ (by first | omega | (simp; done) | (simp; omega)) _)))⟩
    case neg =>
    have ne1 : (kk == 1) = false := by simpa using e1
    by_cases e2 : kk = 2
    case pos =>
      subst e2
      have c_ := HL.out.2.2 1 _ rfl
      have f_ := HL.out.2.1 1
      have z_ := HL.out.1
      go_upto_region 13 with fail
      clear c_ f_ z_
      obtain ⟨y2_2s, hw_⟩ : ∃ z, z = y2.setCell ⟨gl, 1, none⟩ (.bool true) := ⟨_, rfl⟩
      try rw [← hw_]
      have bs_ : Beside gl y2 y2_2s := by rw [hw_]; exact Beside.setCell gl _ _ _
      have zr_ : r < y2.heap.size := Nat.lt_of_lt_of_le zr0 HS.out.2.2.2.1
      replace HQ : Hid (Blk y2_2s gq [.int .i64 0, .bool false, .int .i64 0, .int .i64 0, .int .i64 0, .slice none 0 0]) := HQ.out.beside bs_ (by omega)
      replace HL : Hid (Blk y2_2s gl [.int .i64 T, .bool true, .int .i64 0, .int .i64 A, .int .i64 0, .slice none 0 0]) := by show Blk _ _ _; rw [hw_]; exact HL.out.set 1 _
      replace HF : Hid (Blk y2_2s gf [.int .i64 t5, .int .i64 q5, .slice tt m cc]) := HF.out.beside bs_ (by omega)
      replace HR : Hid (∃ q, Rd y2_2s r s n c q) := by obtain ⟨q_, R_⟩ := HR.out; exact ⟨q_, Rd.below' R_ (bs_.below (by omega) (by omega))⟩
      replace HS : Hid (Beside r w y2_2s) := HS.out.onB (bs_.below (by have := HGQ.out; omega) (by have := HS.out.2.2.2.1; omega))
      clear hw_ bs_ zr_
      obtain ⟨qz, Rz⟩ := HR.out
      have l0 := HL.out.2.2 0 _ rfl
      have l1 := HL.out.2.2 1 _ rfl
      have l2 := HL.out.2.2 2 _ rfl
      have l3 := HL.out.2.2 3 _ rfl
      have l4 := HL.out.2.2 4 _ rfl
      have l5 := HL.out.2.2 5 _ rfl
      have g0 := HQ.out.2.2 0 _ rfl
      have g1 := HQ.out.2.2 1 _ rfl
      have g2 := HQ.out.2.2 2 _ rfl
      have g3 := HQ.out.2.2 3 _ rfl
      have g4 := HQ.out.2.2 4 _ rfl
      have g5 := HQ.out.2.2 5 _ rfl
      have f0 := HQ.out.2.1 0
      have f1 := HQ.out.2.1 1
      have f2 := HQ.out.2.1 2
      have f3 := HQ.out.2.1 3
      have f4 := HQ.out.2.1 4
      have f5 := HQ.out.2.1 5
      have zq_ := HQ.out.1
      have zl_ := HL.out.1
      have zqw := HGQ.out
      have BS := HS.out
      have sBS := BS.2.2.2.1
      have n_ : gl ≠ gq := by omega
      have hRB : ∀ W2, Below gq y2_2s W2 → Rd W2 r s n c qz := fun W2 hb => Rd.below' Rz (hb.mono (by omega))
      go_wp2
      refine bodyPost_ret (v := .agg #[.int .i64 T, .bool true, .int .i64 0, .int .i64 A, .int .i64 0, .slice none 0 0]) (by simp [results, Try.results38, go_sem, l0, l1, l2, l3, l4, l5, g0, g1, g2, g3, g4, g5, n_, n_.symm]) rfl ?_
      unfold LnkPost
      exact ⟨_, _, _, _, _, _, _, _, (fun _ => 0), qz, rfl, by omega, (fun j hj => absurd hj (Nat.not_lt_zero j)), hRB _ (show Below gq y2_2s _ from (by repeat (first | with_reducible exact Below.refl _ _ | with_reducible refine Below.setCell ?_ (by first | omega | (simp; done) | (simp; omega)) _ | with_reducible refine bDrewN ?_ _ | with_reducible refine Below.drew ?_ | with_reducible refine Below.alloc ?_ (by first | omega | (simp; done) | (simp; omega)) _))), BS.onB (show Below w.heap.size y2_2s _ from (by repeat (first | with_reducible exact Below.refl _ _ | with_reducible refine Below.setCell ?_ (by first | omega | (simp; done) | (simp; omega)) _ | with_reducible refine bDrewN ?_ _ | with_reducible refine Below.drew ?_ | with_reducible refine Below.alloc ?_ (by first | omega | (simp; done) | (simp; omega)) _)))⟩
    case neg =>
    have ne2 : (kk == 2) = false := by simpa using e2
    go_upto_region 13 with fail
    obtain ⟨qz, Rz⟩ := HR.out
    have l0 := HL.out.2.2 0 _ rfl
    have l1 := HL.out.2.2 1 _ rfl
    have l2 := HL.out.2.2 2 _ rfl
    have l3 := HL.out.2.2 3 _ rfl
    have l4 := HL.out.2.2 4 _ rfl
    have l5 := HL.out.2.2 5 _ rfl
    have g0 := HQ.out.2.2 0 _ rfl
    have g1 := HQ.out.2.2 1 _ rfl
    have g2 := HQ.out.2.2 2 _ rfl
    have g3 := HQ.out.2.2 3 _ rfl
    have g4 := HQ.out.2.2 4 _ rfl
    have g5 := HQ.out.2.2 5 _ rfl
    have f0 := HQ.out.2.1 0
    have f1 := HQ.out.2.1 1
    have f2 := HQ.out.2.1 2
    have f3 := HQ.out.2.1 3
    have f4 := HQ.out.2.1 4
    have f5 := HQ.out.2.1 5
    have zq_ := HQ.out.1
    have zl_ := HL.out.1
    have zqw := HGQ.out
    have BS := HS.out
    have sBS := BS.2.2.2.1
    have n_ : gl ≠ gq := by omega
    have hRB : ∀ W2, Below gq y2 W2 → Rd W2 r s n c qz := fun W2 hb => Rd.below' Rz (hb.mono (by omega))
    go_wp2
    refine bodyPost_ret (v := .agg #[.int .i64 T, .bool false, .int .i64 0, .int .i64 A, .int .i64 0, .slice none 0 0]) (by simp [results, Try.results38, go_sem, l0, l1, l2, l3, l4, l5, g0, g1, g2, g3, g4, g5, n_, n_.symm]) rfl ?_
    unfold LnkPost
    exact ⟨_, _, _, _, _, _, _, _, (fun _ => 0), qz, rfl, by omega, (fun j hj => absurd hj (Nat.not_lt_zero j)), hRB _ (show Below gq y2 _ from (by repeat (first | with_reducible exact Below.refl _ _ | with_reducible refine Below.setCell ?_ (by first | omega | (simp; done) | (simp; omega)) _ | with_reducible refine bDrewN ?_ _ | with_reducible refine Below.drew ?_ | with_reducible refine Below.alloc ?_ (by first | omega | (simp; done) | (simp; omega)) _))), BS.onB (show Below w.heap.size y2 _ from (by repeat (first | with_reducible exact Below.refl _ _ | with_reducible refine Below.setCell ?_ (by first | omega | (simp; done) | (simp; omega)) _ | with_reducible refine bDrewN ?_ _ | with_reducible refine Below.drew ?_ | with_reducible refine Below.alloc ?_ (by first | omega | (simp; done) | (simp; omega)) _)))⟩
  case true =>
  go_upto_region 5 with fail
  refine wp_region_held_drew (S := fun w' => w'.cell? ⟨gf, 0, none⟩ = some (.int .i64 t5) ∧ w'.cell? ⟨gf, 1, none⟩ = some (.int .i64 q5) ∧ w'.cell? ⟨gf, 2, none⟩ = some (.slice tt m cc) ∧ gf < w'.heap.size) (by kernel_rfl) ?_ (fun hHeld => ?_)
  · exact ⟨HF.out.2.2 0 _ rfl, HF.out.2.2 1 _ rfl, HF.out.2.2 2 _ rfl, HF.out.1⟩
  obtain ⟨v0, hv0⟩ : ∃ z, z = x7.drew := ⟨_, rfl⟩
  try rw [← hv0] at hHeld
  rw [← hv0]
  have bv0 : Below x7.heap.size x7 v0 := by rw [hv0]; exact Below.drew (Below.refl _ _)
  clear hv0
  replace HQ : Hid (Blk v0 gq [.int .i64 0, .bool false, .int .i64 0, .int .i64 0, .int .i64 0, .slice none 0 0]) := HQ.out.below bv0
  replace HL : Hid (Blk v0 gl [.int .i64 T, .bool false, .int .i64 0, .int .i64 A, .int .i64 0, .slice none 0 0]) := HL.out.below bv0
  replace HF : Hid (Blk v0 gf [.int .i64 t5, .int .i64 q5, .slice tt m cc]) := HF.out.below bv0
  replace HO : Hid (OwnI (gq + 1) v0 tt m V) := HO.out.below bv0
  replace HS : Hid (Beside r w v0) := HS.out.trans (Beside.of bv0)
  replace HR : Hid (∃ q, Rd v0 r s n c q) := by obtain ⟨q_, R_⟩ := HR.out; exact ⟨q_, R_.below bv0⟩
  clear bv0
  refine wpAnyH_take (i := 0) (v := .pointer (some ⟨gf, 0, none⟩)) rfl (by kernel_rfl) (by kernel_rfl) (by kernel_rfl) (fun _ _ _ h => h) (Or.inl ⟨by kernel_rfl, ?_⟩) hHeld ?_
  · intro w' hSw
    obtain ⟨hc0, hc1, hc2, hz0⟩ := hSw
    first | (go_simp; done) | (go_simp; with_reducible rfl) | (go_simp; rw [IntKind.wrap_i64]; omega) | (go_simp; omega)
  simp only [Act.put, List.setIfInBounds_toArray, List.set_cons_zero, List.set_cons_succ]
  refine wpAnyH_take (i := 1) (v := .int .i64 t5) rfl (by kernel_rfl) (by kernel_rfl) (by kernel_rfl) (fun _ _ _ h => h) (Or.inl ⟨by kernel_rfl, ?_⟩) hHeld ?_
  · intro w' hSw
    obtain ⟨hc0, hc1, hc2, hz0⟩ := hSw
    first | (go_simp; done) | (go_simp; with_reducible rfl) | (go_simp; rw [IntKind.wrap_i64]; omega) | (go_simp; omega)
  simp only [Act.put, List.setIfInBounds_toArray, List.set_cons_zero, List.set_cons_succ]
  refine wpAnyH_take (i := 2) (v := .pointer (some ⟨gf, 1, none⟩)) rfl (by kernel_rfl) (by kernel_rfl) (by kernel_rfl) (fun _ _ _ h => h) (Or.inl ⟨by kernel_rfl, ?_⟩) hHeld ?_
  · intro w' hSw
    obtain ⟨hc0, hc1, hc2, hz0⟩ := hSw
    first | (go_simp; done) | (go_simp; with_reducible rfl) | (go_simp; rw [IntKind.wrap_i64]; omega) | (go_simp; omega)
  simp only [Act.put, List.setIfInBounds_toArray, List.set_cons_zero, List.set_cons_succ]
  refine wpAnyH_take (i := 3) (v := .int .i64 q5) rfl (by kernel_rfl) (by kernel_rfl) (by kernel_rfl) (fun _ _ _ h => h) (Or.inl ⟨by kernel_rfl, ?_⟩) hHeld ?_
  · intro w' hSw
    obtain ⟨hc0, hc1, hc2, hz0⟩ := hSw
    first | (go_simp; done) | (go_simp; with_reducible rfl) | (go_simp; rw [IntKind.wrap_i64]; omega) | (go_simp; omega)
  simp only [Act.put, List.setIfInBounds_toArray, List.set_cons_zero, List.set_cons_succ]
  refine wpAnyH_take (i := 4) (v := .pointer (some ⟨r, 0, none⟩)) rfl (by kernel_rfl) (by kernel_rfl) (by kernel_rfl) (fun _ _ _ h => h) (Or.inl ⟨by kernel_rfl, ?_⟩) hHeld ?_
  · intro w' hSw
    obtain ⟨hc0, hc1, hc2, hz0⟩ := hSw
    first | (go_simp; done) | (go_simp; with_reducible rfl) | (go_simp; rw [IntKind.wrap_i64]; omega) | (go_simp; omega)
  simp only [Act.put, List.setIfInBounds_toArray, List.set_cons_zero, List.set_cons_succ]
  refine wpAnyH_take (i := 6) (v := .pointer (some ⟨r, 0, none⟩)) rfl (by kernel_rfl) (by kernel_rfl) (by kernel_rfl) (fun _ _ _ h => h) (Or.inl ⟨by kernel_rfl, ?_⟩) hHeld ?_
  · intro w' hSw
    obtain ⟨hc0, hc1, hc2, hz0⟩ := hSw
    first | (go_simp; done) | (go_simp; with_reducible rfl) | (go_simp; rw [IntKind.wrap_i64]; omega) | (go_simp; omega)
  simp only [Act.put, List.setIfInBounds_toArray, List.set_cons_zero, List.set_cons_succ]
  refine wpAnyH_take (i := 8) (v := .pointer (some ⟨gf, 2, none⟩)) rfl (by kernel_rfl) (by kernel_rfl) (by kernel_rfl) (fun _ _ _ h => h) (Or.inl ⟨by kernel_rfl, ?_⟩) hHeld ?_
  · intro w' hSw
    obtain ⟨hc0, hc1, hc2, hz0⟩ := hSw
    first | (go_simp; done) | (go_simp; with_reducible rfl) | (go_simp; rw [IntKind.wrap_i64]; omega) | (go_simp; omega)
  simp only [Act.put, List.setIfInBounds_toArray, List.set_cons_zero, List.set_cons_succ]
  refine wpAnyH_take (i := 9) (v := .slice tt m cc) rfl (by kernel_rfl) (by kernel_rfl) (by kernel_rfl) (fun _ _ _ h => h) (Or.inl ⟨by kernel_rfl, ?_⟩) hHeld ?_
  · intro w' hSw
    obtain ⟨hc0, hc1, hc2, hz0⟩ := hSw
    first | (go_simp; done) | (go_simp; with_reducible rfl) | (go_simp; rw [IntKind.wrap_i64]; omega) | (go_simp; omega)
  simp only [Act.put, List.setIfInBounds_toArray, List.set_cons_zero, List.set_cons_succ]
  refine wpAnyH_ready (rs := [5]) (by kernel_rfl) (by simp) ?_
  refine (AllReadyH.cons rfl (fun KK hK => ?_) AllReadyH.nil)
  obtain ⟨q0, R0⟩ := HR.out
  go_simp
  go_wp2_with (first | (go_at_call 65; refine (near_any 0 6 (by omega) (by omega) (by omega) R0).mono ?_; rintro e v0_1 ⟨a9, p5, rfl, -, -, R5, b5⟩))
  replace HQ : Hid (Blk v0_1 gq [.int .i64 0, .bool false, .int .i64 0, .int .i64 0, .int .i64 0, .slice none 0 0]) := HQ.out.beside b5 (by omega)
  replace HL : Hid (Blk v0_1 gl [.int .i64 T, .bool false, .int .i64 0, .int .i64 A, .int .i64 0, .slice none 0 0]) := HL.out.beside b5 (by omega)
  replace HF : Hid (Blk v0_1 gf [.int .i64 t5, .int .i64 q5, .slice tt m cc]) := HF.out.beside b5 (by omega)
  replace HO : Hid (OwnI (gq + 1) v0_1 tt m V) := HO.out.beside b5 (by omega)
  replace HS : Hid (Beside r w v0_1) := HS.out.trans b5
  replace HR : Hid (∃ q, Rd v0_1 r s n c q) := ⟨_, R5⟩
  clear R5 b5 R0
  refine hK.out _ _ (⟨HF.out.2.2 0 _ rfl, HF.out.2.2 1 _ rfl, HF.out.2.2 2 _ rfl, HF.out.1⟩) (fun hHeld => ?_)
  clear hK KK
  refine wpAnyH_ready (rs := [7]) (by kernel_rfl) (by simp) ?_
  refine (AllReadyH.cons rfl (fun KK hK => ?_) AllReadyH.nil)
  obtain ⟨q0, R0⟩ := HR.out
  go_simp
  go_wp2_with (first | (go_at_call 65; refine (near_any 0 9 (by omega) (by omega) (by omega) R0).mono ?_; rintro e v0_2 ⟨l9, p5, rfl, -, -, R5, b5⟩))
  replace HQ : Hid (Blk v0_2 gq [.int .i64 0, .bool false, .int .i64 0, .int .i64 0, .int .i64 0, .slice none 0 0]) := HQ.out.beside b5 (by omega)
  replace HL : Hid (Blk v0_2 gl [.int .i64 T, .bool false, .int .i64 0, .int .i64 A, .int .i64 0, .slice none 0 0]) := HL.out.beside b5 (by omega)
  replace HF : Hid (Blk v0_2 gf [.int .i64 t5, .int .i64 q5, .slice tt m cc]) := HF.out.beside b5 (by omega)
  replace HO : Hid (OwnI (gq + 1) v0_2 tt m V) := HO.out.beside b5 (by omega)
  replace HS : Hid (Beside r w v0_2) := HS.out.trans b5
  replace HR : Hid (∃ q, Rd v0_2 r s n c q) := ⟨_, R5⟩
  clear R5 b5 R0
  refine hK.out _ _ (⟨HF.out.2.2 0 _ rfl, HF.out.2.2 1 _ rfl, HF.out.2.2 2 _ rfl, HF.out.1⟩) (fun hHeld => ?_)
  clear hK KK
  refine wpAnyH_take (i := 10) (v := .agg #[.int .i64 t5, .bool true, .int .i64 q5, .int .i64 a9, .int .i64 l9, .slice tt m cc]) rfl (by kernel_rfl) (by kernel_rfl) (by kernel_rfl) (fun _ _ _ h => h) (Or.inl ⟨by kernel_rfl, ?_⟩) hHeld ?_
  · intro w' hSw
    obtain ⟨hc0, hc1, hc2, hz0⟩ := hSw
    first | (go_simp; done) | (go_simp; with_reducible rfl) | (go_simp; rw [IntKind.wrap_i64]; omega) | (go_simp; omega)
  simp only [Act.put, List.setIfInBounds_toArray, List.set_cons_zero, List.set_cons_succ]
  refine wpAnyH_ready (rs := [11]) (by kernel_rfl) (by simp) ?_
  refine (AllReadyH.cons rfl (fun KK hK => ?_) AllReadyH.nil)
  have k0 := HL.out.2.1 0
  have u0 := HL.out.2.2 0 _ rfl
  have k1 := HL.out.2.1 1
  have u1 := HL.out.2.2 1 _ rfl
  have k2 := HL.out.2.1 2
  have u2 := HL.out.2.2 2 _ rfl
  have k3 := HL.out.2.1 3
  have u3 := HL.out.2.2 3 _ rfl
  have k4 := HL.out.2.1 4
  have u4 := HL.out.2.2 4 _ rfl
  have k5 := HL.out.2.1 5
  have u5 := HL.out.2.2 5 _ rfl
  have kz := HL.out.1
  go_simp
  obtain ⟨v0_3, hv_⟩ : ∃ z, z = (((((v0_2.setCell ⟨gl, 0, none⟩ (.int .i64 t5)).setCell ⟨gl, 1, none⟩ (.bool true)).setCell ⟨gl, 2, none⟩ (.int .i64 q5)).setCell ⟨gl, 3, none⟩ (.int .i64 a9)).setCell ⟨gl, 4, none⟩ (.int .i64 l9)).setCell ⟨gl, 5, none⟩ (.slice tt m cc) := ⟨_, rfl⟩
  rw [← hv_]
  have b5 : Beside gl v0_2 v0_3 := by rw [hv_]; exact (((((Beside.setCell gl v0_2 0 _).trans (Beside.setCell gl _ 1 _)).trans (Beside.setCell gl _ 2 _)).trans (Beside.setCell gl _ 3 _)).trans (Beside.setCell gl _ 4 _)).trans (Beside.setCell gl _ 5 _)
  replace HL : Hid (Blk v0_3 gl [.int .i64 t5, .bool true, .int .i64 q5, .int .i64 a9, .int .i64 l9, .slice tt m cc]) := by show Blk _ _ _; rw [hv_]; exact (((((HL.out.set 0 _).set 1 _).set 2 _).set 3 _).set 4 _).set 5 _
  replace HQ : Hid (Blk v0_3 gq [.int .i64 0, .bool false, .int .i64 0, .int .i64 0, .int .i64 0, .slice none 0 0]) := HQ.out.beside b5 (by omega)
  replace HF : Hid (Blk v0_3 gf [.int .i64 t5, .int .i64 q5, .slice tt m cc]) := HF.out.beside b5 (by omega)
  replace HO : Hid (OwnI (gq + 1) v0_3 tt m V) := own_offD HO.out b5 HNgl.out
  replace HR : Hid (∃ q, Rd v0_3 r s n c q) := by obtain ⟨q_, R_⟩ := HR.out; exact ⟨q_, Rd.below' R_ (b5.below (by omega) (by have := R_.1; omega))⟩
  replace HS : Hid (Beside r w v0_3) := HS.out.onB (b5.below (by have := HGQ.out; omega) (by have := HS.out.2.2.2.1; omega))
  clear hv_ b5 kz k0 u0 k1 u1 k2 u2 k3 u3 k4 u4 k5 u5
  refine hK.out _ _ (⟨HF.out.2.2 0 _ rfl, HF.out.2.2 1 _ rfl, HF.out.2.2 2 _ rfl, HF.out.1⟩) (fun hHeld => ?_)
  clear hK KK
  refine wpAnyH_done (by kernel_rfl) ?_ _
  clear hHeld
  clear HF
  obtain ⟨q0, R0⟩ := HR.out
  go_wp2_with fail
  refine (below_any 24 R0).mono ?_
  rintro e y3 ⟨kk, p9, rfl, kk0, -, -, R1, b1⟩
  replace HQ : Hid (Blk y3 gq [.int .i64 0, .bool false, .int .i64 0, .int .i64 0, .int .i64 0, .slice none 0 0]) := HQ.out.beside b1 (by omega)
  replace HL : Hid (Blk y3 gl [.int .i64 t5, .bool true, .int .i64 q5, .int .i64 a9, .int .i64 l9, .slice tt m cc]) := HL.out.beside b1 (by omega)
  replace HO : Hid (OwnI (gq + 1) y3 tt m V) := HO.out.beside b1 (by omega)
  replace HS : Hid (Beside r w y3) := HS.out.trans b1
  replace HR : Hid (∃ q, Rd y3 r s n c q) := ⟨_, R1⟩
  clear R0 R1 b1
  by_cases e0 : kk = 0
  case pos =>
    subst e0
    obtain ⟨q0, R0⟩ := HR.out
    go_wp2_with fail
    refine (off_any 0 100 (by omega) (by omega) (by omega) R0).mono ?_
    rintro e y3_0 ⟨x9, px, rfl, -, R1, b1⟩
    replace HQ : Hid (Blk y3_0 gq [.int .i64 0, .bool false, .int .i64 0, .int .i64 0, .int .i64 0, .slice none 0 0]) := HQ.out.beside b1 (by omega)
    replace HL : Hid (Blk y3_0 gl [.int .i64 t5, .bool true, .int .i64 q5, .int .i64 a9, .int .i64 l9, .slice tt m cc]) := HL.out.beside b1 (by omega)
    replace HO : Hid (OwnI (gq + 1) y3_0 tt m V) := HO.out.beside b1 (by omega)
    replace HS : Hid (Beside r w y3_0) := HS.out.trans b1
    replace HR : Hid (∃ q, Rd y3_0 r s n c q) := ⟨_, R1⟩
    clear R0 R1 b1
    have c_ := HL.out.2.2 3 _ rfl
    have f_ := HL.out.2.1 3
    have z_ := HL.out.1
    go_upto_region 13 with fail
    clear c_ f_ z_
    obtain ⟨y3_0s, hw_⟩ : ∃ z, z = y3_0.setCell ⟨gl, 3, none⟩ (.int .i64 x9) := ⟨_, rfl⟩
    try rw [← hw_]
    have bs_ : Beside gl y3_0 y3_0s := by rw [hw_]; exact Beside.setCell gl _ _ _
    have zr_ : r < y3_0.heap.size := Nat.lt_of_lt_of_le zr0 HS.out.2.2.2.1
    replace HQ : Hid (Blk y3_0s gq [.int .i64 0, .bool false, .int .i64 0, .int .i64 0, .int .i64 0, .slice none 0 0]) := HQ.out.beside bs_ (by omega)
    replace HL : Hid (Blk y3_0s gl [.int .i64 t5, .bool true, .int .i64 q5, .int .i64 x9, .int .i64 l9, .slice tt m cc]) := by show Blk _ _ _; rw [hw_]; exact HL.out.set 3 _
    replace HO : Hid (OwnI (gq + 1) y3_0s tt m V) := own_offD HO.out bs_ HNgl.out
    replace HR : Hid (∃ q, Rd y3_0s r s n c q) := by obtain ⟨q_, R_⟩ := HR.out; exact ⟨q_, Rd.below' R_ (bs_.below (by omega) (by omega))⟩
    replace HS : Hid (Beside r w y3_0s) := HS.out.onB (bs_.below (by have := HGQ.out; omega) (by have := HS.out.2.2.2.1; omega))
    clear hw_ bs_ zr_
    obtain ⟨qz, Rz⟩ := HR.out
    have l0 := HL.out.2.2 0 _ rfl
    have l1 := HL.out.2.2 1 _ rfl
    have l2 := HL.out.2.2 2 _ rfl
    have l3 := HL.out.2.2 3 _ rfl
    have l4 := HL.out.2.2 4 _ rfl
    have l5 := HL.out.2.2 5 _ rfl
    have g0 := HQ.out.2.2 0 _ rfl
    have g1 := HQ.out.2.2 1 _ rfl
    have g2 := HQ.out.2.2 2 _ rfl
    have g3 := HQ.out.2.2 3 _ rfl
    have g4 := HQ.out.2.2 4 _ rfl
    have g5 := HQ.out.2.2 5 _ rfl
    have f0 := HQ.out.2.1 0
    have f1 := HQ.out.2.1 1
    have f2 := HQ.out.2.1 2
    have f3 := HQ.out.2.1 3
    have f4 := HQ.out.2.1 4
    have f5 := HQ.out.2.1 5
    have zq_ := HQ.out.1
    have zl_ := HL.out.1
    have zqw := HGQ.out
    have BS := HS.out
    have sBS := BS.2.2.2.1
    have n_ : gl ≠ gq := by omega
    have hRB : ∀ W2, Below gq y3_0s W2 → Rd W2 r s n c qz := fun W2 hb => Rd.below' Rz (hb.mono (by omega))
    have hrow : ∀ W2, Beside gq y3_0s W2 → OwnI w.heap.size W2 tt m V := fun W2 hb => (OwnI.beside HO.out hb (by omega)).mono (by omega)
    go_wp2
    refine bodyPost_ret (v := .agg #[.int .i64 t5, .bool true, .int .i64 q5, .int .i64 x9, .int .i64 l9, .slice tt m cc]) (by simp [results, Try.results38, go_sem, l0, l1, l2, l3, l4, l5, g0, g1, g2, g3, g4, g5, n_, n_.symm]) rfl ?_
    unfold LnkPost
    exact ⟨_, _, _, _, _, _, _, _, V, qz, rfl, by omega, hrow _ ((((((Beside.setCell gq _ 0 _).trans (Beside.setCell gq _ 1 _)).trans (Beside.setCell gq _ 2 _)).trans (Beside.setCell gq _ 3 _)).trans (Beside.setCell gq _ 4 _)).trans (Beside.setCell gq _ 5 _)), hRB _ (show Below gq y3_0s _ from (by repeat (first | with_reducible exact Below.refl _ _ | with_reducible refine Below.setCell ?_ (by first | omega | (simp; done) | (simp; omega)) _ | with_reducible refine bDrewN ?_ _ | with_reducible refine Below.drew ?_ | with_reducible refine Below.alloc ?_ (by first | omega | (simp; done) | (simp; omega)) _))), BS.onB (show Below w.heap.size y3_0s _ from (by repeat (first | with_reducible exact Below.refl _ _ | with_reducible refine Below.setCell ?_ (by first | omega | (simp; done) | (simp; omega)) _ | with_reducible refine bDrewN ?_ _ | with_reducible refine Below.drew ?_ | with_reducible refine Below.alloc ?_ (by first | omega | (simp; done) | (simp; omega)) _)))⟩
  case neg =>
  have ne0 : (kk == 0) = false := by simpa using e0
  by_cases e1 : kk = 1
  case pos =>
    subst e1
    obtain ⟨q0, R0⟩ := HR.out
    go_wp2_with fail
    refine (off_any 999999997 1000000000 (by omega) (by omega) (by omega) R0).mono ?_
    rintro e y3_1 ⟨x9, px, rfl, -, R1, b1⟩
    replace HQ : Hid (Blk y3_1 gq [.int .i64 0, .bool false, .int .i64 0, .int .i64 0, .int .i64 0, .slice none 0 0]) := HQ.out.beside b1 (by omega)
    replace HL : Hid (Blk y3_1 gl [.int .i64 t5, .bool true, .int .i64 q5, .int .i64 a9, .int .i64 l9, .slice tt m cc]) := HL.out.beside b1 (by omega)
    replace HO : Hid (OwnI (gq + 1) y3_1 tt m V) := HO.out.beside b1 (by omega)
    replace HS : Hid (Beside r w y3_1) := HS.out.trans b1
    replace HR : Hid (∃ q, Rd y3_1 r s n c q) := ⟨_, R1⟩
    clear R0 R1 b1
    have c_ := HL.out.2.2 4 _ rfl
    have f_ := HL.out.2.1 4
    have z_ := HL.out.1
    go_upto_region 13 with fail
    clear c_ f_ z_
    obtain ⟨y3_1s, hw_⟩ : ∃ z, z = y3_1.setCell ⟨gl, 4, none⟩ (.int .i64 x9) := ⟨_, rfl⟩
    try rw [← hw_]
    have bs_ : Beside gl y3_1 y3_1s := by rw [hw_]; exact Beside.setCell gl _ _ _
    have zr_ : r < y3_1.heap.size := Nat.lt_of_lt_of_le zr0 HS.out.2.2.2.1
    replace HQ : Hid (Blk y3_1s gq [.int .i64 0, .bool false, .int .i64 0, .int .i64 0, .int .i64 0, .slice none 0 0]) := HQ.out.beside bs_ (by omega)
    replace HL : Hid (Blk y3_1s gl [.int .i64 t5, .bool true, .int .i64 q5, .int .i64 a9, .int .i64 x9, .slice tt m cc]) := by show Blk _ _ _; rw [hw_]; exact HL.out.set 4 _
    replace HO : Hid (OwnI (gq + 1) y3_1s tt m V) := own_offD HO.out bs_ HNgl.out
    replace HR : Hid (∃ q, Rd y3_1s r s n c q) := by obtain ⟨q_, R_⟩ := HR.out; exact ⟨q_, Rd.below' R_ (bs_.below (by omega) (by omega))⟩
    replace HS : Hid (Beside r w y3_1s) := HS.out.onB (bs_.below (by have := HGQ.out; omega) (by have := HS.out.2.2.2.1; omega))
    clear hw_ bs_ zr_
    obtain ⟨qz, Rz⟩ := HR.out
    have l0 := HL.out.2.2 0 _ rfl
    have l1 := HL.out.2.2 1 _ rfl
    have l2 := HL.out.2.2 2 _ rfl
    have l3 := HL.out.2.2 3 _ rfl
    have l4 := HL.out.2.2 4 _ rfl
    have l5 := HL.out.2.2 5 _ rfl
    have g0 := HQ.out.2.2 0 _ rfl
    have g1 := HQ.out.2.2 1 _ rfl
    have g2 := HQ.out.2.2 2 _ rfl
    have g3 := HQ.out.2.2 3 _ rfl
    have g4 := HQ.out.2.2 4 _ rfl
    have g5 := HQ.out.2.2 5 _ rfl
    have f0 := HQ.out.2.1 0
    have f1 := HQ.out.2.1 1
    have f2 := HQ.out.2.1 2
    have f3 := HQ.out.2.1 3
    have f4 := HQ.out.2.1 4
    have f5 := HQ.out.2.1 5
    have zq_ := HQ.out.1
    have zl_ := HL.out.1
    have zqw := HGQ.out
    have BS := HS.out
    have sBS := BS.2.2.2.1
    have n_ : gl ≠ gq := by omega
    have hRB : ∀ W2, Below gq y3_1s W2 → Rd W2 r s n c qz := fun W2 hb => Rd.below' Rz (hb.mono (by omega))
    have hrow : ∀ W2, Beside gq y3_1s W2 → OwnI w.heap.size W2 tt m V := fun W2 hb => (OwnI.beside HO.out hb (by omega)).mono (by omega)
    go_wp2
    refine bodyPost_ret (v := .agg #[.int .i64 t5, .bool true, .int .i64 q5, .int .i64 a9, .int .i64 x9, .slice tt m cc]) (by simp [results, Try.results38, go_sem, l0, l1, l2, l3, l4, l5, g0, g1, g2, g3, g4, g5, n_, n_.symm]) rfl ?_
    unfold LnkPost
    exact ⟨_, _, _, _, _, _, _, _, V, qz, rfl, by omega, hrow _ ((((((Beside.setCell gq _ 0 _).trans (Beside.setCell gq _ 1 _)).trans (Beside.setCell gq _ 2 _)).trans (Beside.setCell gq _ 3 _)).trans (Beside.setCell gq _ 4 _)).trans (Beside.setCell gq _ 5 _)), hRB _ (show Below gq y3_1s _ from (by repeat (first | with_reducible exact Below.refl _ _ | with_reducible refine Below.setCell ?_ (by first | omega | (simp; done) | (simp; omega)) _ | with_reducible refine bDrewN ?_ _ | with_reducible refine Below.drew ?_ | with_reducible refine Below.alloc ?_ (by first | omega | (simp; done) | (simp; omega)) _))), BS.onB (show Below w.heap.size y3_1s _ from (by repeat (first | with_reducible exact Below.refl _ _ | with_reducible refine Below.setCell ?_ (by first | omega | (simp; done) | (simp; omega)) _ | with_reducible refine bDrewN ?_ _ | with_reducible refine Below.drew ?_ | with_reducible refine Below.alloc ?_ (by first | omega | (simp; done) | (simp; omega)) _)))⟩
  case neg =>
  have ne1 : (kk == 1) = false := by simpa using e1
  by_cases e2 : kk = 2
  case pos =>
    subst e2
    have c_ := HL.out.2.2 1 _ rfl
    have f_ := HL.out.2.1 1
    have z_ := HL.out.1
    go_upto_region 13 with fail
    clear c_ f_ z_
    obtain ⟨y3_2s, hw_⟩ : ∃ z, z = y3.setCell ⟨gl, 1, none⟩ (.bool false) := ⟨_, rfl⟩
    try rw [← hw_]
    have bs_ : Beside gl y3 y3_2s := by rw [hw_]; exact Beside.setCell gl _ _ _
    have zr_ : r < y3.heap.size := Nat.lt_of_lt_of_le zr0 HS.out.2.2.2.1
    replace HQ : Hid (Blk y3_2s gq [.int .i64 0, .bool false, .int .i64 0, .int .i64 0, .int .i64 0, .slice none 0 0]) := HQ.out.beside bs_ (by omega)
    replace HL : Hid (Blk y3_2s gl [.int .i64 t5, .bool false, .int .i64 q5, .int .i64 a9, .int .i64 l9, .slice tt m cc]) := by show Blk _ _ _; rw [hw_]; exact HL.out.set 1 _
    replace HO : Hid (OwnI (gq + 1) y3_2s tt m V) := own_offD HO.out bs_ HNgl.out
    replace HR : Hid (∃ q, Rd y3_2s r s n c q) := by obtain ⟨q_, R_⟩ := HR.out; exact ⟨q_, Rd.below' R_ (bs_.below (by omega) (by omega))⟩
    replace HS : Hid (Beside r w y3_2s) := HS.out.onB (bs_.below (by have := HGQ.out; omega) (by have := HS.out.2.2.2.1; omega))
    clear hw_ bs_ zr_
    obtain ⟨qz, Rz⟩ := HR.out
    have l0 := HL.out.2.2 0 _ rfl
    have l1 := HL.out.2.2 1 _ rfl
    have l2 := HL.out.2.2 2 _ rfl
    have l3 := HL.out.2.2 3 _ rfl
    have l4 := HL.out.2.2 4 _ rfl
    have l5 := HL.out.2.2 5 _ rfl
    have g0 := HQ.out.2.2 0 _ rfl
    have g1 := HQ.out.2.2 1 _ rfl
    have g2 := HQ.out.2.2 2 _ rfl
    have g3 := HQ.out.2.2 3 _ rfl
    have g4 := HQ.out.2.2 4 _ rfl
    have g5 := HQ.out.2.2 5 _ rfl
    have f0 := HQ.out.2.1 0
    have f1 := HQ.out.2.1 1
    have f2 := HQ.out.2.1 2
    have f3 := HQ.out.2.1 3
    have f4 := HQ.out.2.1 4
    have f5 := HQ.out.2.1 5
    have zq_ := HQ.out.1
    have zl_ := HL.out.1
    have zqw := HGQ.out
    have BS := HS.out
    have sBS := BS.2.2.2.1
    have n_ : gl ≠ gq := by omega
    have hRB : ∀ W2, Below gq y3_2s W2 → Rd W2 r s n c qz := fun W2 hb => Rd.below' Rz (hb.mono (by omega))
    have hrow : ∀ W2, Beside gq y3_2s W2 → OwnI w.heap.size W2 tt m V := fun W2 hb => (OwnI.beside HO.out hb (by omega)).mono (by omega)
    go_wp2
    refine bodyPost_ret (v := .agg #[.int .i64 t5, .bool false, .int .i64 q5, .int .i64 a9, .int .i64 l9, .slice tt m cc]) (by simp [results, Try.results38, go_sem, l0, l1, l2, l3, l4, l5, g0, g1, g2, g3, g4, g5, n_, n_.symm]) rfl ?_
    unfold LnkPost
    exact ⟨_, _, _, _, _, _, _, _, V, qz, rfl, by omega, hrow _ ((((((Beside.setCell gq _ 0 _).trans (Beside.setCell gq _ 1 _)).trans (Beside.setCell gq _ 2 _)).trans (Beside.setCell gq _ 3 _)).trans (Beside.setCell gq _ 4 _)).trans (Beside.setCell gq _ 5 _)), hRB _ (show Below gq y3_2s _ from (by repeat (first | with_reducible exact Below.refl _ _ | with_reducible refine Below.setCell ?_ (by first | omega | (simp; done) | (simp; omega)) _ | with_reducible refine bDrewN ?_ _ | with_reducible refine Below.drew ?_ | with_reducible refine Below.alloc ?_ (by first | omega | (simp; done) | (simp; omega)) _))), BS.onB (show Below w.heap.size y3_2s _ from (by repeat (first | with_reducible exact Below.refl _ _ | with_reducible refine Below.setCell ?_ (by first | omega | (simp; done) | (simp; omega)) _ | with_reducible refine bDrewN ?_ _ | with_reducible refine Below.drew ?_ | with_reducible refine Below.alloc ?_ (by first | omega | (simp; done) | (simp; omega)) _)))⟩
  case neg =>
  have ne2 : (kk == 2) = false := by simpa using e2
  go_upto_region 13 with fail
  obtain ⟨qz, Rz⟩ := HR.out
  have l0 := HL.out.2.2 0 _ rfl
  have l1 := HL.out.2.2 1 _ rfl
  have l2 := HL.out.2.2 2 _ rfl
  have l3 := HL.out.2.2 3 _ rfl
  have l4 := HL.out.2.2 4 _ rfl
  have l5 := HL.out.2.2 5 _ rfl
  have g0 := HQ.out.2.2 0 _ rfl
  have g1 := HQ.out.2.2 1 _ rfl
  have g2 := HQ.out.2.2 2 _ rfl
  have g3 := HQ.out.2.2 3 _ rfl
  have g4 := HQ.out.2.2 4 _ rfl
  have g5 := HQ.out.2.2 5 _ rfl
  have f0 := HQ.out.2.1 0
  have f1 := HQ.out.2.1 1
  have f2 := HQ.out.2.1 2
  have f3 := HQ.out.2.1 3
  have f4 := HQ.out.2.1 4
  have f5 := HQ.out.2.1 5
  have zq_ := HQ.out.1
  have zl_ := HL.out.1
  have zqw := HGQ.out
  have BS := HS.out
  have sBS := BS.2.2.2.1
  have n_ : gl ≠ gq := by omega
  have hRB : ∀ W2, Below gq y3 W2 → Rd W2 r s n c qz := fun W2 hb => Rd.below' Rz (hb.mono (by omega))
  have hrow : ∀ W2, Beside gq y3 W2 → OwnI w.heap.size W2 tt m V := fun W2 hb => (OwnI.beside HO.out hb (by omega)).mono (by omega)
  go_wp2
  refine bodyPost_ret (v := .agg #[.int .i64 t5, .bool true, .int .i64 q5, .int .i64 a9, .int .i64 l9, .slice tt m cc]) (by simp [results, Try.results38, go_sem, l0, l1, l2, l3, l4, l5, g0, g1, g2, g3, g4, g5, n_, n_.symm]) rfl ?_
  unfold LnkPost
  exact ⟨_, _, _, _, _, _, _, _, V, qz, rfl, by omega, hrow _ ((((((Beside.setCell gq _ 0 _).trans (Beside.setCell gq _ 1 _)).trans (Beside.setCell gq _ 2 _)).trans (Beside.setCell gq _ 3 _)).trans (Beside.setCell gq _ 4 _)).trans (Beside.setCell gq _ 5 _)), hRB _ (show Below gq y3 _ from (by repeat (first | with_reducible exact Below.refl _ _ | with_reducible refine Below.setCell ?_ (by first | omega | (simp; done) | (simp; omega)) _ | with_reducible refine bDrewN ?_ _ | with_reducible refine Below.drew ?_ | with_reducible refine Below.alloc ?_ (by first | omega | (simp; done) | (simp; omega)) _))), BS.onB (show Below w.heap.size y3 _ from (by repeat (first | with_reducible exact Below.refl _ _ | with_reducible refine Below.setCell ?_ (by first | omega | (simp; done) | (simp; omega)) _ | with_reducible refine bDrewN ?_ _ | with_reducible refine Below.drew ?_ | with_reducible refine Below.alloc ?_ (by first | omega | (simp; done) | (simp; omega)) _)))⟩
end Go.Proofs.Ytkocbklkiehdiaa
