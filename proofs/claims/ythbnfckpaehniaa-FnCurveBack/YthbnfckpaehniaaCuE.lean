/-
What is proved: a curve that is drawn, told by the bytes: the same bytes at the same place give the same curve.
-/
import Derived.Test.YthbnfckpaehniaaRdX
import Derived.Test.YthbnfckpaehniaaLsKnot
import Derived.Deep.DeepCutAuto
import Derived.RegionTactic
namespace Go.Proofs.Ythbnfckpaehniaa
set_option maxRecDepth 40000
open Go.ChangeShapes Go.WideShapes Go.ChangeAt Go.RowKit
set_option linter.unusedVariables false
set_option linter.unusedSimpArgs false

def mmF (n : Nat) : Int := if (12 : Int) < 1 + (n : Int) / 6 then 12 else 1 + (n : Int) / 6
def gaF (k : Int) : Int := if k = 0 then 1 else if k = 1 then 3 else if k = 2 then 40 else 5000
def setU (U : Nat → Int) (i : Nat) (x : Int) (j : Nat) : Int := if j = i then x else U j
def cuS (D : Nat → Int) (n : Nat) (st : Bool) (ga : Int) (q : Int × Int × Nat) : Int × Int × Nat :=
  if st = true then (q.1 + 1 + upK D n ga q.2.2, q.2.1 + 1 + upK D n (2 * ga) (upP n ga q.2.2), upP n (2 * ga) (upP n ga q.2.2))
  else if onB D n 2 (upP n ga q.2.2) = true then (q.1 + 1 + upK D n ga q.2.2, q.2.1 + 1 + upK D n (2 * ga) (beP n 2 (upP n ga q.2.2)), upP n (2 * ga) (beP n 2 (upP n ga q.2.2)))
  else (q.1 + 1 + upK D n ga q.2.2, q.2.1 - upK D n (2 * ga) (beP n 2 (upP n ga q.2.2)), upP n (2 * ga) (beP n 2 (upP n ga q.2.2)))
def cuT (D : Nat → Int) (n : Nat) (st : Bool) (ga : Int) (q : Int × Int × Nat) : Nat → Int × Int × Nat
  | 0 => q
  | k + 1 => cuS D n st ga (cuT D n st ga q k)
theorem cuS_st {D : Nat → Int} {n : Nat} {ga x y u1 u2 z2 z4 : Int} {p5 pu pv : Nat} (h1 : upK D n ga p5 = u1 ∧ upP n ga p5 = pu) (h3 : upK D n (2 * ga) pu = u2 ∧ upP n (2 * ga) pu = pv) (e2 : x + 1 + u1 = z2) (e4 : y + 1 + u2 = z4) : cuS D n true ga (x, y, p5) = (z2, z4, pv) := by
  unfold cuS
  simp only [if_true, h1.1, h1.2, h3.1, h3.2, e2, e4]
theorem cuS_on {D : Nat → Int} {n : Nat} {ga x y u1 u2 z2 z4 : Int} {p5 pu pf pv : Nat} (h1 : upK D n ga p5 = u1 ∧ upP n ga p5 = pu) (h2 : onB D n 2 pu = true ∧ beP n 2 pu = pf) (h3 : upK D n (2 * ga) pf = u2 ∧ upP n (2 * ga) pf = pv) (e2 : x + 1 + u1 = z2) (e4 : y + 1 + u2 = z4) : cuS D n false ga (x, y, p5) = (z2, z4, pv) := by
  unfold cuS
  simp only [h1.1, h1.2, h2.1, h2.2, h3.1, h3.2, e2, e4, if_true]
  rfl
theorem cuS_off {D : Nat → Int} {n : Nat} {ga x y u1 u2 z2 z4 : Int} {p5 pu pf pv : Nat} (h1 : upK D n ga p5 = u1 ∧ upP n ga p5 = pu) (h2 : onB D n 2 pu = false ∧ beP n 2 pu = pf) (h3 : upK D n (2 * ga) pf = u2 ∧ upP n (2 * ga) pf = pv) (e2 : x + 1 + u1 = z2) (e4 : y - u2 = z4) : cuS D n false ga (x, y, p5) = (z2, z4, pv) := by
  unfold cuS
  simp only [h1.1, h1.2, h2.1, h2.2, h3.1, h3.2, e2, e4]
  rfl
def CuEnd (D : Nat → Int) (n M pe : Nat) (U0 : Nat → Int) (m : Nat) (U : Nat → Int) : Prop := ∃ (kk : Int) (pk : Nat), (beK D n 20 pe = kk ∧ beP n 20 pe = pk) ∧
  ((kk = 0 ∧ m = M ∧ ∃ m9, beK D n 2 pk = m9 ∧ U = setU U0 ((M - 1) * 2) (1000000 + m9)) ∨
   (kk = 1 ∧ m = M ∧ ∃ i9 j9 : Nat, beK D n (M : Int) pk = (i9 : Int) ∧ ((i9 : Int) + 1) % (M : Int) = (j9 : Int) ∧ (j9 : Int) < (M : Int) ∧ U = setU U0 (i9 * 2 + 1) (U0 (j9 * 2 + 1))) ∨
   (kk = 2 ∧ m = M ∧ ∃ i9 j9 : Nat, beK D n (M : Int) pk = (i9 : Int) ∧ ((i9 : Int) + 1) % (M : Int) = (j9 : Int) ∧ (j9 : Int) < (M : Int) ∧ U = setU U0 (i9 * 2) (U0 (j9 * 2))) ∨
   (kk = 3 ∧ m = 1 ∧ U = U0) ∨
   (kk = 4 ∧ m = M ∧ ∃ (m9 : Int) (p9 : Nat) (m8 : Int), (beK D n 2 pk = m9 ∧ beP n 2 pk = p9) ∧ beK D n 2 p9 = m8 ∧ U = setU (setU U0 0 (-1000000 - m9)) 1 (-1000000 + m8)) ∨
   (¬ kk = 0 ∧ ¬ kk = 1 ∧ ¬ kk = 2 ∧ ¬ kk = 3 ∧ ¬ kk = 4 ∧ m = M ∧ U = U0))
/-- The curve that the bytes D give at the place p. -/
def CuR (D : Nat → Int) (n : Nat) (st : Bool) (p m : Nat) (U : Nat → Int) : Prop := ∃ (N : Int) (p1 : Nat) (gi : Int) (p2 : Nat) (x0 : Int) (p3 : Nat) (y0 : Int) (p4 M : Nat) (U0 : Nat → Int),
  (beK D n (mmF n) p = N ∧ beP n (mmF n) p = p1) ∧ (beK D n 4 p1 = gi ∧ beP n 4 p1 = p2) ∧ (neK D n (-40) 40 p2 = x0 ∧ neP D n (-40) 40 p2 = p3) ∧ (neK D n (-40) 40 p3 = y0 ∧ neP D n (-40) 40 p3 = p4) ∧ 2 + N = (M : Int) ∧
  (∀ j, j < M → U0 (j * 2) = (cuT D n st (gaF gi) (x0, y0, p4) j).1 ∧ U0 (j * 2 + 1) = (cuT D n st (gaF gi) (x0, y0, p4) j).2.1) ∧ CuEnd D n M (cuT D n st (gaF gi) (x0, y0, p4) M).2.2 U0 m U
theorem setU_eq {U U' : Nat → Int} {L : Nat} (h : ∀ j, j < L → U j = U' j) (i : Nat) {x x' : Int} (hx : x = x') : ∀ j, j < L → setU U i x j = setU U' i x' j := fun j hj => by
  unfold setU
  rw [hx]
  split
  · rfl
  · exact h j hj
theorem CuEnd.one {D : Nat → Int} {n M pe : Nat} {U0 U0' : Nat → Int} {m m' : Nat} {U U' : Nat → Int} (hM : 2 ≤ M) (h0 : ∀ j, j < M * 2 → U0 j = U0' j) (h : CuEnd D n M pe U0 m U) (g : CuEnd D n M pe U0' m' U') : m = m' ∧ ∀ j, j < m * 2 → U j = U' j := by
  obtain ⟨kk, pk, ⟨rfl, rfl⟩, h⟩ := h
  obtain ⟨kk', pk', ⟨rfl, rfl⟩, g⟩ := g
  rcases h with ⟨q, rfl, m9, e, rfl⟩ | ⟨q, rfl, i9, j9, e, e1, e2, rfl⟩ | ⟨q, rfl, i9, j9, e, e1, e2, rfl⟩ | ⟨q, rfl, rfl⟩ | ⟨q, rfl, m9, p9, m8, ⟨e, e1⟩, e2, rfl⟩ | ⟨q0, q1, q2, q3, q4, rfl, rfl⟩
  · rcases g with ⟨_, rfl, m9', f, rfl⟩ | ⟨z, _⟩ | ⟨z, _⟩ | ⟨z, _⟩ | ⟨z, _⟩ | ⟨z0, z1, z2, z3, z4, _⟩ <;> first | omega | exact ⟨rfl, setU_eq h0 _ (by omega)⟩
  · rcases g with ⟨z, _⟩ | ⟨_, rfl, i9', j9', f, f1, f2, rfl⟩ | ⟨z, _⟩ | ⟨z, _⟩ | ⟨z, _⟩ | ⟨z0, z1, z2, z3, z4, _⟩
    · omega
    · obtain rfl : i9 = i9' := by omega
      obtain rfl : j9 = j9' := by omega
      exact ⟨rfl, setU_eq h0 _ (h0 _ (by omega))⟩
    all_goals omega
  · rcases g with ⟨z, _⟩ | ⟨z, _⟩ | ⟨_, rfl, i9', j9', f, f1, f2, rfl⟩ | ⟨z, _⟩ | ⟨z, _⟩ | ⟨z0, z1, z2, z3, z4, _⟩
    · omega
    · omega
    · obtain rfl : i9 = i9' := by omega
      obtain rfl : j9 = j9' := by omega
      exact ⟨rfl, setU_eq h0 _ (h0 _ (by omega))⟩
    all_goals omega
  · rcases g with ⟨z, _⟩ | ⟨z, _⟩ | ⟨z, _⟩ | ⟨_, rfl, rfl⟩ | ⟨z, _⟩ | ⟨z0, z1, z2, z3, z4, _⟩
    · omega
    · omega
    · omega
    · exact ⟨rfl, fun j hj => h0 j (by omega)⟩
    all_goals omega
  · rcases g with ⟨z, _⟩ | ⟨z, _⟩ | ⟨z, _⟩ | ⟨z, _⟩ | ⟨_, rfl, m9', p9', m8', ⟨f, f1⟩, f2, rfl⟩ | ⟨z0, z1, z2, z3, z4, _⟩
    · omega
    · omega
    · omega
    · omega
    · subst e1
      subst f1
      exact ⟨rfl, setU_eq (setU_eq h0 _ (by omega)) _ (by omega)⟩
    all_goals omega
  · rcases g with ⟨z, _⟩ | ⟨z, _⟩ | ⟨z, _⟩ | ⟨z, _⟩ | ⟨z, _⟩ | ⟨z0, z1, z2, z3, z4, rfl, rfl⟩
    · omega
    · omega
    · omega
    · omega
    · omega
    · exact ⟨rfl, h0⟩
theorem beK_pos (D : Nat → Int) (n : Nat) (m : Int) (p : Nat) : 0 ≤ beK D n m p := by
  unfold beK
  split
  · omega
  · split
    · exact Int.emod_nonneg _ (by omega)
    · exact Int.emod_nonneg _ (by omega)
theorem nxK_pos (D : Nat → Int) (hD : ∀ i, 0 ≤ D i) (n p : Nat) : 0 ≤ nxK D n p := by
  unfold nxK
  split
  · exact hD p
  · omega
theorem CuR.one {D : Nat → Int} {n : Nat} {st : Bool} {p m m' : Nat} {U U' : Nat → Int} (h : CuR D n st p m U) (g : CuR D n st p m' U') : m = m' ∧ ∀ j, j < m * 2 → U j = U' j := by
  obtain ⟨N, p1, gi, p2, x0, p3, y0, p4, M, U0, ⟨a1, a2⟩, ⟨a3, a4⟩, ⟨a5, a6⟩, ⟨a7, a8⟩, a9, hu, he⟩ := h
  obtain ⟨N', p1', gi', p2', x0', p3', y0', p4', M', U0', ⟨b1, b2⟩, ⟨b3, b4⟩, ⟨b5, b6⟩, ⟨b7, b8⟩, b9, gu, ge⟩ := g
  subst a2; subst b2; subst a4; subst b4; subst a6; subst b6; subst a8; subst b8
  subst a3; subst b3; subst a5; subst b5; subst a7; subst b7
  obtain rfl : M = M' := by omega
  have hN : 0 ≤ N := by rw [← a1]; exact beK_pos D n (mmF n) p
  refine CuEnd.one (by omega) (fun j hj => ?_) he ge
  have hq := hu (j / 2) (by omega)
  have gq := gu (j / 2) (by omega)
  by_cases z : j % 2 = 0
  · rw [show j = j / 2 * 2 by omega, hq.1, gq.1]
  · rw [show j = j / 2 * 2 + 1 by omega, hq.2, gq.2]
theorem putL_on {U : Nat → Int} {k : Nat} {C : Nat → Int × Int × Nat} {x y : Int} {p5 : Nat} (h : ∀ j, j < k → U (j * 2) = (C j).1 ∧ U (j * 2 + 1) = (C j).2.1) (hc : C k = (x, y, p5)) : ∀ j, j < k + 1 → putL U 2 k [x, y] (j * 2) = (C j).1 ∧ putL U 2 k [x, y] (j * 2 + 1) = (C j).2.1 := fun j hj => by
  unfold putL
  by_cases e : j = k
  · subst e
    rw [hc, if_pos (Nat.le_refl _), if_pos (by omega), Nat.sub_self, show j * 2 + 1 - j * 2 = 1 by omega]
    exact ⟨rfl, rfl⟩
  · rw [if_neg (by omega), if_neg (by omega)]
    exact h j (by omega)
def CurPost2 (D : Nat → Int) (st : Bool) (p : Nat) (r : Nat) (s : Option Addr) (n c : Nat) (w : World) (e : Ending) (w' : World) : Prop := ∃ (t : Option Addr) (m cap : Nat) (U : Nat → Int) (p' : Nat), e = .returned (.slice t m cap) ∧ 1 ≤ m ∧ m ≤ 14 ∧ OwnI w.heap.size w' t (m * 2) U ∧ CuR D n st p m U ∧ RdD w' r s n c p' D ∧ Beside r w w'
theorem ownB_beside {base r : Nat} {w w' : World} {s : Option Addr} {m : Nat} {V : Nat → Int} (h : OwnI base w s m V) (hb : Beside r w w') (hr : r < base) : OwnI base w' s m V := fun j hj => by
  obtain ⟨b, e, hB, hl, hc, hf⟩ := h j hj
  exact ⟨b, e, hB, Nat.lt_of_lt_of_le hl hb.2.2.2.1, (hb.cell (p := ⟨b, j, none⟩) hl (by simp only; omega)).trans hc, (hb.frozen (p := ⟨b, j, none⟩) hl (by simp only; omega)).trans hf⟩
theorem OwnI.putB {base g m : Nat} {w : World} {V : Nat → Int} (h : OwnI base w (some ⟨g, 0, none⟩) m V) (i : Nat) (x : Int) : OwnI base (w.setCell ⟨g, i, none⟩ (.int .i64 x)) (some ⟨g, 0, none⟩) m (setU V i x) := fun j hj => by
  obtain ⟨b, e, hB, hl, hc, hf⟩ := h j hj
  cases e
  refine ⟨g, rfl, hB, by simpa using hl, ?_, by simp [go_sem, hf]⟩
  unfold setU
  by_cases q : j = i
  · subst q; simp [go_sem, hc]
  · simp [go_sem, hc, q]
set_option maxRecDepth 20000 in
set_option maxHeartbeats 16000000 in
theorem curve_false {r : Nat} {s : Option Addr} {n c p : Nat} {D : Nat → Int} {w : World} (h : Hid (RdD w r s n c p D)) :
    Calls Try.prog 19 #[.pointer (some ⟨r, 0, none⟩), .bool false] w fun e w' => CurPost2 D false p r s n c w e w' := by
  have zr : r < w.heap.size := h.out.1
  have HR : Hid (RdD w r s n c p D) := h
  have HS : Hid (Beside r w w) := Beside.of (Below.refl _ _)
  clear h
  go_enter Try.func19, Try.ntmps19
  obtain ⟨-, -, rc0, -, -, rn, -⟩ := HR.out
  have n1 : (n : Int) ≤ 1048576 := by omega
  clear rn
  obtain ⟨mm, hm_, hm8⟩ : ∃ mm : Int, (if (12 : Int) < 1 + (n : Int) / 6 then 12 else 1 + (n : Int) / 6) = mm ∧ mm ≤ 12 := ⟨_, rfl, by split <;> omega⟩
  have HMM : Hid (mmF n = mm) := hm_
  go_wp2_with fail
  refine (below_d mm (HR.out.below (by repeat (first | with_reducible exact Below.refl _ _ | with_reducible refine Below.setCell ?_ (by first | omega | (simp; done) | (simp; omega)) _ | with_reducible refine bDrewN ?_ _ | with_reducible refine Below.drew ?_ | with_reducible refine Below.alloc ?_ (by first | omega | (simp; done) | (simp; omega)) _)))).mono ?_
  rintro e w1 ⟨N, pN, rfl, N0, N1, N2, q_, R_, b_⟩
  have sz_ : w.heap.size ≤ w.heap.size := HS.out.2.2.2.1
  have zr_ : r < w.heap.size := HR.out.1
  have bb : Beside r w w1 := (Beside.of (show Below w.heap.size w _ from (by repeat (first | with_reducible exact Below.refl _ _ | with_reducible refine Below.setCell ?_ (by first | omega | (simp; done) | (simp; omega)) _ | with_reducible refine bDrewN ?_ _ | with_reducible refine Below.drew ?_ | with_reducible refine Below.alloc ?_ (by first | omega | (simp; done) | (simp; omega)) _)))).trans b_
  replace HS : Hid (Beside r w w1) := HS.out.trans bb
  replace HR : Hid (RdD w1 r s n c pN D) := R_
  clear R_
  clear bb b_ sz_ zr_ 
  have Q1 : Hid (beK D n mm p = N ∧ beP n mm p = pN) := q_
  clear q_
  clear rc0 hm_
  have N12 : N ≤ 12 := by omega
  clear N1 N2
  have wN : IntKind.i64.wrap (2 + N) = 2 + N := by rw [IntKind.wrap_i64]; omega
  go_wp2_with fail
  refine (below_d 4 (HR.out.below (by repeat (first | with_reducible exact Below.refl _ _ | with_reducible refine Below.setCell ?_ (by first | omega | (simp; done) | (simp; omega)) _ | with_reducible refine bDrewN ?_ _ | with_reducible refine Below.drew ?_ | with_reducible refine Below.alloc ?_ (by first | omega | (simp; done) | (simp; omega)) _)))).mono ?_
  rintro e w2 ⟨jj, pj, rfl, ja, jb, jc, q_, R_, b_⟩
  have sz_ : w.heap.size ≤ w1.heap.size := HS.out.2.2.2.1
  have zr_ : r < w1.heap.size := HR.out.1
  have bb : Beside r w1 w2 := (Beside.of (show Below w1.heap.size w1 _ from (by repeat (first | with_reducible exact Below.refl _ _ | with_reducible refine Below.setCell ?_ (by first | omega | (simp; done) | (simp; omega)) _ | with_reducible refine bDrewN ?_ _ | with_reducible refine Below.drew ?_ | with_reducible refine Below.alloc ?_ (by first | omega | (simp; done) | (simp; omega)) _)))).trans b_
  obtain ⟨gt, hgt⟩ : ∃ g, g = w1.heap.size := ⟨_, rfl⟩
  have Ht : Hid (Blk w2 gt [.int .i64 1, .int .i64 3, .int .i64 40, .int .i64 5000]) := by
    show Blk _ _ _
    have q := ((Blk.new w1 #[.int .i64 1, .int .i64 3, .int .i64 40, .int .i64 5000] 2)).beside b_ (by first | omega | (simp; omega))
    rw [hgt]; exact q
  replace HS : Hid (Beside r w w2) := HS.out.trans bb
  replace HR : Hid (RdD w2 r s n c pj D) := R_
  clear R_
  have lgt : w.heap.size ≤ gt := by omega
  have rgt : r < gt := by omega
  try rw [← hgt]
  clear hgt
  clear bb b_ sz_ zr_ 
  have Q2 : Hid (beK D n 4 pN = jj ∧ beP n 4 pN = pj) := q_
  clear q_
  have jd : jj < 4 := by omega
  obtain ⟨ga, hga⟩ : ∃ z, gaF jj = z := ⟨_, rfl⟩
  have HGA : Hid (gaF jj = ga) := hga
  have gab : 1 ≤ ga ∧ ga ≤ 5000 := by rw [← hga]; unfold gaF; split <;> (try split) <;> (try split) <;> omega
  obtain ⟨jn, ejn⟩ : ∃ jn : Nat, jj = (jn : Int) := ⟨jj.toNat, by omega⟩
  have jv : w2.cell? ⟨gt, jn, none⟩ = some (.int .i64 ga) := Ht.out.2.2 jn _ (by
    rw [← hga, ejn]
    have : jn = 0 ∨ jn = 1 ∨ jn = 2 ∨ jn = 3 := by omega
    rcases this with rfl | rfl | rfl | rfl <;> rfl)
  have jl : (jn : Int) < 4 := by omega
  have HJN : Hid (jj = (jn : Int)) := ejn
  rw [ejn]
  clear ja jb jc jd hga ejn
  go_wp2_with fail
  refine (near_d (-40) 40 (by omega) (by omega) (by omega) (HR.out.below (by repeat (first | with_reducible exact Below.refl _ _ | with_reducible refine Below.setCell ?_ (by first | omega | (simp; done) | (simp; omega)) _ | with_reducible refine bDrewN ?_ _ | with_reducible refine Below.drew ?_ | with_reducible refine Below.alloc ?_ (by first | omega | (simp; done) | (simp; omega)) _)))).mono ?_
  rintro e w3 ⟨x, px, rfl, x0, x1, q_, R_, b_⟩
  have Ht_z : gt < w2.heap.size := Ht.out.1
  have sz_ : w.heap.size ≤ w2.heap.size := HS.out.2.2.2.1
  have zr_ : r < w2.heap.size := HR.out.1
  have bb : Beside r w2 w3 := (Beside.of (show Below w2.heap.size w2 _ from (by repeat (first | with_reducible exact Below.refl _ _ | with_reducible refine Below.setCell ?_ (by first | omega | (simp; done) | (simp; omega)) _ | with_reducible refine bDrewN ?_ _ | with_reducible refine Below.drew ?_ | with_reducible refine Below.alloc ?_ (by first | omega | (simp; done) | (simp; omega)) _)))).trans b_
  replace Ht : Hid (Blk w3 gt [.int .i64 1, .int .i64 3, .int .i64 40, .int .i64 5000]) := Ht.out.beside bb (by omega)
  replace HS : Hid (Beside r w w3) := HS.out.trans bb
  replace HR : Hid (RdD w3 r s n c px D) := R_
  clear R_
  clear bb b_ sz_ zr_ Ht_z
  have Q3 : Hid (neK D n (-40) 40 pj = x ∧ neP D n (-40) 40 pj = px) := q_
  clear q_
  clear jv jl
  clear Ht
  go_wp2_with fail
  refine (near_d (-40) 40 (by omega) (by omega) (by omega) (HR.out.below (by repeat (first | with_reducible exact Below.refl _ _ | with_reducible refine Below.setCell ?_ (by first | omega | (simp; done) | (simp; omega)) _ | with_reducible refine bDrewN ?_ _ | with_reducible refine Below.drew ?_ | with_reducible refine Below.alloc ?_ (by first | omega | (simp; done) | (simp; omega)) _)))).mono ?_
  rintro e w4 ⟨y, py, rfl, y0, y1, q_, R_, b_⟩
  have sz_ : w.heap.size ≤ w3.heap.size := HS.out.2.2.2.1
  have zr_ : r < w3.heap.size := HR.out.1
  have bb : Beside r w3 w4 := (Beside.of (show Below w3.heap.size w3 _ from (by repeat (first | with_reducible exact Below.refl _ _ | with_reducible refine Below.setCell ?_ (by first | omega | (simp; done) | (simp; omega)) _ | with_reducible refine bDrewN ?_ _ | with_reducible refine Below.drew ?_ | with_reducible refine Below.alloc ?_ (by first | omega | (simp; done) | (simp; omega)) _)))).trans b_
  replace HS : Hid (Beside r w w4) := HS.out.trans bb
  replace HR : Hid (RdD w4 r s n c py D) := R_
  clear R_
  clear bb b_ sz_ zr_ 
  have Q4 : Hid (neK D n (-40) 40 px = y ∧ neP D n (-40) 40 px = py) := q_
  clear q_
  go_upto_region 6 with fail
  have sz_ : w.heap.size ≤ w4.heap.size := HS.out.2.2.2.1
  have zr_ : r < w4.heap.size := HR.out.1
  obtain ⟨w5, hw_⟩ : ∃ x_, x_ = w4.alloc (.cells #[] 30) := ⟨_, rfl⟩
  rw [← hw_]
  have bl_ : Below w4.heap.size w4 w5 := by rw [hw_]; exact below0 _ _
  obtain ⟨bo, hbo⟩ : ∃ g, g = w4.heap.size := ⟨_, rfl⟩
  have Ho : Hid (Lst bo 30 2 w5 (.slice (some ⟨bo, 0, none⟩) 0 0) 0 (fun _ => 0)) := by show Lst _ _ _ _ _ _ _; rw [hw_, hbo]; exact Lst.lit w4 _ 30 30 2 _ (Nat.le_refl _)
  replace HR : Hid (RdD w5 r s n c py D) := HR.out.below bl_
  replace HS : Hid (Beside r w w5) := HS.out.onB (bl_.mono sz_)
  have lbo : w.heap.size ≤ bo := by omega
  have rbo : r < bo := by omega
  have zso : bo < w5.heap.size := by rw [hw_, hbo]; simp
  have Zo : Hid (bo ≤ w5.heap.size) := by show _ ≤ _; have := bl_.size; omega
  try rw [← hbo]
  clear hw_ hbo bl_ sz_ zr_ 
  obtain ⟨M, hM⟩ : ∃ M : Nat, 2 + N = (M : Int) := ⟨(2 + N).toNat, by omega⟩
  have HMN : Hid (2 + N = (M : Int)) := hM
  have M2 : 2 ≤ M := by omega
  have M14 : M ≤ 14 := by omega
  rw [hM]
  clear hM N0 N12 wN
  obtain ⟨C, hC⟩ : ∃ C, cuT D n false ga (x, y, py) = C := ⟨_, rfl⟩
  have HC0 : Hid (C 0 = (x, y, py)) := by rw [← hC]; exact rfl
  have HCS : Hid (∀ k, C (k + 1) = cuS D n false ga (C k)) := fun k => by rw [← hC]; rfl
  have HREL0 : Hid (∀ m U0 U1, (∀ j, j < M → U0 (j * 2) = (C j).1 ∧ U0 (j * 2 + 1) = (C j).2.1) → CuEnd D n M (C M).2.2 U0 m U1 → CuR D n false p m U1) := fun m U0 U1 h1 h2 => ⟨N, pN, jj, pj, x, px, y, py, M, U0, by rw [HMM.out]; exact Q1.out, Q2.out, Q3.out, Q4.out, HMN.out, by rw [HGA.out, hC]; exact h1, by rw [HGA.out, hC]; exact h2⟩
  clear hC Q1 Q2 Q3 Q4 HMM HGA HMN
  have HU0 : Hid (∀ j, j < 0 → (fun _ => (0 : Int)) (j * 2) = (C j).1 ∧ (fun _ => (0 : Int)) (j * 2 + 1) = (C j).2.1) := fun j hj => by omega
  go_wp2_with fail
  go_loopw [7, 8, 9, 10] (fun xv yv v i wr => ∃ (k : Nat) (U : Nat → Int) (p5 : Nat) (x y : Int), k ≤ M ∧ xv = .int .i64 x ∧ yv = .int .i64 y ∧ i = .int .i64 (k : Int) ∧ (-40 ≤ x ∧ x ≤ 40 + 5001 * k) ∧ (-40 - 10001 * k ≤ y ∧ y ≤ 40 + 10001 * k) ∧ Hid (C k = (x, y, p5)) ∧ Hid (∀ j, j < k → U (j * 2) = (C j).1 ∧ U (j * 2 + 1) = (C j).2.1) ∧ Hid (RdD wr r s n c p5 D) ∧ Hid (Beside r w wr) ∧ Hid (Lst bo 30 2 wr v k U) ∧ Hid (bo ≤ wr.heap.size)) (fun _ _ _ i _ => M - (intOf i).toNat)
  case atStart => exact ⟨0, fun _ => 0, py, x, y, by omega, rfl, rfl, rfl, by omega, by omega, HC0, HU0, HR, HS, Ho, Zo⟩
  case round =>
    clear x0 x1 y0 y1 HC0 HU0
    clear HR HS Ho Zo
    obtain ⟨k, U, p5, x, y, hk, rfl, rfl, rfl, xb, yb, HCK, HU, HR, HS, Ho, Zo⟩ := hrel
    by_cases hlt : k < M
    case pos =>
      have k1 : (k : Int) < (M : Int) := by omega
      have HU2 : Hid (∀ j, j < k + 1 → putL U 2 k [x, y] (j * 2) = (C j).1 ∧ putL U 2 k [x, y] (j * 2 + 1) = (C j).2.1) := putL_on HU.out HCK.out
      have HS1 := HCS.out k
      rw [HCK.out] at HS1
      have HSN : Hid (C (k + 1) = cuS D n false ga (x, y, p5)) := HS1
      clear HS1 HU HCK
      go_upto_region 10 with (at_builtin; refine list_Knot bo u9 k U (.tmp 39) (.tmp 43) (by rfl) (by rfl) (by rfl) (by rfl) Ho.out (by omega) Zo.out ?_; intro g9 cap9 w6 l9 b9)
      have No : Hid (Lst bo 30 2 w6 (.slice (some ⟨g9, 0, none⟩) (k + 1) cap9) (k + 1) (putL U 2 k [x, y])) := l9
      clear l9
      replace Zo : Hid (bo ≤ w6.heap.size) := Nat.le_trans Zo.out b9.size
      replace HR : Hid (RdD w6 r s n c p5 D) := RdD.below' HR.out (b9.mono (by omega))
      replace HS : Hid (Beside r w w6) := HS.out.onB (b9.mono (by omega))
      replace Ho := No
      clear b9 No
      go_wp2_with fail
      refine (upto_d ga (by omega) (HR.out.below (by repeat (first | with_reducible exact Below.refl _ _ | with_reducible refine Below.setCell ?_ (by first | omega | (simp; done) | (simp; omega)) _ | with_reducible refine bDrewN ?_ _ | with_reducible refine Below.drew ?_ | with_reducible refine Below.alloc ?_ (by first | omega | (simp; done) | (simp; omega)) _)))).mono ?_
      rintro e w7 ⟨u1, pu, rfl, u1a, u1b, q_, R_, b_⟩
      have sz_ : w.heap.size ≤ w6.heap.size := HS.out.2.2.2.1
      have zr_ : r < w6.heap.size := HR.out.1
      have bb : Beside r w6 w7 := (Beside.of (show Below w6.heap.size w6 _ from (by repeat (first | with_reducible exact Below.refl _ _ | with_reducible refine Below.setCell ?_ (by first | omega | (simp; done) | (simp; omega)) _ | with_reducible refine bDrewN ?_ _ | with_reducible refine Below.drew ?_ | with_reducible refine Below.alloc ?_ (by first | omega | (simp; done) | (simp; omega)) _)))).trans b_
      replace Ho : Hid (Lst bo 30 2 w7 (.slice (some ⟨g9, 0, none⟩) (k + 1) cap9) (k + 1) (putL U 2 k [x, y])) := Ho.out.beside bb (by omega)
      replace Zo : Hid (bo ≤ w7.heap.size) := Nat.le_trans Zo.out bb.2.2.2.1
      replace HS : Hid (Beside r w w7) := HS.out.trans bb
      replace HR : Hid (RdD w7 r s n c pu D) := R_
      clear R_
      clear bb b_ sz_ zr_ 
      have Q5 : Hid (upK D n ga p5 = u1 ∧ upP n ga p5 = pu) := q_
      clear q_
      obtain ⟨z2, hz2⟩ : ∃ z : Int, x + 1 + u1 = z := ⟨_, rfl⟩
      have z2b : -40 ≤ z2 ∧ z2 ≤ 40 + 5001 * (k + 1 : Nat) := by omega
      have HZ2 : Hid (x + 1 + u1 = z2) := hz2
      go_upto_region 11 with fail
      try rw [hz2]
      clear hz2 u1a u1b
      go_wp2_with fail
      refine (once_d 2 (by omega) (by omega) (HR.out.below (by repeat (first | with_reducible exact Below.refl _ _ | with_reducible refine Below.setCell ?_ (by first | omega | (simp; done) | (simp; omega)) _ | with_reducible refine bDrewN ?_ _ | with_reducible refine Below.drew ?_ | with_reducible refine Below.alloc ?_ (by first | omega | (simp; done) | (simp; omega)) _)))).mono ?_
      rintro e w8 ⟨fl, pf, rfl, q_, R_, b_⟩
      have sz_ : w.heap.size ≤ w7.heap.size := HS.out.2.2.2.1
      have zr_ : r < w7.heap.size := HR.out.1
      have bb : Beside r w7 w8 := (Beside.of (show Below w7.heap.size w7 _ from (by repeat (first | with_reducible exact Below.refl _ _ | with_reducible refine Below.setCell ?_ (by first | omega | (simp; done) | (simp; omega)) _ | with_reducible refine bDrewN ?_ _ | with_reducible refine Below.drew ?_ | with_reducible refine Below.alloc ?_ (by first | omega | (simp; done) | (simp; omega)) _)))).trans b_
      replace Ho : Hid (Lst bo 30 2 w8 (.slice (some ⟨g9, 0, none⟩) (k + 1) cap9) (k + 1) (putL U 2 k [x, y])) := Ho.out.beside bb (by omega)
      replace Zo : Hid (bo ≤ w8.heap.size) := Nat.le_trans Zo.out bb.2.2.2.1
      replace HS : Hid (Beside r w w8) := HS.out.trans bb
      replace HR : Hid (RdD w8 r s n c pf D) := R_
      clear R_
      clear bb b_ sz_ zr_ 
      have Q6 : Hid (onB D n 2 pu = fl ∧ beP n 2 pu = pf) := q_
      clear q_
      cases fl
      · skip
        have wg : IntKind.i64.wrap (2 * ga) = 2 * ga := by rw [IntKind.wrap_i64]; omega
        go_wp2_with fail
        refine (upto_d (2 * ga) (by omega) (HR.out.below (by repeat (first | with_reducible exact Below.refl _ _ | with_reducible refine Below.setCell ?_ (by first | omega | (simp; done) | (simp; omega)) _ | with_reducible refine bDrewN ?_ _ | with_reducible refine Below.drew ?_ | with_reducible refine Below.alloc ?_ (by first | omega | (simp; done) | (simp; omega)) _)))).mono ?_
        rintro e w9 ⟨u2, pv, rfl, u2a, u2b, q_, R_, b_⟩
        have sz_ : w.heap.size ≤ w8.heap.size := HS.out.2.2.2.1
        have zr_ : r < w8.heap.size := HR.out.1
        have bb : Beside r w8 w9 := (Beside.of (show Below w8.heap.size w8 _ from (by repeat (first | with_reducible exact Below.refl _ _ | with_reducible refine Below.setCell ?_ (by first | omega | (simp; done) | (simp; omega)) _ | with_reducible refine bDrewN ?_ _ | with_reducible refine Below.drew ?_ | with_reducible refine Below.alloc ?_ (by first | omega | (simp; done) | (simp; omega)) _)))).trans b_
        replace Ho : Hid (Lst bo 30 2 w9 (.slice (some ⟨g9, 0, none⟩) (k + 1) cap9) (k + 1) (putL U 2 k [x, y])) := Ho.out.beside bb (by omega)
        replace Zo : Hid (bo ≤ w9.heap.size) := Nat.le_trans Zo.out bb.2.2.2.1
        replace HS : Hid (Beside r w w9) := HS.out.trans bb
        replace HR : Hid (RdD w9 r s n c pv D) := R_
        clear R_
        clear bb b_ sz_ zr_ 
        have Q7 : Hid (upK D n (2 * ga) pf = u2 ∧ upP n (2 * ga) pf = pv) := q_
        clear q_
        obtain ⟨z4, hz4⟩ : ∃ z : Int, y - u2 = z := ⟨_, rfl⟩
        have z4b : -40 - 10001 * (k + 1 : Nat) ≤ z4 ∧ z4 ≤ 40 + 10001 * (k + 1 : Nat) := by omega
        have HCN : Hid (C (k + 1) = (z2, z4, pv)) := HSN.out.trans (cuS_off Q5.out Q6.out Q7.out HZ2.out hz4)
        have HZ4 : Hid (y - u2 = z4) := hz4
        go_upto_region 8 with fail
        try rw [hz4]
        clear hz4
        go_wp2
        go_roundw
        case rel => exact ⟨k + 1, _, pv, z2, z4, by omega, rfl, rfl, by go_num, z2b, z4b, HCN, HU2, HR, HS, Ho, Zo⟩
        case measure => simp [intOf]; omega
      · skip
        have wg : IntKind.i64.wrap (2 * ga) = 2 * ga := by rw [IntKind.wrap_i64]; omega
        go_wp2_with fail
        refine (upto_d (2 * ga) (by omega) (HR.out.below (by repeat (first | with_reducible exact Below.refl _ _ | with_reducible refine Below.setCell ?_ (by first | omega | (simp; done) | (simp; omega)) _ | with_reducible refine bDrewN ?_ _ | with_reducible refine Below.drew ?_ | with_reducible refine Below.alloc ?_ (by first | omega | (simp; done) | (simp; omega)) _)))).mono ?_
        rintro e w9 ⟨u2, pv, rfl, u2a, u2b, q_, R_, b_⟩
        have sz_ : w.heap.size ≤ w8.heap.size := HS.out.2.2.2.1
        have zr_ : r < w8.heap.size := HR.out.1
        have bb : Beside r w8 w9 := (Beside.of (show Below w8.heap.size w8 _ from (by repeat (first | with_reducible exact Below.refl _ _ | with_reducible refine Below.setCell ?_ (by first | omega | (simp; done) | (simp; omega)) _ | with_reducible refine bDrewN ?_ _ | with_reducible refine Below.drew ?_ | with_reducible refine Below.alloc ?_ (by first | omega | (simp; done) | (simp; omega)) _)))).trans b_
        replace Ho : Hid (Lst bo 30 2 w9 (.slice (some ⟨g9, 0, none⟩) (k + 1) cap9) (k + 1) (putL U 2 k [x, y])) := Ho.out.beside bb (by omega)
        replace Zo : Hid (bo ≤ w9.heap.size) := Nat.le_trans Zo.out bb.2.2.2.1
        replace HS : Hid (Beside r w w9) := HS.out.trans bb
        replace HR : Hid (RdD w9 r s n c pv D) := R_
        clear R_
        clear bb b_ sz_ zr_ 
        have Q7 : Hid (upK D n (2 * ga) pf = u2 ∧ upP n (2 * ga) pf = pv) := q_
        clear q_
        obtain ⟨z4, hz4⟩ : ∃ z : Int, y + 1 + u2 = z := ⟨_, rfl⟩
        have z4b : -40 - 10001 * (k + 1 : Nat) ≤ z4 ∧ z4 ≤ 40 + 10001 * (k + 1 : Nat) := by omega
        have HCN : Hid (C (k + 1) = (z2, z4, pv)) := HSN.out.trans (cuS_on Q5.out Q6.out Q7.out HZ2.out hz4)
        have HZ4 : Hid (y + 1 + u2 = z4) := hz4
        go_upto_region 8 with fail
        try rw [hz4]
        clear hz4
        go_wp2
        go_roundw
        case rel => exact ⟨k + 1, _, pv, z2, z4, by omega, rfl, rfl, by go_num, z2b, z4b, HCN, HU2, HR, HS, Ho, Zo⟩
        case measure => simp [intOf]; omega
    case neg =>
      obtain rfl : k = M := by omega
      clear hlt hk xb yb
      rename World => wl
      have HREL : Hid (∀ m U1, CuEnd D n k p5 U m U1 → CuR D n false p m U1) := fun m U1 h => HREL0.out m U U1 HU.out (by rw [HCK.out]; exact h)
      clear HREL0 HU HCK HCS
      obtain ⟨t1, cap, eu, OW⟩ := Ho.out.own
      cases eu
      obtain ⟨g, rfl, gb, -, -, -⟩ := OW 0 (by omega)
      have hcap := Ho.out.cap
      have HO : Hid (OwnI bo wl (some ⟨g, 0, none⟩) (k * 2) U) := OW
      clear OW Ho Zo
      go_wp2_with fail
      refine (below_d 20 (HR.out.below (by repeat (first | with_reducible exact Below.refl _ _ | with_reducible refine Below.setCell ?_ (by first | omega | (simp; done) | (simp; omega)) _ | with_reducible refine bDrewN ?_ _ | with_reducible refine Below.drew ?_ | with_reducible refine Below.alloc ?_ (by first | omega | (simp; done) | (simp; omega)) _)))).mono ?_
      rintro e w6 ⟨kk, pk, rfl, kk0, kk1, kk2, q_, R_, b_⟩
      have sz_ : w.heap.size ≤ wl.heap.size := HS.out.2.2.2.1
      have zr_ : r < wl.heap.size := HR.out.1
      have bb : Beside r wl w6 := (Beside.of (show Below wl.heap.size wl _ from (by repeat (first | with_reducible exact Below.refl _ _ | with_reducible refine Below.setCell ?_ (by first | omega | (simp; done) | (simp; omega)) _ | with_reducible refine bDrewN ?_ _ | with_reducible refine Below.drew ?_ | with_reducible refine Below.alloc ?_ (by first | omega | (simp; done) | (simp; omega)) _)))).trans b_
      replace HS : Hid (Beside r w w6) := HS.out.trans bb
      replace HR : Hid (RdD w6 r s n c pk D) := R_
      clear R_
      replace HO : Hid (OwnI bo w6 (some ⟨g, 0, none⟩) (k * 2) U) := ownB_beside HO.out bb (by omega)
      clear bb b_ sz_ zr_ 
      have QK : Hid (beK D n 20 p5 = kk ∧ beP n 20 p5 = pk) := q_
      clear q_
      clear kk1 kk2
      by_cases e0 : kk = 0
      case pos =>
        subst e0
        go_wp2_with fail
        refine (below_d 2 (HR.out.below (by repeat (first | with_reducible exact Below.refl _ _ | with_reducible refine Below.setCell ?_ (by first | omega | (simp; done) | (simp; omega)) _ | with_reducible refine bDrewN ?_ _ | with_reducible refine Below.drew ?_ | with_reducible refine Below.alloc ?_ (by first | omega | (simp; done) | (simp; omega)) _)))).mono ?_
        rintro e w7 ⟨m9, pm, rfl, m90, m91, m92, q_, R_, b_⟩
        have sz_ : w.heap.size ≤ w6.heap.size := HS.out.2.2.2.1
        have zr_ : r < w6.heap.size := HR.out.1
        have bb : Beside r w6 w7 := (Beside.of (show Below w6.heap.size w6 _ from (by repeat (first | with_reducible exact Below.refl _ _ | with_reducible refine Below.setCell ?_ (by first | omega | (simp; done) | (simp; omega)) _ | with_reducible refine bDrewN ?_ _ | with_reducible refine Below.drew ?_ | with_reducible refine Below.alloc ?_ (by first | omega | (simp; done) | (simp; omega)) _)))).trans b_
        replace HS : Hid (Beside r w w7) := HS.out.trans bb
        replace HR : Hid (RdD w7 r s n c pm D) := R_
        clear R_
        replace HO : Hid (OwnI bo w7 (some ⟨g, 0, none⟩) (k * 2) U) := ownB_beside HO.out bb (by omega)
        clear bb b_ sz_ zr_ 
        have QM : Hid (beK D n 2 pk = m9 ∧ beP n 2 pk = pm) := q_
        clear q_
        have m93 : m9 ≤ 1 := by omega
        clear m91 m92
        have HE : Hid (CuR D n false p k (setU U ((k - 1) * 2) (1000000 + m9))) := HREL.out _ _ ⟨0, pk, QK.out, .inl ⟨rfl, rfl, m9, QM.out.1, rfl⟩⟩
        obtain ⟨k2, rfl⟩ : ∃ k2, k = k2 + 1 := ⟨k - 1, by omega⟩
        rw [show k2 + 1 - 1 = k2 by omega] at HE
        obtain ⟨gg_, eg_, -, zz_a, cea, cfa⟩ := HO.out (k2 * 2) (by omega)
        cases eg_
        have wk : IntKind.i64.wrap (((k2 + 1 : Nat) : Int) - 1) = (k2 : Int) := by rw [IntKind.wrap_i64]; omega
        have wk2 : ((k2 + 1 : Nat) : Int) - 1 = (k2 : Int) := by omega
        have wm : IntKind.i64.wrap (1000000 + m9) = 1000000 + m9 := by rw [IntKind.wrap_i64]; omega
        have BS := HS.out
        have sBS := BS.2.2.2.1
        have OF := HO.out.putB (k2 * 2) (1000000 + m9)
        clear HREL QK QM
        go_wp2
        go_ret
        unfold CurPost2
        exact ⟨_, k2 + 1, cap, _, pm, rfl, by omega, by omega, OF.mono lbo, HE.out, RdD.below' HR.out (show Below (r + 1) w7 _ from (by repeat (first | with_reducible exact Below.refl _ _ | with_reducible refine Below.setCell ?_ (by first | omega | (simp; done) | (simp; omega)) _ | with_reducible refine bDrewN ?_ _ | with_reducible refine Below.drew ?_ | with_reducible refine Below.alloc ?_ (by first | omega | (simp; done) | (simp; omega)) _))), BS.onB (show Below w.heap.size w7 _ from (by repeat (first | with_reducible exact Below.refl _ _ | with_reducible refine Below.setCell ?_ (by first | omega | (simp; done) | (simp; omega)) _ | with_reducible refine bDrewN ?_ _ | with_reducible refine Below.drew ?_ | with_reducible refine Below.alloc ?_ (by first | omega | (simp; done) | (simp; omega)) _)))⟩
      have ne0 : (kk == 0) = false := by simpa using e0
      by_cases e1 : kk = 1
      case pos =>
        subst e1
        go_wp2_with fail
        refine (below_d (k : Int) (HR.out.below (by repeat (first | with_reducible exact Below.refl _ _ | with_reducible refine Below.setCell ?_ (by first | omega | (simp; done) | (simp; omega)) _ | with_reducible refine bDrewN ?_ _ | with_reducible refine Below.drew ?_ | with_reducible refine Below.alloc ?_ (by first | omega | (simp; done) | (simp; omega)) _)))).mono ?_
        rintro e w7 ⟨m9, pm, rfl, m90, m91, m92, q_, R_, b_⟩
        have sz_ : w.heap.size ≤ w6.heap.size := HS.out.2.2.2.1
        have zr_ : r < w6.heap.size := HR.out.1
        have bb : Beside r w6 w7 := (Beside.of (show Below w6.heap.size w6 _ from (by repeat (first | with_reducible exact Below.refl _ _ | with_reducible refine Below.setCell ?_ (by first | omega | (simp; done) | (simp; omega)) _ | with_reducible refine bDrewN ?_ _ | with_reducible refine Below.drew ?_ | with_reducible refine Below.alloc ?_ (by first | omega | (simp; done) | (simp; omega)) _)))).trans b_
        replace HS : Hid (Beside r w w7) := HS.out.trans bb
        replace HR : Hid (RdD w7 r s n c pm D) := R_
        clear R_
        replace HO : Hid (OwnI bo w7 (some ⟨g, 0, none⟩) (k * 2) U) := ownB_beside HO.out bb (by omega)
        clear bb b_ sz_ zr_ 
        have QM : Hid (beK D n (k : Int) pk = m9 ∧ beP n (k : Int) pk = pm) := q_
        clear q_
        have m93 : m9 < (k : Int) := by omega
        clear m91 m92
        obtain ⟨i9, hi9⟩ : ∃ i9 : Nat, m9 = (i9 : Int) := ⟨m9.toNat, by omega⟩
        subst hi9
        obtain ⟨j9, hj9, hj9b⟩ : ∃ j9 : Nat, ((i9 : Int) + 1) % (k : Int) = (j9 : Int) ∧ (j9 : Int) < (k : Int) := ⟨(((i9 : Int) + 1) % (k : Int)).toNat, by have := Int.emod_nonneg ((i9 : Int) + 1) (show (k : Int) ≠ 0 by omega); omega, by have := Int.emod_lt_of_pos ((i9 : Int) + 1) (show 0 < (k : Int) by omega); have := Int.emod_nonneg ((i9 : Int) + 1) (show (k : Int) ≠ 0 by omega); omega⟩
        have kz : ¬ ((k : Int) = 0) := by omega
        have HE : Hid (CuR D n false p k (setU U (i9 * 2 + 1) (U (j9 * 2 + 1)))) := HREL.out _ _ ⟨1, pk, QK.out, .inr (.inl ⟨rfl, rfl, i9, j9, QM.out.1, hj9, hj9b, rfl⟩)⟩
        obtain ⟨gg_, eg_, -, zz_a, cea, cfa⟩ := HO.out (i9 * 2 + 1) (by omega)
        cases eg_
        obtain ⟨gg_, eg_, -, zz_b, ceb, cfb⟩ := HO.out (j9 * 2 + 1) (by omega)
        cases eg_
        have BS := HS.out
        have sBS := BS.2.2.2.1
        have OF := HO.out.putB (i9 * 2 + 1) (U (j9 * 2 + 1))
        clear HREL QK QM
        go_wp2
        go_ret
        unfold CurPost2
        exact ⟨_, k, cap, _, pm, rfl, by omega, by omega, OF.mono lbo, HE.out, RdD.below' HR.out (show Below (r + 1) w7 _ from (by repeat (first | with_reducible exact Below.refl _ _ | with_reducible refine Below.setCell ?_ (by first | omega | (simp; done) | (simp; omega)) _ | with_reducible refine bDrewN ?_ _ | with_reducible refine Below.drew ?_ | with_reducible refine Below.alloc ?_ (by first | omega | (simp; done) | (simp; omega)) _))), BS.onB (show Below w.heap.size w7 _ from (by repeat (first | with_reducible exact Below.refl _ _ | with_reducible refine Below.setCell ?_ (by first | omega | (simp; done) | (simp; omega)) _ | with_reducible refine bDrewN ?_ _ | with_reducible refine Below.drew ?_ | with_reducible refine Below.alloc ?_ (by first | omega | (simp; done) | (simp; omega)) _)))⟩
      have ne1 : (kk == 1) = false := by simpa using e1
      by_cases e2 : kk = 2
      case pos =>
        subst e2
        go_wp2_with fail
        refine (below_d (k : Int) (HR.out.below (by repeat (first | with_reducible exact Below.refl _ _ | with_reducible refine Below.setCell ?_ (by first | omega | (simp; done) | (simp; omega)) _ | with_reducible refine bDrewN ?_ _ | with_reducible refine Below.drew ?_ | with_reducible refine Below.alloc ?_ (by first | omega | (simp; done) | (simp; omega)) _)))).mono ?_
        rintro e w7 ⟨m9, pm, rfl, m90, m91, m92, q_, R_, b_⟩
        have sz_ : w.heap.size ≤ w6.heap.size := HS.out.2.2.2.1
        have zr_ : r < w6.heap.size := HR.out.1
        have bb : Beside r w6 w7 := (Beside.of (show Below w6.heap.size w6 _ from (by repeat (first | with_reducible exact Below.refl _ _ | with_reducible refine Below.setCell ?_ (by first | omega | (simp; done) | (simp; omega)) _ | with_reducible refine bDrewN ?_ _ | with_reducible refine Below.drew ?_ | with_reducible refine Below.alloc ?_ (by first | omega | (simp; done) | (simp; omega)) _)))).trans b_
        replace HS : Hid (Beside r w w7) := HS.out.trans bb
        replace HR : Hid (RdD w7 r s n c pm D) := R_
        clear R_
        replace HO : Hid (OwnI bo w7 (some ⟨g, 0, none⟩) (k * 2) U) := ownB_beside HO.out bb (by omega)
        clear bb b_ sz_ zr_ 
        have QM : Hid (beK D n (k : Int) pk = m9 ∧ beP n (k : Int) pk = pm) := q_
        clear q_
        have m93 : m9 < (k : Int) := by omega
        clear m91 m92
        obtain ⟨i9, hi9⟩ : ∃ i9 : Nat, m9 = (i9 : Int) := ⟨m9.toNat, by omega⟩
        subst hi9
        obtain ⟨j9, hj9, hj9b⟩ : ∃ j9 : Nat, ((i9 : Int) + 1) % (k : Int) = (j9 : Int) ∧ (j9 : Int) < (k : Int) := ⟨(((i9 : Int) + 1) % (k : Int)).toNat, by have := Int.emod_nonneg ((i9 : Int) + 1) (show (k : Int) ≠ 0 by omega); omega, by have := Int.emod_lt_of_pos ((i9 : Int) + 1) (show 0 < (k : Int) by omega); have := Int.emod_nonneg ((i9 : Int) + 1) (show (k : Int) ≠ 0 by omega); omega⟩
        have kz : ¬ ((k : Int) = 0) := by omega
        have HE : Hid (CuR D n false p k (setU U (i9 * 2) (U (j9 * 2)))) := HREL.out _ _ ⟨2, pk, QK.out, .inr (.inr (.inl ⟨rfl, rfl, i9, j9, QM.out.1, hj9, hj9b, rfl⟩))⟩
        obtain ⟨gg_, eg_, -, zz_a, cea, cfa⟩ := HO.out (i9 * 2) (by omega)
        cases eg_
        obtain ⟨gg_, eg_, -, zz_b, ceb, cfb⟩ := HO.out (j9 * 2) (by omega)
        cases eg_
        have BS := HS.out
        have sBS := BS.2.2.2.1
        have OF := HO.out.putB (i9 * 2) (U (j9 * 2))
        clear HREL QK QM
        go_wp2
        go_ret
        unfold CurPost2
        exact ⟨_, k, cap, _, pm, rfl, by omega, by omega, OF.mono lbo, HE.out, RdD.below' HR.out (show Below (r + 1) w7 _ from (by repeat (first | with_reducible exact Below.refl _ _ | with_reducible refine Below.setCell ?_ (by first | omega | (simp; done) | (simp; omega)) _ | with_reducible refine bDrewN ?_ _ | with_reducible refine Below.drew ?_ | with_reducible refine Below.alloc ?_ (by first | omega | (simp; done) | (simp; omega)) _))), BS.onB (show Below w.heap.size w7 _ from (by repeat (first | with_reducible exact Below.refl _ _ | with_reducible refine Below.setCell ?_ (by first | omega | (simp; done) | (simp; omega)) _ | with_reducible refine bDrewN ?_ _ | with_reducible refine Below.drew ?_ | with_reducible refine Below.alloc ?_ (by first | omega | (simp; done) | (simp; omega)) _)))⟩
      have ne2 : (kk == 2) = false := by simpa using e2
      by_cases e3 : kk = 3
      case pos =>
        subst e3
        have BS := HS.out
        have sBS := BS.2.2.2.1
        have c1c : (1 : Int) ≤ (cap : Int) := by omega
        have HE : Hid (CuR D n false p 1 U) := HREL.out _ _ ⟨3, pk, QK.out, .inr (.inr (.inr (.inl ⟨rfl, rfl, rfl⟩)))⟩
        have OF : OwnI bo w6 (some ⟨g, 0, none⟩) (1 * 2) U := fun j hj => HO.out j (by omega)
        clear HREL QK
        go_wp2
        go_ret
        unfold CurPost2
        exact ⟨_, 1, cap, _, pk, rfl, by omega, by omega, OF.mono lbo, HE.out, HR.out, BS⟩
      have ne3 : (kk == 3) = false := by simpa using e3
      by_cases e4 : kk = 4
      case pos =>
        subst e4
        go_wp2_with fail
        refine (below_d 2 (HR.out.below (by repeat (first | with_reducible exact Below.refl _ _ | with_reducible refine Below.setCell ?_ (by first | omega | (simp; done) | (simp; omega)) _ | with_reducible refine bDrewN ?_ _ | with_reducible refine Below.drew ?_ | with_reducible refine Below.alloc ?_ (by first | omega | (simp; done) | (simp; omega)) _)))).mono ?_
        rintro e w7 ⟨m9, pm, rfl, m90, m91, m92, q_, R_, b_⟩
        have sz_ : w.heap.size ≤ w6.heap.size := HS.out.2.2.2.1
        have zr_ : r < w6.heap.size := HR.out.1
        have bb : Beside r w6 w7 := (Beside.of (show Below w6.heap.size w6 _ from (by repeat (first | with_reducible exact Below.refl _ _ | with_reducible refine Below.setCell ?_ (by first | omega | (simp; done) | (simp; omega)) _ | with_reducible refine bDrewN ?_ _ | with_reducible refine Below.drew ?_ | with_reducible refine Below.alloc ?_ (by first | omega | (simp; done) | (simp; omega)) _)))).trans b_
        replace HS : Hid (Beside r w w7) := HS.out.trans bb
        replace HR : Hid (RdD w7 r s n c pm D) := R_
        clear R_
        replace HO : Hid (OwnI bo w7 (some ⟨g, 0, none⟩) (k * 2) U) := ownB_beside HO.out bb (by omega)
        clear bb b_ sz_ zr_ 
        have QM : Hid (beK D n 2 pk = m9 ∧ beP n 2 pk = pm) := q_
        clear q_
        have m93 : m9 ≤ 1 := by omega
        clear m91 m92
        obtain ⟨gg_, eg_, -, zz_a, cea, cfa⟩ := HO.out (0) (by omega)
        cases eg_
        have wm : IntKind.i64.wrap (-1000000 - m9) = -1000000 - m9 := by rw [IntKind.wrap_i64]; omega
        have zk : (0 : Int) < (k : Int) := by omega
        go_upto_region 27 with fail
        obtain ⟨w8, hw_⟩ : ∃ x_, x_ = w7.setCell ⟨g, 0, none⟩ (.int .i64 (-1000000 - m9)) := ⟨_, rfl⟩
        rw [← hw_]
        have sz_ : w.heap.size ≤ w7.heap.size := HS.out.2.2.2.1
        replace HR : Hid (RdD w8 r s n c pm D) := by show RdD _ _ _ _ _ _ _; rw [hw_]; exact RdD.below' HR.out (show Below (r + 1) w7 _ from (by repeat (first | with_reducible exact Below.refl _ _ | with_reducible refine Below.setCell ?_ (by first | omega | (simp; done) | (simp; omega)) _ | with_reducible refine bDrewN ?_ _ | with_reducible refine Below.drew ?_ | with_reducible refine Below.alloc ?_ (by first | omega | (simp; done) | (simp; omega)) _)))
        replace HS : Hid (Beside r w w8) := by show Beside _ _ _; rw [hw_]; exact HS.out.onB (show Below w.heap.size w7 _ from (by repeat (first | with_reducible exact Below.refl _ _ | with_reducible refine Below.setCell ?_ (by first | omega | (simp; done) | (simp; omega)) _ | with_reducible refine bDrewN ?_ _ | with_reducible refine Below.drew ?_ | with_reducible refine Below.alloc ?_ (by first | omega | (simp; done) | (simp; omega)) _)))
        obtain ⟨U2, hU2⟩ : ∃ U2, U2 = setU U 0 (-1000000 - m9) := ⟨_, rfl⟩
        replace HO : Hid (OwnI bo w8 (some ⟨g, 0, none⟩) (k * 2) U2) := by show OwnI _ _ _ _ _; rw [hw_, hU2]; exact HO.out.putB 0 _
        have HU2 : Hid (U2 = setU U 0 (-1000000 - m9)) := hU2
        clear hw_ sz_ cea cfa zz_a m90 m93 wm hU2
        go_wp2_with fail
        refine (below_d 2 (HR.out.below (by repeat (first | with_reducible exact Below.refl _ _ | with_reducible refine Below.setCell ?_ (by first | omega | (simp; done) | (simp; omega)) _ | with_reducible refine bDrewN ?_ _ | with_reducible refine Below.drew ?_ | with_reducible refine Below.alloc ?_ (by first | omega | (simp; done) | (simp; omega)) _)))).mono ?_
        rintro e w9 ⟨m8, pm2, rfl, m80, m81, m82, q_, R_, b_⟩
        have sz_ : w.heap.size ≤ w8.heap.size := HS.out.2.2.2.1
        have zr_ : r < w8.heap.size := HR.out.1
        have bb : Beside r w8 w9 := (Beside.of (show Below w8.heap.size w8 _ from (by repeat (first | with_reducible exact Below.refl _ _ | with_reducible refine Below.setCell ?_ (by first | omega | (simp; done) | (simp; omega)) _ | with_reducible refine bDrewN ?_ _ | with_reducible refine Below.drew ?_ | with_reducible refine Below.alloc ?_ (by first | omega | (simp; done) | (simp; omega)) _)))).trans b_
        replace HS : Hid (Beside r w w9) := HS.out.trans bb
        replace HR : Hid (RdD w9 r s n c pm2 D) := R_
        clear R_
        replace HO : Hid (OwnI bo w9 (some ⟨g, 0, none⟩) (k * 2) U2) := ownB_beside HO.out bb (by omega)
        clear bb b_ sz_ zr_ 
        have QN : Hid (beK D n 2 pm = m8 ∧ beP n 2 pm = pm2) := q_
        clear q_
        have m83 : m8 ≤ 1 := by omega
        clear m81 m82
        have HE : Hid (CuR D n false p k (setU U2 1 (-1000000 + m8))) := HREL.out _ _ ⟨4, pk, QK.out, .inr (.inr (.inr (.inr (.inl ⟨rfl, rfl, m9, pm, m8, QM.out, QN.out.1, by rw [HU2.out]⟩))))⟩
        obtain ⟨gg_, eg_, -, zz_a, cea, cfa⟩ := HO.out 1 (by omega)
        cases eg_
        have wm : IntKind.i64.wrap (-1000000 + m8) = -1000000 + m8 := by rw [IntKind.wrap_i64]; omega
        have BS := HS.out
        have sBS := BS.2.2.2.1
        have OF := HO.out.putB 1 (-1000000 + m8)
        clear HREL QK QM QN HU2
        go_wp2
        go_ret
        unfold CurPost2
        exact ⟨_, k, cap, _, pm2, rfl, by omega, by omega, OF.mono lbo, HE.out, RdD.below' HR.out (show Below (r + 1) w9 _ from (by repeat (first | with_reducible exact Below.refl _ _ | with_reducible refine Below.setCell ?_ (by first | omega | (simp; done) | (simp; omega)) _ | with_reducible refine bDrewN ?_ _ | with_reducible refine Below.drew ?_ | with_reducible refine Below.alloc ?_ (by first | omega | (simp; done) | (simp; omega)) _))), BS.onB (show Below w.heap.size w9 _ from (by repeat (first | with_reducible exact Below.refl _ _ | with_reducible refine Below.setCell ?_ (by first | omega | (simp; done) | (simp; omega)) _ | with_reducible refine bDrewN ?_ _ | with_reducible refine Below.drew ?_ | with_reducible refine Below.alloc ?_ (by first | omega | (simp; done) | (simp; omega)) _)))⟩
      have ne4 : (kk == 4) = false := by simpa using e4
      have HE : Hid (CuR D n false p k U) := HREL.out _ _ ⟨kk, pk, QK.out, .inr (.inr (.inr (.inr (.inr ⟨e0, e1, e2, e3, e4, rfl, rfl⟩))))⟩
      have BS := HS.out
      have sBS := BS.2.2.2.1
      have OF := HO.out
      clear HREL QK e0 e1 e2 e3 e4
      go_wp2
      go_ret
      unfold CurPost2
      exact ⟨_, k, cap, _, pk, rfl, by omega, by omega, OF.mono lbo, HE.out, HR.out, BS⟩
set_option maxRecDepth 20000 in
set_option maxHeartbeats 16000000 in
theorem curve_true {r : Nat} {s : Option Addr} {n c p : Nat} {D : Nat → Int} {w : World} (h : Hid (RdD w r s n c p D)) :
    Calls Try.prog 19 #[.pointer (some ⟨r, 0, none⟩), .bool true] w fun e w' => CurPost2 D true p r s n c w e w' := by
  have zr : r < w.heap.size := h.out.1
  have HR : Hid (RdD w r s n c p D) := h
  have HS : Hid (Beside r w w) := Beside.of (Below.refl _ _)
  clear h
  go_enter Try.func19, Try.ntmps19
  obtain ⟨-, -, rc0, -, -, rn, -⟩ := HR.out
  have n1 : (n : Int) ≤ 1048576 := by omega
  clear rn
  obtain ⟨mm, hm_, hm8⟩ : ∃ mm : Int, (if (12 : Int) < 1 + (n : Int) / 6 then 12 else 1 + (n : Int) / 6) = mm ∧ mm ≤ 12 := ⟨_, rfl, by split <;> omega⟩
  have HMM : Hid (mmF n = mm) := hm_
  go_wp2_with fail
  refine (below_d mm (HR.out.below (by repeat (first | with_reducible exact Below.refl _ _ | with_reducible refine Below.setCell ?_ (by first | omega | (simp; done) | (simp; omega)) _ | with_reducible refine bDrewN ?_ _ | with_reducible refine Below.drew ?_ | with_reducible refine Below.alloc ?_ (by first | omega | (simp; done) | (simp; omega)) _)))).mono ?_
  rintro e w1 ⟨N, pN, rfl, N0, N1, N2, q_, R_, b_⟩
  have sz_ : w.heap.size ≤ w.heap.size := HS.out.2.2.2.1
  have zr_ : r < w.heap.size := HR.out.1
  have bb : Beside r w w1 := (Beside.of (show Below w.heap.size w _ from (by repeat (first | with_reducible exact Below.refl _ _ | with_reducible refine Below.setCell ?_ (by first | omega | (simp; done) | (simp; omega)) _ | with_reducible refine bDrewN ?_ _ | with_reducible refine Below.drew ?_ | with_reducible refine Below.alloc ?_ (by first | omega | (simp; done) | (simp; omega)) _)))).trans b_
  replace HS : Hid (Beside r w w1) := HS.out.trans bb
  replace HR : Hid (RdD w1 r s n c pN D) := R_
  clear R_
  clear bb b_ sz_ zr_ 
  have Q1 : Hid (beK D n mm p = N ∧ beP n mm p = pN) := q_
  clear q_
  clear rc0 hm_
  have N12 : N ≤ 12 := by omega
  clear N1 N2
  have wN : IntKind.i64.wrap (2 + N) = 2 + N := by rw [IntKind.wrap_i64]; omega
  go_wp2_with fail
  refine (below_d 4 (HR.out.below (by repeat (first | with_reducible exact Below.refl _ _ | with_reducible refine Below.setCell ?_ (by first | omega | (simp; done) | (simp; omega)) _ | with_reducible refine bDrewN ?_ _ | with_reducible refine Below.drew ?_ | with_reducible refine Below.alloc ?_ (by first | omega | (simp; done) | (simp; omega)) _)))).mono ?_
  rintro e w2 ⟨jj, pj, rfl, ja, jb, jc, q_, R_, b_⟩
  have sz_ : w.heap.size ≤ w1.heap.size := HS.out.2.2.2.1
  have zr_ : r < w1.heap.size := HR.out.1
  have bb : Beside r w1 w2 := (Beside.of (show Below w1.heap.size w1 _ from (by repeat (first | with_reducible exact Below.refl _ _ | with_reducible refine Below.setCell ?_ (by first | omega | (simp; done) | (simp; omega)) _ | with_reducible refine bDrewN ?_ _ | with_reducible refine Below.drew ?_ | with_reducible refine Below.alloc ?_ (by first | omega | (simp; done) | (simp; omega)) _)))).trans b_
  obtain ⟨gt, hgt⟩ : ∃ g, g = w1.heap.size := ⟨_, rfl⟩
  have Ht : Hid (Blk w2 gt [.int .i64 1, .int .i64 3, .int .i64 40, .int .i64 5000]) := by
    show Blk _ _ _
    have q := ((Blk.new w1 #[.int .i64 1, .int .i64 3, .int .i64 40, .int .i64 5000] 2)).beside b_ (by first | omega | (simp; omega))
    rw [hgt]; exact q
  replace HS : Hid (Beside r w w2) := HS.out.trans bb
  replace HR : Hid (RdD w2 r s n c pj D) := R_
  clear R_
  have lgt : w.heap.size ≤ gt := by omega
  have rgt : r < gt := by omega
  try rw [← hgt]
  clear hgt
  clear bb b_ sz_ zr_ 
  have Q2 : Hid (beK D n 4 pN = jj ∧ beP n 4 pN = pj) := q_
  clear q_
  have jd : jj < 4 := by omega
  obtain ⟨ga, hga⟩ : ∃ z, gaF jj = z := ⟨_, rfl⟩
  have HGA : Hid (gaF jj = ga) := hga
  have gab : 1 ≤ ga ∧ ga ≤ 5000 := by rw [← hga]; unfold gaF; split <;> (try split) <;> (try split) <;> omega
  obtain ⟨jn, ejn⟩ : ∃ jn : Nat, jj = (jn : Int) := ⟨jj.toNat, by omega⟩
  have jv : w2.cell? ⟨gt, jn, none⟩ = some (.int .i64 ga) := Ht.out.2.2 jn _ (by
    rw [← hga, ejn]
    have : jn = 0 ∨ jn = 1 ∨ jn = 2 ∨ jn = 3 := by omega
    rcases this with rfl | rfl | rfl | rfl <;> rfl)
  have jl : (jn : Int) < 4 := by omega
  have HJN : Hid (jj = (jn : Int)) := ejn
  rw [ejn]
  clear ja jb jc jd hga ejn
  go_wp2_with fail
  refine (near_d (-40) 40 (by omega) (by omega) (by omega) (HR.out.below (by repeat (first | with_reducible exact Below.refl _ _ | with_reducible refine Below.setCell ?_ (by first | omega | (simp; done) | (simp; omega)) _ | with_reducible refine bDrewN ?_ _ | with_reducible refine Below.drew ?_ | with_reducible refine Below.alloc ?_ (by first | omega | (simp; done) | (simp; omega)) _)))).mono ?_
  rintro e w3 ⟨x, px, rfl, x0, x1, q_, R_, b_⟩
  have Ht_z : gt < w2.heap.size := Ht.out.1
  have sz_ : w.heap.size ≤ w2.heap.size := HS.out.2.2.2.1
  have zr_ : r < w2.heap.size := HR.out.1
  have bb : Beside r w2 w3 := (Beside.of (show Below w2.heap.size w2 _ from (by repeat (first | with_reducible exact Below.refl _ _ | with_reducible refine Below.setCell ?_ (by first | omega | (simp; done) | (simp; omega)) _ | with_reducible refine bDrewN ?_ _ | with_reducible refine Below.drew ?_ | with_reducible refine Below.alloc ?_ (by first | omega | (simp; done) | (simp; omega)) _)))).trans b_
  replace Ht : Hid (Blk w3 gt [.int .i64 1, .int .i64 3, .int .i64 40, .int .i64 5000]) := Ht.out.beside bb (by omega)
  replace HS : Hid (Beside r w w3) := HS.out.trans bb
  replace HR : Hid (RdD w3 r s n c px D) := R_
  clear R_
  clear bb b_ sz_ zr_ Ht_z
  have Q3 : Hid (neK D n (-40) 40 pj = x ∧ neP D n (-40) 40 pj = px) := q_
  clear q_
  clear jv jl
  clear Ht
  go_wp2_with fail
  refine (near_d (-40) 40 (by omega) (by omega) (by omega) (HR.out.below (by repeat (first | with_reducible exact Below.refl _ _ | with_reducible refine Below.setCell ?_ (by first | omega | (simp; done) | (simp; omega)) _ | with_reducible refine bDrewN ?_ _ | with_reducible refine Below.drew ?_ | with_reducible refine Below.alloc ?_ (by first | omega | (simp; done) | (simp; omega)) _)))).mono ?_
  rintro e w4 ⟨y, py, rfl, y0, y1, q_, R_, b_⟩
  have sz_ : w.heap.size ≤ w3.heap.size := HS.out.2.2.2.1
  have zr_ : r < w3.heap.size := HR.out.1
  have bb : Beside r w3 w4 := (Beside.of (show Below w3.heap.size w3 _ from (by repeat (first | with_reducible exact Below.refl _ _ | with_reducible refine Below.setCell ?_ (by first | omega | (simp; done) | (simp; omega)) _ | with_reducible refine bDrewN ?_ _ | with_reducible refine Below.drew ?_ | with_reducible refine Below.alloc ?_ (by first | omega | (simp; done) | (simp; omega)) _)))).trans b_
  replace HS : Hid (Beside r w w4) := HS.out.trans bb
  replace HR : Hid (RdD w4 r s n c py D) := R_
  clear R_
  clear bb b_ sz_ zr_ 
  have Q4 : Hid (neK D n (-40) 40 px = y ∧ neP D n (-40) 40 px = py) := q_
  clear q_
  go_upto_region 6 with fail
  have sz_ : w.heap.size ≤ w4.heap.size := HS.out.2.2.2.1
  have zr_ : r < w4.heap.size := HR.out.1
  obtain ⟨w5, hw_⟩ : ∃ x_, x_ = w4.alloc (.cells #[] 30) := ⟨_, rfl⟩
  rw [← hw_]
  have bl_ : Below w4.heap.size w4 w5 := by rw [hw_]; exact below0 _ _
  obtain ⟨bo, hbo⟩ : ∃ g, g = w4.heap.size := ⟨_, rfl⟩
  have Ho : Hid (Lst bo 30 2 w5 (.slice (some ⟨bo, 0, none⟩) 0 0) 0 (fun _ => 0)) := by show Lst _ _ _ _ _ _ _; rw [hw_, hbo]; exact Lst.lit w4 _ 30 30 2 _ (Nat.le_refl _)
  replace HR : Hid (RdD w5 r s n c py D) := HR.out.below bl_
  replace HS : Hid (Beside r w w5) := HS.out.onB (bl_.mono sz_)
  have lbo : w.heap.size ≤ bo := by omega
  have rbo : r < bo := by omega
  have zso : bo < w5.heap.size := by rw [hw_, hbo]; simp
  have Zo : Hid (bo ≤ w5.heap.size) := by show _ ≤ _; have := bl_.size; omega
  try rw [← hbo]
  clear hw_ hbo bl_ sz_ zr_ 
  obtain ⟨M, hM⟩ : ∃ M : Nat, 2 + N = (M : Int) := ⟨(2 + N).toNat, by omega⟩
  have HMN : Hid (2 + N = (M : Int)) := hM
  have M2 : 2 ≤ M := by omega
  have M14 : M ≤ 14 := by omega
  rw [hM]
  clear hM N0 N12 wN
  obtain ⟨C, hC⟩ : ∃ C, cuT D n true ga (x, y, py) = C := ⟨_, rfl⟩
  have HC0 : Hid (C 0 = (x, y, py)) := by rw [← hC]; exact rfl
  have HCS : Hid (∀ k, C (k + 1) = cuS D n true ga (C k)) := fun k => by rw [← hC]; rfl
  have HREL0 : Hid (∀ m U0 U1, (∀ j, j < M → U0 (j * 2) = (C j).1 ∧ U0 (j * 2 + 1) = (C j).2.1) → CuEnd D n M (C M).2.2 U0 m U1 → CuR D n true p m U1) := fun m U0 U1 h1 h2 => ⟨N, pN, jj, pj, x, px, y, py, M, U0, by rw [HMM.out]; exact Q1.out, Q2.out, Q3.out, Q4.out, HMN.out, by rw [HGA.out, hC]; exact h1, by rw [HGA.out, hC]; exact h2⟩
  clear hC Q1 Q2 Q3 Q4 HMM HGA HMN
  have HU0 : Hid (∀ j, j < 0 → (fun _ => (0 : Int)) (j * 2) = (C j).1 ∧ (fun _ => (0 : Int)) (j * 2 + 1) = (C j).2.1) := fun j hj => by omega
  go_wp2_with fail
  go_loopw [7, 8, 9, 10] (fun xv yv v i wr => ∃ (k : Nat) (U : Nat → Int) (p5 : Nat) (x y : Int), k ≤ M ∧ xv = .int .i64 x ∧ yv = .int .i64 y ∧ i = .int .i64 (k : Int) ∧ (-40 ≤ x ∧ x ≤ 40 + 5001 * k) ∧ (-40 - 10001 * k ≤ y ∧ y ≤ 40 + 10001 * k) ∧ Hid (C k = (x, y, p5)) ∧ Hid (∀ j, j < k → U (j * 2) = (C j).1 ∧ U (j * 2 + 1) = (C j).2.1) ∧ Hid (RdD wr r s n c p5 D) ∧ Hid (Beside r w wr) ∧ Hid (Lst bo 30 2 wr v k U) ∧ Hid (bo ≤ wr.heap.size)) (fun _ _ _ i _ => M - (intOf i).toNat)
  case atStart => exact ⟨0, fun _ => 0, py, x, y, by omega, rfl, rfl, rfl, by omega, by omega, HC0, HU0, HR, HS, Ho, Zo⟩
  case round =>
    clear x0 x1 y0 y1 HC0 HU0
    clear HR HS Ho Zo
    obtain ⟨k, U, p5, x, y, hk, rfl, rfl, rfl, xb, yb, HCK, HU, HR, HS, Ho, Zo⟩ := hrel
    by_cases hlt : k < M
    case pos =>
      have k1 : (k : Int) < (M : Int) := by omega
      have HU2 : Hid (∀ j, j < k + 1 → putL U 2 k [x, y] (j * 2) = (C j).1 ∧ putL U 2 k [x, y] (j * 2 + 1) = (C j).2.1) := putL_on HU.out HCK.out
      have HS1 := HCS.out k
      rw [HCK.out] at HS1
      have HSN : Hid (C (k + 1) = cuS D n true ga (x, y, p5)) := HS1
      clear HS1 HU HCK
      go_upto_region 10 with (at_builtin; refine list_Knot bo u9 k U (.tmp 39) (.tmp 43) (by rfl) (by rfl) (by rfl) (by rfl) Ho.out (by omega) Zo.out ?_; intro g9 cap9 w6 l9 b9)
      have No : Hid (Lst bo 30 2 w6 (.slice (some ⟨g9, 0, none⟩) (k + 1) cap9) (k + 1) (putL U 2 k [x, y])) := l9
      clear l9
      replace Zo : Hid (bo ≤ w6.heap.size) := Nat.le_trans Zo.out b9.size
      replace HR : Hid (RdD w6 r s n c p5 D) := RdD.below' HR.out (b9.mono (by omega))
      replace HS : Hid (Beside r w w6) := HS.out.onB (b9.mono (by omega))
      replace Ho := No
      clear b9 No
      go_wp2_with fail
      refine (upto_d ga (by omega) (HR.out.below (by repeat (first | with_reducible exact Below.refl _ _ | with_reducible refine Below.setCell ?_ (by first | omega | (simp; done) | (simp; omega)) _ | with_reducible refine bDrewN ?_ _ | with_reducible refine Below.drew ?_ | with_reducible refine Below.alloc ?_ (by first | omega | (simp; done) | (simp; omega)) _)))).mono ?_
      rintro e w7 ⟨u1, pu, rfl, u1a, u1b, q_, R_, b_⟩
      have sz_ : w.heap.size ≤ w6.heap.size := HS.out.2.2.2.1
      have zr_ : r < w6.heap.size := HR.out.1
      have bb : Beside r w6 w7 := (Beside.of (show Below w6.heap.size w6 _ from (by repeat (first | with_reducible exact Below.refl _ _ | with_reducible refine Below.setCell ?_ (by first | omega | (simp; done) | (simp; omega)) _ | with_reducible refine bDrewN ?_ _ | with_reducible refine Below.drew ?_ | with_reducible refine Below.alloc ?_ (by first | omega | (simp; done) | (simp; omega)) _)))).trans b_
      replace Ho : Hid (Lst bo 30 2 w7 (.slice (some ⟨g9, 0, none⟩) (k + 1) cap9) (k + 1) (putL U 2 k [x, y])) := Ho.out.beside bb (by omega)
      replace Zo : Hid (bo ≤ w7.heap.size) := Nat.le_trans Zo.out bb.2.2.2.1
      replace HS : Hid (Beside r w w7) := HS.out.trans bb
      replace HR : Hid (RdD w7 r s n c pu D) := R_
      clear R_
      clear bb b_ sz_ zr_ 
      have Q5 : Hid (upK D n ga p5 = u1 ∧ upP n ga p5 = pu) := q_
      clear q_
      obtain ⟨z2, hz2⟩ : ∃ z : Int, x + 1 + u1 = z := ⟨_, rfl⟩
      have z2b : -40 ≤ z2 ∧ z2 ≤ 40 + 5001 * (k + 1 : Nat) := by omega
      have HZ2 : Hid (x + 1 + u1 = z2) := hz2
      go_upto_region 12 with fail
      try rw [hz2]
      clear hz2 u1a u1b
      have wg : IntKind.i64.wrap (2 * ga) = 2 * ga := by rw [IntKind.wrap_i64]; omega
      go_wp2_with fail
      refine (upto_d (2 * ga) (by omega) (HR.out.below (by repeat (first | with_reducible exact Below.refl _ _ | with_reducible refine Below.setCell ?_ (by first | omega | (simp; done) | (simp; omega)) _ | with_reducible refine bDrewN ?_ _ | with_reducible refine Below.drew ?_ | with_reducible refine Below.alloc ?_ (by first | omega | (simp; done) | (simp; omega)) _)))).mono ?_
      rintro e w8 ⟨u2, pv, rfl, u2a, u2b, q_, R_, b_⟩
      have sz_ : w.heap.size ≤ w7.heap.size := HS.out.2.2.2.1
      have zr_ : r < w7.heap.size := HR.out.1
      have bb : Beside r w7 w8 := (Beside.of (show Below w7.heap.size w7 _ from (by repeat (first | with_reducible exact Below.refl _ _ | with_reducible refine Below.setCell ?_ (by first | omega | (simp; done) | (simp; omega)) _ | with_reducible refine bDrewN ?_ _ | with_reducible refine Below.drew ?_ | with_reducible refine Below.alloc ?_ (by first | omega | (simp; done) | (simp; omega)) _)))).trans b_
      replace Ho : Hid (Lst bo 30 2 w8 (.slice (some ⟨g9, 0, none⟩) (k + 1) cap9) (k + 1) (putL U 2 k [x, y])) := Ho.out.beside bb (by omega)
      replace Zo : Hid (bo ≤ w8.heap.size) := Nat.le_trans Zo.out bb.2.2.2.1
      replace HS : Hid (Beside r w w8) := HS.out.trans bb
      replace HR : Hid (RdD w8 r s n c pv D) := R_
      clear R_
      clear bb b_ sz_ zr_ 
      have Q7 : Hid (upK D n (2 * ga) pu = u2 ∧ upP n (2 * ga) pu = pv) := q_
      clear q_
      obtain ⟨z4, hz4⟩ : ∃ z : Int, y + 1 + u2 = z := ⟨_, rfl⟩
      have z4b : -40 - 10001 * (k + 1 : Nat) ≤ z4 ∧ z4 ≤ 40 + 10001 * (k + 1 : Nat) := by omega
      have HCN : Hid (C (k + 1) = (z2, z4, pv)) := HSN.out.trans (cuS_st Q5.out Q7.out HZ2.out hz4)
      have HZ4 : Hid (y + 1 + u2 = z4) := hz4
      go_upto_region 8 with fail
      try rw [hz4]
      clear hz4
      go_wp2
      go_roundw
      case rel => exact ⟨k + 1, _, pv, z2, z4, by omega, rfl, rfl, by go_num, z2b, z4b, HCN, HU2, HR, HS, Ho, Zo⟩
      case measure => simp [intOf]; omega
    case neg =>
      obtain rfl : k = M := by omega
      clear hlt hk xb yb
      rename World => wl
      have HREL : Hid (∀ m U1, CuEnd D n k p5 U m U1 → CuR D n true p m U1) := fun m U1 h => HREL0.out m U U1 HU.out (by rw [HCK.out]; exact h)
      clear HREL0 HU HCK HCS
      obtain ⟨t1, cap, eu, OW⟩ := Ho.out.own
      cases eu
      obtain ⟨g, rfl, gb, -, -, -⟩ := OW 0 (by omega)
      have hcap := Ho.out.cap
      have HO : Hid (OwnI bo wl (some ⟨g, 0, none⟩) (k * 2) U) := OW
      clear OW Ho Zo
      go_wp2_with fail
      refine (below_d 20 (HR.out.below (by repeat (first | with_reducible exact Below.refl _ _ | with_reducible refine Below.setCell ?_ (by first | omega | (simp; done) | (simp; omega)) _ | with_reducible refine bDrewN ?_ _ | with_reducible refine Below.drew ?_ | with_reducible refine Below.alloc ?_ (by first | omega | (simp; done) | (simp; omega)) _)))).mono ?_
      rintro e w6 ⟨kk, pk, rfl, kk0, kk1, kk2, q_, R_, b_⟩
      have sz_ : w.heap.size ≤ wl.heap.size := HS.out.2.2.2.1
      have zr_ : r < wl.heap.size := HR.out.1
      have bb : Beside r wl w6 := (Beside.of (show Below wl.heap.size wl _ from (by repeat (first | with_reducible exact Below.refl _ _ | with_reducible refine Below.setCell ?_ (by first | omega | (simp; done) | (simp; omega)) _ | with_reducible refine bDrewN ?_ _ | with_reducible refine Below.drew ?_ | with_reducible refine Below.alloc ?_ (by first | omega | (simp; done) | (simp; omega)) _)))).trans b_
      replace HS : Hid (Beside r w w6) := HS.out.trans bb
      replace HR : Hid (RdD w6 r s n c pk D) := R_
      clear R_
      replace HO : Hid (OwnI bo w6 (some ⟨g, 0, none⟩) (k * 2) U) := ownB_beside HO.out bb (by omega)
      clear bb b_ sz_ zr_ 
      have QK : Hid (beK D n 20 p5 = kk ∧ beP n 20 p5 = pk) := q_
      clear q_
      clear kk1 kk2
      by_cases e0 : kk = 0
      case pos =>
        subst e0
        go_wp2_with fail
        refine (below_d 2 (HR.out.below (by repeat (first | with_reducible exact Below.refl _ _ | with_reducible refine Below.setCell ?_ (by first | omega | (simp; done) | (simp; omega)) _ | with_reducible refine bDrewN ?_ _ | with_reducible refine Below.drew ?_ | with_reducible refine Below.alloc ?_ (by first | omega | (simp; done) | (simp; omega)) _)))).mono ?_
        rintro e w7 ⟨m9, pm, rfl, m90, m91, m92, q_, R_, b_⟩
        have sz_ : w.heap.size ≤ w6.heap.size := HS.out.2.2.2.1
        have zr_ : r < w6.heap.size := HR.out.1
        have bb : Beside r w6 w7 := (Beside.of (show Below w6.heap.size w6 _ from (by repeat (first | with_reducible exact Below.refl _ _ | with_reducible refine Below.setCell ?_ (by first | omega | (simp; done) | (simp; omega)) _ | with_reducible refine bDrewN ?_ _ | with_reducible refine Below.drew ?_ | with_reducible refine Below.alloc ?_ (by first | omega | (simp; done) | (simp; omega)) _)))).trans b_
        replace HS : Hid (Beside r w w7) := HS.out.trans bb
        replace HR : Hid (RdD w7 r s n c pm D) := R_
        clear R_
        replace HO : Hid (OwnI bo w7 (some ⟨g, 0, none⟩) (k * 2) U) := ownB_beside HO.out bb (by omega)
        clear bb b_ sz_ zr_ 
        have QM : Hid (beK D n 2 pk = m9 ∧ beP n 2 pk = pm) := q_
        clear q_
        have m93 : m9 ≤ 1 := by omega
        clear m91 m92
        have HE : Hid (CuR D n true p k (setU U ((k - 1) * 2) (1000000 + m9))) := HREL.out _ _ ⟨0, pk, QK.out, .inl ⟨rfl, rfl, m9, QM.out.1, rfl⟩⟩
        obtain ⟨k2, rfl⟩ : ∃ k2, k = k2 + 1 := ⟨k - 1, by omega⟩
        rw [show k2 + 1 - 1 = k2 by omega] at HE
        obtain ⟨gg_, eg_, -, zz_a, cea, cfa⟩ := HO.out (k2 * 2) (by omega)
        cases eg_
        have wk : IntKind.i64.wrap (((k2 + 1 : Nat) : Int) - 1) = (k2 : Int) := by rw [IntKind.wrap_i64]; omega
        have wk2 : ((k2 + 1 : Nat) : Int) - 1 = (k2 : Int) := by omega
        have wm : IntKind.i64.wrap (1000000 + m9) = 1000000 + m9 := by rw [IntKind.wrap_i64]; omega
        have BS := HS.out
        have sBS := BS.2.2.2.1
        have OF := HO.out.putB (k2 * 2) (1000000 + m9)
        clear HREL QK QM
        go_wp2
        go_ret
        unfold CurPost2
        exact ⟨_, k2 + 1, cap, _, pm, rfl, by omega, by omega, OF.mono lbo, HE.out, RdD.below' HR.out (show Below (r + 1) w7 _ from (by repeat (first | with_reducible exact Below.refl _ _ | with_reducible refine Below.setCell ?_ (by first | omega | (simp; done) | (simp; omega)) _ | with_reducible refine bDrewN ?_ _ | with_reducible refine Below.drew ?_ | with_reducible refine Below.alloc ?_ (by first | omega | (simp; done) | (simp; omega)) _))), BS.onB (show Below w.heap.size w7 _ from (by repeat (first | with_reducible exact Below.refl _ _ | with_reducible refine Below.setCell ?_ (by first | omega | (simp; done) | (simp; omega)) _ | with_reducible refine bDrewN ?_ _ | with_reducible refine Below.drew ?_ | with_reducible refine Below.alloc ?_ (by first | omega | (simp; done) | (simp; omega)) _)))⟩
      have ne0 : (kk == 0) = false := by simpa using e0
      by_cases e1 : kk = 1
      case pos =>
        subst e1
        go_wp2_with fail
        refine (below_d (k : Int) (HR.out.below (by repeat (first | with_reducible exact Below.refl _ _ | with_reducible refine Below.setCell ?_ (by first | omega | (simp; done) | (simp; omega)) _ | with_reducible refine bDrewN ?_ _ | with_reducible refine Below.drew ?_ | with_reducible refine Below.alloc ?_ (by first | omega | (simp; done) | (simp; omega)) _)))).mono ?_
        rintro e w7 ⟨m9, pm, rfl, m90, m91, m92, q_, R_, b_⟩
        have sz_ : w.heap.size ≤ w6.heap.size := HS.out.2.2.2.1
        have zr_ : r < w6.heap.size := HR.out.1
        have bb : Beside r w6 w7 := (Beside.of (show Below w6.heap.size w6 _ from (by repeat (first | with_reducible exact Below.refl _ _ | with_reducible refine Below.setCell ?_ (by first | omega | (simp; done) | (simp; omega)) _ | with_reducible refine bDrewN ?_ _ | with_reducible refine Below.drew ?_ | with_reducible refine Below.alloc ?_ (by first | omega | (simp; done) | (simp; omega)) _)))).trans b_
        replace HS : Hid (Beside r w w7) := HS.out.trans bb
        replace HR : Hid (RdD w7 r s n c pm D) := R_
        clear R_
        replace HO : Hid (OwnI bo w7 (some ⟨g, 0, none⟩) (k * 2) U) := ownB_beside HO.out bb (by omega)
        clear bb b_ sz_ zr_ 
        have QM : Hid (beK D n (k : Int) pk = m9 ∧ beP n (k : Int) pk = pm) := q_
        clear q_
        have m93 : m9 < (k : Int) := by omega
        clear m91 m92
        obtain ⟨i9, hi9⟩ : ∃ i9 : Nat, m9 = (i9 : Int) := ⟨m9.toNat, by omega⟩
        subst hi9
        obtain ⟨j9, hj9, hj9b⟩ : ∃ j9 : Nat, ((i9 : Int) + 1) % (k : Int) = (j9 : Int) ∧ (j9 : Int) < (k : Int) := ⟨(((i9 : Int) + 1) % (k : Int)).toNat, by have := Int.emod_nonneg ((i9 : Int) + 1) (show (k : Int) ≠ 0 by omega); omega, by have := Int.emod_lt_of_pos ((i9 : Int) + 1) (show 0 < (k : Int) by omega); have := Int.emod_nonneg ((i9 : Int) + 1) (show (k : Int) ≠ 0 by omega); omega⟩
        have kz : ¬ ((k : Int) = 0) := by omega
        have HE : Hid (CuR D n true p k (setU U (i9 * 2 + 1) (U (j9 * 2 + 1)))) := HREL.out _ _ ⟨1, pk, QK.out, .inr (.inl ⟨rfl, rfl, i9, j9, QM.out.1, hj9, hj9b, rfl⟩)⟩
        obtain ⟨gg_, eg_, -, zz_a, cea, cfa⟩ := HO.out (i9 * 2 + 1) (by omega)
        cases eg_
        obtain ⟨gg_, eg_, -, zz_b, ceb, cfb⟩ := HO.out (j9 * 2 + 1) (by omega)
        cases eg_
        have BS := HS.out
        have sBS := BS.2.2.2.1
        have OF := HO.out.putB (i9 * 2 + 1) (U (j9 * 2 + 1))
        clear HREL QK QM
        go_wp2
        go_ret
        unfold CurPost2
        exact ⟨_, k, cap, _, pm, rfl, by omega, by omega, OF.mono lbo, HE.out, RdD.below' HR.out (show Below (r + 1) w7 _ from (by repeat (first | with_reducible exact Below.refl _ _ | with_reducible refine Below.setCell ?_ (by first | omega | (simp; done) | (simp; omega)) _ | with_reducible refine bDrewN ?_ _ | with_reducible refine Below.drew ?_ | with_reducible refine Below.alloc ?_ (by first | omega | (simp; done) | (simp; omega)) _))), BS.onB (show Below w.heap.size w7 _ from (by repeat (first | with_reducible exact Below.refl _ _ | with_reducible refine Below.setCell ?_ (by first | omega | (simp; done) | (simp; omega)) _ | with_reducible refine bDrewN ?_ _ | with_reducible refine Below.drew ?_ | with_reducible refine Below.alloc ?_ (by first | omega | (simp; done) | (simp; omega)) _)))⟩
      have ne1 : (kk == 1) = false := by simpa using e1
      by_cases e2 : kk = 2
      case pos =>
        subst e2
        go_wp2_with fail
        refine (below_d (k : Int) (HR.out.below (by repeat (first | with_reducible exact Below.refl _ _ | with_reducible refine Below.setCell ?_ (by first | omega | (simp; done) | (simp; omega)) _ | with_reducible refine bDrewN ?_ _ | with_reducible refine Below.drew ?_ | with_reducible refine Below.alloc ?_ (by first | omega | (simp; done) | (simp; omega)) _)))).mono ?_
        rintro e w7 ⟨m9, pm, rfl, m90, m91, m92, q_, R_, b_⟩
        have sz_ : w.heap.size ≤ w6.heap.size := HS.out.2.2.2.1
        have zr_ : r < w6.heap.size := HR.out.1
        have bb : Beside r w6 w7 := (Beside.of (show Below w6.heap.size w6 _ from (by repeat (first | with_reducible exact Below.refl _ _ | with_reducible refine Below.setCell ?_ (by first | omega | (simp; done) | (simp; omega)) _ | with_reducible refine bDrewN ?_ _ | with_reducible refine Below.drew ?_ | with_reducible refine Below.alloc ?_ (by first | omega | (simp; done) | (simp; omega)) _)))).trans b_
        replace HS : Hid (Beside r w w7) := HS.out.trans bb
        replace HR : Hid (RdD w7 r s n c pm D) := R_
        clear R_
        replace HO : Hid (OwnI bo w7 (some ⟨g, 0, none⟩) (k * 2) U) := ownB_beside HO.out bb (by omega)
        clear bb b_ sz_ zr_ 
        have QM : Hid (beK D n (k : Int) pk = m9 ∧ beP n (k : Int) pk = pm) := q_
        clear q_
        have m93 : m9 < (k : Int) := by omega
        clear m91 m92
        obtain ⟨i9, hi9⟩ : ∃ i9 : Nat, m9 = (i9 : Int) := ⟨m9.toNat, by omega⟩
        subst hi9
        obtain ⟨j9, hj9, hj9b⟩ : ∃ j9 : Nat, ((i9 : Int) + 1) % (k : Int) = (j9 : Int) ∧ (j9 : Int) < (k : Int) := ⟨(((i9 : Int) + 1) % (k : Int)).toNat, by have := Int.emod_nonneg ((i9 : Int) + 1) (show (k : Int) ≠ 0 by omega); omega, by have := Int.emod_lt_of_pos ((i9 : Int) + 1) (show 0 < (k : Int) by omega); have := Int.emod_nonneg ((i9 : Int) + 1) (show (k : Int) ≠ 0 by omega); omega⟩
        have kz : ¬ ((k : Int) = 0) := by omega
        have HE : Hid (CuR D n true p k (setU U (i9 * 2) (U (j9 * 2)))) := HREL.out _ _ ⟨2, pk, QK.out, .inr (.inr (.inl ⟨rfl, rfl, i9, j9, QM.out.1, hj9, hj9b, rfl⟩))⟩
        obtain ⟨gg_, eg_, -, zz_a, cea, cfa⟩ := HO.out (i9 * 2) (by omega)
        cases eg_
        obtain ⟨gg_, eg_, -, zz_b, ceb, cfb⟩ := HO.out (j9 * 2) (by omega)
        cases eg_
        have BS := HS.out
        have sBS := BS.2.2.2.1
        have OF := HO.out.putB (i9 * 2) (U (j9 * 2))
        clear HREL QK QM
        go_wp2
        go_ret
        unfold CurPost2
        exact ⟨_, k, cap, _, pm, rfl, by omega, by omega, OF.mono lbo, HE.out, RdD.below' HR.out (show Below (r + 1) w7 _ from (by repeat (first | with_reducible exact Below.refl _ _ | with_reducible refine Below.setCell ?_ (by first | omega | (simp; done) | (simp; omega)) _ | with_reducible refine bDrewN ?_ _ | with_reducible refine Below.drew ?_ | with_reducible refine Below.alloc ?_ (by first | omega | (simp; done) | (simp; omega)) _))), BS.onB (show Below w.heap.size w7 _ from (by repeat (first | with_reducible exact Below.refl _ _ | with_reducible refine Below.setCell ?_ (by first | omega | (simp; done) | (simp; omega)) _ | with_reducible refine bDrewN ?_ _ | with_reducible refine Below.drew ?_ | with_reducible refine Below.alloc ?_ (by first | omega | (simp; done) | (simp; omega)) _)))⟩
      have ne2 : (kk == 2) = false := by simpa using e2
      by_cases e3 : kk = 3
      case pos =>
        subst e3
        have BS := HS.out
        have sBS := BS.2.2.2.1
        have c1c : (1 : Int) ≤ (cap : Int) := by omega
        have HE : Hid (CuR D n true p 1 U) := HREL.out _ _ ⟨3, pk, QK.out, .inr (.inr (.inr (.inl ⟨rfl, rfl, rfl⟩)))⟩
        have OF : OwnI bo w6 (some ⟨g, 0, none⟩) (1 * 2) U := fun j hj => HO.out j (by omega)
        clear HREL QK
        go_wp2
        go_ret
        unfold CurPost2
        exact ⟨_, 1, cap, _, pk, rfl, by omega, by omega, OF.mono lbo, HE.out, HR.out, BS⟩
      have ne3 : (kk == 3) = false := by simpa using e3
      by_cases e4 : kk = 4
      case pos =>
        subst e4
        go_wp2_with fail
        refine (below_d 2 (HR.out.below (by repeat (first | with_reducible exact Below.refl _ _ | with_reducible refine Below.setCell ?_ (by first | omega | (simp; done) | (simp; omega)) _ | with_reducible refine bDrewN ?_ _ | with_reducible refine Below.drew ?_ | with_reducible refine Below.alloc ?_ (by first | omega | (simp; done) | (simp; omega)) _)))).mono ?_
        rintro e w7 ⟨m9, pm, rfl, m90, m91, m92, q_, R_, b_⟩
        have sz_ : w.heap.size ≤ w6.heap.size := HS.out.2.2.2.1
        have zr_ : r < w6.heap.size := HR.out.1
        have bb : Beside r w6 w7 := (Beside.of (show Below w6.heap.size w6 _ from (by repeat (first | with_reducible exact Below.refl _ _ | with_reducible refine Below.setCell ?_ (by first | omega | (simp; done) | (simp; omega)) _ | with_reducible refine bDrewN ?_ _ | with_reducible refine Below.drew ?_ | with_reducible refine Below.alloc ?_ (by first | omega | (simp; done) | (simp; omega)) _)))).trans b_
        replace HS : Hid (Beside r w w7) := HS.out.trans bb
        replace HR : Hid (RdD w7 r s n c pm D) := R_
        clear R_
        replace HO : Hid (OwnI bo w7 (some ⟨g, 0, none⟩) (k * 2) U) := ownB_beside HO.out bb (by omega)
        clear bb b_ sz_ zr_ 
        have QM : Hid (beK D n 2 pk = m9 ∧ beP n 2 pk = pm) := q_
        clear q_
        have m93 : m9 ≤ 1 := by omega
        clear m91 m92
        obtain ⟨gg_, eg_, -, zz_a, cea, cfa⟩ := HO.out (0) (by omega)
        cases eg_
        have wm : IntKind.i64.wrap (-1000000 - m9) = -1000000 - m9 := by rw [IntKind.wrap_i64]; omega
        have zk : (0 : Int) < (k : Int) := by omega
        go_upto_region 27 with fail
        obtain ⟨w8, hw_⟩ : ∃ x_, x_ = w7.setCell ⟨g, 0, none⟩ (.int .i64 (-1000000 - m9)) := ⟨_, rfl⟩
        rw [← hw_]
        have sz_ : w.heap.size ≤ w7.heap.size := HS.out.2.2.2.1
        replace HR : Hid (RdD w8 r s n c pm D) := by show RdD _ _ _ _ _ _ _; rw [hw_]; exact RdD.below' HR.out (show Below (r + 1) w7 _ from (by repeat (first | with_reducible exact Below.refl _ _ | with_reducible refine Below.setCell ?_ (by first | omega | (simp; done) | (simp; omega)) _ | with_reducible refine bDrewN ?_ _ | with_reducible refine Below.drew ?_ | with_reducible refine Below.alloc ?_ (by first | omega | (simp; done) | (simp; omega)) _)))
        replace HS : Hid (Beside r w w8) := by show Beside _ _ _; rw [hw_]; exact HS.out.onB (show Below w.heap.size w7 _ from (by repeat (first | with_reducible exact Below.refl _ _ | with_reducible refine Below.setCell ?_ (by first | omega | (simp; done) | (simp; omega)) _ | with_reducible refine bDrewN ?_ _ | with_reducible refine Below.drew ?_ | with_reducible refine Below.alloc ?_ (by first | omega | (simp; done) | (simp; omega)) _)))
        obtain ⟨U2, hU2⟩ : ∃ U2, U2 = setU U 0 (-1000000 - m9) := ⟨_, rfl⟩
        replace HO : Hid (OwnI bo w8 (some ⟨g, 0, none⟩) (k * 2) U2) := by show OwnI _ _ _ _ _; rw [hw_, hU2]; exact HO.out.putB 0 _
        have HU2 : Hid (U2 = setU U 0 (-1000000 - m9)) := hU2
        clear hw_ sz_ cea cfa zz_a m90 m93 wm hU2
        go_wp2_with fail
        refine (below_d 2 (HR.out.below (by repeat (first | with_reducible exact Below.refl _ _ | with_reducible refine Below.setCell ?_ (by first | omega | (simp; done) | (simp; omega)) _ | with_reducible refine bDrewN ?_ _ | with_reducible refine Below.drew ?_ | with_reducible refine Below.alloc ?_ (by first | omega | (simp; done) | (simp; omega)) _)))).mono ?_
        rintro e w9 ⟨m8, pm2, rfl, m80, m81, m82, q_, R_, b_⟩
        have sz_ : w.heap.size ≤ w8.heap.size := HS.out.2.2.2.1
        have zr_ : r < w8.heap.size := HR.out.1
        have bb : Beside r w8 w9 := (Beside.of (show Below w8.heap.size w8 _ from (by repeat (first | with_reducible exact Below.refl _ _ | with_reducible refine Below.setCell ?_ (by first | omega | (simp; done) | (simp; omega)) _ | with_reducible refine bDrewN ?_ _ | with_reducible refine Below.drew ?_ | with_reducible refine Below.alloc ?_ (by first | omega | (simp; done) | (simp; omega)) _)))).trans b_
        replace HS : Hid (Beside r w w9) := HS.out.trans bb
        replace HR : Hid (RdD w9 r s n c pm2 D) := R_
        clear R_
        replace HO : Hid (OwnI bo w9 (some ⟨g, 0, none⟩) (k * 2) U2) := ownB_beside HO.out bb (by omega)
        clear bb b_ sz_ zr_ 
        have QN : Hid (beK D n 2 pm = m8 ∧ beP n 2 pm = pm2) := q_
        clear q_
        have m83 : m8 ≤ 1 := by omega
        clear m81 m82
        have HE : Hid (CuR D n true p k (setU U2 1 (-1000000 + m8))) := HREL.out _ _ ⟨4, pk, QK.out, .inr (.inr (.inr (.inr (.inl ⟨rfl, rfl, m9, pm, m8, QM.out, QN.out.1, by rw [HU2.out]⟩))))⟩
        obtain ⟨gg_, eg_, -, zz_a, cea, cfa⟩ := HO.out 1 (by omega)
        cases eg_
        have wm : IntKind.i64.wrap (-1000000 + m8) = -1000000 + m8 := by rw [IntKind.wrap_i64]; omega
        have BS := HS.out
        have sBS := BS.2.2.2.1
        have OF := HO.out.putB 1 (-1000000 + m8)
        clear HREL QK QM QN HU2
        go_wp2
        go_ret
        unfold CurPost2
        exact ⟨_, k, cap, _, pm2, rfl, by omega, by omega, OF.mono lbo, HE.out, RdD.below' HR.out (show Below (r + 1) w9 _ from (by repeat (first | with_reducible exact Below.refl _ _ | with_reducible refine Below.setCell ?_ (by first | omega | (simp; done) | (simp; omega)) _ | with_reducible refine bDrewN ?_ _ | with_reducible refine Below.drew ?_ | with_reducible refine Below.alloc ?_ (by first | omega | (simp; done) | (simp; omega)) _))), BS.onB (show Below w.heap.size w9 _ from (by repeat (first | with_reducible exact Below.refl _ _ | with_reducible refine Below.setCell ?_ (by first | omega | (simp; done) | (simp; omega)) _ | with_reducible refine bDrewN ?_ _ | with_reducible refine Below.drew ?_ | with_reducible refine Below.alloc ?_ (by first | omega | (simp; done) | (simp; omega)) _)))⟩
      have ne4 : (kk == 4) = false := by simpa using e4
      have HE : Hid (CuR D n true p k U) := HREL.out _ _ ⟨kk, pk, QK.out, .inr (.inr (.inr (.inr (.inr ⟨e0, e1, e2, e3, e4, rfl, rfl⟩))))⟩
      have BS := HS.out
      have sBS := BS.2.2.2.1
      have OF := HO.out
      clear HREL QK e0 e1 e2 e3 e4
      go_wp2
      go_ret
      unfold CurPost2
      exact ⟨_, k, cap, _, pk, rfl, by omega, by omega, OF.mono lbo, HE.out, HR.out, BS⟩
end Go.Proofs.Ythbnfckpaehniaa
