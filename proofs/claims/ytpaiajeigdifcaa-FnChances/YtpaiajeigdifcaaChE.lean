/-
What is proved: what DrawChance draws: a tree with any numbers, and up to 12 eighths.
-/
import Derived.Test.YtpaiajeigdifcaaSeD
import Derived.Test.YtpaiajeigdifcaaRdO
import Derived.Test.YtpaiajeigdifcaaRd2
namespace Go.Proofs.Ytpaiajeigdifcaa
set_option maxRecDepth 40000
open Go.ChangeShapes Go.WideShapes Go.ChangeAt Go.RowKit
set_option linter.unusedVariables false
set_option linter.unusedSimpArgs false

theorem Lst.cellC {base g k cap : Nat} {w : World} {U : Nat → Int} (h : Lst base 2 1 w (.slice (some ⟨g, 0, none⟩) k cap) k U) {q : Nat} (hq : q < k) : w.cell? ⟨g, q, none⟩ = some (.int .i64 (U q)) := by
  rw [World.ownsRow.cellAt h q (by omega)]
  exact vals_at U (by omega)
theorem Lst.putC {base g k cap : Nat} {w : World} {U : Nat → Int} (h : Lst base 2 1 w (.slice (some ⟨g, 0, none⟩) k cap) k U) (q : Nat) (x : Int) (hq : q < k) : Lst base 2 1 (w.setCell ⟨g, q, none⟩ (.int .i64 x)) (.slice (some ⟨g, 0, none⟩) k cap) k (fun j => if j = q then x else U j) := by
  have := (World.ownsRow.stored h q (.int .i64 x)).1
  have e : (vals U (k * 1)).set q (.int .i64 x) = vals (fun j => if j = q then x else U j) (k * 1) := by
    refine List.ext_getElem? fun j => ?_
    rw [List.getElem?_set]
    by_cases hj : j < k * 1
    · by_cases z : q = j
      · subst z
        rw [if_pos rfl, if_pos (by rw [vals_length]; exact hj), vals_at _ hj]
        simp
      · rw [if_neg z, vals_at _ hj, vals_at _ hj, if_neg (fun e => z e.symm)]
    · rw [List.getElem?_eq_none (l := vals (fun j => if j = q then x else U j) (k * 1)) (by rw [vals_length]; omega)]
      by_cases z : q = j
      · omega
      · rw [if_neg z, List.getElem?_eq_none (by rw [vals_length]; omega)]
  rw [e] at this
  exact this
def CrsPost (r : Nat) (s : Option Addr) (n c : Nat) (w : World) (e : Ending) (w' : World) : Prop := ∃ (v : Value) (m : Nat) (U : Nat → Int) (p' : Nat), e = .returned v ∧ m ≤ 61 ∧ Lst w.heap.size 2 1 w' v m U ∧ Rd w' r s n c p' ∧ Beside r w w'
set_option maxRecDepth 20000 in
set_option maxHeartbeats 8000000 in
def DchPost (w : World) (e : Ending) (w' : World) : Prop := ∃ (x : Int) (t : Option Addr) (m cap : Nat) (X : Nat → Int) (K : Nat → Nat) (V : Nat → Nat → Int) (t2 : Option Addr) (m2 cap2 : Nat) (U : Nat → Int), e = .returned (.tuple #[.agg #[.int .i64 x, .slice t m cap], .slice t2 m2 cap2]) ∧ m2 ≤ 12 ∧ RowGat w' t m X K V ∧ RowI w' t2 m2 U ∧ Below w.heap.size w w'
set_option maxRecDepth 20000 in
set_option maxHeartbeats 8000000 in
theorem drawChance_any (s : Option Addr) (n c : Nat) (w : World) (h : Hid (Code8 w s n)) : Calls Try.prog 20 #[.slice s n c] w fun e w' => DchPost w e w' := by
  go_enter Try.func20, Try.ntmps20
  go_upto_region 1 with fail
  obtain ⟨y0, hw_⟩ : ∃ z, z = w.alloc (.cells #[.int .i64 0, .slice none 0 0] 26) := ⟨_, rfl⟩
  rw [← hw_]
  have b0 : Below w.heap.size w y0 := by rw [hw_]; exact below0 _ _
  obtain ⟨gq, hgq⟩ : ∃ z, z = w.heap.size := ⟨_, rfl⟩
  have HQ : Hid (Blk y0 gq [.int .i64 0, .slice none 0 0]) := by show Blk _ _ _; rw [hw_, hgq]; exact Blk.new w #[.int .i64 0, .slice none 0 0] 26
  have HGQ : Hid (w.heap.size ≤ gq) := by show _ ≤ _; omega
  try rw [← hgq]
  clear hw_ hgq
  go_wp2_with fail
  refine (open_any (h.out.below b0)).mono ?_
  rintro e y1 ⟨rfl, R_, b_⟩
  obtain ⟨r, hr⟩ : ∃ r, r = y0.heap.size := ⟨_, rfl⟩
  rw [← hr] at R_
  have HR : Hid (Rd y1 r s n c 0) := R_
  have zq : gq < r := by rw [hr]; exact HQ.out.1
  have zwr : w.heap.size ≤ r := by rw [hr]; exact b0.size
  have HS : Hid (Below w.heap.size w y1) := b0.trans (b_.mono b0.size)
  replace HQ : Hid (Blk y1 gq [.int .i64 0, .slice none 0 0]) := HQ.out.below b_
  try rw [← hr]
  clear R_ b_ b0 h hr
  go_upto_region 2 with fail
  go_wp2_with fail
  refine (tree_any HR).mono ?_
  rintro e y2 ⟨x, t, m, cap, q1, rfl, m21, -, G_, R_, b_⟩
  have zr1 : r < y1.heap.size := HR.out.1
  have HG : Hid (GtL (r + 1) y2 (.slice t m cap) m) := G_.low (by omega)
  replace HQ : Hid (Blk y2 gq [.int .i64 0, .slice none 0 0]) := HQ.out.beside b_ (by omega)
  replace HS : Hid (Below w.heap.size w y2) := HS.out.trans (b_.below zwr (HS.out.size))
  replace HR : Hid (Rd y2 r s n c q1) := R_
  clear G_ R_ b_ zr1
  go_upto_region 3 with fail
  obtain ⟨y3, hw_⟩ : ∃ z, z = y2.alloc (.cells #[.int .i64 x, .slice t m cap] 26) := ⟨_, rfl⟩
  rw [← hw_]
  have b_ : Below y2.heap.size y2 y3 := by rw [hw_]; exact below0 _ _
  obtain ⟨gt, hgt⟩ : ∃ z, z = y2.heap.size := ⟨_, rfl⟩
  have HF : Hid (Blk y3 gt [.int .i64 x, .slice t m cap]) := by show Blk _ _ _; rw [hw_, hgt]; exact Blk.new y2 #[.int .i64 x, .slice t m cap] 26
  have zt : r < gt := by rw [hgt]; exact HR.out.1
  replace HR : Hid (Rd y3 r s n c q1) := HR.out.below b_
  replace HQ : Hid (Blk y3 gq [.int .i64 0, .slice none 0 0]) := HQ.out.below b_
  replace HG : Hid (GtL (r + 1) y3 (.slice t m cap) m) := HG.out.below b_
  replace HS : Hid (Below w.heap.size w y3) := HS.out.trans (b_.mono HS.out.size)
  have HK : Hid (Beside r y3 y3) := Beside.of (Below.refl _ _)
  try rw [← hgt]
  clear hw_ b_ hgt
  go_upto_region 4 with fail
  obtain ⟨y4, hw_⟩ : ∃ z, z = y3.alloc (.cells #[] 2) := ⟨_, rfl⟩
  rw [← hw_]
  have b_ : Below y3.heap.size y3 y4 := by rw [hw_]; exact below0 _ _
  obtain ⟨B, hB⟩ : ∃ z, z = y3.heap.size := ⟨_, rfl⟩
  have HL : Hid (Lst B 2 1 y4 (.slice (some ⟨B, 0, none⟩) 0 0) 0 (fun _ => 0)) := by show Lst _ _ _ _ _ _ _; rw [hw_, hB]; exact Lst.lit y3 _ _ 2 1 _ (Nat.le_refl _)
  have zB : gt < B := by rw [hB]; exact HF.out.1
  have zB3 : y3.heap.size ≤ B := by omega
  have HZ : Hid (B ≤ y4.heap.size) := by show _ ≤ _; rw [hB]; exact b_.size
  replace HR : Hid (Rd y4 r s n c q1) := HR.out.below b_
  replace HQ : Hid (Blk y4 gq [.int .i64 0, .slice none 0 0]) := HQ.out.below b_
  replace HK : Hid (Beside r y3 y4) := HK.out.trans (Beside.of b_)
  replace HF : Hid (Blk y4 gt [.int .i64 x, .slice t m cap]) := HF.out.below b_
  replace HS : Hid (Below w.heap.size w y4) := HS.out.trans (b_.mono HS.out.size)
  try rw [← hB]
  clear hw_ b_ hB
  go_wp2_with fail
  go_loopw [6, 7] (fun v i wx => ∃ (k p5 : Nat) (U : Nat → Int), k ≤ 12 ∧ i = .int .i64 k ∧ Hid (Rd wx r s n c p5) ∧ Hid (Below w.heap.size w wx) ∧ Hid (Blk wx gq [.int .i64 0, .slice none 0 0]) ∧ Hid (Beside r y3 wx) ∧ Hid (Blk wx gt [.int .i64 x, .slice t m cap]) ∧ Hid (B ≤ wx.heap.size) ∧ Hid (Lst B 2 1 wx v k U)) (fun _ i _ => 12 - (intOf i).toNat)
  case atStart => exact ⟨0, q1, _, by omega, rfl, HR, HS, HQ, HK, HF, HZ, HL⟩
  case round =>
    clear HR HS HQ HK HF HZ HL
    obtain ⟨k, p5, U, hk, rfl, HR, HS, HQ, HK, HF, HZ, HL⟩ := hrel
    rename World => wa
    obtain ⟨tv, cv, ev⟩ := HL.out.form
    subst ev
    have f0 := HF.out.2.2 0 _ rfl
    have f1 := HF.out.2.2 1 _ rfl
    have fz := HF.out.1
    rcases (show ((k : Int) < x ∧ (k : Int) < 12) ∨ (decide ((k : Int) < x) = true ∧ decide ((k : Int) < 12) = false) ∨ decide ((k : Int) < x) = false from by
      by_cases e : (k : Int) < x
      · by_cases e2 : (k : Int) < 12
        · exact Or.inl ⟨e, e2⟩
        · exact Or.inr (Or.inl ⟨decide_eq_true e, decide_eq_false e2⟩)
      · exact Or.inr (Or.inr (decide_eq_false e))) with ⟨c1, c2⟩ | ⟨c1, c2⟩ | c1
    case inl =>
      have zz5 : B ≤ wa.heap.size := HZ.out
      go_upto_region 7 with fail
      clear f0 f1 fz
      go_wp2_with fail
      refine (near_any 0 8 (by omega) (by omega) (by omega) HR).mono ?_
      rintro e u2 ⟨nx, q5, rfl, n0, n8, R_, b_⟩
      have zr_ : r < wa.heap.size := HR.out.1
      replace HS : Hid (Below w.heap.size w u2) := HS.out.trans (b_.below zwr HS.out.size)
      replace HQ : Hid (Blk u2 gq [.int .i64 0, .slice none 0 0]) := HQ.out.beside b_ (by omega)
      replace HK : Hid (Beside r y3 u2) := HK.out.trans b_
      replace HF : Hid (Blk u2 gt [.int .i64 x, .slice t m cap]) := HF.out.beside b_ (by omega)
      replace HZ : Hid (B ≤ u2.heap.size) := Nat.le_trans HZ.out b_.2.2.2.1
      replace HL : Hid (Lst B 2 1 u2 (.slice tv k cv) k U) := HL.out.beside b_ (by omega)
      replace HR : Hid (Rd u2 r s n c q5) := R_
      clear R_ b_ zr_
      have zz_ : B ≤ u2.heap.size := HZ.out
      go_wp2_with (at_builtin; refine list_i64L B (.slice tv k cv) k U (.tmp 23) (.tmp 26) (by rfl) (by rfl) (by rfl) (by rfl) HL.out (by omega) (by omega) ?_; intro g9 cap9 w9 l9 b9)
      have zq9 := HGQ.out
      have HR9 : Hid (Rd w9 r s n c q5) := Rd.below' HR.out (b9.mono (by omega))
      have HS9 : Hid (Below w.heap.size w w9) := HS.out.trans (b9.mono (by omega))
      have HQ9 : Hid (Blk w9 gq [.int .i64 0, .slice none 0 0]) := HQ.out.belowB b9 (by omega)
      have HF9 : Hid (Blk w9 gt [.int .i64 x, .slice t m cap]) := HF.out.belowB b9 (by omega)
      have HK9 : Hid (Beside r y3 w9) := HK.out.onB (b9.mono zB3)
      have HZ9 : Hid (B ≤ w9.heap.size) := Nat.le_trans HZ.out b9.size
      have HL9 : Hid (Lst B 2 1 w9 (.slice (some ⟨g9, 0, none⟩) (k + 1) cap9) (k + 1) (putL U 1 k [nx])) := l9
      go_roundw
      case rel => exact ⟨k + 1, q5, _, by omega, by go_num, HR9, HS9, HQ9, HK9, HF9, HZ9, HL9⟩
      case measure => first | (simp [intOf]; done) | (simp [intOf]; omega)
    all_goals
      go_upto_region 8 with fail
      clear f0 f1 fz
      by_cases k0 : 0 < k
      case neg =>
        obtain rfl : k = 0 := by omega
        clear c1
        skip
        go_wp2_with fail
        refine (once_any 24 (by omega) (by omega) HR).mono ?_
        rintro e u3 ⟨b, q6, rfl, R_, b_⟩
        have zr_ : r < wa.heap.size := HR.out.1
        replace HS : Hid (Below w.heap.size w u3) := HS.out.trans (b_.below zwr HS.out.size)
        replace HQ : Hid (Blk u3 gq [.int .i64 0, .slice none 0 0]) := HQ.out.beside b_ (by omega)
        replace HK : Hid (Beside r y3 u3) := HK.out.trans b_
        replace HF : Hid (Blk u3 gt [.int .i64 x, .slice t m cap]) := HF.out.beside b_ (by omega)
        replace HZ : Hid (B ≤ u3.heap.size) := Nat.le_trans HZ.out b_.2.2.2.1
        replace HL : Hid (Lst B 2 1 u3 (.slice tv 0 cv) 0 U) := HL.out.beside b_ (by omega)
        replace HR : Hid (Rd u3 r s n c q6) := R_
        clear R_ b_ zr_
        have HG9_ : GtL (r + 1) u3 (.slice t m cap) m := HG.out.beside HK.out (by omega)
        cases b
        all_goals
          have HG9 : Hid (GtL (r + 1) u3 (.slice t m cap) m) := HG9_
          have f0 := HF.out.2.2 0 _ rfl
          have f1 := HF.out.2.2 1 _ rfl
          have fz := HF.out.1
          have e0 := HQ.out.2.2 0 _ rfl
          have e1 := HQ.out.2.2 1 _ rfl
          have ef0 := HQ.out.2.1 0
          have ef1 := HQ.out.2.1 1
          have ez := HQ.out.1
          have n_ : gt ≠ gq := by omega
          have zq9 := HGQ.out
          have hst := store_slT
          have hGB : ∀ W2, Beside gq u3 W2 → (∃ X K V, RowGat W2 t m X K V) ∧ RowI W2 tv 0 U := fun W2 hb => ⟨(by obtain ⟨X, K, V, hrow, _⟩ := (HG9.out.beside hb (by omega)).row; exact ⟨X, K, V, hrow⟩), (by obtain ⟨t', c', e', hO⟩ := Lst.own (HL.out.beside hb (by omega)); cases e'; rw [Nat.mul_one] at hO; exact hO.row)⟩
          have BS := HS.out
          go_wp2
          refine bodyPost_ret (v := .tuple #[.agg #[.int .i64 x, .slice t m cap], .slice tv 0 cv]) (by simp [results, Try.results20, go_sem, f0, f1, e0, e1, n_, n_.symm]) rfl ?_
          obtain ⟨⟨X, K, V, hrow⟩, hll⟩ := hGB _ ((Beside.setCell gq _ 0 _).trans (Beside.setCell gq _ 1 _))
          exact ⟨x, t, m, cap, X, K, V, tv, 0, cv, _, rfl, by omega, hrow, hll, BS.trans (show Below w.heap.size u3 _ from (by repeat (first | with_reducible exact Below.refl _ _ | with_reducible refine Below.setCell ?_ (by first | omega | (simp; done) | (simp; omega)) _ | with_reducible refine bDrewN ?_ _ | with_reducible refine Below.drew ?_ | with_reducible refine Below.alloc ?_ (by first | omega | (simp; done) | (simp; omega)) _)))⟩
      case pos =>
        have k0i : (0 : Int) < (k : Int) := by omega
        clear c1
        go_wp2_with fail
        refine (once_any 24 (by omega) (by omega) HR).mono ?_
        rintro e u3 ⟨b, q6, rfl, R_, b_⟩
        have zr_ : r < wa.heap.size := HR.out.1
        replace HS : Hid (Below w.heap.size w u3) := HS.out.trans (b_.below zwr HS.out.size)
        replace HQ : Hid (Blk u3 gq [.int .i64 0, .slice none 0 0]) := HQ.out.beside b_ (by omega)
        replace HK : Hid (Beside r y3 u3) := HK.out.trans b_
        replace HF : Hid (Blk u3 gt [.int .i64 x, .slice t m cap]) := HF.out.beside b_ (by omega)
        replace HZ : Hid (B ≤ u3.heap.size) := Nat.le_trans HZ.out b_.2.2.2.1
        replace HL : Hid (Lst B 2 1 u3 (.slice tv k cv) k U) := HL.out.beside b_ (by omega)
        replace HR : Hid (Rd u3 r s n c q6) := R_
        clear R_ b_ zr_
        cases b
        case false =>
          have HG9_ : GtL (r + 1) u3 (.slice t m cap) m := HG.out.beside HK.out (by omega)
          have HG9 : Hid (GtL (r + 1) u3 (.slice t m cap) m) := HG9_
          have f0 := HF.out.2.2 0 _ rfl
          have f1 := HF.out.2.2 1 _ rfl
          have fz := HF.out.1
          have e0 := HQ.out.2.2 0 _ rfl
          have e1 := HQ.out.2.2 1 _ rfl
          have ef0 := HQ.out.2.1 0
          have ef1 := HQ.out.2.1 1
          have ez := HQ.out.1
          have n_ : gt ≠ gq := by omega
          have zq9 := HGQ.out
          have hst := store_slT
          have hGB : ∀ W2, Beside gq u3 W2 → (∃ X K V, RowGat W2 t m X K V) ∧ RowI W2 tv k U := fun W2 hb => ⟨(by obtain ⟨X, K, V, hrow, _⟩ := (HG9.out.beside hb (by omega)).row; exact ⟨X, K, V, hrow⟩), (by obtain ⟨t', c', e', hO⟩ := Lst.own (HL.out.beside hb (by omega)); cases e'; rw [Nat.mul_one] at hO; exact hO.row)⟩
          have BS := HS.out
          go_wp2
          refine bodyPost_ret (v := .tuple #[.agg #[.int .i64 x, .slice t m cap], .slice tv k cv]) (by simp [results, Try.results20, go_sem, f0, f1, e0, e1, n_, n_.symm]) rfl ?_
          obtain ⟨⟨X, K, V, hrow⟩, hll⟩ := hGB _ ((Beside.setCell gq _ 0 _).trans (Beside.setCell gq _ 1 _))
          exact ⟨x, t, m, cap, X, K, V, tv, k, cv, _, rfl, by omega, hrow, hll, BS.trans (show Below w.heap.size u3 _ from (by repeat (first | with_reducible exact Below.refl _ _ | with_reducible refine Below.setCell ?_ (by first | omega | (simp; done) | (simp; omega)) _ | with_reducible refine bDrewN ?_ _ | with_reducible refine Below.drew ?_ | with_reducible refine Below.alloc ?_ (by first | omega | (simp; done) | (simp; omega)) _)))⟩
        case true =>
          go_upto_region 9 with fail
          go_wp2_with fail
          refine (off_any 0 8 (by omega) (by omega) (by omega) HR).mono ?_
          rintro e u4 ⟨nx, q7, rfl, nwf, R_, b_⟩
          have zr_ : r < u3.heap.size := HR.out.1
          replace HS : Hid (Below w.heap.size w u4) := HS.out.trans (b_.below zwr HS.out.size)
          replace HQ : Hid (Blk u4 gq [.int .i64 0, .slice none 0 0]) := HQ.out.beside b_ (by omega)
          replace HK : Hid (Beside r y3 u4) := HK.out.trans b_
          replace HF : Hid (Blk u4 gt [.int .i64 x, .slice t m cap]) := HF.out.beside b_ (by omega)
          replace HZ : Hid (B ≤ u4.heap.size) := Nat.le_trans HZ.out b_.2.2.2.1
          replace HL : Hid (Lst B 2 1 u4 (.slice tv k cv) k U) := HL.out.beside b_ (by omega)
          replace HR : Hid (Rd u4 r s n c q7) := R_
          clear R_ b_ zr_
          obtain ⟨g4, e4, zg4, sg4, cg4, fg4⟩ : ∃ g4, tv = some ⟨g4, 0, none⟩ ∧ B ≤ g4 ∧ g4 < u4.heap.size ∧ u4.cell? ⟨g4, 0, none⟩ = some (.int .i64 (U 0)) ∧ u4.frozen? ⟨g4, 0, none⟩ = false := by
            obtain ⟨t', c', e', hO⟩ := Lst.own HL.out
            cases e'
            obtain ⟨b_, e_, h1, h2, h3, h4⟩ := hO 0 (by omega)
            exact ⟨b_, e_, h1, h2, h3, h4⟩
          subst e4
          have k0i : (0 : Int) < (k : Int) := by omega
          go_upto_region 10 with fail
          obtain ⟨u5, hu5⟩ : ∃ z, z = u4.setCell ⟨g4, 0, none⟩ (.int .i64 nx) := ⟨_, rfl⟩
          rw [← hu5]
          have bs_ : Beside g4 u4 u5 := by rw [hu5]; exact Beside.setCell g4 _ 0 _
          have zq9 := HGQ.out
          replace HS : Hid (Below w.heap.size w u5) := HS.out.trans (bs_.below (by omega) HS.out.size)
          replace HQ : Hid (Blk u5 gq [.int .i64 0, .slice none 0 0]) := HQ.out.beside bs_ (by omega)
          replace HF : Hid (Blk u5 gt [.int .i64 x, .slice t m cap]) := HF.out.beside bs_ (by omega)
          have HL5 : Hid (Lst B 2 1 u5 (.slice (some ⟨g4, 0, none⟩) k cv) k (fun j => if j = 0 then nx else U j)) := by show Lst _ _ _ _ _ _ _; rw [hu5]; exact HL.out.putC 0 nx k0
          have HG9_ : GtL (r + 1) u5 (.slice t m cap) m := HG.out.beside (HK.out.onB (bs_.below (show y3.heap.size ≤ g4 by omega) HK.out.2.2.2.1)) (by omega)
          clear HL hu5 bs_ zg4 sg4 cg4 fg4
          have HL := HL5
          have HG9 : Hid (GtL (r + 1) u5 (.slice t m cap) m) := HG9_
          have f0 := HF.out.2.2 0 _ rfl
          have f1 := HF.out.2.2 1 _ rfl
          have fz := HF.out.1
          have e0 := HQ.out.2.2 0 _ rfl
          have e1 := HQ.out.2.2 1 _ rfl
          have ef0 := HQ.out.2.1 0
          have ef1 := HQ.out.2.1 1
          have ez := HQ.out.1
          have n_ : gt ≠ gq := by omega
          have zq9 := HGQ.out
          have hst := store_slT
          have hGB : ∀ W2, Beside gq u5 W2 → (∃ X K V, RowGat W2 t m X K V) ∧ RowI W2 (some ⟨g4, 0, none⟩) k (fun j => if j = 0 then nx else U j) := fun W2 hb => ⟨(by obtain ⟨X, K, V, hrow, _⟩ := (HG9.out.beside hb (by omega)).row; exact ⟨X, K, V, hrow⟩), (by obtain ⟨t', c', e', hO⟩ := Lst.own (HL.out.beside hb (by omega)); cases e'; rw [Nat.mul_one] at hO; exact hO.row)⟩
          have BS := HS.out
          go_wp2
          refine bodyPost_ret (v := .tuple #[.agg #[.int .i64 x, .slice t m cap], .slice (some ⟨g4, 0, none⟩) k cv]) (by simp [results, Try.results20, go_sem, f0, f1, e0, e1, n_, n_.symm]) rfl ?_
          obtain ⟨⟨X, K, V, hrow⟩, hll⟩ := hGB _ ((Beside.setCell gq _ 0 _).trans (Beside.setCell gq _ 1 _))
          exact ⟨x, t, m, cap, X, K, V, some ⟨g4, 0, none⟩, k, cv, _, rfl, by omega, hrow, hll, BS.trans (show Below w.heap.size u5 _ from (by repeat (first | with_reducible exact Below.refl _ _ | with_reducible refine Below.setCell ?_ (by first | omega | (simp; done) | (simp; omega)) _ | with_reducible refine bDrewN ?_ _ | with_reducible refine Below.drew ?_ | with_reducible refine Below.alloc ?_ (by first | omega | (simp; done) | (simp; omega)) _)))⟩
end Go.Proofs.Ytpaiajeigdifcaa
