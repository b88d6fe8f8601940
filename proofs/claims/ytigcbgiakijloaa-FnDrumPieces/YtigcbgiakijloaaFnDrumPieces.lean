/-
What is proved: a run of acts on a drum, both drawn from every code, comes in two pieces to the same drum as in one; no condition.
-/
import Derived.Test.YtigcbgiakijloaaDmR
import Derived.Test.YtigcbgiakijloaaDmV
import Derived.Test.YtigcbgiakijloaaRunS
import Derived.Test.YtigcbgiakijloaaRunI
import Derived.Test.YtigcbgiakijloaaOpen8
import Derived.Deep.DeepCutAuto
import Derived.Deep.QuietTactic
namespace Go.Proofs.Ytigcbgiakijloaa
set_option maxRecDepth 40000
open Go.ChangeShapes Go.WideShapes Go.ChangeAt Go.RowKit
set_option linter.unusedVariables false
set_option linter.unusedSimpArgs false

theorem row_from {w : World} {b o k m : Nat} {V : Nat → Int} (h : RowI w (some ⟨b, o, none⟩) (m * 3) V) (hk : k ≤ m) : RowI w (some ⟨b, o + k * 3, none⟩) ((m - k) * 3) (fun i => V (k * 3 + i)) := fun j hj => by
  obtain ⟨b', o', e, hl, hc⟩ := h (k * 3 + j) (by omega)
  cases e
  exact ⟨b, o + k * 3, rfl, hl, by rw [← hc]; congr 2; omega⟩
theorem row_first {w : World} {s : Option Addr} {k m : Nat} {V : Nat → Int} (h : RowI w s (m * 3) V) (hk : k ≤ m) : RowI w s (k * 3) V := fun j hj => h j (by omega)
theorem keepP7 {W W' : World} {p : Nat} {a0 a1 a2 a3 a4 a5 a6 : Value} (h : Blk W p [a0, a1, a2, a3, a4, a5, a6]) (hb : Below W.heap.size W W') : W'.cell? ⟨p, 0, none⟩ = some a0 ∧ W'.cell? ⟨p, 1, none⟩ = some a1 ∧ W'.cell? ⟨p, 2, none⟩ = some a2 ∧ W'.cell? ⟨p, 3, none⟩ = some a3 ∧ W'.cell? ⟨p, 4, none⟩ = some a4 ∧ W'.cell? ⟨p, 5, none⟩ = some a5 ∧ W'.cell? ⟨p, 6, none⟩ = some a6 :=
  have q := h.below hb
  ⟨q.2.2 0 _ rfl, q.2.2 1 _ rfl, q.2.2 2 _ rfl, q.2.2 3 _ rfl, q.2.2 4 _ rfl, q.2.2 5 _ rfl, q.2.2 6 _ rfl⟩
theorem keepQ7 {W W' : World} {p : Nat} {a0 a1 a2 a3 a4 a5 a6 : Value} (h0 : W.cell? ⟨p, 0, none⟩ = some a0) (h1 : W.cell? ⟨p, 1, none⟩ = some a1) (h2 : W.cell? ⟨p, 2, none⟩ = some a2) (h3 : W.cell? ⟨p, 3, none⟩ = some a3) (h4 : W.cell? ⟨p, 4, none⟩ = some a4) (h5 : W.cell? ⟨p, 5, none⟩ = some a5) (h6 : W.cell? ⟨p, 6, none⟩ = some a6) (hp : p < W.heap.size) (hb : Below W.heap.size W W') : W'.cell? ⟨p, 0, none⟩ = some a0 ∧ W'.cell? ⟨p, 1, none⟩ = some a1 ∧ W'.cell? ⟨p, 2, none⟩ = some a2 ∧ W'.cell? ⟨p, 3, none⟩ = some a3 ∧ W'.cell? ⟨p, 4, none⟩ = some a4 ∧ W'.cell? ⟨p, 5, none⟩ = some a5 ∧ W'.cell? ⟨p, 6, none⟩ = some a6 :=
  ⟨(hb.cell (p := ⟨p, 0, none⟩) hp).trans h0, (hb.cell (p := ⟨p, 1, none⟩) hp).trans h1, (hb.cell (p := ⟨p, 2, none⟩) hp).trans h2, (hb.cell (p := ⟨p, 3, none⟩) hp).trans h3, (hb.cell (p := ⟨p, 4, none⟩) hp).trans h4, (hb.cell (p := ⟨p, 5, none⟩) hp).trans h5, (hb.cell (p := ⟨p, 6, none⟩) hp).trans h6⟩
set_option maxHeartbeats 400000 in
theorem dmp_far (w : World) (s : Option Addr) (n c : Nat) (h : (1048576 : Int) < n) :
    Calls Try.prog 3 #[.slice s n c] w fun e w' => e = .returned (.bool true) ∧ Below w.heap.size w w' := by
  go_enter Try.func3, Try.ntmps3
  go_wp2_with fail
  refine (big_yes _ _ _ _ h).mono ?_
  rintro e w1 ⟨rfl, rfl⟩
  go_wp2
  go_ret
  exact ⟨rfl, Below.refl _ _⟩
set_option maxRecDepth 20000 in
set_option maxHeartbeats 16000000 in
theorem dmp_near (w : World) (s : Option Addr) (n c : Nat) (h : (n : Int) ≤ 1048576) (HC : Hid (Code8 w s n)) :
    Calls Try.prog 3 #[.slice s n c] w fun e w' => e = .returned (.bool true) ∧ Below w.heap.size w w' := by
  go_enter Try.func3, Try.ntmps3
  go_wp2_with fail
  refine (big_no _ _ _ _ h).mono ?_
  rintro e w1 ⟨rfl, rfl⟩
  go_wp2_with fail
  refine (drawDrumRun_any HC).mono ?_
  rintro e w2 ⟨x0, x1, x2, x3, x4, x5, x6, t, m, cap, U, rfl, hm1, hm, hc, RV, B2⟩
  obtain ⟨tb, tq, rfl, -, -⟩ := RV 0 (by omega)
  have HV : Hid (RowI w2 (some ⟨tb, tq, none⟩) (m * 3) U) := RV
  have HB : Hid (Below w1.heap.size w1 w2) := B2
  clear RV B2 HC
  go_upto_region 4 with fail
  obtain ⟨w3, hw_⟩ : ∃ x_, x_ = w2.alloc (.cells #[.int .i64 x0, .int .i64 x1, .int .i64 x2, .int .i64 x3, .int .i64 x4, .int .i64 x5, .int .i64 x6] 25) := ⟨_, rfl⟩
  rw [← hw_]
  have Hd : Hid (Blk w3 w2.heap.size [.int .i64 x0, .int .i64 x1, .int .i64 x2, .int .i64 x3, .int .i64 x4, .int .i64 x5, .int .i64 x6]) := by show Blk _ _ _; rw [hw_]; exact Blk.new w2 #[.int .i64 x0, .int .i64 x1, .int .i64 x2, .int .i64 x3, .int .i64 x4, .int .i64 x5, .int .i64 x6] _
  have bl_ : Below w2.heap.size w2 w3 := by rw [hw_]; exact below0 _ _
  clear hw_
  replace HV : Hid (RowI w3 (some ⟨tb, tq, none⟩) (m * 3) U) := HV.out.below bl_
  replace HB : Hid (Below w1.heap.size w1 w3) := HB.out.trans (bl_.mono HB.out.size)
  obtain ⟨gd, hg_⟩ : ∃ g, g = w2.heap.size := ⟨_, rfl⟩
  rw [← hg_] at Hd ⊢
  clear hg_ bl_
  obtain ⟨z_d, f_d, c_d⟩ := Hd.out
  have dc0 : w3.cell? ⟨gd, 0, none⟩ = some (.int .i64 x0) := c_d 0 _ rfl
  have dc1 : w3.cell? ⟨gd, 1, none⟩ = some (.int .i64 x1) := c_d 1 _ rfl
  have dc2 : w3.cell? ⟨gd, 2, none⟩ = some (.int .i64 x2) := c_d 2 _ rfl
  have dc3 : w3.cell? ⟨gd, 3, none⟩ = some (.int .i64 x3) := c_d 3 _ rfl
  have dc4 : w3.cell? ⟨gd, 4, none⟩ = some (.int .i64 x4) := c_d 4 _ rfl
  have dc5 : w3.cell? ⟨gd, 5, none⟩ = some (.int .i64 x5) := c_d 5 _ rfl
  have dc6 : w3.cell? ⟨gd, 6, none⟩ = some (.int .i64 x6) := c_d 6 _ rfl
  clear f_d c_d
  go_wp2_with fail
  refine (specDrumRun_any x0 x1 x2 x3 x4 x5 x6 (some ⟨tb, tq, none⟩) m cap U _ HV.out).mono ?_
  rintro e w4 ⟨⟨v, hv, rfl⟩, h4⟩
  clear dc0 dc1 dc2 dc3 dc4 dc5 dc6 z_d
  replace Hd : Hid (Blk w4 gd [.int .i64 x0, .int .i64 x1, .int .i64 x2, .int .i64 x3, .int .i64 x4, .int .i64 x5, .int .i64 x6]) := Hd.out.below h4
  replace HV : Hid (RowI w4 (some ⟨tb, tq, none⟩) (m * 3) U) := HV.out.below h4
  replace HB : Hid (Below w1.heap.size w1 w4) := HB.out.trans (h4.mono HB.out.size)
  clear h4
  have hm2 : (m : Int) ≤ 501 := by omega
  rcases run_full hv with ⟨⟨y0, y1, y2, y3, y4, y5, y6⟩, cc, rfl, c1, c2⟩ | hF
  · have BF := HB.out
    have sBF := BF.size
    unfold valT
    go_wp2
    go_ret
    exact ⟨rfl, (by repeat (first | with_reducible exact Below.refl _ _ | with_reducible exact BF | with_reducible refine Below.setCell ?_ (by first | omega | (simp; done) | (simp; omega)) _ | with_reducible refine bDrewN ?_ _ | with_reducible refine Below.drew ?_ | with_reducible refine Below.alloc ?_ (by first | omega | (simp; done) | (simp; omega)) _))⟩
  obtain ⟨k, hk⟩ : ∃ k : Nat, (n : Int) % ((m : Int) + 1) = k := ⟨((n : Int) % ((m : Int) + 1)).toNat, by have := Int.emod_nonneg (n : Int) (show (m : Int) + 1 ≠ 0 by omega); omega⟩
  have hkm : k ≤ m := by
    have := Int.emod_lt_of_pos (n : Int) (show (0 : Int) < (m : Int) + 1 by omega)
    omega
  obtain ⟨⟨y0, y1, y2, y3, y4, y5, y6⟩, hy⟩ : ∃ y, runT (x0, x1, x2, x3, x4, x5, x6) U m = y := ⟨_, rfl⟩
  obtain ⟨⟨z0, z1, z2, z3, z4, z5, z6⟩, hz⟩ : ∃ y, runT (x0, x1, x2, x3, x4, x5, x6) U k = y := ⟨_, rfl⟩
  have ev := hF.value hv
  rw [hy] at ev
  subst ev
  unfold valT
  have I1 : Hid (∀ w, RowI w (some ⟨tb, tq, none⟩) (m * 3) U → Calls Try.prog 11 #[.agg #[.int .i64 x0, .int .i64 x1, .int .i64 x2, .int .i64 x3, .int .i64 x4, .int .i64 x5, .int .i64 x6], .slice (some ⟨tb, tq, none⟩) m cap] w fun e w' => e = .returned (.tuple #[.agg #[.int .i64 y0, .int .i64 y1, .int .i64 y2, .int .i64 y3, .int .i64 y4, .int .i64 y5, .int .i64 y6], .int .i64 (m : Int)]) ∧ Below w.heap.size w w') := fun w q => (implDrumRun_any x0 x1 x2 x3 x4 x5 x6 (some ⟨tb, tq, none⟩) m cap U w q).mono fun e w' ⟨⟨v, hv, e1⟩, hb⟩ => ⟨by rw [e1, hF.value hv, hy]; rfl, hb⟩
  have I2 : Hid (∀ w c', RowI w (some ⟨tb, tq, none⟩) (m * 3) U → Calls Try.prog 11 #[.agg #[.int .i64 x0, .int .i64 x1, .int .i64 x2, .int .i64 x3, .int .i64 x4, .int .i64 x5, .int .i64 x6], .slice (some ⟨tb, tq, none⟩) k c'] w fun e w' => e = .returned (.tuple #[.agg #[.int .i64 z0, .int .i64 z1, .int .i64 z2, .int .i64 z3, .int .i64 z4, .int .i64 z5, .int .i64 z6], .int .i64 (k : Int)]) ∧ Below w.heap.size w w') := fun w c' q => (implDrumRun_any x0 x1 x2 x3 x4 x5 x6 (some ⟨tb, tq, none⟩) k c' U w (row_first q hkm)).mono fun e w' ⟨⟨v, hv, e1⟩, hb⟩ => ⟨by rw [e1, (hF.first hkm).value hv, hz]; rfl, hb⟩
  have I3 : Hid (∀ w t' c', RowI w t' ((m - k) * 3) (fun i => U (k * 3 + i)) → Calls Try.prog 11 #[.agg #[.int .i64 z0, .int .i64 z1, .int .i64 z2, .int .i64 z3, .int .i64 z4, .int .i64 z5, .int .i64 z6], .slice t' (m - k) c'] w fun e w' => e = .returned (.tuple #[.agg #[.int .i64 y0, .int .i64 y1, .int .i64 y2, .int .i64 y3, .int .i64 y4, .int .i64 y5, .int .i64 y6], .int .i64 ((m : Int) - (k : Int))]) ∧ Below w.heap.size w w') := fun w t' c' q => (implDrumRun_any z0 z1 z2 z3 z4 z5 z6 t' (m - k) c' (fun i => U (k * 3 + i)) w q).mono fun e w' ⟨⟨v, hv, e1⟩, hb⟩ => ⟨by
    have f := hF.last hkm
    rw [hz] at f
    have e2 := f.value hv
    have sh := run_shift (x0, x1, x2, x3, x4, x5, x6) U k (m - k)
    rw [hz, show k + (m - k) = m by omega, hy] at sh
    rw [sh] at e2
    rw [e1, e2, show ((m - k : Nat) : Int) = (m : Int) - (k : Int) by omega]; rfl, hb⟩
  clear hv hF hy hz
  go_upto_region 5 with fail
  obtain ⟨w5, hw_⟩ : ∃ x_, x_ = w4.alloc (.cells #[.int .i64 y0, .int .i64 y1, .int .i64 y2, .int .i64 y3, .int .i64 y4, .int .i64 y5, .int .i64 y6] 25) := ⟨_, rfl⟩
  rw [← hw_]
  have Hs : Hid (Blk w5 w4.heap.size [.int .i64 y0, .int .i64 y1, .int .i64 y2, .int .i64 y3, .int .i64 y4, .int .i64 y5, .int .i64 y6]) := by show Blk _ _ _; rw [hw_]; exact Blk.new w4 #[.int .i64 y0, .int .i64 y1, .int .i64 y2, .int .i64 y3, .int .i64 y4, .int .i64 y5, .int .i64 y6] _
  have bl_ : Below w4.heap.size w4 w5 := by rw [hw_]; exact below0 _ _
  clear hw_
  replace Hd : Hid (Blk w5 gd [.int .i64 x0, .int .i64 x1, .int .i64 x2, .int .i64 x3, .int .i64 x4, .int .i64 x5, .int .i64 x6]) := Hd.out.below bl_
  replace HV : Hid (RowI w5 (some ⟨tb, tq, none⟩) (m * 3) U) := HV.out.below bl_
  replace HB : Hid (Below w1.heap.size w1 w5) := HB.out.trans (bl_.mono HB.out.size)
  obtain ⟨gs, hg_⟩ : ∃ g, g = w4.heap.size := ⟨_, rfl⟩
  rw [← hg_] at Hs ⊢
  clear hg_ bl_
  obtain ⟨z_d, f_d, c_d⟩ := Hd.out
  have dc0 : w5.cell? ⟨gd, 0, none⟩ = some (.int .i64 x0) := c_d 0 _ rfl
  have dc1 : w5.cell? ⟨gd, 1, none⟩ = some (.int .i64 x1) := c_d 1 _ rfl
  have dc2 : w5.cell? ⟨gd, 2, none⟩ = some (.int .i64 x2) := c_d 2 _ rfl
  have dc3 : w5.cell? ⟨gd, 3, none⟩ = some (.int .i64 x3) := c_d 3 _ rfl
  have dc4 : w5.cell? ⟨gd, 4, none⟩ = some (.int .i64 x4) := c_d 4 _ rfl
  have dc5 : w5.cell? ⟨gd, 5, none⟩ = some (.int .i64 x5) := c_d 5 _ rfl
  have dc6 : w5.cell? ⟨gd, 6, none⟩ = some (.int .i64 x6) := c_d 6 _ rfl
  clear f_d c_d
  have nn : ¬ ((m : Int) < m) := by omega
  have mp : (m : Int) + 1 ≠ 0 := by omega
  go_upto_region 8 with fail
  clear nn mp
  go_wp2_with fail
  refine (I1.out _ HV.out).mono ?_
  rintro e w6 ⟨rfl, h6⟩
  clear dc0 dc1 dc2 dc3 dc4 dc5 dc6 z_d
  replace Hd : Hid (Blk w6 gd [.int .i64 x0, .int .i64 x1, .int .i64 x2, .int .i64 x3, .int .i64 x4, .int .i64 x5, .int .i64 x6]) := Hd.out.below h6
  replace Hs : Hid (Blk w6 gs [.int .i64 y0, .int .i64 y1, .int .i64 y2, .int .i64 y3, .int .i64 y4, .int .i64 y5, .int .i64 y6]) := Hs.out.below h6
  replace HV : Hid (RowI w6 (some ⟨tb, tq, none⟩) (m * 3) U) := HV.out.below h6
  replace HB : Hid (Below w1.heap.size w1 w6) := HB.out.trans (h6.mono HB.out.size)
  clear h6 I1
  clear Hs
  go_upto_region 9 with fail
  obtain ⟨w7, hw_⟩ : ∃ x_, x_ = w6.alloc (.cells #[.int .i64 y0, .int .i64 y1, .int .i64 y2, .int .i64 y3, .int .i64 y4, .int .i64 y5, .int .i64 y6] 25) := ⟨_, rfl⟩
  rw [← hw_]
  have Hl : Hid (Blk w7 w6.heap.size [.int .i64 y0, .int .i64 y1, .int .i64 y2, .int .i64 y3, .int .i64 y4, .int .i64 y5, .int .i64 y6]) := by show Blk _ _ _; rw [hw_]; exact Blk.new w6 #[.int .i64 y0, .int .i64 y1, .int .i64 y2, .int .i64 y3, .int .i64 y4, .int .i64 y5, .int .i64 y6] _
  have bl_ : Below w6.heap.size w6 w7 := by rw [hw_]; exact below0 _ _
  clear hw_
  replace Hd : Hid (Blk w7 gd [.int .i64 x0, .int .i64 x1, .int .i64 x2, .int .i64 x3, .int .i64 x4, .int .i64 x5, .int .i64 x6]) := Hd.out.below bl_
  replace HV : Hid (RowI w7 (some ⟨tb, tq, none⟩) (m * 3) U) := HV.out.below bl_
  replace HB : Hid (Below w1.heap.size w1 w7) := HB.out.trans (bl_.mono HB.out.size)
  obtain ⟨gl, hg_⟩ : ∃ g, g = w6.heap.size := ⟨_, rfl⟩
  rw [← hg_] at Hl ⊢
  clear hg_ bl_
  have kc1 : (k : Int) ≤ (cap : Int) := by omega
  have kc0 : (0 : Int) ≤ (k : Int) := by omega
  have zz : gd < w7.heap.size := Hd.out.1
  go_upto_region 9 with fail
  go_cut [10, 11] (fun a b wx => ∃ g : Nat, a = .pointer (some ⟨g, 0, none⟩) ∧ b = .int .i64 k ∧ wx.cell? ⟨g, 0, none⟩ = some (.int .i64 z0) ∧ wx.cell? ⟨g, 1, none⟩ = some (.int .i64 z1) ∧ wx.cell? ⟨g, 2, none⟩ = some (.int .i64 z2) ∧ wx.cell? ⟨g, 3, none⟩ = some (.int .i64 z3) ∧ wx.cell? ⟨g, 4, none⟩ = some (.int .i64 z4) ∧ wx.cell? ⟨g, 5, none⟩ = some (.int .i64 z5) ∧ wx.cell? ⟨g, 6, none⟩ = some (.int .i64 z6) ∧ g < wx.heap.size ∧ w7.heap.size ≤ g ∧ Hid (Below w7.heap.size w7 wx))
  case first =>
    obtain ⟨d0, d1, d2, d3, d4, d5, d6⟩ := keepP7 Hd.out (Below.refl _ _)
    go_region_held3 (fun w' => w'.cell? ⟨gd, 0, none⟩ = some (.int .i64 x0) ∧ w'.cell? ⟨gd, 1, none⟩ = some (.int .i64 x1) ∧ w'.cell? ⟨gd, 2, none⟩ = some (.int .i64 x2) ∧ w'.cell? ⟨gd, 3, none⟩ = some (.int .i64 x3) ∧ w'.cell? ⟨gd, 4, none⟩ = some (.int .i64 x4) ∧ w'.cell? ⟨gd, 5, none⟩ = some (.int .i64 x5) ∧ w'.cell? ⟨gd, 6, none⟩ = some (.int .i64 x6)) (first | (refine keepP7 Hd.out ?_; exact (by repeat (first | with_reducible exact Below.refl _ _ | with_reducible exact BB4 | with_reducible refine Below.setCell ?_ (by first | omega | (simp; done) | (simp; omega)) _ | with_reducible refine bDrewN ?_ _ | with_reducible refine Below.drew ?_ | with_reducible refine Below.alloc ?_ (by first | omega | (simp; done) | (simp; omega)) _)))) (first
      | (go_at_call 11; refine (I2.out _ _ (HV.out.below (by repeat (first | with_reducible exact Below.refl _ _ | with_reducible refine Below.setCell ?_ (by first | omega | (simp; done) | (simp; omega)) _ | with_reducible refine bDrewN ?_ _ | with_reducible refine Below.drew ?_ | with_reducible refine Below.alloc ?_ (by first | omega | (simp; done) | (simp; omega)) _)))).mono ?_; rintro e w4' ⟨rfl, h4⟩; have BB4 : Below w7.heap.size w7 w4' := Below.trans (by repeat (first | with_reducible exact Below.refl _ _ | with_reducible refine Below.setCell ?_ (by first | omega | (simp; done) | (simp; omega)) _ | with_reducible refine bDrewN ?_ _ | with_reducible refine Below.drew ?_ | with_reducible refine Below.alloc ?_ (by first | omega | (simp; done) | (simp; omega)) _)) (h4.mono (by first | omega | (simp; done) | (simp; omega))); have s4 := BB4.size; have s4b := h4.size; (try simp at s4b); (try (have r0 := h4.cell (p := ⟨w7.heap.size, 0, none⟩) (by first | omega | (simp; done) | (simp; omega)); have rf0 := h4.frozen (p := ⟨w7.heap.size, 0, none⟩) (by first | omega | (simp; done) | (simp; omega)); have r1 := h4.cell (p := ⟨w7.heap.size, 1, none⟩) (by first | omega | (simp; done) | (simp; omega)); have rf1 := h4.frozen (p := ⟨w7.heap.size, 1, none⟩) (by first | omega | (simp; done) | (simp; omega)); have r2 := h4.cell (p := ⟨w7.heap.size, 2, none⟩) (by first | omega | (simp; done) | (simp; omega)); have rf2 := h4.frozen (p := ⟨w7.heap.size, 2, none⟩) (by first | omega | (simp; done) | (simp; omega)); have r3 := h4.cell (p := ⟨w7.heap.size, 3, none⟩) (by first | omega | (simp; done) | (simp; omega)); have rf3 := h4.frozen (p := ⟨w7.heap.size, 3, none⟩) (by first | omega | (simp; done) | (simp; omega)); have r4 := h4.cell (p := ⟨w7.heap.size, 4, none⟩) (by first | omega | (simp; done) | (simp; omega)); have rf4 := h4.frozen (p := ⟨w7.heap.size, 4, none⟩) (by first | omega | (simp; done) | (simp; omega)); have r5 := h4.cell (p := ⟨w7.heap.size, 5, none⟩) (by first | omega | (simp; done) | (simp; omega)); have rf5 := h4.frozen (p := ⟨w7.heap.size, 5, none⟩) (by first | omega | (simp; done) | (simp; omega)); have r6 := h4.cell (p := ⟨w7.heap.size, 6, none⟩) (by first | omega | (simp; done) | (simp; omega)); have rf6 := h4.frozen (p := ⟨w7.heap.size, 6, none⟩) (by first | omega | (simp; done) | (simp; omega)); simp (maxDischargeDepth := 12) [go_sem, *] at r0 rf0 r1 rf1 r2 rf2 r3 rf3 r4 rf4 r5 rf5 r6 rf6)); clear h4))
    all_goals
      go_wp2_with fail
      go_meet
      case rel =>
        refine ⟨_, rfl, rfl, ?_, ?_, ?_, ?_, ?_, ?_, ?_, ?_, ?_, (by show Below _ _ _; exact (by repeat (first | with_reducible exact Below.refl _ _ | with_reducible exact BB4 | with_reducible refine Below.setCell ?_ (by first | omega | (simp; done) | (simp; omega)) _ | with_reducible refine bDrewN ?_ _ | with_reducible refine Below.drew ?_ | with_reducible refine Below.alloc ?_ (by first | omega | (simp; done) | (simp; omega)) _)))⟩
        all_goals first | omega | (simp [go_sem, *]; done) | (simp [go_sem, *, Nat.add_assoc]; done) | (simp; omega) | (simp [*]; omega)
  case rest =>
    obtain ⟨gf, rfl, rfl, k0, k1, k2, k3, k4, k5, k6, zg, lg, HX⟩ := hcut
    rename World => w8
    have sX := HX.out.size
    replace Hl : Hid (Blk w8 gl [.int .i64 y0, .int .i64 y1, .int .i64 y2, .int .i64 y3, .int .i64 y4, .int .i64 y5, .int .i64 y6]) := Hl.out.below HX.out
    replace HV : Hid (RowI w8 (some ⟨tb, tq, none⟩) (m * 3) U) := HV.out.below HX.out
    replace HB : Hid (Below w1.heap.size w1 w8) := HB.out.trans (HX.out.mono HB.out.size)
    clear Hd I2 HX
    have wmk : IntKind.i64.wrap ((m : Int) - (k : Int)) = (m : Int) - (k : Int) := by rw [IntKind.wrap_i64]; omega
    go_upto_region 10 with fail
    go_cut [12, 13] (fun a b wx => ∃ g : Nat, a = .pointer (some ⟨g, 0, none⟩) ∧ b = .int .i64 ((m : Int) - (k : Int)) ∧ wx.cell? ⟨g, 0, none⟩ = some (.int .i64 y0) ∧ wx.cell? ⟨g, 1, none⟩ = some (.int .i64 y1) ∧ wx.cell? ⟨g, 2, none⟩ = some (.int .i64 y2) ∧ wx.cell? ⟨g, 3, none⟩ = some (.int .i64 y3) ∧ wx.cell? ⟨g, 4, none⟩ = some (.int .i64 y4) ∧ wx.cell? ⟨g, 5, none⟩ = some (.int .i64 y5) ∧ wx.cell? ⟨g, 6, none⟩ = some (.int .i64 y6) ∧ g < wx.heap.size ∧ Hid (Below w8.heap.size w8 wx))
    case first =>
      obtain ⟨ta, hta⟩ : ∃ ta : Option Addr, (if cap = k then some ⟨tb, tq, none⟩ else some ⟨tb, tq + k * 3, none⟩) = ta := ⟨_, rfl⟩
      have HV2 : Hid (RowI w8 ta ((m - k) * 3) (fun i => U (k * 3 + i))) := by
        show RowI _ _ _ _
        rw [← hta]
        split
        · exact fun j hj => by omega
        · exact row_from HV.out hkm
      go_region_held3 (fun w' => w'.cell? ⟨gf, 0, none⟩ = some (.int .i64 z0) ∧ w'.cell? ⟨gf, 1, none⟩ = some (.int .i64 z1) ∧ w'.cell? ⟨gf, 2, none⟩ = some (.int .i64 z2) ∧ w'.cell? ⟨gf, 3, none⟩ = some (.int .i64 z3) ∧ w'.cell? ⟨gf, 4, none⟩ = some (.int .i64 z4) ∧ w'.cell? ⟨gf, 5, none⟩ = some (.int .i64 z5) ∧ w'.cell? ⟨gf, 6, none⟩ = some (.int .i64 z6)) (first | (refine keepQ7 k0 k1 k2 k3 k4 k5 k6 zg ?_; exact (by repeat (first | with_reducible exact Below.refl _ _ | with_reducible exact BB4 | with_reducible refine Below.setCell ?_ (by first | omega | (simp; done) | (simp; omega)) _ | with_reducible refine bDrewN ?_ _ | with_reducible refine Below.drew ?_ | with_reducible refine Below.alloc ?_ (by first | omega | (simp; done) | (simp; omega)) _)))) (first
        | (go_at_call 11; refine (I3.out _ _ _ (HV2.out.below (by repeat (first | with_reducible exact Below.refl _ _ | with_reducible refine Below.setCell ?_ (by first | omega | (simp; done) | (simp; omega)) _ | with_reducible refine bDrewN ?_ _ | with_reducible refine Below.drew ?_ | with_reducible refine Below.alloc ?_ (by first | omega | (simp; done) | (simp; omega)) _)))).mono ?_; rintro e w4' ⟨rfl, h4⟩; have BB4 : Below w8.heap.size w8 w4' := Below.trans (by repeat (first | with_reducible exact Below.refl _ _ | with_reducible refine Below.setCell ?_ (by first | omega | (simp; done) | (simp; omega)) _ | with_reducible refine bDrewN ?_ _ | with_reducible refine Below.drew ?_ | with_reducible refine Below.alloc ?_ (by first | omega | (simp; done) | (simp; omega)) _)) (h4.mono (by first | omega | (simp; done) | (simp; omega))); have s4 := BB4.size; have s4b := h4.size; (try simp at s4b); (try (have r0 := h4.cell (p := ⟨w8.heap.size, 0, none⟩) (by first | omega | (simp; done) | (simp; omega)); have rf0 := h4.frozen (p := ⟨w8.heap.size, 0, none⟩) (by first | omega | (simp; done) | (simp; omega)); have r1 := h4.cell (p := ⟨w8.heap.size, 1, none⟩) (by first | omega | (simp; done) | (simp; omega)); have rf1 := h4.frozen (p := ⟨w8.heap.size, 1, none⟩) (by first | omega | (simp; done) | (simp; omega)); have r2 := h4.cell (p := ⟨w8.heap.size, 2, none⟩) (by first | omega | (simp; done) | (simp; omega)); have rf2 := h4.frozen (p := ⟨w8.heap.size, 2, none⟩) (by first | omega | (simp; done) | (simp; omega)); have r3 := h4.cell (p := ⟨w8.heap.size, 3, none⟩) (by first | omega | (simp; done) | (simp; omega)); have rf3 := h4.frozen (p := ⟨w8.heap.size, 3, none⟩) (by first | omega | (simp; done) | (simp; omega)); have r4 := h4.cell (p := ⟨w8.heap.size, 4, none⟩) (by first | omega | (simp; done) | (simp; omega)); have rf4 := h4.frozen (p := ⟨w8.heap.size, 4, none⟩) (by first | omega | (simp; done) | (simp; omega)); have r5 := h4.cell (p := ⟨w8.heap.size, 5, none⟩) (by first | omega | (simp; done) | (simp; omega)); have rf5 := h4.frozen (p := ⟨w8.heap.size, 5, none⟩) (by first | omega | (simp; done) | (simp; omega)); have r6 := h4.cell (p := ⟨w8.heap.size, 6, none⟩) (by first | omega | (simp; done) | (simp; omega)); have rf6 := h4.frozen (p := ⟨w8.heap.size, 6, none⟩) (by first | omega | (simp; done) | (simp; omega)); simp (maxDischargeDepth := 12) [go_sem, *] at r0 rf0 r1 rf1 r2 rf2 r3 rf3 r4 rf4 r5 rf5 r6 rf6)); clear h4))
      all_goals
        go_wp2_with fail
        go_meet
        case rel =>
          refine ⟨_, rfl, rfl, ?_, ?_, ?_, ?_, ?_, ?_, ?_, ?_, (by show Below _ _ _; exact (by repeat (first | with_reducible exact Below.refl _ _ | with_reducible exact BB4 | with_reducible refine Below.setCell ?_ (by first | omega | (simp; done) | (simp; omega)) _ | with_reducible refine bDrewN ?_ _ | with_reducible refine Below.drew ?_ | with_reducible refine Below.alloc ?_ (by first | omega | (simp; done) | (simp; omega)) _)))⟩
          all_goals first | omega | (simp [go_sem, *]; done) | (simp [go_sem, *, Nat.add_assoc]; done) | (simp; omega) | (simp [*]; omega)
    case rest =>
      obtain ⟨gq, rfl, rfl, q0, q1, q2, q3, q4, q5, q6, zq, HX⟩ := hcut
      rename World => w9
      replace Hl : Hid (Blk w9 gl [.int .i64 y0, .int .i64 y1, .int .i64 y2, .int .i64 y3, .int .i64 y4, .int .i64 y5, .int .i64 y6]) := Hl.out.below HX.out
      replace HB : Hid (Below w1.heap.size w1 w9) := HB.out.trans (HX.out.mono HB.out.size)
      obtain ⟨l0, l1, l2, l3, l4, l5, l6⟩ := keepP7 Hl.out (Below.refl _ _)
      have BF := HB.out
      clear HX Hl HB HV I3
      go_wp2
      go_ret
      exact ⟨rfl, BF⟩
theorem fnDrumPieces_walk (w : World) (s : Option Addr) (n c : Nat) (hn : n ≤ 9223372036854775807) (R : Bytes w s n) :
    Calls Try.prog 3 #[.slice s n c] w fun e w' => e = .returned (.bool true) ∧ Below w.heap.size w w' := by
  by_cases h : n ≤ 1048576
  · exact dmp_near w s n c (by omega) (R.code h)
  · exact dmp_far w s n c (by omega)

set_option maxRecDepth 100000 in
theorem fnDrumPieces_lifted (os : Os) (started : os.Started) (H : Type) (enc : TypeId × Value → H) :
    ReturnsInHanded {} Try.checked os 3 .any (Rows.fnDrumPiecesSpec.pre6 enc Try.prog Try.f3 Rows.fnDrumPiecesRow.domain false) (Rows.fnDrumPiecesSpec.post enc Try.prog Try.f3 false true false false) := by
  refine returnsInHanded_of_change (C := Try.checked) own started (by kernel_rfl) Try.func3
    (ChangeSpec.witness6 (enc := enc) (C := Try.checked) false ⟨#[], #[.slice none 0 0], []⟩ 8 (by kernel_rfl) (by kernel_rfl) (by kernel_rfl) (by kernel_rfl)) ?_
  intro W base args ds gs before hval0 hW hcnd _
  have hval : ∀ (j : Nat) t v, Try.f3.params[j]? = some t → args[j]? = some v → Value.okWide Try.prog W .any base t v := hval0
  have hW' := hW
  obtain ⟨p, q, hA0, hV, rfl, hfz, hnd⟩ := hW
  have hA : DataW.TrodAll enc Try.prog W 0 (fun _ => true) true Try.f3.params.toList args.toList ds p := hA0
  rw [Try.params3] at hA hval
  obtain ⟨v0, vs0, d0, ds0, p0, q0, hargs, rfl, rfl, h0, r0⟩ := trodAll_cons hA
  obtain ⟨rfl, rfl, rfl⟩ := trodAll_nil r0
  obtain rfl : args = #[v0] := by cases args; simp_all
  obtain ⟨rfl, rfl⟩ := trodVars_none hV
  have k0 := h0
  have lt0 : ∀ x ∈ p0, x.block < W.heap.size := by obtain ⟨m, hm⟩ := k0; exact DataW.trod_lt m _ _ _ hm
  obtain ⟨s0, n0, c0, rfl, m0, R0⟩ := open_code Try.underlying22 Try.underlying5 (by kernel_rfl) (hval 0 22 v0 rfl rfl) h0
  clear hA0 hval0
  refine (fnDrumPieces_walk W s0 n0 c0 m0 R0).mono fun e W' ⟨he, bel⟩ => ?_
  subst he
  exact ⟨_, rfl, _, _, _, [], _, [], hW', trodAll_mk1 (shut_bool Try.underlying4 _), (trodAll_cons_mk (Below.trod laidOut (by kernel_rfl) (of_decide_eq_true (by kernel_rfl)) k0 bel lt0) trodAll_mk0), rfl, bel.frame _, fun h => by cases h⟩

theorem fnDrumPieces_holds : Rows.FnDrumPiecesSaid :=
  OpenClaim.holds_of_wide 3 Try.f3 rfl rfl rfl rfl rfl rfl rfl ⟨rfl, rfl, rfl, rfl, rfl⟩ rfl rfl rfl rfl rfl (by kernel_rfl) Try.func3 (by kernel_rfl)
    (of_decide_eq_true (by kernel_rfl)) (by unfold Func.isWrapper; first | (rw [if_pos (by decide +kernel)]; kernel_rfl) | (rw [if_neg (by decide +kernel)]; exact ⟨rfl, rfl⟩))
    (fun os started H enc _ => fnDrumPieces_lifted os started H enc)
#print axioms fnDrumPieces_holds
end Go.Proofs.Ytigcbgiakijloaa
