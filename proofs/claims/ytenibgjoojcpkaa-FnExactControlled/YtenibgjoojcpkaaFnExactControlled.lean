/-
What is proved: at every drum, right or not, every level and every two lists impl.Controlled answers as the specification's Controlled, leaves the lists alone, and its answer owns its memory; no condition.
-/
import Derived.Test.YtenibgjoojcpkaaCtlS
import Derived.Test.YtenibgjoojcpkaaCtlI
import Derived.Test.YtenibgjoojcpkaaCtlN
import Derived.Test.YtenibgjoojcpkaaOpenI
namespace Go.Proofs.Ytenibgjoojcpkaa
set_option maxRecDepth 40000
open Go.ChangeShapes Go.WideShapes Go.ChangeAt Go.RowKit
set_option linter.unusedVariables false

def At7 (w : World) (p : Nat) (x0 x1 x2 x3 x4 x5 x6 : Int) : Prop := p < w.heap.size ∧ Keep7 p x0 x1 x2 x3 x4 x5 x6 w
theorem At7.low {w w' : World} {p B : Nat} {x0 x1 x2 x3 x4 x5 x6 : Int} (h : At7 w p x0 x1 x2 x3 x4 x5 x6) (hb : Below B w w') (hp : p < B) : At7 w' p x0 x1 x2 x3 x4 x5 x6 := by
  obtain ⟨h1, c0, c1, c2, c3, c4, c5, c6⟩ := h
  exact ⟨Nat.lt_of_lt_of_le h1 hb.size, (hb.cell (p := ⟨p, 0, none⟩) hp).trans c0, (hb.cell (p := ⟨p, 1, none⟩) hp).trans c1, (hb.cell (p := ⟨p, 2, none⟩) hp).trans c2, (hb.cell (p := ⟨p, 3, none⟩) hp).trans c3, (hb.cell (p := ⟨p, 4, none⟩) hp).trans c4, (hb.cell (p := ⟨p, 5, none⟩) hp).trans c5, (hb.cell (p := ⟨p, 6, none⟩) hp).trans c6⟩
theorem At7.below {w w' : World} {p : Nat} {x0 x1 x2 x3 x4 x5 x6 : Int} (h : At7 w p x0 x1 x2 x3 x4 x5 x6) (hb : Below w.heap.size w w') : At7 w' p x0 x1 x2 x3 x4 x5 x6 := h.low hb h.1
theorem At7.beside {w w' : World} {p r : Nat} {x0 x1 x2 x3 x4 x5 x6 : Int} (h : At7 w p x0 x1 x2 x3 x4 x5 x6) (hb : Beside r w w') (hp : p ≠ r) : At7 w' p x0 x1 x2 x3 x4 x5 x6 := by
  obtain ⟨h1, c0, c1, c2, c3, c4, c5, c6⟩ := h
  exact ⟨Nat.lt_of_lt_of_le h1 hb.2.2.2.1, (hb.cell (p := ⟨p, 0, none⟩) h1 hp).trans c0, (hb.cell (p := ⟨p, 1, none⟩) h1 hp).trans c1, (hb.cell (p := ⟨p, 2, none⟩) h1 hp).trans c2, (hb.cell (p := ⟨p, 3, none⟩) h1 hp).trans c3, (hb.cell (p := ⟨p, 4, none⟩) h1 hp).trans c4, (hb.cell (p := ⟨p, 5, none⟩) h1 hp).trans c5, (hb.cell (p := ⟨p, 6, none⟩) h1 hp).trans c6⟩
theorem at7_new {x0 x1 x2 x3 x4 x5 x6 : Int} {w w' : World} {t : TypeId} (hb : Below (w.alloc (.cells #[.int .i64 x0, .int .i64 x1, .int .i64 x2, .int .i64 x3, .int .i64 x4, .int .i64 x5, .int .i64 x6] t)).heap.size (w.alloc (.cells #[.int .i64 x0, .int .i64 x1, .int .i64 x2, .int .i64 x3, .int .i64 x4, .int .i64 x5, .int .i64 x6] t)) w') : At7 w' w.heap.size x0 x1 x2 x3 x4 x5 x6 :=
  ⟨by have := hb.size; simp at this; omega, keep7 hb⟩
theorem toI_b (s : Option Addr) (n c : Nat) (V : Nat → Int) (w : World) (hn : (n : Int) ≤ 1048576) (HR : RowI w s n V) :
    Calls Try.prog 11 #[.slice s n c] w fun e w' => ∃ b, e = .returned (.slice (some ⟨b, 0, none⟩) n n) ∧ w.heap.size ≤ b ∧ b < w'.heap.size ∧ OwnI b w' (some ⟨b, 0, none⟩) n V ∧ Below w.heap.size w w' :=
  (toInt64S_any s n c V w hn HR).mono fun e w' ⟨h1, h2, h3, h4⟩ => ⟨_, h1, Nat.le_refl _, h2, h3, h4⟩
set_option maxRecDepth 20000 in
set_option maxHeartbeats 4000000 in
theorem controlled_near (w : World) (x0 x1 x2 x3 x4 x5 x6 y0 y1 y2 y3 y4 y5 y6 a1 : Int) (s2 : Option Addr) (n2 c2 : Nat) (V2 : Nat → Int) (s3 : Option Addr) (n3 c3 : Nat) (V3 : Nat → Int) (hn2 : (n2 : Int) ≤ 1048576) (hn3 : (n3 : Int) ≤ 1048576) (HR2 : Hid (RowI w s2 n2 V2)) (HR3 : Hid (RowI w s3 n3 V3)) (m : Nat) (U : Nat → Int) (hm : (m : Int) ≤ 1048576) (r : Bool)
    (H1 : Hid (∀ s2 c2 s3 c3 w, RowI w s2 n2 V2 → RowI w s3 n3 V3 → Calls Try.prog 9 #[.agg #[.int .i64 x0, .int .i64 x1, .int .i64 x2, .int .i64 x3, .int .i64 x4, .int .i64 x5, .int .i64 x6], .int .i64 a1, .slice s2 n2 c2, .slice s3 n3 c3] w fun e w' => ∃ s' c', e = .returned (.tuple #[.slice s' m c', .agg #[.int .i64 y0, .int .i64 y1, .int .i64 y2, .int .i64 y3, .int .i64 y4, .int .i64 y5, .int .i64 y6], .bool r]) ∧ OwnI w.heap.size w' s' m U ∧ Below w.heap.size w w'))
    (H2 : Hid (∀ s2 c2 s3 c3 w, RowI w s2 n2 V2 → RowI w s3 n3 V3 → Calls Try.prog 12 #[.agg #[.int .i64 x0, .int .i64 x1, .int .i64 x2, .int .i64 x3, .int .i64 x4, .int .i64 x5, .int .i64 x6], .int .i64 a1, .slice s2 n2 c2, .slice s3 n3 c3] w fun e w' => ∃ s' c', e = .returned (.tuple #[.slice s' m c', .agg #[.int .i64 y0, .int .i64 y1, .int .i64 y2, .int .i64 y3, .int .i64 y4, .int .i64 y5, .int .i64 y6], .bool r]) ∧ OwnI w.heap.size w' s' m U ∧ Below w.heap.size w w')) :
    Calls Try.prog 3 #[.agg #[.int .i64 x0, .int .i64 x1, .int .i64 x2, .int .i64 x3, .int .i64 x4, .int .i64 x5, .int .i64 x6], .int .i64 a1, .slice s2 n2 c2, .slice s3 n3 c3] w fun e w' => e = .returned (.bool true) ∧ Below w.heap.size w w' := by
  go_enter Try.func3, Try.ntmps3
  go_wp2_with fail
  refine (toDrum_any x0 x1 x2 x3 x4 x5 x6 _).mono ?_
  rintro e w1 ⟨rfl, h⟩
  have B0 : Below w.heap.size w w1 := Below.trans (by repeat (first | with_reducible exact Below.refl _ _ | with_reducible refine Below.setCell ?_ (by first | omega | (simp; done) | (simp; omega)) _ | with_reducible refine bDrewN ?_ _ | with_reducible refine Below.drew ?_ | with_reducible refine Below.alloc ?_ (by first | omega | (simp; done) | (simp; omega)) _)) (h.mono (by first | omega | (simp; done) | (simp; omega)))
  have A0 : Hid (At7 w1 w.heap.size x0 x1 x2 x3 x4 x5 x6) := at7_new h
  clear h
  go_wp2_with fail
  refine (toI_b _ n2 _ V2 _ hn2 (HR2.out.below B0)).mono ?_
  rintro e w2 ⟨ba2, rfl, la2, ua2, Oa2, h⟩
  replace B0 : Below w.heap.size w w2 := B0.trans (h.mono B0.size)
  replace A0 : Hid (At7 w2 w.heap.size x0 x1 x2 x3 x4 x5 x6) := A0.out.below h
  clear h
  have Pa2 : Hid (OwnI ba2 w2 (some ⟨ba2, 0, none⟩) n2 V2) := Oa2
  clear Oa2
  have ka2 : ba2 + 1 ≤ w2.heap.size := ua2
  clear ua2
  go_wp2_with fail
  refine (toI_b _ n3 _ V3 _ hn3 (HR3.out.below B0)).mono ?_
  rintro e w3 ⟨ba3, rfl, la3, ua3, Oa3, h⟩
  replace B0 : Below w.heap.size w w3 := B0.trans (h.mono B0.size)
  replace ka2 : ba2 + 1 ≤ w3.heap.size := Nat.le_trans ka2 h.size
  replace A0 : Hid (At7 w3 w.heap.size x0 x1 x2 x3 x4 x5 x6) := A0.out.below h
  replace Pa2 : Hid (OwnI ba2 w3 (some ⟨ba2, 0, none⟩) n2 V2) := Pa2.out.below h
  clear h
  have Pa3 : Hid (OwnI ba3 w3 (some ⟨ba3, 0, none⟩) n3 V3) := Oa3
  clear Oa3
  have ka3 : ba3 + 1 ≤ w3.heap.size := ua3
  clear ua3
  go_wp2_with fail
  refine (H1.out _ _ _ _ _ Pa2.out.row Pa3.out.row).mono ?_
  rintro e w4 ⟨sW, cW, rfl, OW, h⟩
  replace B0 : Below w.heap.size w w4 := B0.trans (h.mono B0.size)
  replace ka2 : ba2 + 1 ≤ w4.heap.size := Nat.le_trans ka2 h.size
  replace ka3 : ba3 + 1 ≤ w4.heap.size := Nat.le_trans ka3 h.size
  replace A0 : Hid (At7 w4 w.heap.size x0 x1 x2 x3 x4 x5 x6) := A0.out.below h
  replace Pa2 : Hid (OwnI ba2 w4 (some ⟨ba2, 0, none⟩) n2 V2) := Pa2.out.below h
  replace Pa3 : Hid (OwnI ba3 w4 (some ⟨ba3, 0, none⟩) n3 V3) := Pa3.out.below h
  clear h
  clear Pa2
  clear Pa3
  clear ka2
  clear ka3
  clear la2 la3
  have RW : Hid (RowI w4 sW m U) := OW.row
  clear OW
  have Bs : Below w4.heap.size w4 w4 := Below.refl _ _
  have q1 : w.heap.size < w4.heap.size := A0.out.1
  have HQ : Hid (∀ ob, RowI (w4.alloc ob) s2 n2 V2) := fun ob => (HR2.out.below B0).below (below0 w4 ob)
  go_wp2_with fail
  refine (toI_b _ n2 _ V2 _ hn2 (HQ.out _)).mono ?_
  rintro e w5 ⟨bx2, rfl, lx2, ux2, Ox2, h⟩
  have hn_ := h
  replace h : Below w4.heap.size w4 w5 := Below.trans (by repeat (first | with_reducible exact Below.refl _ _ | with_reducible refine Below.setCell ?_ (by first | omega | (simp; done) | (simp; omega)) _ | with_reducible refine bDrewN ?_ _ | with_reducible refine Below.drew ?_ | with_reducible refine Below.alloc ?_ (by first | omega | (simp; done) | (simp; omega)) _)) (hn_.mono (by first | omega | (simp; done) | (simp; omega)))
  have AWn : Hid (At7 w5 w4.heap.size y0 y1 y2 y3 y4 y5 y6) := at7_new hn_
  clear hn_
  clear HQ
  replace lx2 : w4.heap.size + 1 ≤ bx2 := by simp at lx2; omega
  replace B0 : Below w.heap.size w w5 := B0.trans (h.mono B0.size)
  replace Bs : Below w4.heap.size w4 w5 := Bs.trans (h.mono Bs.size)
  replace A0 : Hid (At7 w5 w.heap.size x0 x1 x2 x3 x4 x5 x6) := A0.out.below h
  clear h
  have Px2 : Hid (OwnI bx2 w5 (some ⟨bx2, 0, none⟩) n2 V2) := Ox2
  clear Ox2
  have kx2 : bx2 + 1 ≤ w5.heap.size := ux2
  clear ux2
  have AW := AWn
  clear AWn
  go_wp2_with fail
  refine (toI_b _ n3 _ V3 _ hn3 (HR3.out.below B0)).mono ?_
  rintro e w6 ⟨bx3, rfl, lx3, ux3, Ox3, h⟩
  have q3 : bx2 < bx3 := by omega
  replace B0 : Below w.heap.size w w6 := B0.trans (h.mono B0.size)
  replace Bs : Below w4.heap.size w4 w6 := Bs.trans (h.mono Bs.size)
  replace kx2 : bx2 + 1 ≤ w6.heap.size := Nat.le_trans kx2 h.size
  replace A0 : Hid (At7 w6 w.heap.size x0 x1 x2 x3 x4 x5 x6) := A0.out.below h
  replace Px2 : Hid (OwnI bx2 w6 (some ⟨bx2, 0, none⟩) n2 V2) := Px2.out.below h
  replace AW : Hid (At7 w6 w4.heap.size y0 y1 y2 y3 y4 y5 y6) := AW.out.below h
  clear h
  have Px3 : Hid (OwnI bx3 w6 (some ⟨bx3, 0, none⟩) n3 V3) := Ox3
  clear Ox3
  have kx3 : bx3 + 1 ≤ w6.heap.size := ux3
  clear ux3
  obtain ⟨z_A0, A0_0, A0_1, A0_2, A0_3, A0_4, A0_5, A0_6⟩ := A0.out
  go_wp2_with fail
  refine (toDrum_any x0 x1 x2 x3 x4 x5 x6 _).mono ?_
  rintro e w7 ⟨rfl, h⟩
  clear z_A0 A0_0 A0_1 A0_2 A0_3 A0_4 A0_5 A0_6
  replace B0 : Below w.heap.size w w7 := B0.trans (h.mono B0.size)
  replace Bs : Below w4.heap.size w4 w7 := Bs.trans (h.mono Bs.size)
  replace kx2 : bx2 + 1 ≤ w7.heap.size := Nat.le_trans kx2 h.size
  replace kx3 : bx3 + 1 ≤ w7.heap.size := Nat.le_trans kx3 h.size
  replace A0 : Hid (At7 w7 w.heap.size x0 x1 x2 x3 x4 x5 x6) := A0.out.below h
  replace Px2 : Hid (OwnI bx2 w7 (some ⟨bx2, 0, none⟩) n2 V2) := Px2.out.below h
  replace AW : Hid (At7 w7 w4.heap.size y0 y1 y2 y3 y4 y5 y6) := AW.out.below h
  replace Px3 : Hid (OwnI bx3 w7 (some ⟨bx3, 0, none⟩) n3 V3) := Px3.out.below h
  clear h
  have q4 : bx3 < w7.heap.size := kx3
  go_wp2_with fail
  refine (H2.out _ _ _ _ _ Px2.out.row Px3.out.row).mono ?_
  rintro e w8 ⟨sG, cG, rfl, OG, h⟩
  replace B0 : Below w.heap.size w w8 := B0.trans (h.mono B0.size)
  replace Bs : Below w4.heap.size w4 w8 := Bs.trans (h.mono Bs.size)
  replace kx2 : bx2 + 1 ≤ w8.heap.size := Nat.le_trans kx2 h.size
  replace kx3 : bx3 + 1 ≤ w8.heap.size := Nat.le_trans kx3 h.size
  replace A0 : Hid (At7 w8 w.heap.size x0 x1 x2 x3 x4 x5 x6) := A0.out.below h
  replace Px2 : Hid (OwnI bx2 w8 (some ⟨bx2, 0, none⟩) n2 V2) := Px2.out.below h
  replace AW : Hid (At7 w8 w4.heap.size y0 y1 y2 y3 y4 y5 y6) := AW.out.below h
  replace Px3 : Hid (OwnI bx3 w8 (some ⟨bx3, 0, none⟩) n3 V3) := Px3.out.below h
  have Lg : w7.heap.size ≤ w8.heap.size := h.size
  have PG : Hid (OwnI w7.heap.size w8 sG m U) := OG
  clear OG h
  have kS : w4.heap.size ≤ w8.heap.size := Bs.size
  have kU : w7.heap.size ≤ w8.heap.size := Lg
  have q5 : w7.heap.size ≤ w8.heap.size := Lg
  clear Lg
  have HQ : Hid (∀ ob, RowI (w8.alloc ob) sG m U) := fun ob => PG.out.row.below (below0 w8 ob)
  have HQ2 : Hid (∀ ob, RowI (w8.alloc ob) sW m U) := fun ob => (RW.out.below Bs).below (below0 w8 ob)
  go_wp2_with fail
  refine (eqInt64S_any _ _ m _ _ U _ hm (HQ.out _) (HQ2.out _)).mono ?_
  rintro e w9 ⟨rfl, h⟩
  have hn_ := h
  replace h : Below w8.heap.size w8 w9 := Below.trans (by repeat (first | with_reducible exact Below.refl _ _ | with_reducible refine Below.setCell ?_ (by first | omega | (simp; done) | (simp; omega)) _ | with_reducible refine bDrewN ?_ _ | with_reducible refine Below.drew ?_ | with_reducible refine Below.alloc ?_ (by first | omega | (simp; done) | (simp; omega)) _)) (hn_.mono (by first | omega | (simp; done) | (simp; omega)))
  have AGn : Hid (At7 w9 w8.heap.size y0 y1 y2 y3 y4 y5 y6) := at7_new hn_
  clear hn_
  clear HQ HQ2
  replace B0 : Below w.heap.size w w9 := B0.trans (h.mono B0.size)
  replace Bs : Below w4.heap.size w4 w9 := Bs.trans (h.mono Bs.size)
  replace kx2 : bx2 + 1 ≤ w9.heap.size := Nat.le_trans kx2 h.size
  replace kx3 : bx3 + 1 ≤ w9.heap.size := Nat.le_trans kx3 h.size
  replace kS : w4.heap.size ≤ w9.heap.size := Nat.le_trans kS h.size
  replace kU : w7.heap.size ≤ w9.heap.size := Nat.le_trans kU h.size
  replace A0 : Hid (At7 w9 w.heap.size x0 x1 x2 x3 x4 x5 x6) := A0.out.below h
  replace Px2 : Hid (OwnI bx2 w9 (some ⟨bx2, 0, none⟩) n2 V2) := Px2.out.below h
  replace AW : Hid (At7 w9 w4.heap.size y0 y1 y2 y3 y4 y5 y6) := AW.out.below h
  replace Px3 : Hid (OwnI bx3 w9 (some ⟨bx3, 0, none⟩) n3 V3) := Px3.out.below h
  replace PG : Hid (OwnI w7.heap.size w9 sG m U) := PG.out.below h
  clear h
  have AG := AGn
  clear AGn
  obtain ⟨z_AG, AG_0, AG_1, AG_2, AG_3, AG_4, AG_5, AG_6⟩ := AG.out
  obtain ⟨z_AW, AW_0, AW_1, AW_2, AW_3, AW_4, AW_5, AW_6⟩ := AW.out
  go_wp2_with fail
  refine (eqDrum_any y0 y1 y2 y3 y4 y5 y6 _).mono ?_
  rintro e w10 ⟨rfl, h⟩
  clear z_AG AG_0 AG_1 AG_2 AG_3 AG_4 AG_5 AG_6
  clear z_AW AW_0 AW_1 AW_2 AW_3 AW_4 AW_5 AW_6
  replace B0 : Below w.heap.size w w10 := B0.trans (h.mono B0.size)
  replace Bs : Below w4.heap.size w4 w10 := Bs.trans (h.mono Bs.size)
  replace kx2 : bx2 + 1 ≤ w10.heap.size := Nat.le_trans kx2 h.size
  replace kx3 : bx3 + 1 ≤ w10.heap.size := Nat.le_trans kx3 h.size
  replace kS : w4.heap.size ≤ w10.heap.size := Nat.le_trans kS h.size
  replace kU : w7.heap.size ≤ w10.heap.size := Nat.le_trans kU h.size
  replace A0 : Hid (At7 w10 w.heap.size x0 x1 x2 x3 x4 x5 x6) := A0.out.below h
  replace Px2 : Hid (OwnI bx2 w10 (some ⟨bx2, 0, none⟩) n2 V2) := Px2.out.below h
  replace AW : Hid (At7 w10 w4.heap.size y0 y1 y2 y3 y4 y5 y6) := AW.out.below h
  replace Px3 : Hid (OwnI bx3 w10 (some ⟨bx3, 0, none⟩) n3 V3) := Px3.out.below h
  replace PG : Hid (OwnI w7.heap.size w10 sG m U) := PG.out.below h
  replace AG : Hid (At7 w10 w8.heap.size y0 y1 y2 y3 y4 y5 y6) := AG.out.below h
  clear h
  go_wp2_with fail
  refine (toI_b _ n2 _ V2 _ hn2 (HR2.out.below B0)).mono ?_
  rintro e w11 ⟨by2, rfl, ly2, uy2, Oy2, h⟩
  replace B0 : Below w.heap.size w w11 := B0.trans (h.mono B0.size)
  replace Bs : Below w4.heap.size w4 w11 := Bs.trans (h.mono Bs.size)
  replace kx2 : bx2 + 1 ≤ w11.heap.size := Nat.le_trans kx2 h.size
  replace kx3 : bx3 + 1 ≤ w11.heap.size := Nat.le_trans kx3 h.size
  replace kS : w4.heap.size ≤ w11.heap.size := Nat.le_trans kS h.size
  replace kU : w7.heap.size ≤ w11.heap.size := Nat.le_trans kU h.size
  replace A0 : Hid (At7 w11 w.heap.size x0 x1 x2 x3 x4 x5 x6) := A0.out.below h
  replace Px2 : Hid (OwnI bx2 w11 (some ⟨bx2, 0, none⟩) n2 V2) := Px2.out.below h
  replace AW : Hid (At7 w11 w4.heap.size y0 y1 y2 y3 y4 y5 y6) := AW.out.below h
  replace Px3 : Hid (OwnI bx3 w11 (some ⟨bx3, 0, none⟩) n3 V3) := Px3.out.below h
  replace PG : Hid (OwnI w7.heap.size w11 sG m U) := PG.out.below h
  replace AG : Hid (At7 w11 w8.heap.size y0 y1 y2 y3 y4 y5 y6) := AG.out.below h
  clear h
  have Py2 : Hid (OwnI by2 w11 (some ⟨by2, 0, none⟩) n2 V2) := Oy2
  clear Oy2
  have ky2 : by2 + 1 ≤ w11.heap.size := uy2
  clear uy2
  go_wp2_with fail
  refine (eqInt64S_any _ _ n2 _ _ V2 _ hn2 Px2.out.row Py2.out.row).mono ?_
  rintro e w12 ⟨rfl, h⟩
  clear Py2
  clear ky2
  clear ly2
  replace B0 : Below w.heap.size w w12 := B0.trans (h.mono B0.size)
  replace Bs : Below w4.heap.size w4 w12 := Bs.trans (h.mono Bs.size)
  replace kx2 : bx2 + 1 ≤ w12.heap.size := Nat.le_trans kx2 h.size
  replace kx3 : bx3 + 1 ≤ w12.heap.size := Nat.le_trans kx3 h.size
  replace kS : w4.heap.size ≤ w12.heap.size := Nat.le_trans kS h.size
  replace kU : w7.heap.size ≤ w12.heap.size := Nat.le_trans kU h.size
  replace A0 : Hid (At7 w12 w.heap.size x0 x1 x2 x3 x4 x5 x6) := A0.out.below h
  replace Px2 : Hid (OwnI bx2 w12 (some ⟨bx2, 0, none⟩) n2 V2) := Px2.out.below h
  replace AW : Hid (At7 w12 w4.heap.size y0 y1 y2 y3 y4 y5 y6) := AW.out.below h
  replace Px3 : Hid (OwnI bx3 w12 (some ⟨bx3, 0, none⟩) n3 V3) := Px3.out.below h
  replace PG : Hid (OwnI w7.heap.size w12 sG m U) := PG.out.below h
  replace AG : Hid (At7 w12 w8.heap.size y0 y1 y2 y3 y4 y5 y6) := AG.out.below h
  clear h
  go_wp2_with fail
  refine (toI_b _ n3 _ V3 _ hn3 (HR3.out.below B0)).mono ?_
  rintro e w13 ⟨by3, rfl, ly3, uy3, Oy3, h⟩
  replace B0 : Below w.heap.size w w13 := B0.trans (h.mono B0.size)
  replace Bs : Below w4.heap.size w4 w13 := Bs.trans (h.mono Bs.size)
  replace kx2 : bx2 + 1 ≤ w13.heap.size := Nat.le_trans kx2 h.size
  replace kx3 : bx3 + 1 ≤ w13.heap.size := Nat.le_trans kx3 h.size
  replace kS : w4.heap.size ≤ w13.heap.size := Nat.le_trans kS h.size
  replace kU : w7.heap.size ≤ w13.heap.size := Nat.le_trans kU h.size
  replace A0 : Hid (At7 w13 w.heap.size x0 x1 x2 x3 x4 x5 x6) := A0.out.below h
  replace Px2 : Hid (OwnI bx2 w13 (some ⟨bx2, 0, none⟩) n2 V2) := Px2.out.below h
  replace AW : Hid (At7 w13 w4.heap.size y0 y1 y2 y3 y4 y5 y6) := AW.out.below h
  replace Px3 : Hid (OwnI bx3 w13 (some ⟨bx3, 0, none⟩) n3 V3) := Px3.out.below h
  replace PG : Hid (OwnI w7.heap.size w13 sG m U) := PG.out.below h
  replace AG : Hid (At7 w13 w8.heap.size y0 y1 y2 y3 y4 y5 y6) := AG.out.below h
  clear h
  have Py3 : Hid (OwnI by3 w13 (some ⟨by3, 0, none⟩) n3 V3) := Oy3
  clear Oy3
  have ky3 : by3 + 1 ≤ w13.heap.size := uy3
  clear uy3
  go_wp2_with fail
  refine (eqInt64S_any _ _ n3 _ _ V3 _ hn3 Px3.out.row Py3.out.row).mono ?_
  rintro e w14 ⟨rfl, h⟩
  clear Py3
  clear ky3
  clear ly3
  replace B0 : Below w.heap.size w w14 := B0.trans (h.mono B0.size)
  replace Bs : Below w4.heap.size w4 w14 := Bs.trans (h.mono Bs.size)
  replace kx2 : bx2 + 1 ≤ w14.heap.size := Nat.le_trans kx2 h.size
  replace kx3 : bx3 + 1 ≤ w14.heap.size := Nat.le_trans kx3 h.size
  replace kS : w4.heap.size ≤ w14.heap.size := Nat.le_trans kS h.size
  replace kU : w7.heap.size ≤ w14.heap.size := Nat.le_trans kU h.size
  replace A0 : Hid (At7 w14 w.heap.size x0 x1 x2 x3 x4 x5 x6) := A0.out.below h
  replace Px2 : Hid (OwnI bx2 w14 (some ⟨bx2, 0, none⟩) n2 V2) := Px2.out.below h
  replace AW : Hid (At7 w14 w4.heap.size y0 y1 y2 y3 y4 y5 y6) := AW.out.below h
  replace Px3 : Hid (OwnI bx3 w14 (some ⟨bx3, 0, none⟩) n3 V3) := Px3.out.below h
  replace PG : Hid (OwnI w7.heap.size w14 sG m U) := PG.out.below h
  replace AG : Hid (At7 w14 w8.heap.size y0 y1 y2 y3 y4 y5 y6) := AG.out.below h
  clear h
  go_wp2_with fail
  refine (markInt64S_own bx2 _ n2 _ _ V2 _ hn2 (by omega) (by omega) (by omega) Px2.out).mono ?_
  rintro e w15 ⟨rfl, -, h, hs⟩
  have hs := hs _ rfl
  clear Px2
  replace B0 : Below w.heap.size w w15 := B0.trans (h.mono (by omega))
  replace Bs : Below w4.heap.size w4 w15 := Bs.trans (h.mono (by omega))
  replace kx2 : bx2 + 1 ≤ w15.heap.size := Nat.le_trans kx2 h.size
  replace kx3 : bx3 + 1 ≤ w15.heap.size := Nat.le_trans kx3 h.size
  replace kS : w4.heap.size ≤ w15.heap.size := Nat.le_trans kS h.size
  replace kU : w7.heap.size ≤ w15.heap.size := Nat.le_trans kU h.size
  replace A0 : Hid (At7 w15 w.heap.size x0 x1 x2 x3 x4 x5 x6) := A0.out.beside hs (by omega)
  replace AW : Hid (At7 w15 w4.heap.size y0 y1 y2 y3 y4 y5 y6) := AW.out.beside hs (by omega)
  replace Px3 : Hid (OwnI bx3 w15 (some ⟨bx3, 0, none⟩) n3 V3) := Px3.out.beside hs (by omega)
  replace PG : Hid (OwnI w7.heap.size w15 sG m U) := PG.out.beside hs (by omega)
  replace AG : Hid (At7 w15 w8.heap.size y0 y1 y2 y3 y4 y5 y6) := AG.out.beside hs (by omega)
  clear h hs
  go_wp2_with fail
  refine (markInt64S_own bx3 _ n3 _ _ V3 _ hn3 (by omega) (by omega) (by omega) Px3.out).mono ?_
  rintro e w16 ⟨rfl, -, h, hs⟩
  have hs := hs _ rfl
  clear Px3
  replace B0 : Below w.heap.size w w16 := B0.trans (h.mono (by omega))
  replace Bs : Below w4.heap.size w4 w16 := Bs.trans (h.mono (by omega))
  replace kx2 : bx2 + 1 ≤ w16.heap.size := Nat.le_trans kx2 h.size
  replace kx3 : bx3 + 1 ≤ w16.heap.size := Nat.le_trans kx3 h.size
  replace kS : w4.heap.size ≤ w16.heap.size := Nat.le_trans kS h.size
  replace kU : w7.heap.size ≤ w16.heap.size := Nat.le_trans kU h.size
  replace A0 : Hid (At7 w16 w.heap.size x0 x1 x2 x3 x4 x5 x6) := A0.out.beside hs (by omega)
  replace AW : Hid (At7 w16 w4.heap.size y0 y1 y2 y3 y4 y5 y6) := AW.out.beside hs (by omega)
  replace PG : Hid (OwnI w7.heap.size w16 sG m U) := PG.out.beside hs (by omega)
  replace AG : Hid (At7 w16 w8.heap.size y0 y1 y2 y3 y4 y5 y6) := AG.out.beside hs (by omega)
  clear h hs
  go_wp2_with fail
  refine (eqInt64S_any _ _ m _ _ U _ hm PG.out.row (RW.out.below Bs)).mono ?_
  rintro e w17 ⟨rfl, h⟩
  replace B0 : Below w.heap.size w w17 := B0.trans (h.mono B0.size)
  replace Bs : Below w4.heap.size w4 w17 := Bs.trans (h.mono Bs.size)
  replace kx2 : bx2 + 1 ≤ w17.heap.size := Nat.le_trans kx2 h.size
  replace kx3 : bx3 + 1 ≤ w17.heap.size := Nat.le_trans kx3 h.size
  replace kS : w4.heap.size ≤ w17.heap.size := Nat.le_trans kS h.size
  replace kU : w7.heap.size ≤ w17.heap.size := Nat.le_trans kU h.size
  replace A0 : Hid (At7 w17 w.heap.size x0 x1 x2 x3 x4 x5 x6) := A0.out.below h
  replace AW : Hid (At7 w17 w4.heap.size y0 y1 y2 y3 y4 y5 y6) := AW.out.below h
  replace PG : Hid (OwnI w7.heap.size w17 sG m U) := PG.out.below h
  replace AG : Hid (At7 w17 w8.heap.size y0 y1 y2 y3 y4 y5 y6) := AG.out.below h
  clear h
  obtain ⟨z_AG, AG_0, AG_1, AG_2, AG_3, AG_4, AG_5, AG_6⟩ := AG.out
  obtain ⟨z_AW, AW_0, AW_1, AW_2, AW_3, AW_4, AW_5, AW_6⟩ := AW.out
  go_wp2_with fail
  refine (eqDrum_any y0 y1 y2 y3 y4 y5 y6 _).mono ?_
  rintro e w18 ⟨rfl, h⟩
  clear z_AG AG_0 AG_1 AG_2 AG_3 AG_4 AG_5 AG_6
  clear z_AW AW_0 AW_1 AW_2 AW_3 AW_4 AW_5 AW_6
  replace B0 : Below w.heap.size w w18 := B0.trans (h.mono B0.size)
  replace Bs : Below w4.heap.size w4 w18 := Bs.trans (h.mono Bs.size)
  replace kx2 : bx2 + 1 ≤ w18.heap.size := Nat.le_trans kx2 h.size
  replace kx3 : bx3 + 1 ≤ w18.heap.size := Nat.le_trans kx3 h.size
  replace kS : w4.heap.size ≤ w18.heap.size := Nat.le_trans kS h.size
  replace kU : w7.heap.size ≤ w18.heap.size := Nat.le_trans kU h.size
  replace A0 : Hid (At7 w18 w.heap.size x0 x1 x2 x3 x4 x5 x6) := A0.out.below h
  replace AW : Hid (At7 w18 w4.heap.size y0 y1 y2 y3 y4 y5 y6) := AW.out.below h
  replace PG : Hid (OwnI w7.heap.size w18 sG m U) := PG.out.below h
  replace AG : Hid (At7 w18 w8.heap.size y0 y1 y2 y3 y4 y5 y6) := AG.out.below h
  clear h
  clear AG
  go_wp2_with fail
  refine (markInt64S_own w7.heap.size _ m _ _ U _ hm (by omega) (by omega) kU PG.out).mono ?_
  rintro e w19 ⟨rfl, OG, h, -⟩
  clear PG
  replace B0 : Below w.heap.size w w19 := B0.trans (h.mono (by omega))
  replace Bs : Below w4.heap.size w4 w19 := Bs.trans (h.mono (by omega))
  clear kx2
  clear kx3
  clear kS
  clear kU
  replace A0 : Hid (At7 w19 w.heap.size x0 x1 x2 x3 x4 x5 x6) := A0.out.low h (by omega)
  replace AW : Hid (At7 w19 w4.heap.size y0 y1 y2 y3 y4 y5 y6) := AW.out.low h (by omega)
  clear h
  have PM : Hid (OwnI w7.heap.size w19 sG m (fun j => 1 + (j : Int))) := OG
  clear OG
  go_wp2_with fail
  refine (heldInt64S_any _ m _ 1 _ hm (by omega) (by omega) PM.out.row).mono ?_
  rintro e w19 ⟨rfl, rfl⟩
  obtain ⟨z_A0, A0_0, A0_1, A0_2, A0_3, A0_4, A0_5, A0_6⟩ := A0.out
  go_wp2_with fail
  refine (toDrum_any x0 x1 x2 x3 x4 x5 x6 _).mono ?_
  rintro e w20 ⟨rfl, h⟩
  clear z_A0 A0_0 A0_1 A0_2 A0_3 A0_4 A0_5 A0_6
  replace B0 : Below w.heap.size w w20 := B0.trans (h.mono B0.size)
  replace Bs : Below w4.heap.size w4 w20 := Bs.trans (h.mono Bs.size)
  replace A0 : Hid (At7 w20 w.heap.size x0 x1 x2 x3 x4 x5 x6) := A0.out.below h
  replace AW : Hid (At7 w20 w4.heap.size y0 y1 y2 y3 y4 y5 y6) := AW.out.below h
  replace PM : Hid (OwnI w7.heap.size w20 sG m (fun j => 1 + (j : Int))) := PM.out.below h
  clear h
  go_wp2_with fail
  refine (toI_b _ n2 _ V2 _ hn2 (HR2.out.below B0)).mono ?_
  rintro e w21 ⟨bv2, rfl, lv2, uv2, Ov2, h⟩
  replace B0 : Below w.heap.size w w21 := B0.trans (h.mono B0.size)
  replace Bs : Below w4.heap.size w4 w21 := Bs.trans (h.mono Bs.size)
  replace A0 : Hid (At7 w21 w.heap.size x0 x1 x2 x3 x4 x5 x6) := A0.out.below h
  replace AW : Hid (At7 w21 w4.heap.size y0 y1 y2 y3 y4 y5 y6) := AW.out.below h
  replace PM : Hid (OwnI w7.heap.size w21 sG m (fun j => 1 + (j : Int))) := PM.out.below h
  clear h
  have Pv2 : Hid (OwnI bv2 w21 (some ⟨bv2, 0, none⟩) n2 V2) := Ov2
  clear Ov2
  have kv2 : bv2 + 1 ≤ w21.heap.size := uv2
  clear uv2
  go_wp2_with fail
  refine (toI_b _ n3 _ V3 _ hn3 (HR3.out.below B0)).mono ?_
  rintro e w22 ⟨bv3, rfl, lv3, uv3, Ov3, h⟩
  replace B0 : Below w.heap.size w w22 := B0.trans (h.mono B0.size)
  replace Bs : Below w4.heap.size w4 w22 := Bs.trans (h.mono Bs.size)
  replace kv2 : bv2 + 1 ≤ w22.heap.size := Nat.le_trans kv2 h.size
  replace A0 : Hid (At7 w22 w.heap.size x0 x1 x2 x3 x4 x5 x6) := A0.out.below h
  replace AW : Hid (At7 w22 w4.heap.size y0 y1 y2 y3 y4 y5 y6) := AW.out.below h
  replace PM : Hid (OwnI w7.heap.size w22 sG m (fun j => 1 + (j : Int))) := PM.out.below h
  replace Pv2 : Hid (OwnI bv2 w22 (some ⟨bv2, 0, none⟩) n2 V2) := Pv2.out.below h
  clear h
  have Pv3 : Hid (OwnI bv3 w22 (some ⟨bv3, 0, none⟩) n3 V3) := Ov3
  clear Ov3
  have kv3 : bv3 + 1 ≤ w22.heap.size := uv3
  clear uv3
  go_wp2_with fail
  refine (H2.out _ _ _ _ _ Pv2.out.row Pv3.out.row).mono ?_
  rintro e w23 ⟨sH, cH, rfl, OH, h⟩
  replace B0 : Below w.heap.size w w23 := B0.trans (h.mono B0.size)
  replace Bs : Below w4.heap.size w4 w23 := Bs.trans (h.mono Bs.size)
  replace kv2 : bv2 + 1 ≤ w23.heap.size := Nat.le_trans kv2 h.size
  replace kv3 : bv3 + 1 ≤ w23.heap.size := Nat.le_trans kv3 h.size
  replace A0 : Hid (At7 w23 w.heap.size x0 x1 x2 x3 x4 x5 x6) := A0.out.below h
  replace AW : Hid (At7 w23 w4.heap.size y0 y1 y2 y3 y4 y5 y6) := AW.out.below h
  replace PM : Hid (OwnI w7.heap.size w23 sG m (fun j => 1 + (j : Int))) := PM.out.below h
  replace Pv2 : Hid (OwnI bv2 w23 (some ⟨bv2, 0, none⟩) n2 V2) := Pv2.out.below h
  replace Pv3 : Hid (OwnI bv3 w23 (some ⟨bv3, 0, none⟩) n3 V3) := Pv3.out.below h
  clear Pv2
  clear Pv3
  clear kv2
  clear kv3
  have PH : Hid (OwnI w22.heap.size w23 sH m U) := OH
  clear OH h
  have HQ : Hid (∀ ob, RowI (w23.alloc ob) sH m U) := fun ob => PH.out.row.below (below0 w23 ob)
  have HQ2 : Hid (∀ ob, RowI (w23.alloc ob) sW m U) := fun ob => (RW.out.below Bs).below (below0 w23 ob)
  go_wp2_with fail
  refine (eqInt64S_any _ _ m _ _ U _ hm (HQ.out _) (HQ2.out _)).mono ?_
  rintro e w24 ⟨rfl, h⟩
  have hn_ := h
  replace h : Below w23.heap.size w23 w24 := Below.trans (by repeat (first | with_reducible exact Below.refl _ _ | with_reducible refine Below.setCell ?_ (by first | omega | (simp; done) | (simp; omega)) _ | with_reducible refine bDrewN ?_ _ | with_reducible refine Below.drew ?_ | with_reducible refine Below.alloc ?_ (by first | omega | (simp; done) | (simp; omega)) _)) (hn_.mono (by first | omega | (simp; done) | (simp; omega)))
  have AHn : Hid (At7 w24 w23.heap.size y0 y1 y2 y3 y4 y5 y6) := at7_new hn_
  clear hn_
  clear HQ HQ2
  replace B0 : Below w.heap.size w w24 := B0.trans (h.mono B0.size)
  replace Bs : Below w4.heap.size w4 w24 := Bs.trans (h.mono Bs.size)
  replace A0 : Hid (At7 w24 w.heap.size x0 x1 x2 x3 x4 x5 x6) := A0.out.below h
  replace AW : Hid (At7 w24 w4.heap.size y0 y1 y2 y3 y4 y5 y6) := AW.out.below h
  replace PM : Hid (OwnI w7.heap.size w24 sG m (fun j => 1 + (j : Int))) := PM.out.below h
  replace PH : Hid (OwnI w22.heap.size w24 sH m U) := PH.out.below h
  clear h
  have AH := AHn
  clear AHn
  obtain ⟨z_AH, AH_0, AH_1, AH_2, AH_3, AH_4, AH_5, AH_6⟩ := AH.out
  obtain ⟨z_AW, AW_0, AW_1, AW_2, AW_3, AW_4, AW_5, AW_6⟩ := AW.out
  go_wp2_with fail
  refine (eqDrum_any y0 y1 y2 y3 y4 y5 y6 _).mono ?_
  rintro e w25 ⟨rfl, h⟩
  clear z_AH AH_0 AH_1 AH_2 AH_3 AH_4 AH_5 AH_6
  clear z_AW AW_0 AW_1 AW_2 AW_3 AW_4 AW_5 AW_6
  replace B0 : Below w.heap.size w w25 := B0.trans (h.mono B0.size)
  replace Bs : Below w4.heap.size w4 w25 := Bs.trans (h.mono Bs.size)
  replace A0 : Hid (At7 w25 w.heap.size x0 x1 x2 x3 x4 x5 x6) := A0.out.below h
  replace AW : Hid (At7 w25 w4.heap.size y0 y1 y2 y3 y4 y5 y6) := AW.out.below h
  replace PM : Hid (OwnI w7.heap.size w25 sG m (fun j => 1 + (j : Int))) := PM.out.below h
  replace PH : Hid (OwnI w22.heap.size w25 sH m U) := PH.out.below h
  replace AH : Hid (At7 w25 w23.heap.size y0 y1 y2 y3 y4 y5 y6) := AH.out.below h
  clear h
  go_wp2_with fail
  refine (heldInt64S_any _ m _ 1 _ hm (by omega) (by omega) PM.out.row).mono ?_
  rintro e w25 ⟨rfl, rfl⟩
  go_wp2
  go_ret
  exact ⟨rfl, B0⟩
set_option maxHeartbeats 400000 in
theorem controlled_far2 (w : World) (x0 x1 x2 x3 x4 x5 x6 a1 : Int) (s2 : Option Addr) (n2 c2 : Nat) (s3 : Option Addr) (n3 c3 : Nat) (h2 : (1048576 : Int) < n2) :
    Calls Try.prog 3 #[.agg #[.int .i64 x0, .int .i64 x1, .int .i64 x2, .int .i64 x3, .int .i64 x4, .int .i64 x5, .int .i64 x6], .int .i64 a1, .slice s2 n2 c2, .slice s3 n3 c3] w fun e w' => e = .returned (.bool true) ∧ Below w.heap.size w w' := by
  go_enter Try.func3, Try.ntmps3
  go_wp2
  go_ret
  exact ⟨rfl, (by repeat (first | with_reducible exact Below.refl _ _ | with_reducible refine Below.setCell ?_ (by first | omega | (simp; done) | (simp; omega)) _ | with_reducible refine bDrewN ?_ _ | with_reducible refine Below.drew ?_ | with_reducible refine Below.alloc ?_ (by first | omega | (simp; done) | (simp; omega)) _))⟩
set_option maxHeartbeats 400000 in
theorem controlled_far3 (w : World) (x0 x1 x2 x3 x4 x5 x6 a1 : Int) (s2 : Option Addr) (n2 c2 : Nat) (s3 : Option Addr) (n3 c3 : Nat) (h2 : (n2 : Int) ≤ 1048576) (h3 : (1048576 : Int) < n3) :
    Calls Try.prog 3 #[.agg #[.int .i64 x0, .int .i64 x1, .int .i64 x2, .int .i64 x3, .int .i64 x4, .int .i64 x5, .int .i64 x6], .int .i64 a1, .slice s2 n2 c2, .slice s3 n3 c3] w fun e w' => e = .returned (.bool true) ∧ Below w.heap.size w w' := by
  go_enter Try.func3, Try.ntmps3
  go_wp2
  go_ret
  exact ⟨rfl, (by repeat (first | with_reducible exact Below.refl _ _ | with_reducible refine Below.setCell ?_ (by first | omega | (simp; done) | (simp; omega)) _ | with_reducible refine bDrewN ?_ _ | with_reducible refine Below.drew ?_ | with_reducible refine Below.alloc ?_ (by first | omega | (simp; done) | (simp; omega)) _))⟩

theorem fnExactControlled_walk (w : World) (x0 : Int) (wx0 : (Lit.int .i64 x0).wf = true) (x1 : Int) (wx1 : (Lit.int .i64 x1).wf = true) (x2 : Int) (wx2 : (Lit.int .i64 x2).wf = true) (x3 : Int) (wx3 : (Lit.int .i64 x3).wf = true) (x4 : Int) (wx4 : (Lit.int .i64 x4).wf = true) (x5 : Int) (wx5 : (Lit.int .i64 x5).wf = true) (x6 : Int) (wx6 : (Lit.int .i64 x6).wf = true) (a1 : Int) (wa : (Lit.int .i64 a1).wf = true) (s2 : Option Addr) (n2 c2 : Nat) (V2 : Nat → Int) (hn2 : n2 ≤ 9223372036854775807) (R2 : RowI w s2 n2 V2) (hV2 : ∀ j, j < n2 → -9223372036854775808 ≤ V2 j ∧ V2 j ≤ 9223372036854775807) (s3 : Option Addr) (n3 c3 : Nat) (V3 : Nat → Int) (hn3 : n3 ≤ 9223372036854775807) (R3 : RowI w s3 n3 V3) (hV3 : ∀ j, j < n3 → -9223372036854775808 ≤ V3 j ∧ V3 j ≤ 9223372036854775807) :
    Calls Try.prog 3 #[.agg #[.int .i64 x0, .int .i64 x1, .int .i64 x2, .int .i64 x3, .int .i64 x4, .int .i64 x5, .int .i64 x6], .int .i64 a1, .slice s2 n2 c2, .slice s3 n3 c3] w fun e w' => e = .returned (.bool true) ∧ Below w.heap.size w w' := by
  by_cases h2 : n2 ≤ 1048576
  · by_cases h3 : n3 ≤ 1048576
    · obtain ⟨m, ⟨y0, y1, y2, y3, y4, y5, y6⟩, b, hv, hm⟩ := ctl_some (x0, x1, x2, x3, x4, x5, x6) a1 n2 n3 V2 V3
      exact controlled_near w x0 x1 x2 x3 x4 x5 x6 y0 y1 y2 y3 y4 y5 y6 a1 s2 n2 c2 V2 s3 n3 c3 V3 (by omega) (by omega) R2 R3 m (feedK (x0, x1, x2, x3, x4, x5, x6) a1 V2 V3) (by omega) b
        (fun s c t d w q q' => (specCtl_any x0 x1 x2 x3 x4 x5 x6 a1 s n2 c n3 V2 t d V3 w (by omega) (by omega) q q').mono fun e w' ⟨m', y', b', s', c', k1, k2, k3, k4⟩ => by obtain ⟨rfl, rfl, rfl⟩ := k1.one hv; exact ⟨s', c', k2, k3, k4⟩)
        (fun s c t d w q q' => (implCtl_any x0 x1 x2 x3 x4 x5 x6 a1 s n2 c n3 V2 t d V3 w (by omega) (by omega) q q').mono fun e w' ⟨m', y', b', s', c', k1, k2, k3, k4⟩ => by obtain ⟨rfl, rfl, rfl⟩ := k1.one hv; exact ⟨s', c', k2, k3, k4⟩)
    · exact controlled_far3 w x0 x1 x2 x3 x4 x5 x6 a1 s2 n2 c2 s3 n3 c3 (by omega) (by omega)
  · exact controlled_far2 w x0 x1 x2 x3 x4 x5 x6 a1 s2 n2 c2 s3 n3 c3 (by omega)

set_option maxRecDepth 100000 in
theorem fnExactControlled_lifted (os : Os) (started : os.Started) (H : Type) (enc : TypeId × Value → H) :
    ReturnsInHanded {} Try.checked os 3 .any (Rows.fnExactControlledSpec.pre6 enc Try.prog Try.f3 Rows.fnExactControlledRow.domain false) (Rows.fnExactControlledSpec.post enc Try.prog Try.f3 false true false false) := by
  refine returnsInHanded_of_change (C := Try.checked) own started (by kernel_rfl) Try.func3
    (ChangeSpec.witness6 (enc := enc) (C := Try.checked) false ⟨#[], #[.agg #[.int .i64 0, .int .i64 0, .int .i64 0, .int .i64 0, .int .i64 0, .int .i64 0, .int .i64 0], .int .i64 0, .slice none 0 0, .slice none 0 0], []⟩ 8 (by kernel_rfl) (by kernel_rfl) (by kernel_rfl) (by kernel_rfl)) ?_
  intro W base args ds gs before hval0 hW hcnd _
  have hval : ∀ (j : Nat) t v, Try.f3.params[j]? = some t → args[j]? = some v → Value.okWide Try.prog W .any base t v := hval0
  have hW' := hW
  obtain ⟨p, q, hA0, hV, rfl, hfz, hnd⟩ := hW
  have hA : DataW.TrodAll enc Try.prog W 0 (fun _ => true) true Try.f3.params.toList args.toList ds p := hA0
  rw [Try.params3] at hA hval
  obtain ⟨v0, vs0, d0, ds0, p0, q0, hargs, rfl, rfl, h0, r0⟩ := trodAll_cons hA
  obtain ⟨v1, vs1, d1, ds1, p1, q1, rfl, rfl, rfl, h1, r1⟩ := trodAll_cons r0
  obtain ⟨v2, vs2, d2, ds2, p2, q2, rfl, rfl, rfl, h2, r2⟩ := trodAll_cons r1
  obtain ⟨v3, vs3, d3, ds3, p3, q3, rfl, rfl, rfl, h3, r3⟩ := trodAll_cons r2
  obtain ⟨rfl, rfl, rfl⟩ := trodAll_nil r3
  obtain rfl : args = #[v0, v1, v2, v3] := by cases args; simp_all
  obtain ⟨rfl, rfl⟩ := trodVars_none hV
  have k0 := h0
  have lt0 : ∀ x ∈ p0, x.block < W.heap.size := by obtain ⟨m, hm⟩ := k0; exact DataW.trod_lt m _ _ _ hm
  have k1 := h1
  have lt1 : ∀ x ∈ p1, x.block < W.heap.size := by obtain ⟨m, hm⟩ := k1; exact DataW.trod_lt m _ _ _ hm
  have k2 := h2
  have lt2 : ∀ x ∈ p2, x.block < W.heap.size := by obtain ⟨m, hm⟩ := k2; exact DataW.trod_lt m _ _ _ hm
  have k3 := h3
  have lt3 : ∀ x ∈ p3, x.block < W.heap.size := by obtain ⟨m, hm⟩ := k3; exact DataW.trod_lt m _ _ _ hm
  obtain ⟨vs0, rfl, c0⟩ := open_cells Try.underlying23 (ts := [2, 2, 2, 2, 2, 2, 2]) (by kernel_rfl) (by kernel_rfl) (hval 0 23 v0 rfl rfl)
  obtain ⟨x0_0, r0_0, rfl, o0_0, c0_0⟩ := cellsOk_cons c0
  obtain ⟨a0_0, rfl, w0_0⟩ := cell_int Try.underlying2 o0_0
  obtain ⟨x0_1, r0_1, rfl, o0_1, c0_1⟩ := cellsOk_cons c0_0
  obtain ⟨a0_1, rfl, w0_1⟩ := cell_int Try.underlying2 o0_1
  obtain ⟨x0_2, r0_2, rfl, o0_2, c0_2⟩ := cellsOk_cons c0_1
  obtain ⟨a0_2, rfl, w0_2⟩ := cell_int Try.underlying2 o0_2
  obtain ⟨x0_3, r0_3, rfl, o0_3, c0_3⟩ := cellsOk_cons c0_2
  obtain ⟨a0_3, rfl, w0_3⟩ := cell_int Try.underlying2 o0_3
  obtain ⟨x0_4, r0_4, rfl, o0_4, c0_4⟩ := cellsOk_cons c0_3
  obtain ⟨a0_4, rfl, w0_4⟩ := cell_int Try.underlying2 o0_4
  obtain ⟨x0_5, r0_5, rfl, o0_5, c0_5⟩ := cellsOk_cons c0_4
  obtain ⟨a0_5, rfl, w0_5⟩ := cell_int Try.underlying2 o0_5
  obtain ⟨x0_6, r0_6, rfl, o0_6, c0_6⟩ := cellsOk_cons c0_5
  obtain ⟨a0_6, rfl, w0_6⟩ := cell_int Try.underlying2 o0_6
  obtain rfl := cellsOk_nil c0_6
  obtain ⟨a1, rfl, rfl, rfl, w1⟩ := open_int Try.underlying2 (hval 1 2 v1 rfl rfl) h1
  obtain ⟨s2, n2, c2, V2, rfl, m2, R2, w2⟩ := open_i64s Try.underlying24 Try.underlying2 (by kernel_rfl) (hval 2 24 v2 rfl rfl) h2
  obtain ⟨s3, n3, c3, V3, rfl, m3, R3, w3⟩ := open_i64s Try.underlying24 Try.underlying2 (by kernel_rfl) (hval 3 24 v3 rfl rfl) h3
  clear hA0 hval0
  refine (fnExactControlled_walk W a0_0 w0_0 a0_1 w0_1 a0_2 w0_2 a0_3 w0_3 a0_4 w0_4 a0_5 w0_5 a0_6 w0_6 a1 w1 s2 n2 c2 V2 m2 R2 w2 s3 n3 c3 V3 m3 R3 w3).mono fun e W' ⟨he, bel⟩ => ?_
  subst he
  exact ⟨_, rfl, _, _, _, [], _, [], hW', trodAll_mk1 (shut_bool Try.underlying4 _), (trodAll_cons_mk (Below.trod laidOut (by kernel_rfl) (of_decide_eq_true (by kernel_rfl)) k0 bel lt0) (trodAll_cons_mk (Below.trod laidOut (by kernel_rfl) (of_decide_eq_true (by kernel_rfl)) k1 bel lt1) (trodAll_cons_mk (Below.trod laidOut (by kernel_rfl) (of_decide_eq_true (by kernel_rfl)) k2 bel lt2) (trodAll_cons_mk (Below.trod laidOut (by kernel_rfl) (of_decide_eq_true (by kernel_rfl)) k3 bel lt3) trodAll_mk0)))), rfl, bel.frame _, fun h => by cases h⟩

theorem fnExactControlled_holds : Rows.FnExactControlledSaid :=
  OpenClaim.holds_of_wide 3 Try.f3 rfl rfl rfl rfl rfl rfl rfl ⟨rfl, rfl, rfl, rfl, rfl⟩ rfl rfl rfl rfl rfl (by kernel_rfl) Try.func3 (by kernel_rfl)
    (of_decide_eq_true (by kernel_rfl)) (by unfold Func.isWrapper; first | (rw [if_pos (by decide +kernel)]; kernel_rfl) | (rw [if_neg (by decide +kernel)]; exact ⟨rfl, rfl⟩))
    (fun os started H enc _ => fnExactControlled_lifted os started H enc)
#print axioms fnExactControlled_holds
end Go.Proofs.Ytenibgjoojcpkaa
