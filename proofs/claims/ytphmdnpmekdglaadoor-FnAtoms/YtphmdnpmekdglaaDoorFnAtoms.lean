/-
What is proved: behind a fire that is drawn from every code there are just the atoms of the fuel and of the air, where the tables of burnings and molecules hold what the program's text lays (the card ties that).
-/
import Derived.Test.YtphmdnpmekdglaaDoorFuD
import Derived.Test.YtphmdnpmekdglaaDoorAtV
import Derived.Test.YtphmdnpmekdglaaDoorOpen8
import Derived.Deep.DeepCutAuto
namespace Go.Proofs.YtphmdnpmekdglaaDoor
set_option maxRecDepth 40000
open Go.ChangeShapes Go.WideShapes Go.ChangeAt Go.RowKit
set_option linter.unusedVariables false
set_option linter.unusedSimpArgs false

set_option maxHeartbeats 400000 in
theorem atoms_far (w : World) (s : Option Addr) (n c : Nat) (h : (1048576 : Int) < n) :
    Calls Tryd.prog 3 #[.slice s n c] w fun e w' => e = .returned (.bool true) ∧ Below w.heap.size w w' := by
  go_enter Tryd.func3, Tryd.ntmps3
  go_wp2_with fail
  refine (big_yes _ _ _ _ h).mono ?_
  rintro e w1 ⟨rfl, rfl⟩
  go_wp2
  go_ret
  exact ⟨rfl, Below.refl _ _⟩
set_option maxRecDepth 20000 in
set_option maxHeartbeats 8000000 in
theorem atoms_near (w : World) (s : Option Addr) (n c : Nat) (h : (n : Int) ≤ 1048576) (HC : Hid (Code8 w s n)) (hT : Tabs w) :
    Calls Tryd.prog 3 #[.slice s n c] w fun e w' => e = .returned (.bool true) ∧ Below w.heap.size w w' := by
  go_enter Tryd.func3, Tryd.ntmps3
  go_wp2_with fail
  refine (big_no _ _ _ _ h).mono ?_
  rintro e w1 ⟨rfl, rfl⟩
  have HB : Hid (Below w1.heap.size w1 w1) := Below.refl _ _
  have HT : Hid (Tabs w1) := hT
  clear hT
  go_wp2_with fail
  refine (drawBurn_any HC).mono ?_
  rintro e wv1 ⟨x0, x1, x2, x3, x4, air, rfl, h_⟩
  replace HT : Hid (Tabs wv1) := HT.out.below h_
  replace HB : Hid (Below w1.heap.size w1 wv1) := HB.out.trans (h_.mono HB.out.size)
  clear h_
  go_upto_region 4 with fail
  obtain ⟨wv2, hw_⟩ : ∃ x_, x_ = wv1.alloc (.cells #[.int .i64 x0, .int .i64 x1, .int .i64 x2, .int .i64 x3, .int .i64 x4] 25) := ⟨_, rfl⟩
  rw [← hw_]
  have Hd : Hid (Blk wv2 wv1.heap.size [.int .i64 x0, .int .i64 x1, .int .i64 x2, .int .i64 x3, .int .i64 x4]) := by show Blk _ _ _; rw [hw_]; exact Blk.new wv1 #[.int .i64 x0, .int .i64 x1, .int .i64 x2, .int .i64 x3, .int .i64 x4] _
  have bl_ : Below wv1.heap.size wv1 wv2 := by rw [hw_]; exact below0 _ _
  clear hw_
  replace HT : Hid (Tabs wv2) := HT.out.below bl_
  replace HB : Hid (Below w1.heap.size w1 wv2) := HB.out.trans (bl_.mono HB.out.size)
  obtain ⟨gd, hg_⟩ : ∃ g, g = wv1.heap.size := ⟨_, rfl⟩
  rw [← hg_] at Hd ⊢
  clear hg_ bl_
  obtain ⟨z_d, f_d, c_d⟩ := Hd.out
  have dc0 : wv2.cell? ⟨gd, 0, none⟩ = some (.int .i64 x0) := c_d 0 _ rfl
  have dc1 : wv2.cell? ⟨gd, 1, none⟩ = some (.int .i64 x1) := c_d 1 _ rfl
  have dc2 : wv2.cell? ⟨gd, 2, none⟩ = some (.int .i64 x2) := c_d 2 _ rfl
  have dc3 : wv2.cell? ⟨gd, 3, none⟩ = some (.int .i64 x3) := c_d 3 _ rfl
  have dc4 : wv2.cell? ⟨gd, 4, none⟩ = some (.int .i64 x4) := c_d 4 _ rfl
  clear f_d c_d
  cases hk : burnOk x0 x1 x2 x3 x4 air
  case false =>
    have SV : Hid (∀ w, Calls Tryd.prog 10 #[.agg #[.int .i64 x0, .int .i64 x1, .int .i64 x2, .int .i64 x3, .int .i64 x4], .int .i64 air] w fun e w' => e = .returned (.tuple #[.agg #[.int .i64 0, .int .i64 0, .int .i64 0, .int .i64 0, .int .i64 0, .int .i64 0, .int .i64 0, .int .i64 0, .int .i64 0], .bool false]) ∧ Below w.heap.size w w') := fun w => by have q := specBurn_any x0 x1 x2 x3 x4 air w; rw [burn_no hk, hk] at q; exact q
    have IV : Hid (∀ w, Tabs w → Calls Tryd.prog 11 #[.agg #[.int .i64 x0, .int .i64 x1, .int .i64 x2, .int .i64 x3, .int .i64 x4], .int .i64 air] w fun e w' => e = .returned (.tuple #[.agg #[.int .i64 0, .int .i64 0, .int .i64 0, .int .i64 0, .int .i64 0, .int .i64 0, .int .i64 0, .int .i64 0, .int .i64 0], .bool false]) ∧ Below w.heap.size w w') := fun w t => by have q := implBurn_any x0 x1 x2 x3 x4 air w t.1; rw [burn_no hk, hk] at q; exact q
    clear hk
    go_wp2_with fail
    refine (SV.out _).mono ?_
    rintro e wv3 ⟨rfl, h_⟩
    replace HT : Hid (Tabs wv3) := HT.out.below h_
    replace Hd : Hid (Blk wv3 gd [.int .i64 x0, .int .i64 x1, .int .i64 x2, .int .i64 x3, .int .i64 x4]) := Hd.out.below h_
    replace HB : Hid (Below w1.heap.size w1 wv3) := HB.out.trans (h_.mono HB.out.size)
    clear h_
    clear dc0 dc1 dc2 dc3 dc4 z_d
    go_upto_region 5 with fail
    obtain ⟨wv4, hw_⟩ : ∃ x_, x_ = wv3.alloc (.cells #[.int .i64 0, .int .i64 0, .int .i64 0, .int .i64 0, .int .i64 0, .int .i64 0, .int .i64 0, .int .i64 0, .int .i64 0] 29) := ⟨_, rfl⟩
    rw [← hw_]
    have Hs : Hid (Blk wv4 wv3.heap.size [.int .i64 0, .int .i64 0, .int .i64 0, .int .i64 0, .int .i64 0, .int .i64 0, .int .i64 0, .int .i64 0, .int .i64 0]) := by show Blk _ _ _; rw [hw_]; exact Blk.new wv3 #[.int .i64 0, .int .i64 0, .int .i64 0, .int .i64 0, .int .i64 0, .int .i64 0, .int .i64 0, .int .i64 0, .int .i64 0] _
    have bl_ : Below wv3.heap.size wv3 wv4 := by rw [hw_]; exact below0 _ _
    clear hw_
    replace HT : Hid (Tabs wv4) := HT.out.below bl_
    replace Hd : Hid (Blk wv4 gd [.int .i64 x0, .int .i64 x1, .int .i64 x2, .int .i64 x3, .int .i64 x4]) := Hd.out.below bl_
    replace HB : Hid (Below w1.heap.size w1 wv4) := HB.out.trans (bl_.mono HB.out.size)
    obtain ⟨gs, hg_⟩ : ∃ g, g = wv3.heap.size := ⟨_, rfl⟩
    rw [← hg_] at Hs ⊢
    clear hg_ bl_
    obtain ⟨z_d, f_d, c_d⟩ := Hd.out
    have dc0 : wv4.cell? ⟨gd, 0, none⟩ = some (.int .i64 x0) := c_d 0 _ rfl
    have dc1 : wv4.cell? ⟨gd, 1, none⟩ = some (.int .i64 x1) := c_d 1 _ rfl
    have dc2 : wv4.cell? ⟨gd, 2, none⟩ = some (.int .i64 x2) := c_d 2 _ rfl
    have dc3 : wv4.cell? ⟨gd, 3, none⟩ = some (.int .i64 x3) := c_d 3 _ rfl
    have dc4 : wv4.cell? ⟨gd, 4, none⟩ = some (.int .i64 x4) := c_d 4 _ rfl
    clear f_d c_d
    go_wp2_with fail
    refine (IV.out _ HT.out).mono ?_
    rintro e wv5 ⟨rfl, h_⟩
    replace HT : Hid (Tabs wv5) := HT.out.below h_
    replace Hd : Hid (Blk wv5 gd [.int .i64 x0, .int .i64 x1, .int .i64 x2, .int .i64 x3, .int .i64 x4]) := Hd.out.below h_
    replace Hs : Hid (Blk wv5 gs [.int .i64 0, .int .i64 0, .int .i64 0, .int .i64 0, .int .i64 0, .int .i64 0, .int .i64 0, .int .i64 0, .int .i64 0]) := Hs.out.below h_
    replace HB : Hid (Below w1.heap.size w1 wv5) := HB.out.trans (h_.mono HB.out.size)
    clear h_
    clear dc0 dc1 dc2 dc3 dc4 z_d
    go_upto_region 6 with fail
    obtain ⟨wv6, hw_⟩ : ∃ x_, x_ = wv5.alloc (.cells #[.int .i64 0, .int .i64 0, .int .i64 0, .int .i64 0, .int .i64 0, .int .i64 0, .int .i64 0, .int .i64 0, .int .i64 0] 29) := ⟨_, rfl⟩
    rw [← hw_]
    have Hi : Hid (Blk wv6 wv5.heap.size [.int .i64 0, .int .i64 0, .int .i64 0, .int .i64 0, .int .i64 0, .int .i64 0, .int .i64 0, .int .i64 0, .int .i64 0]) := by show Blk _ _ _; rw [hw_]; exact Blk.new wv5 #[.int .i64 0, .int .i64 0, .int .i64 0, .int .i64 0, .int .i64 0, .int .i64 0, .int .i64 0, .int .i64 0, .int .i64 0] _
    have bl_ : Below wv5.heap.size wv5 wv6 := by rw [hw_]; exact below0 _ _
    clear hw_
    replace HT : Hid (Tabs wv6) := HT.out.below bl_
    replace Hd : Hid (Blk wv6 gd [.int .i64 x0, .int .i64 x1, .int .i64 x2, .int .i64 x3, .int .i64 x4]) := Hd.out.below bl_
    replace Hs : Hid (Blk wv6 gs [.int .i64 0, .int .i64 0, .int .i64 0, .int .i64 0, .int .i64 0, .int .i64 0, .int .i64 0, .int .i64 0, .int .i64 0]) := Hs.out.below bl_
    replace HB : Hid (Below w1.heap.size w1 wv6) := HB.out.trans (bl_.mono HB.out.size)
    obtain ⟨gi, hg_⟩ : ∃ g, g = wv5.heap.size := ⟨_, rfl⟩
    rw [← hg_] at Hi ⊢
    clear hg_ bl_
    have BF := HB.out
    have sBF := BF.size
    go_wp2
    go_ret
    exact ⟨rfl, (by repeat (first | with_reducible exact Below.refl _ _ | with_reducible exact BF | with_reducible refine Below.setCell ?_ (by first | omega | (simp; done) | (simp; omega)) _ | with_reducible refine bDrewN ?_ _ | with_reducible refine Below.drew ?_ | with_reducible refine Below.alloc ?_ (by first | omega | (simp; done) | (simp; omega)) _))⟩
  case true =>
    obtain ⟨g0, g1, g2, g3, g4, g5, g6, g7, g8, e1, e2, -, -⟩ := burn_form hk
    have hb_ := ok_parts hk
    have SV : Hid (∀ w, Calls Tryd.prog 10 #[.agg #[.int .i64 x0, .int .i64 x1, .int .i64 x2, .int .i64 x3, .int .i64 x4], .int .i64 air] w fun e w' => e = .returned (.tuple #[.agg #[.int .i64 g0, .int .i64 g1, .int .i64 g2, .int .i64 g3, .int .i64 g4, .int .i64 g5, .int .i64 g6, .int .i64 g7, .int .i64 g8], .bool true]) ∧ Below w.heap.size w w') := fun w => by have q := specBurn_any x0 x1 x2 x3 x4 air w; rw [e1, hk] at q; exact q
    have IV : Hid (∀ w, Tabs w → Calls Tryd.prog 11 #[.agg #[.int .i64 x0, .int .i64 x1, .int .i64 x2, .int .i64 x3, .int .i64 x4], .int .i64 air] w fun e w' => e = .returned (.tuple #[.agg #[.int .i64 g0, .int .i64 g1, .int .i64 g2, .int .i64 g3, .int .i64 g4, .int .i64 g5, .int .i64 g6, .int .i64 g7, .int .i64 g8], .bool true]) ∧ Below w.heap.size w w') := fun w t => by have q := implBurn_any x0 x1 x2 x3 x4 air w t.1; rw [e1, hk] at q; exact q
    have EV : Hid (∀ w, Tabs w → Calls Tryd.prog 12 #[.agg #[.int .i64 g0, .int .i64 g1, .int .i64 g2, .int .i64 g3, .int .i64 g4, .int .i64 g5, .int .i64 g6, .int .i64 g7, .int .i64 g8]] w fun e w' => e = .returned (.tuple #[.agg #[.int .i64 x0, .int .i64 x1, .int .i64 x2, .int .i64 (x3 + 42 * air), .int .i64 (x4 + 158 * air)], .bool true]) ∧ Below w.heap.size w w') := fun w t => by have q := elements_any g0 g1 g2 g3 g4 g5 g6 g7 g8 w t.2; rw [e2] at q; exact q
    obtain ⟨hf_, ha_⟩ := hb_
    have fb_ := fuel_bounds hf_
    obtain ⟨a0, a1⟩ := ha_
    have o0 : 0 ≤ x3 ∧ x3 ≤ 1000000000 := by omega
    have n0 : 0 ≤ x4 ∧ x4 ≤ 1000000000 := by omega
    have wa1 : IntKind.i64.wrap (42 * air) = 42 * air := by rw [IntKind.wrap_i64]; omega
    have wa2 : IntKind.i64.wrap (158 * air) = 158 * air := by rw [IntKind.wrap_i64]; omega
    have wa3 : IntKind.i64.wrap (x3 + 42 * air) = x3 + 42 * air := by rw [IntKind.wrap_i64]; omega
    have wa4 : IntKind.i64.wrap (x4 + 158 * air) = x4 + 158 * air := by rw [IntKind.wrap_i64]; omega
    obtain ⟨o0a, o0b⟩ := o0
    obtain ⟨n0a, n0b⟩ := n0
    clear hk e1 e2 hf_ fb_
    go_wp2_with fail
    refine (SV.out _).mono ?_
    rintro e wv3 ⟨rfl, h_⟩
    replace HT : Hid (Tabs wv3) := HT.out.below h_
    replace Hd : Hid (Blk wv3 gd [.int .i64 x0, .int .i64 x1, .int .i64 x2, .int .i64 x3, .int .i64 x4]) := Hd.out.below h_
    replace HB : Hid (Below w1.heap.size w1 wv3) := HB.out.trans (h_.mono HB.out.size)
    clear h_
    clear dc0 dc1 dc2 dc3 dc4 z_d
    go_upto_region 5 with fail
    obtain ⟨wv4, hw_⟩ : ∃ x_, x_ = wv3.alloc (.cells #[.int .i64 g0, .int .i64 g1, .int .i64 g2, .int .i64 g3, .int .i64 g4, .int .i64 g5, .int .i64 g6, .int .i64 g7, .int .i64 g8] 29) := ⟨_, rfl⟩
    rw [← hw_]
    have Hs : Hid (Blk wv4 wv3.heap.size [.int .i64 g0, .int .i64 g1, .int .i64 g2, .int .i64 g3, .int .i64 g4, .int .i64 g5, .int .i64 g6, .int .i64 g7, .int .i64 g8]) := by show Blk _ _ _; rw [hw_]; exact Blk.new wv3 #[.int .i64 g0, .int .i64 g1, .int .i64 g2, .int .i64 g3, .int .i64 g4, .int .i64 g5, .int .i64 g6, .int .i64 g7, .int .i64 g8] _
    have bl_ : Below wv3.heap.size wv3 wv4 := by rw [hw_]; exact below0 _ _
    clear hw_
    replace HT : Hid (Tabs wv4) := HT.out.below bl_
    replace Hd : Hid (Blk wv4 gd [.int .i64 x0, .int .i64 x1, .int .i64 x2, .int .i64 x3, .int .i64 x4]) := Hd.out.below bl_
    replace HB : Hid (Below w1.heap.size w1 wv4) := HB.out.trans (bl_.mono HB.out.size)
    obtain ⟨gs, hg_⟩ : ∃ g, g = wv3.heap.size := ⟨_, rfl⟩
    rw [← hg_] at Hs ⊢
    clear hg_ bl_
    obtain ⟨z_d, f_d, c_d⟩ := Hd.out
    have dc0 : wv4.cell? ⟨gd, 0, none⟩ = some (.int .i64 x0) := c_d 0 _ rfl
    have dc1 : wv4.cell? ⟨gd, 1, none⟩ = some (.int .i64 x1) := c_d 1 _ rfl
    have dc2 : wv4.cell? ⟨gd, 2, none⟩ = some (.int .i64 x2) := c_d 2 _ rfl
    have dc3 : wv4.cell? ⟨gd, 3, none⟩ = some (.int .i64 x3) := c_d 3 _ rfl
    have dc4 : wv4.cell? ⟨gd, 4, none⟩ = some (.int .i64 x4) := c_d 4 _ rfl
    clear f_d c_d
    go_wp2_with fail
    refine (IV.out _ HT.out).mono ?_
    rintro e wv5 ⟨rfl, h_⟩
    replace HT : Hid (Tabs wv5) := HT.out.below h_
    replace Hd : Hid (Blk wv5 gd [.int .i64 x0, .int .i64 x1, .int .i64 x2, .int .i64 x3, .int .i64 x4]) := Hd.out.below h_
    replace Hs : Hid (Blk wv5 gs [.int .i64 g0, .int .i64 g1, .int .i64 g2, .int .i64 g3, .int .i64 g4, .int .i64 g5, .int .i64 g6, .int .i64 g7, .int .i64 g8]) := Hs.out.below h_
    replace HB : Hid (Below w1.heap.size w1 wv5) := HB.out.trans (h_.mono HB.out.size)
    clear h_
    clear dc0 dc1 dc2 dc3 dc4 z_d
    go_upto_region 6 with fail
    obtain ⟨wv6, hw_⟩ : ∃ x_, x_ = wv5.alloc (.cells #[.int .i64 g0, .int .i64 g1, .int .i64 g2, .int .i64 g3, .int .i64 g4, .int .i64 g5, .int .i64 g6, .int .i64 g7, .int .i64 g8] 29) := ⟨_, rfl⟩
    rw [← hw_]
    have Hi : Hid (Blk wv6 wv5.heap.size [.int .i64 g0, .int .i64 g1, .int .i64 g2, .int .i64 g3, .int .i64 g4, .int .i64 g5, .int .i64 g6, .int .i64 g7, .int .i64 g8]) := by show Blk _ _ _; rw [hw_]; exact Blk.new wv5 #[.int .i64 g0, .int .i64 g1, .int .i64 g2, .int .i64 g3, .int .i64 g4, .int .i64 g5, .int .i64 g6, .int .i64 g7, .int .i64 g8] _
    have bl_ : Below wv5.heap.size wv5 wv6 := by rw [hw_]; exact below0 _ _
    clear hw_
    replace HT : Hid (Tabs wv6) := HT.out.below bl_
    replace Hd : Hid (Blk wv6 gd [.int .i64 x0, .int .i64 x1, .int .i64 x2, .int .i64 x3, .int .i64 x4]) := Hd.out.below bl_
    replace Hs : Hid (Blk wv6 gs [.int .i64 g0, .int .i64 g1, .int .i64 g2, .int .i64 g3, .int .i64 g4, .int .i64 g5, .int .i64 g6, .int .i64 g7, .int .i64 g8]) := Hs.out.below bl_
    replace HB : Hid (Below w1.heap.size w1 wv6) := HB.out.trans (bl_.mono HB.out.size)
    obtain ⟨gi, hg_⟩ : ∃ g, g = wv5.heap.size := ⟨_, rfl⟩
    rw [← hg_] at Hi ⊢
    clear hg_ bl_
    obtain ⟨z_i, f_i, c_i⟩ := Hi.out
    have ic0 : wv6.cell? ⟨gi, 0, none⟩ = some (.int .i64 g0) := c_i 0 _ rfl
    have ic1 : wv6.cell? ⟨gi, 1, none⟩ = some (.int .i64 g1) := c_i 1 _ rfl
    have ic2 : wv6.cell? ⟨gi, 2, none⟩ = some (.int .i64 g2) := c_i 2 _ rfl
    have ic3 : wv6.cell? ⟨gi, 3, none⟩ = some (.int .i64 g3) := c_i 3 _ rfl
    have ic4 : wv6.cell? ⟨gi, 4, none⟩ = some (.int .i64 g4) := c_i 4 _ rfl
    have ic5 : wv6.cell? ⟨gi, 5, none⟩ = some (.int .i64 g5) := c_i 5 _ rfl
    have ic6 : wv6.cell? ⟨gi, 6, none⟩ = some (.int .i64 g6) := c_i 6 _ rfl
    have ic7 : wv6.cell? ⟨gi, 7, none⟩ = some (.int .i64 g7) := c_i 7 _ rfl
    have ic8 : wv6.cell? ⟨gi, 8, none⟩ = some (.int .i64 g8) := c_i 8 _ rfl
    clear f_i c_i
    go_wp2_with fail
    refine (EV.out _ HT.out).mono ?_
    rintro e wv7 ⟨rfl, h_⟩
    replace HT : Hid (Tabs wv7) := HT.out.below h_
    replace Hd : Hid (Blk wv7 gd [.int .i64 x0, .int .i64 x1, .int .i64 x2, .int .i64 x3, .int .i64 x4]) := Hd.out.below h_
    replace Hs : Hid (Blk wv7 gs [.int .i64 g0, .int .i64 g1, .int .i64 g2, .int .i64 g3, .int .i64 g4, .int .i64 g5, .int .i64 g6, .int .i64 g7, .int .i64 g8]) := Hs.out.below h_
    replace Hi : Hid (Blk wv7 gi [.int .i64 g0, .int .i64 g1, .int .i64 g2, .int .i64 g3, .int .i64 g4, .int .i64 g5, .int .i64 g6, .int .i64 g7, .int .i64 g8]) := Hi.out.below h_
    replace HB : Hid (Below w1.heap.size w1 wv7) := HB.out.trans (h_.mono HB.out.size)
    clear h_
    clear ic0 ic1 ic2 ic3 ic4 ic5 ic6 ic7 ic8 z_i
    go_upto_region 11 with fail
    obtain ⟨wv8, hw_⟩ : ∃ x_, x_ = wv7.alloc (.cells #[.int .i64 x0, .int .i64 x1, .int .i64 x2, .int .i64 (x3 + 42 * air), .int .i64 (x4 + 158 * air)] 25) := ⟨_, rfl⟩
    rw [← hw_]
    have He : Hid (Blk wv8 wv7.heap.size [.int .i64 x0, .int .i64 x1, .int .i64 x2, .int .i64 (x3 + 42 * air), .int .i64 (x4 + 158 * air)]) := by show Blk _ _ _; rw [hw_]; exact Blk.new wv7 #[.int .i64 x0, .int .i64 x1, .int .i64 x2, .int .i64 (x3 + 42 * air), .int .i64 (x4 + 158 * air)] _
    have bl_ : Below wv7.heap.size wv7 wv8 := by rw [hw_]; exact below0 _ _
    clear hw_
    replace HT : Hid (Tabs wv8) := HT.out.below bl_
    replace Hd : Hid (Blk wv8 gd [.int .i64 x0, .int .i64 x1, .int .i64 x2, .int .i64 x3, .int .i64 x4]) := Hd.out.below bl_
    replace Hs : Hid (Blk wv8 gs [.int .i64 g0, .int .i64 g1, .int .i64 g2, .int .i64 g3, .int .i64 g4, .int .i64 g5, .int .i64 g6, .int .i64 g7, .int .i64 g8]) := Hs.out.below bl_
    replace Hi : Hid (Blk wv8 gi [.int .i64 g0, .int .i64 g1, .int .i64 g2, .int .i64 g3, .int .i64 g4, .int .i64 g5, .int .i64 g6, .int .i64 g7, .int .i64 g8]) := Hi.out.below bl_
    replace HB : Hid (Below w1.heap.size w1 wv8) := HB.out.trans (bl_.mono HB.out.size)
    obtain ⟨ge, hg_⟩ : ∃ g, g = wv7.heap.size := ⟨_, rfl⟩
    rw [← hg_] at He ⊢
    clear hg_ bl_
    obtain ⟨z_d, f_d, c_d⟩ := Hd.out
    have dc0 : wv8.cell? ⟨gd, 0, none⟩ = some (.int .i64 x0) := c_d 0 _ rfl
    have dc1 : wv8.cell? ⟨gd, 1, none⟩ = some (.int .i64 x1) := c_d 1 _ rfl
    have dc2 : wv8.cell? ⟨gd, 2, none⟩ = some (.int .i64 x2) := c_d 2 _ rfl
    have dc3 : wv8.cell? ⟨gd, 3, none⟩ = some (.int .i64 x3) := c_d 3 _ rfl
    have dc4 : wv8.cell? ⟨gd, 4, none⟩ = some (.int .i64 x4) := c_d 4 _ rfl
    clear f_d c_d
    obtain ⟨z_e, f_e, c_e⟩ := He.out
    have ec0 : wv8.cell? ⟨ge, 0, none⟩ = some (.int .i64 x0) := c_e 0 _ rfl
    have ec1 : wv8.cell? ⟨ge, 1, none⟩ = some (.int .i64 x1) := c_e 1 _ rfl
    have ec2 : wv8.cell? ⟨ge, 2, none⟩ = some (.int .i64 x2) := c_e 2 _ rfl
    have ec3 : wv8.cell? ⟨ge, 3, none⟩ = some (.int .i64 (x3 + 42 * air)) := c_e 3 _ rfl
    have ec4 : wv8.cell? ⟨ge, 4, none⟩ = some (.int .i64 (x4 + 158 * air)) := c_e 4 _ rfl
    clear f_e c_e
    have EQ := eq_fuel x0 x1 x2 (x3 + 42 * air) (x4 + 158 * air)
    have BF := HB.out
    have sBF := BF.size
    go_wp2
    go_ret
    exact ⟨rfl, (by repeat (first | with_reducible exact Below.refl _ _ | with_reducible exact BF | with_reducible refine Below.setCell ?_ (by first | omega | (simp; done) | (simp; omega)) _ | with_reducible refine bDrewN ?_ _ | with_reducible refine Below.drew ?_ | with_reducible refine Below.alloc ?_ (by first | omega | (simp; done) | (simp; omega)) _))⟩
theorem fnAtoms_walk (w : World) (s : Option Addr) (n c : Nat) (hn : n ≤ 9223372036854775807) (R : Bytes w s n) (hT : Tabs w) :
    Calls Tryd.prog 3 #[.slice s n c] w fun e w' => e = .returned (.bool true) ∧ Below w.heap.size w w' := by
  by_cases h : n ≤ 1048576
  · exact atoms_near w s n c (by omega) (R.code h) hT
  · exact atoms_far w s n c (by omega)
theorem var?_block {P : Program} {w : World} {n : String} {g : Nat} {cs : Array Value} (hg : P.globalNamed n = some g) (h : w.var? P n = some cs) : ∃ t fr, w.heap[g]? = some (.cells cs t fr) := by
  simp only [World.var?, hg, Option.bind_some] at h
  split at h
  · rename_i c t fr he
    cases h
    exact ⟨t, fr, he⟩
  · cases h
/-- WHAT THE ROW's LIST GIVES: the two tables. -/
theorem fnAtoms_tabs {W : World} (h : laidMetH Tryd.prog Rows.fnAtomsRow.laid W) : Tabs W := by
  have h0 : laidMet Tryd.prog Rows.fnAtomsRow.laid W := h
  have h1 := cells_of_tail h0
  have hv := cells_of_head (P := Tryd.prog) (g := 1) (t := 63) (c := tbl.map (Value.int .i64)) 8 (by kernel_rfl) (by kernel_rfl) (by kernel_rfl) h0
  have hg : Tryd.prog.globalNamed _ = some 1 := (show Tryd.prog.globalNamed ((Rows.fnAtomsSpec.vars.drop 1).headD default) = some 1 by kernel_rfl)
  have hv2 := cells_of_head (P := Tryd.prog) (g := 0) (t := 57) (c := [.int .i64 4, .int .i64 1, .int .i64 3, .int .i64 6, .int .i64 2, .int .i64 5, .int .i64 2, .int .i64 1, .int .i64 1, .int .i64 1, .int .i64 1, .int .i64 0]) 8 (by kernel_rfl) (by kernel_rfl) (by kernel_rfl) h1
  have hg2 : Tryd.prog.globalNamed _ = some 0 := (show Tryd.prog.globalNamed (Rows.fnAtomsSpec.vars.headD default) = some 0 by kernel_rfl)
  refine ⟨var?_block hg2 hv2, ?_⟩
  have key := World.var?_cell hg hv
  refine ⟨?_, fun i hi => ?_⟩
  · have k0 := key 0
    rcases Nat.lt_or_ge 1 W.heap.size with z | z
    · exact z
    · exfalso
      have : W.cell? ⟨1, 0, none⟩ = none := by simp [World.cell?, Array.getElem?_eq_none z]
      rw [this] at k0
      simp [tbl] at k0
  · have ki := key i
    rw [ki]
    have hl : tbl.length = 54 := by decide
    simp [tb, List.getD, hl, hi]
theorem fnAtoms_vars {H : Type} {enc : TypeId × Value → H} {P : Program} {w : World} {sp : Nat → Bool} : ∀ {ns : List String} {gs : List (DataW H)} {ps : List MemPlace}, DataW.TrodVars enc P w sp ns gs ps → gs.length = ns.length
  | [], [], _, _ => rfl
  | [], _ :: _, _, h => h.elim
  | _ :: _, [], _, h => h.elim
  | _ :: _, _ :: _, _, ⟨_, _, _, _, _, _, _, _, _, _, hs, _⟩ => by simp [fnAtoms_vars hs]
theorem fnAtoms_contract (H : Type) (enc : TypeId × Value → H) (W : World) (base : Nat) (args : Array Value) (ds gs : List (DataW H)) (before : List MemPlace)
    (hval : ∀ (j : Nat) t v, Tryd.f3.params[j]? = some t → args[j]? = some v → Value.okWide Tryd.prog W .any base t v)
    (hW : DataW.Whole enc Tryd.prog Tryd.f3.params.toList Rows.fnAtomsSpec.vars false W args.toList ds gs before) (hL : laidMetH Tryd.prog Rows.fnAtomsRow.laid W) :
    Calls Tryd.prog 3 args W fun e W' => ∃ v, e = .returned v ∧ Rows.fnAtomsSpec.post enc Tryd.prog Tryd.f3 false true false false W args v W' := by
  have hW' := hW
  obtain ⟨p, q, hA0, hV, rfl, hfz, hnd⟩ := hW
  have hA : DataW.TrodAll enc Tryd.prog W 0 (fun _ => true) true Tryd.f3.params.toList args.toList ds p := hA0
  rw [Tryd.params3] at hA hval
  obtain ⟨v0, vs0, d0, ds0, p0, q0, hargs, rfl, rfl, h0, r0⟩ := trodAll_cons hA
  obtain ⟨rfl, rfl, rfl⟩ := trodAll_nil r0
  obtain rfl : args = #[v0] := by cases args; simp_all
  have hV2 := hV
  have hlen := fnAtoms_vars hV
  obtain ⟨y0, y1, rfl⟩ : ∃ y0 y1, gs = [y0, y1] := by
    have hl : gs.length = 2 := hlen.trans (by kernel_rfl)
    rcases gs with _ | ⟨y0, _ | ⟨y1, _ | ⟨z, r⟩⟩⟩
    · cases hl
    · cases hl
    · exact ⟨_, _, rfl⟩
    · simp at hl
  have k0 := h0
  have lt0 : ∀ x ∈ p0, x.block < W.heap.size := by obtain ⟨m, hm⟩ := k0; exact DataW.trod_lt m _ _ _ hm
  obtain ⟨s0, n0, c0, rfl, m0, R0⟩ := open_code Tryd.underlying22 Tryd.underlying5 (by kernel_rfl) (hval 0 22 v0 rfl rfl) h0
  clear hA0
  refine (fnAtoms_walk W s0 n0 c0 m0 R0 (fnAtoms_tabs hL)).mono fun e W' ⟨he, bel⟩ => ?_
  subst he
  exact ⟨_, rfl, _, _, _, [], _, q, hW', trodAll_mk1 (shut_bool Tryd.underlying4 _), (trodAll_cons_mk (Below.trod laidOut (by kernel_rfl) (of_decide_eq_true (by kernel_rfl)) k0 bel lt0) trodAll_mk0), Below.trodVars laidOut bel (by kernel_rfl) hV2, bel.frame _, fun h => by cases h⟩
set_option maxRecDepth 100000 in
theorem fnAtoms_lifted (os : Os) (started : os.Started) (H : Type) (enc : TypeId × Value → H) (F : Stop.Interp) :
    ReturnsInHanded {} Tryd.checked os 3 .any ((OpenSpec.ofChange Rows.fnAtomsSpec).preRow enc Tryd.prog Tryd.f3 Rows.fnAtomsRow.domain false Rows.fnAtomsRow.laid) (((OpenSpec.ofChange Rows.fnAtomsSpec).at F).post enc Tryd.prog Tryd.f3 false true false false) := by
  refine returnsInHanded_of_row (C := Tryd.checked) (s := OpenSpec.ofChange Rows.fnAtomsSpec) own started (by kernel_rfl) Tryd.func3
    (witness_row_at (enc := enc) (C := Tryd.checked) false ({ World.holding Tryd.prog os ⟨#[], #[], []⟩ with heap := (((World.holding Tryd.prog os ⟨#[], #[], []⟩).heap.modify 0 fun
      | .cells _ t frozen => .cells #[.int .i64 4, .int .i64 1, .int .i64 3, .int .i64 6, .int .i64 2, .int .i64 5, .int .i64 2, .int .i64 1, .int .i64 1, .int .i64 1, .int .i64 1, .int .i64 0] t frozen
      | o => o).modify 1 fun
      | .cells _ t frozen => .cells #[.int .i64 1, .int .i64 0, .int .i64 0, .int .i64 2, .int .i64 0, .int .i64 394, .int .i64 1, .int .i64 0, .int .i64 0, .int .i64 1, .int .i64 0, .int .i64 111, .int .i64 1, .int .i64 0, .int .i64 0, .int .i64 0, .int .i64 0, .int .i64 0, .int .i64 0, .int .i64 2, .int .i64 0, .int .i64 1, .int .i64 0, .int .i64 242, .int .i64 0, .int .i64 2, .int .i64 0, .int .i64 0, .int .i64 0, .int .i64 0, .int .i64 0, .int .i64 0, .int .i64 1, .int .i64 2, .int .i64 0, .int .i64 297, .int .i64 0, .int .i64 0, .int .i64 1, .int .i64 0, .int .i64 0, .int .i64 0, .int .i64 0, .int .i64 0, .int .i64 0, .int .i64 1, .int .i64 0, .int .i64 0, .int .i64 0, .int .i64 0, .int .i64 0, .int .i64 0, .int .i64 1, .int .i64 0] t frozen
      | o => o) }) #[.slice none 0 0] rfl (by kernel_rfl) (by kernel_rfl) (by kernel_rfl)
      (OpenSpec.preRow_of_B rfl 8 (by kernel_rfl) (by kernel_rfl) (laidMet_of_run' 8 (by kernel_rfl) (by kernel_rfl)))) ?_
  intro W base args ds gs before hval hW _ _ _ hL _ _
  exact fnAtoms_contract H enc W base args ds gs before hval hW hL
theorem fnAtoms_said : Rows.FnAtomsSaid :=
  OpenClaim.holds_of_cond 3 Tryd.f3 rfl rfl rfl rfl rfl rfl rfl ⟨rfl, rfl, rfl, rfl, rfl⟩ rfl rfl rfl rfl rfl (by kernel_rfl) Tryd.func3 (by kernel_rfl)
    (of_decide_eq_true (by kernel_rfl)) (by unfold Func.isWrapper; first | (rw [if_pos (by decide +kernel)]; kernel_rfl) | (rw [if_neg (by decide +kernel)]; exact ⟨rfl, rfl⟩))
    (fun os started H enc _ F => by rw [OpenClaim.pre_eq_preRow]; exact fnAtoms_lifted os started H enc F)
theorem fnAtoms_plain (f : FuncId) (fn : Func) (hf : Tryd.pinned.checked.prog.funcNamed Rows.fnAtomsRow.func = some f) (hfn : Tryd.pinned.checked.prog.funcs[f]? = some fn) :
    false = Tryd.pinned.checked.prog.looks [] ∧ ∀ (j : Nat) t, fn.params[j]? = some t → Tryd.pinned.checked.prog.wantsStandIn t = false := by
  obtain rfl : f = 3 := Option.some.inj ((show Tryd.prog.funcNamed Rows.fnAtomsRow.func = some 3 by kernel_rfl).symm.trans hf) |>.symm
  obtain rfl : fn = Tryd.f3 := (Option.some.inj (Tryd.func3.symm.trans hfn)).symm
  refine ⟨by kernel_rfl, fun j t ht => ?_⟩
  have hall : Tryd.f3.params.toList.all (fun t => !Tryd.prog.wantsStandIn t) = true := by kernel_rfl
  have hmem := Array.mem_of_getElem? ht
  have := List.all_eq_true.1 hall t (Array.mem_toList_iff.2 hmem)
  have this2 : Tryd.prog.wantsStandIn t = false := by simpa using this
  exact this2
theorem fnAtoms_holds : Rows.FnAtomsCardSaid :=
  Claim7.holds_tied_plain_at .later [] _ _ _ _ fnAtoms_said (fun _ h => by cases h) (by kernel_rfl) (fun _ h => by cases h) fnAtoms_row_tie rfl ⟨rfl, rfl⟩ (by kernel_rfl) rfl fnAtoms_plain (by kernel_rfl)
#print axioms fnAtoms_holds
end Go.Proofs.YtphmdnpmekdglaaDoor
