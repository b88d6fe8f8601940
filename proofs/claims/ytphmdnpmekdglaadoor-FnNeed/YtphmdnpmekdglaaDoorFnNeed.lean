/-
What is proved: with the air that a right fuel that is drawn from every code needs nothing that burns is left, with one portion less something is; with more air no less heat is given; where the tables of burnings and molecules hold what the program's text lays (the card ties that).
-/
import Derived.Test.YtphmdnpmekdglaaDoorFuD
import Derived.Test.YtphmdnpmekdglaaDoorAtV
import Derived.Test.YtphmdnpmekdglaaDoorOpen8
import Derived.Deep.DeepCutAuto
import Derived.Deep.QuietTactic
namespace Go.Proofs.YtphmdnpmekdglaaDoor
set_option maxRecDepth 40000
open Go.ChangeShapes Go.WideShapes Go.ChangeAt Go.RowKit
set_option linter.unusedVariables false
set_option linter.unusedSimpArgs false

set_option maxHeartbeats 400000 in
theorem need_far (w : World) (s : Option Addr) (n c : Nat) (h : (1048576 : Int) < n) :
    Calls Tryd.prog 4 #[.slice s n c] w fun e w' => e = .returned (.bool true) ∧ Below w.heap.size w w' := by
  go_enter Tryd.func4, Tryd.ntmps4
  go_wp2_with fail
  refine (big_yes _ _ _ _ h).mono ?_
  rintro e w1 ⟨rfl, rfl⟩
  go_wp2
  go_ret
  exact ⟨rfl, Below.refl _ _⟩
set_option maxHeartbeats 1000000 in
theorem clean_fl (g0 g1 g2 g3 g4 g5 g6 g7 g8 : Int) (w : World) : Calls Tryd.prog 15 #[.agg #[.int .i64 g0, .int .i64 g1, .int .i64 g2, .int .i64 g3, .int .i64 g4, .int .i64 g5, .int .i64 g6, .int .i64 g7, .int .i64 g8]] w fun e w' => e = .returned (.bool (decide (g1 = 0 ∧ g2 = 0 ∧ g4 = 0 ∧ g6 = 0))) ∧ Below w.heap.size w w' := by
  go_enter Tryd.func15, Tryd.ntmps15
  by_cases h1 : g1 = 0
  · subst h1
    by_cases h2 : g2 = 0
    · subst h2
      by_cases h4 : g4 = 0
      · subst h4
        by_cases h6 : g6 = 0
        · subst h6
          go_wp2
          go_ret
          exact ⟨ret_bool (by simp), (by repeat (first | with_reducible exact Below.refl _ _ | with_reducible refine Below.setCell ?_ (by first | omega | (simp; done) | (simp; omega)) _ | with_reducible refine bDrewN ?_ _ | with_reducible refine Below.drew ?_ | with_reducible refine Below.alloc ?_ (by first | omega | (simp; done) | (simp; omega)) _))⟩
        · have b : (g6 == 0) = false := by simpa using h6
          go_wp2
          go_ret
          exact ⟨ret_bool (by simp [h6]), (by repeat (first | with_reducible exact Below.refl _ _ | with_reducible refine Below.setCell ?_ (by first | omega | (simp; done) | (simp; omega)) _ | with_reducible refine bDrewN ?_ _ | with_reducible refine Below.drew ?_ | with_reducible refine Below.alloc ?_ (by first | omega | (simp; done) | (simp; omega)) _))⟩
      · have b : (g4 == 0) = false := by simpa using h4
        go_wp2
        go_ret
        exact ⟨ret_bool (by simp [h4]), (by repeat (first | with_reducible exact Below.refl _ _ | with_reducible refine Below.setCell ?_ (by first | omega | (simp; done) | (simp; omega)) _ | with_reducible refine bDrewN ?_ _ | with_reducible refine Below.drew ?_ | with_reducible refine Below.alloc ?_ (by first | omega | (simp; done) | (simp; omega)) _))⟩
    · have b : (g2 == 0) = false := by simpa using h2
      go_wp2
      go_ret
      exact ⟨ret_bool (by simp [h2]), (by repeat (first | with_reducible exact Below.refl _ _ | with_reducible refine Below.setCell ?_ (by first | omega | (simp; done) | (simp; omega)) _ | with_reducible refine bDrewN ?_ _ | with_reducible refine Below.drew ?_ | with_reducible refine Below.alloc ?_ (by first | omega | (simp; done) | (simp; omega)) _))⟩
  · have b : (g1 == 0) = false := by simpa using h1
    go_wp2
    go_ret
    exact ⟨ret_bool (by simp [h1]), (by repeat (first | with_reducible exact Below.refl _ _ | with_reducible refine Below.setCell ?_ (by first | omega | (simp; done) | (simp; omega)) _ | with_reducible refine bDrewN ?_ _ | with_reducible refine Below.drew ?_ | with_reducible refine Below.alloc ?_ (by first | omega | (simp; done) | (simp; omega)) _))⟩
set_option maxRecDepth 20000 in
set_option maxHeartbeats 8000000 in
theorem need_near (w : World) (s : Option Addr) (n c : Nat) (h : (n : Int) ≤ 1048576) (HC : Hid (Code8 w s n)) (hT : Tabs w) :
    Calls Tryd.prog 4 #[.slice s n c] w fun e w' => e = .returned (.bool true) ∧ Below w.heap.size w w' := by
  go_enter Tryd.func4, Tryd.ntmps4
  go_wp2_with fail
  refine (big_no _ _ _ _ h).mono ?_
  rintro e w1 ⟨rfl, rfl⟩
  have HB : Hid (Below w1.heap.size w1 w1) := Below.refl _ _
  have HT : Hid (Tabs w1) := hT
  clear hT
  go_wp2_with fail
  refine (drawBurn_any HC).mono ?_
  rintro e wv1 ⟨x0, x1, x2, x3, x4, air, rfl, h_⟩
  replace HT : Hid (Tabs wv1) := HT.out.below h_
  replace HB : Hid (Below w1.heap.size w1 wv1) := HB.out.trans (h_.mono HB.out.size)
  clear h_
  go_upto_region 4 with fail
  obtain ⟨wv2, hw_⟩ : ∃ x_, x_ = wv1.alloc (.cells #[.int .i64 x0, .int .i64 x1, .int .i64 x2, .int .i64 x3, .int .i64 x4] 25) := ⟨_, rfl⟩
  rw [← hw_]
  have Hd : Hid (Blk wv2 wv1.heap.size [.int .i64 x0, .int .i64 x1, .int .i64 x2, .int .i64 x3, .int .i64 x4]) := by show Blk _ _ _; rw [hw_]; exact Blk.new wv1 #[.int .i64 x0, .int .i64 x1, .int .i64 x2, .int .i64 x3, .int .i64 x4] _
  have bl_ : Below wv1.heap.size wv1 wv2 := by rw [hw_]; exact below0 _ _
  clear hw_
  replace HT : Hid (Tabs wv2) := HT.out.below bl_
  replace HB : Hid (Below w1.heap.size w1 wv2) := HB.out.trans (bl_.mono HB.out.size)
  obtain ⟨gd, hg_⟩ : ∃ g, g = wv1.heap.size := ⟨_, rfl⟩
  rw [← hg_] at Hd ⊢
  clear hg_ bl_
  obtain ⟨nd, hnd⟩ : ∃ nd, needV x0 x1 x2 x3 x4 = nd := ⟨_, rfl⟩
  have SN : Hid (∀ w, Calls Tryd.prog 14 #[.agg #[.int .i64 x0, .int .i64 x1, .int .i64 x2, .int .i64 x3, .int .i64 x4]] w fun e w' => e = .returned (.int .i64 nd) ∧ Below w.heap.size w w') := fun w => hnd ▸ specNeed_any x0 x1 x2 x3 x4 w
  have IN : Hid (∀ w, Calls Tryd.prog 13 #[.agg #[.int .i64 x0, .int .i64 x1, .int .i64 x2, .int .i64 x3, .int .i64 x4]] w fun e w' => e = .returned (.int .i64 nd) ∧ Below w.heap.size w w') := fun w => hnd ▸ implNeed_any x0 x1 x2 x3 x4 w
  have HN : Hid (needV x0 x1 x2 x3 x4 = nd) := hnd
  clear hnd
  obtain ⟨z_d, f_d, c_d⟩ := Hd.out
  have dc0 : wv2.cell? ⟨gd, 0, none⟩ = some (.int .i64 x0) := c_d 0 _ rfl
  have dc1 : wv2.cell? ⟨gd, 1, none⟩ = some (.int .i64 x1) := c_d 1 _ rfl
  have dc2 : wv2.cell? ⟨gd, 2, none⟩ = some (.int .i64 x2) := c_d 2 _ rfl
  have dc3 : wv2.cell? ⟨gd, 3, none⟩ = some (.int .i64 x3) := c_d 3 _ rfl
  have dc4 : wv2.cell? ⟨gd, 4, none⟩ = some (.int .i64 x4) := c_d 4 _ rfl
  clear f_d c_d
  go_wp2_with fail
  refine (IN.out _).mono ?_
  rintro e wv3 ⟨rfl, h_⟩
  replace HT : Hid (Tabs wv3) := HT.out.below h_
  replace Hd : Hid (Blk wv3 gd [.int .i64 x0, .int .i64 x1, .int .i64 x2, .int .i64 x3, .int .i64 x4]) := Hd.out.below h_
  replace HB : Hid (Below w1.heap.size w1 wv3) := HB.out.trans (h_.mono HB.out.size)
  clear h_
  clear dc0 dc1 dc2 dc3 dc4 z_d
  obtain ⟨z_d, f_d, c_d⟩ := Hd.out
  have dc0 : wv3.cell? ⟨gd, 0, none⟩ = some (.int .i64 x0) := c_d 0 _ rfl
  have dc1 : wv3.cell? ⟨gd, 1, none⟩ = some (.int .i64 x1) := c_d 1 _ rfl
  have dc2 : wv3.cell? ⟨gd, 2, none⟩ = some (.int .i64 x2) := c_d 2 _ rfl
  have dc3 : wv3.cell? ⟨gd, 3, none⟩ = some (.int .i64 x3) := c_d 3 _ rfl
  have dc4 : wv3.cell? ⟨gd, 4, none⟩ = some (.int .i64 x4) := c_d 4 _ rfl
  clear f_d c_d
  go_wp2_with fail
  refine (SN.out _).mono ?_
  rintro e wv4 ⟨rfl, h_⟩
  replace HT : Hid (Tabs wv4) := HT.out.below h_
  replace Hd : Hid (Blk wv4 gd [.int .i64 x0, .int .i64 x1, .int .i64 x2, .int .i64 x3, .int .i64 x4]) := Hd.out.below h_
  replace HB : Hid (Below w1.heap.size w1 wv4) := HB.out.trans (h_.mono HB.out.size)
  clear h_
  clear dc0 dc1 dc2 dc3 dc4 z_d
  have e1 : (nd != nd) = false := by simp
  cases hf : fuelB x0 x1 x2 x3 x4
  case false =>
    have n1 : nd = -1 := by rw [← HN.out]; unfold needV; rw [hf]; rfl
    subst n1
    clear HN hf
    have BF := HB.out
    have sBF := BF.size
    go_wp2
    go_ret
    exact ⟨rfl, (by repeat (first | with_reducible exact Below.refl _ _ | with_reducible exact BF | with_reducible refine Below.setCell ?_ (by first | omega | (simp; done) | (simp; omega)) _ | with_reducible refine bDrewN ?_ _ | with_reducible refine Below.drew ?_ | with_reducible refine Below.alloc ?_ (by first | omega | (simp; done) | (simp; omega)) _))⟩
  case true =>
    have n1 : nd = airV x0 x1 x2 x3 := by rw [← HN.out]; unfold needV; rw [hf]; rfl
    have ab := air_bounds hf
    rw [← n1] at ab
    obtain ⟨ab0, ab1⟩ := ab
    have HA : Hid (∀ a, 0 ≤ a → (x1 / 2 + 2 * x2 + 2 * x0 ≤ x3 + 42 * a ↔ nd ≤ a)) := fun a h => by rw [n1]; exact air_iff hf a h
    have HFU : Hid (fuelB x0 x1 x2 x3 x4 = true) := hf
    have HOK : Hid (∀ a, 0 ≤ a → a ≤ 1000000000 → burnOk x0 x1 x2 x3 x4 a = true) := fun a h0 h1 => by unfold burnOk; rw [hf, decide_eq_true (show inR a from ⟨h0, h1⟩)]; rfl
    clear n1 HN hf
    have b0 : decide (nd < 0) = false := decide_eq_false (by omega)
    obtain ⟨g0, g1, g2, g3, g4, g5, g6, g7, g8, ep1, -, ep3, ep4⟩ := burn_form (HOK.out (nd) (by omega) (by omega))
    have Ip : Hid (∀ w, Tabs w → Calls Tryd.prog 11 #[.agg #[.int .i64 x0, .int .i64 x1, .int .i64 x2, .int .i64 x3, .int .i64 x4], .int .i64 (nd)] w fun e w' => e = .returned (.tuple #[.agg #[.int .i64 g0, .int .i64 g1, .int .i64 g2, .int .i64 g3, .int .i64 g4, .int .i64 g5, .int .i64 g6, .int .i64 g7, .int .i64 g8], .bool true]) ∧ Below w.heap.size w w') := fun w t => by have q := implBurn_any x0 x1 x2 x3 x4 (nd) w t.1; rw [ep1, HOK.out (nd) (by omega) (by omega)] at q; exact q
    have Cp : Hid (∀ w, Calls Tryd.prog 15 #[.agg #[.int .i64 g0, .int .i64 g1, .int .i64 g2, .int .i64 g3, .int .i64 g4, .int .i64 g5, .int .i64 g6, .int .i64 g7, .int .i64 g8]] w fun e w' => e = .returned (.bool true) ∧ Below w.heap.size w w') := fun w => by have q := clean_fl g0 g1 g2 g3 g4 g5 g6 g7 g8 w; rw [ep4, decide_eq_true (by rw [HA.out _ (by omega)]; omega)] at q; exact q
    clear ep3
    clear ep1 ep4
    obtain ⟨z_d, f_d, c_d⟩ := Hd.out
    have dc0 : wv4.cell? ⟨gd, 0, none⟩ = some (.int .i64 x0) := c_d 0 _ rfl
    have dc1 : wv4.cell? ⟨gd, 1, none⟩ = some (.int .i64 x1) := c_d 1 _ rfl
    have dc2 : wv4.cell? ⟨gd, 2, none⟩ = some (.int .i64 x2) := c_d 2 _ rfl
    have dc3 : wv4.cell? ⟨gd, 3, none⟩ = some (.int .i64 x3) := c_d 3 _ rfl
    have dc4 : wv4.cell? ⟨gd, 4, none⟩ = some (.int .i64 x4) := c_d 4 _ rfl
    clear f_d c_d
    go_wp2_with fail
    refine (Ip.out _ HT.out).mono ?_
    rintro e wv5 ⟨rfl, h_⟩
    replace HT : Hid (Tabs wv5) := HT.out.below h_
    replace Hd : Hid (Blk wv5 gd [.int .i64 x0, .int .i64 x1, .int .i64 x2, .int .i64 x3, .int .i64 x4]) := Hd.out.below h_
    replace HB : Hid (Below w1.heap.size w1 wv5) := HB.out.trans (h_.mono HB.out.size)
    clear h_
    clear dc0 dc1 dc2 dc3 dc4 z_d
    go_upto_region 10 with fail
    obtain ⟨wv6, hw_⟩ : ∃ x_, x_ = wv5.alloc (.cells #[.int .i64 g0, .int .i64 g1, .int .i64 g2, .int .i64 g3, .int .i64 g4, .int .i64 g5, .int .i64 g6, .int .i64 g7, .int .i64 g8] 29) := ⟨_, rfl⟩
    rw [← hw_]
    have Hp : Hid (Blk wv6 wv5.heap.size [.int .i64 g0, .int .i64 g1, .int .i64 g2, .int .i64 g3, .int .i64 g4, .int .i64 g5, .int .i64 g6, .int .i64 g7, .int .i64 g8]) := by show Blk _ _ _; rw [hw_]; exact Blk.new wv5 #[.int .i64 g0, .int .i64 g1, .int .i64 g2, .int .i64 g3, .int .i64 g4, .int .i64 g5, .int .i64 g6, .int .i64 g7, .int .i64 g8] _
    have bl_ : Below wv5.heap.size wv5 wv6 := by rw [hw_]; exact below0 _ _
    clear hw_
    replace HT : Hid (Tabs wv6) := HT.out.below bl_
    replace Hd : Hid (Blk wv6 gd [.int .i64 x0, .int .i64 x1, .int .i64 x2, .int .i64 x3, .int .i64 x4]) := Hd.out.below bl_
    replace HB : Hid (Below w1.heap.size w1 wv6) := HB.out.trans (bl_.mono HB.out.size)
    obtain ⟨gp, hg_⟩ : ∃ g, g = wv5.heap.size := ⟨_, rfl⟩
    rw [← hg_] at Hp ⊢
    clear hg_ bl_
    obtain ⟨z_p, f_p, c_p⟩ := Hp.out
    have pc0 : wv6.cell? ⟨gp, 0, none⟩ = some (.int .i64 g0) := c_p 0 _ rfl
    have pc1 : wv6.cell? ⟨gp, 1, none⟩ = some (.int .i64 g1) := c_p 1 _ rfl
    have pc2 : wv6.cell? ⟨gp, 2, none⟩ = some (.int .i64 g2) := c_p 2 _ rfl
    have pc3 : wv6.cell? ⟨gp, 3, none⟩ = some (.int .i64 g3) := c_p 3 _ rfl
    have pc4 : wv6.cell? ⟨gp, 4, none⟩ = some (.int .i64 g4) := c_p 4 _ rfl
    have pc5 : wv6.cell? ⟨gp, 5, none⟩ = some (.int .i64 g5) := c_p 5 _ rfl
    have pc6 : wv6.cell? ⟨gp, 6, none⟩ = some (.int .i64 g6) := c_p 6 _ rfl
    have pc7 : wv6.cell? ⟨gp, 7, none⟩ = some (.int .i64 g7) := c_p 7 _ rfl
    have pc8 : wv6.cell? ⟨gp, 8, none⟩ = some (.int .i64 g8) := c_p 8 _ rfl
    clear f_p c_p
    go_wp2_with fail
    refine (Cp.out _).mono ?_
    rintro e wv7 ⟨rfl, h_⟩
    replace HT : Hid (Tabs wv7) := HT.out.below h_
    replace Hd : Hid (Blk wv7 gd [.int .i64 x0, .int .i64 x1, .int .i64 x2, .int .i64 x3, .int .i64 x4]) := Hd.out.below h_
    replace Hp : Hid (Blk wv7 gp [.int .i64 g0, .int .i64 g1, .int .i64 g2, .int .i64 g3, .int .i64 g4, .int .i64 g5, .int .i64 g6, .int .i64 g7, .int .i64 g8]) := Hp.out.below h_
    replace HB : Hid (Below w1.heap.size w1 wv7) := HB.out.trans (h_.mono HB.out.size)
    clear h_
    clear pc0 pc1 pc2 pc3 pc4 pc5 pc6 pc7 pc8 z_p
    clear Hp
    clear Ip Cp
    by_cases n0 : nd = 0
    case pos =>
      have n0b : decide (0 < nd) = false := decide_eq_false (by omega)
      by_cases q0 : air < 0
      case pos =>
        have BF := HB.out
        have sBF := BF.size
        go_wp2
        go_ret
        exact ⟨rfl, (by repeat (first | with_reducible exact Below.refl _ _ | with_reducible exact BF | with_reducible refine Below.setCell ?_ (by first | omega | (simp; done) | (simp; omega)) _ | with_reducible refine bDrewN ?_ _ | with_reducible refine Below.drew ?_ | with_reducible refine Below.alloc ?_ (by first | omega | (simp; done) | (simp; omega)) _))⟩
      case neg =>
        have q0b : decide (air < 0) = false := decide_eq_false q0
        by_cases q1 : 1000000000 ≤ air
        case pos =>
          have BF := HB.out
          have sBF := BF.size
          go_wp2
          go_ret
          exact ⟨rfl, (by repeat (first | with_reducible exact Below.refl _ _ | with_reducible exact BF | with_reducible refine Below.setCell ?_ (by first | omega | (simp; done) | (simp; omega)) _ | with_reducible refine bDrewN ?_ _ | with_reducible refine Below.drew ?_ | with_reducible refine Below.alloc ?_ (by first | omega | (simp; done) | (simp; omega)) _))⟩
        case neg =>
          have q1b : decide (1000000000 ≤ air) = false := decide_eq_false q1
          have wr1 : IntKind.i64.wrap (air + 1) = air + 1 := by rw [IntKind.wrap_i64]; omega
          obtain ⟨a0, a1, a2, a3, a4, a5, a6, a7, a8, ea1, -, ea3, ea4⟩ := burn_form (HOK.out (air) (by omega) (by omega))
          have Ia : Hid (∀ w, Tabs w → Calls Tryd.prog 11 #[.agg #[.int .i64 x0, .int .i64 x1, .int .i64 x2, .int .i64 x3, .int .i64 x4], .int .i64 (air)] w fun e w' => e = .returned (.tuple #[.agg #[.int .i64 a0, .int .i64 a1, .int .i64 a2, .int .i64 a3, .int .i64 a4, .int .i64 a5, .int .i64 a6, .int .i64 a7, .int .i64 a8], .bool true]) ∧ Below w.heap.size w w') := fun w t => by have q := implBurn_any x0 x1 x2 x3 x4 (air) w t.1; rw [ea1, HOK.out (air) (by omega) (by omega)] at q; exact q
          clear ea1 ea4
          obtain ⟨b0, b1, b2, b3, b4, b5, b6, b7, b8, eb1, -, eb3, eb4⟩ := burn_form (HOK.out (air + 1) (by omega) (by omega))
          have Ib : Hid (∀ w, Tabs w → Calls Tryd.prog 11 #[.agg #[.int .i64 x0, .int .i64 x1, .int .i64 x2, .int .i64 x3, .int .i64 x4], .int .i64 (air + 1)] w fun e w' => e = .returned (.tuple #[.agg #[.int .i64 b0, .int .i64 b1, .int .i64 b2, .int .i64 b3, .int .i64 b4, .int .i64 b5, .int .i64 b6, .int .i64 b7, .int .i64 b8], .bool true]) ∧ Below w.heap.size w w') := fun w t => by have q := implBurn_any x0 x1 x2 x3 x4 (air + 1) w t.1; rw [eb1, HOK.out (air + 1) (by omega) (by omega)] at q; exact q
          clear eb1 eb4
          obtain ⟨hg0, hg1⟩ := heat_grows (air := air) HFU.out (by omega)
          unfold heV at hg0 hg1
          rw [← ea3] at hg0 hg1
          rw [← eb3] at hg1
          obtain ⟨hA, hhA⟩ : ∃ hA, heatV (nth a0 a1 a2 a3 a4 a5 a6 a7 a8) = hA := ⟨_, rfl⟩
          obtain ⟨hB, hhB⟩ : ∃ hB, heatV (nth b0 b1 b2 b3 b4 b5 b6 b7 b8) = hB := ⟨_, rfl⟩
          rw [hhA] at hg0 hg1
          rw [hhB] at hg1
          have Ja : Hid (∀ w, Tabs w → Calls Tryd.prog 16 #[.agg #[.int .i64 a0, .int .i64 a1, .int .i64 a2, .int .i64 a3, .int .i64 a4, .int .i64 a5, .int .i64 a6, .int .i64 a7, .int .i64 a8]] w fun e w' => e = .returned (.int .i64 hA) ∧ Below w.heap.size w w') := fun w t => by have q := implHeatOf_any a0 a1 a2 a3 a4 a5 a6 a7 a8 w t.2; rw [hhA] at q; exact q
          have Jb : Hid (∀ w, Tabs w → Calls Tryd.prog 16 #[.agg #[.int .i64 b0, .int .i64 b1, .int .i64 b2, .int .i64 b3, .int .i64 b4, .int .i64 b5, .int .i64 b6, .int .i64 b7, .int .i64 b8]] w fun e w' => e = .returned (.int .i64 hB) ∧ Below w.heap.size w w') := fun w t => by have q := implHeatOf_any b0 b1 b2 b3 b4 b5 b6 b7 b8 w t.2; rw [hhB] at q; exact q
          clear hhA hhB ea3 eb3
          obtain ⟨z_d, f_d, c_d⟩ := Hd.out
          have dc0 : wv7.cell? ⟨gd, 0, none⟩ = some (.int .i64 x0) := c_d 0 _ rfl
          have dc1 : wv7.cell? ⟨gd, 1, none⟩ = some (.int .i64 x1) := c_d 1 _ rfl
          have dc2 : wv7.cell? ⟨gd, 2, none⟩ = some (.int .i64 x2) := c_d 2 _ rfl
          have dc3 : wv7.cell? ⟨gd, 3, none⟩ = some (.int .i64 x3) := c_d 3 _ rfl
          have dc4 : wv7.cell? ⟨gd, 4, none⟩ = some (.int .i64 x4) := c_d 4 _ rfl
          clear f_d c_d
          go_wp2_with fail
          refine (Ia.out _ HT.out).mono ?_
          rintro e wv8 ⟨rfl, h_⟩
          replace HT : Hid (Tabs wv8) := HT.out.below h_
          replace Hd : Hid (Blk wv8 gd [.int .i64 x0, .int .i64 x1, .int .i64 x2, .int .i64 x3, .int .i64 x4]) := Hd.out.below h_
          replace HB : Hid (Below w1.heap.size w1 wv8) := HB.out.trans (h_.mono HB.out.size)
          clear h_
          clear dc0 dc1 dc2 dc3 dc4 z_d
          go_upto_region 19 with fail
          obtain ⟨wv9, hw_⟩ : ∃ x_, x_ = wv8.alloc (.cells #[.int .i64 a0, .int .i64 a1, .int .i64 a2, .int .i64 a3, .int .i64 a4, .int .i64 a5, .int .i64 a6, .int .i64 a7, .int .i64 a8] 29) := ⟨_, rfl⟩
          rw [← hw_]
          have Ha : Hid (Blk wv9 wv8.heap.size [.int .i64 a0, .int .i64 a1, .int .i64 a2, .int .i64 a3, .int .i64 a4, .int .i64 a5, .int .i64 a6, .int .i64 a7, .int .i64 a8]) := by show Blk _ _ _; rw [hw_]; exact Blk.new wv8 #[.int .i64 a0, .int .i64 a1, .int .i64 a2, .int .i64 a3, .int .i64 a4, .int .i64 a5, .int .i64 a6, .int .i64 a7, .int .i64 a8] _
          have bl_ : Below wv8.heap.size wv8 wv9 := by rw [hw_]; exact below0 _ _
          clear hw_
          replace HT : Hid (Tabs wv9) := HT.out.below bl_
          replace Hd : Hid (Blk wv9 gd [.int .i64 x0, .int .i64 x1, .int .i64 x2, .int .i64 x3, .int .i64 x4]) := Hd.out.below bl_
          replace HB : Hid (Below w1.heap.size w1 wv9) := HB.out.trans (bl_.mono HB.out.size)
          obtain ⟨ga, hg_⟩ : ∃ g, g = wv8.heap.size := ⟨_, rfl⟩
          rw [← hg_] at Ha ⊢
          clear hg_ bl_
          obtain ⟨z_d, f_d, c_d⟩ := Hd.out
          have dc0 : wv9.cell? ⟨gd, 0, none⟩ = some (.int .i64 x0) := c_d 0 _ rfl
          have dc1 : wv9.cell? ⟨gd, 1, none⟩ = some (.int .i64 x1) := c_d 1 _ rfl
          have dc2 : wv9.cell? ⟨gd, 2, none⟩ = some (.int .i64 x2) := c_d 2 _ rfl
          have dc3 : wv9.cell? ⟨gd, 3, none⟩ = some (.int .i64 x3) := c_d 3 _ rfl
          have dc4 : wv9.cell? ⟨gd, 4, none⟩ = some (.int .i64 x4) := c_d 4 _ rfl
          clear f_d c_d
          go_wp2_with fail
          refine (Ib.out _ HT.out).mono ?_
          rintro e wv10 ⟨rfl, h_⟩
          replace HT : Hid (Tabs wv10) := HT.out.below h_
          replace Hd : Hid (Blk wv10 gd [.int .i64 x0, .int .i64 x1, .int .i64 x2, .int .i64 x3, .int .i64 x4]) := Hd.out.below h_
          replace Ha : Hid (Blk wv10 ga [.int .i64 a0, .int .i64 a1, .int .i64 a2, .int .i64 a3, .int .i64 a4, .int .i64 a5, .int .i64 a6, .int .i64 a7, .int .i64 a8]) := Ha.out.below h_
          replace HB : Hid (Below w1.heap.size w1 wv10) := HB.out.trans (h_.mono HB.out.size)
          clear h_
          clear dc0 dc1 dc2 dc3 dc4 z_d
          go_upto_region 20 with fail
          obtain ⟨wv11, hw_⟩ : ∃ x_, x_ = wv10.alloc (.cells #[.int .i64 b0, .int .i64 b1, .int .i64 b2, .int .i64 b3, .int .i64 b4, .int .i64 b5, .int .i64 b6, .int .i64 b7, .int .i64 b8] 29) := ⟨_, rfl⟩
          rw [← hw_]
          have Hb : Hid (Blk wv11 wv10.heap.size [.int .i64 b0, .int .i64 b1, .int .i64 b2, .int .i64 b3, .int .i64 b4, .int .i64 b5, .int .i64 b6, .int .i64 b7, .int .i64 b8]) := by show Blk _ _ _; rw [hw_]; exact Blk.new wv10 #[.int .i64 b0, .int .i64 b1, .int .i64 b2, .int .i64 b3, .int .i64 b4, .int .i64 b5, .int .i64 b6, .int .i64 b7, .int .i64 b8] _
          have bl_ : Below wv10.heap.size wv10 wv11 := by rw [hw_]; exact below0 _ _
          clear hw_
          replace HT : Hid (Tabs wv11) := HT.out.below bl_
          replace Hd : Hid (Blk wv11 gd [.int .i64 x0, .int .i64 x1, .int .i64 x2, .int .i64 x3, .int .i64 x4]) := Hd.out.below bl_
          replace Ha : Hid (Blk wv11 ga [.int .i64 a0, .int .i64 a1, .int .i64 a2, .int .i64 a3, .int .i64 a4, .int .i64 a5, .int .i64 a6, .int .i64 a7, .int .i64 a8]) := Ha.out.below bl_
          replace HB : Hid (Below w1.heap.size w1 wv11) := HB.out.trans (bl_.mono HB.out.size)
          obtain ⟨gb, hg_⟩ : ∃ g, g = wv10.heap.size := ⟨_, rfl⟩
          rw [← hg_] at Hb ⊢
          clear hg_ bl_
          clear Ia Ib
          have za_ : ga < wv11.heap.size := Ha.out.1
          have zb_ : gb < wv11.heap.size := Hb.out.1
          have d1 : decide (0 ≤ hA) = true := decide_eq_true hg0
          have d2 : decide (hA ≤ hB) = true := decide_eq_true hg1
          refine wp_region_held_drew (S := fun w' => w'.cell? ⟨ga, 0, none⟩ = some (.int .i64 a0) ∧ w'.cell? ⟨ga, 1, none⟩ = some (.int .i64 a1) ∧ w'.cell? ⟨ga, 2, none⟩ = some (.int .i64 a2) ∧ w'.cell? ⟨ga, 3, none⟩ = some (.int .i64 a3) ∧ w'.cell? ⟨ga, 4, none⟩ = some (.int .i64 a4) ∧ w'.cell? ⟨ga, 5, none⟩ = some (.int .i64 a5) ∧ w'.cell? ⟨ga, 6, none⟩ = some (.int .i64 a6) ∧ w'.cell? ⟨ga, 7, none⟩ = some (.int .i64 a7) ∧ w'.cell? ⟨ga, 8, none⟩ = some (.int .i64 a8) ∧ w'.cell? ⟨gb, 0, none⟩ = some (.int .i64 b0) ∧ w'.cell? ⟨gb, 1, none⟩ = some (.int .i64 b1) ∧ w'.cell? ⟨gb, 2, none⟩ = some (.int .i64 b2) ∧ w'.cell? ⟨gb, 3, none⟩ = some (.int .i64 b3) ∧ w'.cell? ⟨gb, 4, none⟩ = some (.int .i64 b4) ∧ w'.cell? ⟨gb, 5, none⟩ = some (.int .i64 b5) ∧ w'.cell? ⟨gb, 6, none⟩ = some (.int .i64 b6) ∧ w'.cell? ⟨gb, 7, none⟩ = some (.int .i64 b7) ∧ w'.cell? ⟨gb, 8, none⟩ = some (.int .i64 b8)) (by kernel_rfl) ?_ (fun hHeld => ?_)
          · exact ⟨(Ha.out.below (show Below wv11.heap.size wv11 _ from (by repeat (first | with_reducible exact Below.refl _ _ | with_reducible refine Below.setCell ?_ (by first | omega | (simp; done) | (simp; omega)) _ | with_reducible refine bDrewN ?_ _ | with_reducible refine Below.drew ?_ | with_reducible refine Below.alloc ?_ (by first | omega | (simp; done) | (simp; omega)) _)))).2.2 0 _ rfl, (Ha.out.below (show Below wv11.heap.size wv11 _ from (by repeat (first | with_reducible exact Below.refl _ _ | with_reducible refine Below.setCell ?_ (by first | omega | (simp; done) | (simp; omega)) _ | with_reducible refine bDrewN ?_ _ | with_reducible refine Below.drew ?_ | with_reducible refine Below.alloc ?_ (by first | omega | (simp; done) | (simp; omega)) _)))).2.2 1 _ rfl, (Ha.out.below (show Below wv11.heap.size wv11 _ from (by repeat (first | with_reducible exact Below.refl _ _ | with_reducible refine Below.setCell ?_ (by first | omega | (simp; done) | (simp; omega)) _ | with_reducible refine bDrewN ?_ _ | with_reducible refine Below.drew ?_ | with_reducible refine Below.alloc ?_ (by first | omega | (simp; done) | (simp; omega)) _)))).2.2 2 _ rfl, (Ha.out.below (show Below wv11.heap.size wv11 _ from (by repeat (first | with_reducible exact Below.refl _ _ | with_reducible refine Below.setCell ?_ (by first | omega | (simp; done) | (simp; omega)) _ | with_reducible refine bDrewN ?_ _ | with_reducible refine Below.drew ?_ | with_reducible refine Below.alloc ?_ (by first | omega | (simp; done) | (simp; omega)) _)))).2.2 3 _ rfl, (Ha.out.below (show Below wv11.heap.size wv11 _ from (by repeat (first | with_reducible exact Below.refl _ _ | with_reducible refine Below.setCell ?_ (by first | omega | (simp; done) | (simp; omega)) _ | with_reducible refine bDrewN ?_ _ | with_reducible refine Below.drew ?_ | with_reducible refine Below.alloc ?_ (by first | omega | (simp; done) | (simp; omega)) _)))).2.2 4 _ rfl, (Ha.out.below (show Below wv11.heap.size wv11 _ from (by repeat (first | with_reducible exact Below.refl _ _ | with_reducible refine Below.setCell ?_ (by first | omega | (simp; done) | (simp; omega)) _ | with_reducible refine bDrewN ?_ _ | with_reducible refine Below.drew ?_ | with_reducible refine Below.alloc ?_ (by first | omega | (simp; done) | (simp; omega)) _)))).2.2 5 _ rfl, (Ha.out.below (show Below wv11.heap.size wv11 _ from (by repeat (first | with_reducible exact Below.refl _ _ | with_reducible refine Below.setCell ?_ (by first | omega | (simp; done) | (simp; omega)) _ | with_reducible refine bDrewN ?_ _ | with_reducible refine Below.drew ?_ | with_reducible refine Below.alloc ?_ (by first | omega | (simp; done) | (simp; omega)) _)))).2.2 6 _ rfl, (Ha.out.below (show Below wv11.heap.size wv11 _ from (by repeat (first | with_reducible exact Below.refl _ _ | with_reducible refine Below.setCell ?_ (by first | omega | (simp; done) | (simp; omega)) _ | with_reducible refine bDrewN ?_ _ | with_reducible refine Below.drew ?_ | with_reducible refine Below.alloc ?_ (by first | omega | (simp; done) | (simp; omega)) _)))).2.2 7 _ rfl, (Ha.out.below (show Below wv11.heap.size wv11 _ from (by repeat (first | with_reducible exact Below.refl _ _ | with_reducible refine Below.setCell ?_ (by first | omega | (simp; done) | (simp; omega)) _ | with_reducible refine bDrewN ?_ _ | with_reducible refine Below.drew ?_ | with_reducible refine Below.alloc ?_ (by first | omega | (simp; done) | (simp; omega)) _)))).2.2 8 _ rfl, (Hb.out.below (show Below wv11.heap.size wv11 _ from (by repeat (first | with_reducible exact Below.refl _ _ | with_reducible refine Below.setCell ?_ (by first | omega | (simp; done) | (simp; omega)) _ | with_reducible refine bDrewN ?_ _ | with_reducible refine Below.drew ?_ | with_reducible refine Below.alloc ?_ (by first | omega | (simp; done) | (simp; omega)) _)))).2.2 0 _ rfl, (Hb.out.below (show Below wv11.heap.size wv11 _ from (by repeat (first | with_reducible exact Below.refl _ _ | with_reducible refine Below.setCell ?_ (by first | omega | (simp; done) | (simp; omega)) _ | with_reducible refine bDrewN ?_ _ | with_reducible refine Below.drew ?_ | with_reducible refine Below.alloc ?_ (by first | omega | (simp; done) | (simp; omega)) _)))).2.2 1 _ rfl, (Hb.out.below (show Below wv11.heap.size wv11 _ from (by repeat (first | with_reducible exact Below.refl _ _ | with_reducible refine Below.setCell ?_ (by first | omega | (simp; done) | (simp; omega)) _ | with_reducible refine bDrewN ?_ _ | with_reducible refine Below.drew ?_ | with_reducible refine Below.alloc ?_ (by first | omega | (simp; done) | (simp; omega)) _)))).2.2 2 _ rfl, (Hb.out.below (show Below wv11.heap.size wv11 _ from (by repeat (first | with_reducible exact Below.refl _ _ | with_reducible refine Below.setCell ?_ (by first | omega | (simp; done) | (simp; omega)) _ | with_reducible refine bDrewN ?_ _ | with_reducible refine Below.drew ?_ | with_reducible refine Below.alloc ?_ (by first | omega | (simp; done) | (simp; omega)) _)))).2.2 3 _ rfl, (Hb.out.below (show Below wv11.heap.size wv11 _ from (by repeat (first | with_reducible exact Below.refl _ _ | with_reducible refine Below.setCell ?_ (by first | omega | (simp; done) | (simp; omega)) _ | with_reducible refine bDrewN ?_ _ | with_reducible refine Below.drew ?_ | with_reducible refine Below.alloc ?_ (by first | omega | (simp; done) | (simp; omega)) _)))).2.2 4 _ rfl, (Hb.out.below (show Below wv11.heap.size wv11 _ from (by repeat (first | with_reducible exact Below.refl _ _ | with_reducible refine Below.setCell ?_ (by first | omega | (simp; done) | (simp; omega)) _ | with_reducible refine bDrewN ?_ _ | with_reducible refine Below.drew ?_ | with_reducible refine Below.alloc ?_ (by first | omega | (simp; done) | (simp; omega)) _)))).2.2 5 _ rfl, (Hb.out.below (show Below wv11.heap.size wv11 _ from (by repeat (first | with_reducible exact Below.refl _ _ | with_reducible refine Below.setCell ?_ (by first | omega | (simp; done) | (simp; omega)) _ | with_reducible refine bDrewN ?_ _ | with_reducible refine Below.drew ?_ | with_reducible refine Below.alloc ?_ (by first | omega | (simp; done) | (simp; omega)) _)))).2.2 6 _ rfl, (Hb.out.below (show Below wv11.heap.size wv11 _ from (by repeat (first | with_reducible exact Below.refl _ _ | with_reducible refine Below.setCell ?_ (by first | omega | (simp; done) | (simp; omega)) _ | with_reducible refine bDrewN ?_ _ | with_reducible refine Below.drew ?_ | with_reducible refine Below.alloc ?_ (by first | omega | (simp; done) | (simp; omega)) _)))).2.2 7 _ rfl, (Hb.out.below (show Below wv11.heap.size wv11 _ from (by repeat (first | with_reducible exact Below.refl _ _ | with_reducible refine Below.setCell ?_ (by first | omega | (simp; done) | (simp; omega)) _ | with_reducible refine bDrewN ?_ _ | with_reducible refine Below.drew ?_ | with_reducible refine Below.alloc ?_ (by first | omega | (simp; done) | (simp; omega)) _)))).2.2 8 _ rfl⟩
          refine wpAnyH_take (i := 0) (v := .bool true) rfl (by kernel_rfl) (by kernel_rfl) (by kernel_rfl) (fun _ _ _ h => h) (Or.inl ⟨by kernel_rfl, ?_⟩) hHeld ?_
          · intro w' hSw
            obtain ⟨sa0, sa1, sa2, sa3, sa4, sa5, sa6, sa7, sa8, sb0, sb1, sb2, sb3, sb4, sb5, sb6, sb7, sb8⟩ := hSw
            first | (go_simp; done) | (go_simp; with_reducible rfl) | (go_simp; rw [IntKind.wrap_i64]; omega) | (go_simp; omega)
          simp only [Act.put, List.setIfInBounds_toArray, List.set_cons_zero, List.set_cons_succ]
          refine wpAnyH_take (i := 1) (v := .bool true) rfl (by kernel_rfl) (by kernel_rfl) (by kernel_rfl) (fun _ _ _ h => h) (Or.inl ⟨by kernel_rfl, ?_⟩) hHeld ?_
          · intro w' hSw
            obtain ⟨sa0, sa1, sa2, sa3, sa4, sa5, sa6, sa7, sa8, sb0, sb1, sb2, sb3, sb4, sb5, sb6, sb7, sb8⟩ := hSw
            first | (go_simp; done) | (go_simp; with_reducible rfl) | (go_simp; rw [IntKind.wrap_i64]; omega) | (go_simp; omega)
          simp only [Act.put, List.setIfInBounds_toArray, List.set_cons_zero, List.set_cons_succ]
          refine wpAnyH_take (i := 2) (v := .bool true) rfl (by kernel_rfl) (by kernel_rfl) (by kernel_rfl) (fun _ _ _ h => h) (Or.inl ⟨by kernel_rfl, ?_⟩) hHeld ?_
          · intro w' hSw
            obtain ⟨sa0, sa1, sa2, sa3, sa4, sa5, sa6, sa7, sa8, sb0, sb1, sb2, sb3, sb4, sb5, sb6, sb7, sb8⟩ := hSw
            first | (go_simp; done) | (go_simp; with_reducible rfl) | (go_simp; rw [IntKind.wrap_i64]; omega) | (go_simp; omega)
          simp only [Act.put, List.setIfInBounds_toArray, List.set_cons_zero, List.set_cons_succ]
          refine wpAnyH_take (i := 3) (v := .bool true) rfl (by kernel_rfl) (by kernel_rfl) (by kernel_rfl) (fun _ _ _ h => h) (Or.inl ⟨by kernel_rfl, ?_⟩) hHeld ?_
          · intro w' hSw
            obtain ⟨sa0, sa1, sa2, sa3, sa4, sa5, sa6, sa7, sa8, sb0, sb1, sb2, sb3, sb4, sb5, sb6, sb7, sb8⟩ := hSw
            first | (go_simp; done) | (go_simp; with_reducible rfl) | (go_simp; rw [IntKind.wrap_i64]; omega) | (go_simp; omega)
          simp only [Act.put, List.setIfInBounds_toArray, List.set_cons_zero, List.set_cons_succ]
          refine wpAnyH_take (i := 4) (v := .bool true) rfl (by kernel_rfl) (by kernel_rfl) (by kernel_rfl) (fun _ _ _ h => h) (Or.inl ⟨by kernel_rfl, ?_⟩) hHeld ?_
          · intro w' hSw
            obtain ⟨sa0, sa1, sa2, sa3, sa4, sa5, sa6, sa7, sa8, sb0, sb1, sb2, sb3, sb4, sb5, sb6, sb7, sb8⟩ := hSw
            first | (go_simp; done) | (go_simp; with_reducible rfl) | (go_simp; rw [IntKind.wrap_i64]; omega) | (go_simp; omega)
          simp only [Act.put, List.setIfInBounds_toArray, List.set_cons_zero, List.set_cons_succ]
          refine wpAnyH_take (i := 5) (v := .agg #[.int .i64 a0, .int .i64 a1, .int .i64 a2, .int .i64 a3, .int .i64 a4, .int .i64 a5, .int .i64 a6, .int .i64 a7, .int .i64 a8]) rfl (by kernel_rfl) (by kernel_rfl) (by kernel_rfl) (fun _ _ _ h => h) (Or.inl ⟨by kernel_rfl, ?_⟩) hHeld ?_
          · intro w' hSw
            obtain ⟨sa0, sa1, sa2, sa3, sa4, sa5, sa6, sa7, sa8, sb0, sb1, sb2, sb3, sb4, sb5, sb6, sb7, sb8⟩ := hSw
            first | (go_simp; done) | (go_simp; with_reducible rfl) | (go_simp; rw [IntKind.wrap_i64]; omega) | (go_simp; omega)
          simp only [Act.put, List.setIfInBounds_toArray, List.set_cons_zero, List.set_cons_succ]
          refine wpAnyH_ready (rs := [6]) (by kernel_rfl) (by simp) ?_
          refine AllReadyH.cons rfl (fun KK hK => ?_) AllReadyH.nil
          go_simp
          go_wp2_with (first | (go_at_call 16; refine (Ja.out _ (HT.out.below (show Below wv11.heap.size wv11 _ from (by repeat (first | with_reducible exact Below.refl _ _ | with_reducible refine Below.setCell ?_ (by first | omega | (simp; done) | (simp; omega)) _ | with_reducible refine bDrewN ?_ _ | with_reducible refine Below.drew ?_ | with_reducible refine Below.alloc ?_ (by first | omega | (simp; done) | (simp; omega)) _))))).mono ?_; rintro e w7a ⟨rfl, h7⟩; have B7a : Below wv11.heap.size wv11 w7a := (show Below wv11.heap.size wv11 _ from (by repeat (first | with_reducible exact Below.refl _ _ | with_reducible refine Below.setCell ?_ (by first | omega | (simp; done) | (simp; omega)) _ | with_reducible refine bDrewN ?_ _ | with_reducible refine Below.drew ?_ | with_reducible refine Below.alloc ?_ (by first | omega | (simp; done) | (simp; omega)) _))).trans (h7.mono (by first | omega | (simp; done) | (simp; omega))); have s7a := B7a.size; clear h7))
          refine hK.out _ _ (⟨(Ha.out.below B7a).2.2 0 _ rfl, (Ha.out.below B7a).2.2 1 _ rfl, (Ha.out.below B7a).2.2 2 _ rfl, (Ha.out.below B7a).2.2 3 _ rfl, (Ha.out.below B7a).2.2 4 _ rfl, (Ha.out.below B7a).2.2 5 _ rfl, (Ha.out.below B7a).2.2 6 _ rfl, (Ha.out.below B7a).2.2 7 _ rfl, (Ha.out.below B7a).2.2 8 _ rfl, (Hb.out.below B7a).2.2 0 _ rfl, (Hb.out.below B7a).2.2 1 _ rfl, (Hb.out.below B7a).2.2 2 _ rfl, (Hb.out.below B7a).2.2 3 _ rfl, (Hb.out.below B7a).2.2 4 _ rfl, (Hb.out.below B7a).2.2 5 _ rfl, (Hb.out.below B7a).2.2 6 _ rfl, (Hb.out.below B7a).2.2 7 _ rfl, (Hb.out.below B7a).2.2 8 _ rfl⟩) (fun hHeld => ?_)
          clear hK KK
          refine wpAnyH_take (i := 7) (v := .bool true) rfl (by kernel_rfl) (by kernel_rfl) (by kernel_rfl) (fun _ _ _ h => h) (Or.inl ⟨by kernel_rfl, ?_⟩) hHeld ?_
          · intro w' hSw
            obtain ⟨sa0, sa1, sa2, sa3, sa4, sa5, sa6, sa7, sa8, sb0, sb1, sb2, sb3, sb4, sb5, sb6, sb7, sb8⟩ := hSw
            first | (go_simp; done) | (go_simp; with_reducible rfl) | (go_simp; rw [IntKind.wrap_i64]; omega) | (go_simp; omega)
          simp only [Act.put, List.setIfInBounds_toArray, List.set_cons_zero, List.set_cons_succ]
          refine wpAnyH_take (i := 8) (v := .bool true) rfl (by kernel_rfl) (by kernel_rfl) (by kernel_rfl) (fun _ _ _ h => h) (Or.inl ⟨by kernel_rfl, ?_⟩) hHeld ?_
          · intro w' hSw
            obtain ⟨sa0, sa1, sa2, sa3, sa4, sa5, sa6, sa7, sa8, sb0, sb1, sb2, sb3, sb4, sb5, sb6, sb7, sb8⟩ := hSw
            first | (go_simp; done) | (go_simp; with_reducible rfl) | (go_simp; rw [IntKind.wrap_i64]; omega) | (go_simp; omega)
          simp only [Act.put, List.setIfInBounds_toArray, List.set_cons_zero, List.set_cons_succ]
          refine wpAnyH_take (i := 9) (v := .bool true) rfl (by kernel_rfl) (by kernel_rfl) (by kernel_rfl) (fun _ _ _ h => h) (Or.inl ⟨by kernel_rfl, ?_⟩) hHeld ?_
          · intro w' hSw
            obtain ⟨sa0, sa1, sa2, sa3, sa4, sa5, sa6, sa7, sa8, sb0, sb1, sb2, sb3, sb4, sb5, sb6, sb7, sb8⟩ := hSw
            first | (go_simp; done) | (go_simp; with_reducible rfl) | (go_simp; rw [IntKind.wrap_i64]; omega) | (go_simp; omega)
          simp only [Act.put, List.setIfInBounds_toArray, List.set_cons_zero, List.set_cons_succ]
          refine wpAnyH_take (i := 10) (v := .agg #[.int .i64 b0, .int .i64 b1, .int .i64 b2, .int .i64 b3, .int .i64 b4, .int .i64 b5, .int .i64 b6, .int .i64 b7, .int .i64 b8]) rfl (by kernel_rfl) (by kernel_rfl) (by kernel_rfl) (fun _ _ _ h => h) (Or.inl ⟨by kernel_rfl, ?_⟩) hHeld ?_
          · intro w' hSw
            obtain ⟨sa0, sa1, sa2, sa3, sa4, sa5, sa6, sa7, sa8, sb0, sb1, sb2, sb3, sb4, sb5, sb6, sb7, sb8⟩ := hSw
            first | (go_simp; done) | (go_simp; with_reducible rfl) | (go_simp; rw [IntKind.wrap_i64]; omega) | (go_simp; omega)
          simp only [Act.put, List.setIfInBounds_toArray, List.set_cons_zero, List.set_cons_succ]
          refine wpAnyH_take (i := 12) (v := .agg #[.int .i64 a0, .int .i64 a1, .int .i64 a2, .int .i64 a3, .int .i64 a4, .int .i64 a5, .int .i64 a6, .int .i64 a7, .int .i64 a8]) rfl (by kernel_rfl) (by kernel_rfl) (by kernel_rfl) (fun _ _ _ h => h) (Or.inl ⟨by kernel_rfl, ?_⟩) hHeld ?_
          · intro w' hSw
            obtain ⟨sa0, sa1, sa2, sa3, sa4, sa5, sa6, sa7, sa8, sb0, sb1, sb2, sb3, sb4, sb5, sb6, sb7, sb8⟩ := hSw
            first | (go_simp; done) | (go_simp; with_reducible rfl) | (go_simp; rw [IntKind.wrap_i64]; omega) | (go_simp; omega)
          simp only [Act.put, List.setIfInBounds_toArray, List.set_cons_zero, List.set_cons_succ]
          refine wpAnyH_ready (rs := [11]) (by kernel_rfl) (by simp) ?_
          refine AllReadyH.cons rfl (fun KK hK => ?_) AllReadyH.nil
          go_simp
          go_wp2_with (first | (go_at_call 16; refine (Jb.out _ (HT.out.below B7a)).mono ?_; rintro e w7b ⟨rfl, h7⟩; have B7b : Below wv11.heap.size wv11 w7b := B7a.trans (h7.mono (by first | omega | (simp; done) | (simp; omega))); have s7b := B7b.size; clear h7))
          refine hK.out _ _ (⟨(Ha.out.below B7b).2.2 0 _ rfl, (Ha.out.below B7b).2.2 1 _ rfl, (Ha.out.below B7b).2.2 2 _ rfl, (Ha.out.below B7b).2.2 3 _ rfl, (Ha.out.below B7b).2.2 4 _ rfl, (Ha.out.below B7b).2.2 5 _ rfl, (Ha.out.below B7b).2.2 6 _ rfl, (Ha.out.below B7b).2.2 7 _ rfl, (Ha.out.below B7b).2.2 8 _ rfl, (Hb.out.below B7b).2.2 0 _ rfl, (Hb.out.below B7b).2.2 1 _ rfl, (Hb.out.below B7b).2.2 2 _ rfl, (Hb.out.below B7b).2.2 3 _ rfl, (Hb.out.below B7b).2.2 4 _ rfl, (Hb.out.below B7b).2.2 5 _ rfl, (Hb.out.below B7b).2.2 6 _ rfl, (Hb.out.below B7b).2.2 7 _ rfl, (Hb.out.below B7b).2.2 8 _ rfl⟩) (fun hHeld => ?_)
          clear hK KK
          refine wpAnyH_ready (rs := [13]) (by kernel_rfl) (by simp) ?_
          refine AllReadyH.cons rfl (fun KK hK => ?_) AllReadyH.nil
          go_simp
          go_wp2_with (first | (go_at_call 16; refine (Ja.out _ (HT.out.below B7b)).mono ?_; rintro e w7c ⟨rfl, h7⟩; have B7c : Below wv11.heap.size wv11 w7c := B7b.trans (h7.mono (by first | omega | (simp; done) | (simp; omega))); have s7c := B7c.size; clear h7))
          refine hK.out _ _ (⟨(Ha.out.below B7c).2.2 0 _ rfl, (Ha.out.below B7c).2.2 1 _ rfl, (Ha.out.below B7c).2.2 2 _ rfl, (Ha.out.below B7c).2.2 3 _ rfl, (Ha.out.below B7c).2.2 4 _ rfl, (Ha.out.below B7c).2.2 5 _ rfl, (Ha.out.below B7c).2.2 6 _ rfl, (Ha.out.below B7c).2.2 7 _ rfl, (Ha.out.below B7c).2.2 8 _ rfl, (Hb.out.below B7c).2.2 0 _ rfl, (Hb.out.below B7c).2.2 1 _ rfl, (Hb.out.below B7c).2.2 2 _ rfl, (Hb.out.below B7c).2.2 3 _ rfl, (Hb.out.below B7c).2.2 4 _ rfl, (Hb.out.below B7c).2.2 5 _ rfl, (Hb.out.below B7c).2.2 6 _ rfl, (Hb.out.below B7c).2.2 7 _ rfl, (Hb.out.below B7c).2.2 8 _ rfl⟩) (fun hHeld => ?_)
          clear hK KK
          refine wpAnyH_take (i := 14) (v := .bool true) rfl (by kernel_rfl) (by kernel_rfl) (by kernel_rfl) (fun _ _ _ h => h) (Or.inl ⟨by kernel_rfl, ?_⟩) hHeld ?_
          · intro w' hSw
            obtain ⟨sa0, sa1, sa2, sa3, sa4, sa5, sa6, sa7, sa8, sb0, sb1, sb2, sb3, sb4, sb5, sb6, sb7, sb8⟩ := hSw
            first | (go_simp; done) | (go_simp; with_reducible rfl) | (go_simp; rw [IntKind.wrap_i64]; omega) | (go_simp; omega)
          simp only [Act.put, List.setIfInBounds_toArray, List.set_cons_zero, List.set_cons_succ]
          refine wpAnyH_take (i := 15) (v := .bool true) rfl (by kernel_rfl) (by kernel_rfl) (by kernel_rfl) (fun _ _ _ h => h) (Or.inl ⟨by kernel_rfl, ?_⟩) hHeld ?_
          · intro w' hSw
            obtain ⟨sa0, sa1, sa2, sa3, sa4, sa5, sa6, sa7, sa8, sb0, sb1, sb2, sb3, sb4, sb5, sb6, sb7, sb8⟩ := hSw
            first | (go_simp; done) | (go_simp; with_reducible rfl) | (go_simp; rw [IntKind.wrap_i64]; omega) | (go_simp; omega)
          simp only [Act.put, List.setIfInBounds_toArray, List.set_cons_zero, List.set_cons_succ]
          refine wpAnyH_ready (rs := [16]) (by kernel_rfl) (by simp) ?_
          refine AllReadyH.cons rfl (fun KK hK => ?_) AllReadyH.nil
          go_simp
          refine hK.out _ _ hHeld (fun hHeld => ?_)
          clear hK KK
          refine wpAnyH_done (by kernel_rfl) ?_ _
          have BF := HB.out.trans (B7c.mono HB.out.size)
          have sBF := BF.size
          go_wp2
          go_ret
          exact ⟨rfl, (by repeat (first | with_reducible exact Below.refl _ _ | with_reducible exact BF | with_reducible refine Below.setCell ?_ (by first | omega | (simp; done) | (simp; omega)) _ | with_reducible refine bDrewN ?_ _ | with_reducible refine Below.drew ?_ | with_reducible refine Below.alloc ?_ (by first | omega | (simp; done) | (simp; omega)) _))⟩
    case neg =>
      have n0b : decide (0 < nd) = true := decide_eq_true (by omega)
      have wn : IntKind.i64.wrap (nd - 1) = nd - 1 := by rw [IntKind.wrap_i64]; omega
      obtain ⟨m0, m1, m2, m3, m4, m5, m6, m7, m8, em1, -, em3, em4⟩ := burn_form (HOK.out (nd - 1) (by omega) (by omega))
      have Im : Hid (∀ w, Tabs w → Calls Tryd.prog 11 #[.agg #[.int .i64 x0, .int .i64 x1, .int .i64 x2, .int .i64 x3, .int .i64 x4], .int .i64 (nd - 1)] w fun e w' => e = .returned (.tuple #[.agg #[.int .i64 m0, .int .i64 m1, .int .i64 m2, .int .i64 m3, .int .i64 m4, .int .i64 m5, .int .i64 m6, .int .i64 m7, .int .i64 m8], .bool true]) ∧ Below w.heap.size w w') := fun w t => by have q := implBurn_any x0 x1 x2 x3 x4 (nd - 1) w t.1; rw [em1, HOK.out (nd - 1) (by omega) (by omega)] at q; exact q
      have Cm : Hid (∀ w, Calls Tryd.prog 15 #[.agg #[.int .i64 m0, .int .i64 m1, .int .i64 m2, .int .i64 m3, .int .i64 m4, .int .i64 m5, .int .i64 m6, .int .i64 m7, .int .i64 m8]] w fun e w' => e = .returned (.bool false) ∧ Below w.heap.size w w') := fun w => by have q := clean_fl m0 m1 m2 m3 m4 m5 m6 m7 m8 w; rw [em4, decide_eq_false (by rw [HA.out _ (by omega)]; omega)] at q; exact q
      clear em3
      clear em1 em4
      obtain ⟨z_d, f_d, c_d⟩ := Hd.out
      have dc0 : wv7.cell? ⟨gd, 0, none⟩ = some (.int .i64 x0) := c_d 0 _ rfl
      have dc1 : wv7.cell? ⟨gd, 1, none⟩ = some (.int .i64 x1) := c_d 1 _ rfl
      have dc2 : wv7.cell? ⟨gd, 2, none⟩ = some (.int .i64 x2) := c_d 2 _ rfl
      have dc3 : wv7.cell? ⟨gd, 3, none⟩ = some (.int .i64 x3) := c_d 3 _ rfl
      have dc4 : wv7.cell? ⟨gd, 4, none⟩ = some (.int .i64 x4) := c_d 4 _ rfl
      clear f_d c_d
      go_wp2_with fail
      refine (Im.out _ HT.out).mono ?_
      rintro e wv8 ⟨rfl, h_⟩
      replace HT : Hid (Tabs wv8) := HT.out.below h_
      replace Hd : Hid (Blk wv8 gd [.int .i64 x0, .int .i64 x1, .int .i64 x2, .int .i64 x3, .int .i64 x4]) := Hd.out.below h_
      replace HB : Hid (Below w1.heap.size w1 wv8) := HB.out.trans (h_.mono HB.out.size)
      clear h_
      clear dc0 dc1 dc2 dc3 dc4 z_d
      go_upto_region 14 with fail
      obtain ⟨wv9, hw_⟩ : ∃ x_, x_ = wv8.alloc (.cells #[.int .i64 m0, .int .i64 m1, .int .i64 m2, .int .i64 m3, .int .i64 m4, .int .i64 m5, .int .i64 m6, .int .i64 m7, .int .i64 m8] 29) := ⟨_, rfl⟩
      rw [← hw_]
      have Hm : Hid (Blk wv9 wv8.heap.size [.int .i64 m0, .int .i64 m1, .int .i64 m2, .int .i64 m3, .int .i64 m4, .int .i64 m5, .int .i64 m6, .int .i64 m7, .int .i64 m8]) := by show Blk _ _ _; rw [hw_]; exact Blk.new wv8 #[.int .i64 m0, .int .i64 m1, .int .i64 m2, .int .i64 m3, .int .i64 m4, .int .i64 m5, .int .i64 m6, .int .i64 m7, .int .i64 m8] _
      have bl_ : Below wv8.heap.size wv8 wv9 := by rw [hw_]; exact below0 _ _
      clear hw_
      replace HT : Hid (Tabs wv9) := HT.out.below bl_
      replace Hd : Hid (Blk wv9 gd [.int .i64 x0, .int .i64 x1, .int .i64 x2, .int .i64 x3, .int .i64 x4]) := Hd.out.below bl_
      replace HB : Hid (Below w1.heap.size w1 wv9) := HB.out.trans (bl_.mono HB.out.size)
      obtain ⟨gm, hg_⟩ : ∃ g, g = wv8.heap.size := ⟨_, rfl⟩
      rw [← hg_] at Hm ⊢
      clear hg_ bl_
      obtain ⟨z_m, f_m, c_m⟩ := Hm.out
      have mc0 : wv9.cell? ⟨gm, 0, none⟩ = some (.int .i64 m0) := c_m 0 _ rfl
      have mc1 : wv9.cell? ⟨gm, 1, none⟩ = some (.int .i64 m1) := c_m 1 _ rfl
      have mc2 : wv9.cell? ⟨gm, 2, none⟩ = some (.int .i64 m2) := c_m 2 _ rfl
      have mc3 : wv9.cell? ⟨gm, 3, none⟩ = some (.int .i64 m3) := c_m 3 _ rfl
      have mc4 : wv9.cell? ⟨gm, 4, none⟩ = some (.int .i64 m4) := c_m 4 _ rfl
      have mc5 : wv9.cell? ⟨gm, 5, none⟩ = some (.int .i64 m5) := c_m 5 _ rfl
      have mc6 : wv9.cell? ⟨gm, 6, none⟩ = some (.int .i64 m6) := c_m 6 _ rfl
      have mc7 : wv9.cell? ⟨gm, 7, none⟩ = some (.int .i64 m7) := c_m 7 _ rfl
      have mc8 : wv9.cell? ⟨gm, 8, none⟩ = some (.int .i64 m8) := c_m 8 _ rfl
      clear f_m c_m
      go_wp2_with fail
      refine (Cm.out _).mono ?_
      rintro e wv10 ⟨rfl, h_⟩
      replace HT : Hid (Tabs wv10) := HT.out.below h_
      replace Hd : Hid (Blk wv10 gd [.int .i64 x0, .int .i64 x1, .int .i64 x2, .int .i64 x3, .int .i64 x4]) := Hd.out.below h_
      replace Hm : Hid (Blk wv10 gm [.int .i64 m0, .int .i64 m1, .int .i64 m2, .int .i64 m3, .int .i64 m4, .int .i64 m5, .int .i64 m6, .int .i64 m7, .int .i64 m8]) := Hm.out.below h_
      replace HB : Hid (Below w1.heap.size w1 wv10) := HB.out.trans (h_.mono HB.out.size)
      clear h_
      clear mc0 mc1 mc2 mc3 mc4 mc5 mc6 mc7 mc8 z_m
      clear Hm
      clear Im Cm
      by_cases q0 : air < 0
      case pos =>
        have BF := HB.out
        have sBF := BF.size
        go_wp2
        go_ret
        exact ⟨rfl, (by repeat (first | with_reducible exact Below.refl _ _ | with_reducible exact BF | with_reducible refine Below.setCell ?_ (by first | omega | (simp; done) | (simp; omega)) _ | with_reducible refine bDrewN ?_ _ | with_reducible refine Below.drew ?_ | with_reducible refine Below.alloc ?_ (by first | omega | (simp; done) | (simp; omega)) _))⟩
      case neg =>
        have q0b : decide (air < 0) = false := decide_eq_false q0
        by_cases q1 : 1000000000 ≤ air
        case pos =>
          have BF := HB.out
          have sBF := BF.size
          go_wp2
          go_ret
          exact ⟨rfl, (by repeat (first | with_reducible exact Below.refl _ _ | with_reducible exact BF | with_reducible refine Below.setCell ?_ (by first | omega | (simp; done) | (simp; omega)) _ | with_reducible refine bDrewN ?_ _ | with_reducible refine Below.drew ?_ | with_reducible refine Below.alloc ?_ (by first | omega | (simp; done) | (simp; omega)) _))⟩
        case neg =>
          have q1b : decide (1000000000 ≤ air) = false := decide_eq_false q1
          have wr1 : IntKind.i64.wrap (air + 1) = air + 1 := by rw [IntKind.wrap_i64]; omega
          obtain ⟨a0, a1, a2, a3, a4, a5, a6, a7, a8, ea1, -, ea3, ea4⟩ := burn_form (HOK.out (air) (by omega) (by omega))
          have Ia : Hid (∀ w, Tabs w → Calls Tryd.prog 11 #[.agg #[.int .i64 x0, .int .i64 x1, .int .i64 x2, .int .i64 x3, .int .i64 x4], .int .i64 (air)] w fun e w' => e = .returned (.tuple #[.agg #[.int .i64 a0, .int .i64 a1, .int .i64 a2, .int .i64 a3, .int .i64 a4, .int .i64 a5, .int .i64 a6, .int .i64 a7, .int .i64 a8], .bool true]) ∧ Below w.heap.size w w') := fun w t => by have q := implBurn_any x0 x1 x2 x3 x4 (air) w t.1; rw [ea1, HOK.out (air) (by omega) (by omega)] at q; exact q
          clear ea1 ea4
          obtain ⟨b0, b1, b2, b3, b4, b5, b6, b7, b8, eb1, -, eb3, eb4⟩ := burn_form (HOK.out (air + 1) (by omega) (by omega))
          have Ib : Hid (∀ w, Tabs w → Calls Tryd.prog 11 #[.agg #[.int .i64 x0, .int .i64 x1, .int .i64 x2, .int .i64 x3, .int .i64 x4], .int .i64 (air + 1)] w fun e w' => e = .returned (.tuple #[.agg #[.int .i64 b0, .int .i64 b1, .int .i64 b2, .int .i64 b3, .int .i64 b4, .int .i64 b5, .int .i64 b6, .int .i64 b7, .int .i64 b8], .bool true]) ∧ Below w.heap.size w w') := fun w t => by have q := implBurn_any x0 x1 x2 x3 x4 (air + 1) w t.1; rw [eb1, HOK.out (air + 1) (by omega) (by omega)] at q; exact q
          clear eb1 eb4
          obtain ⟨hg0, hg1⟩ := heat_grows (air := air) HFU.out (by omega)
          unfold heV at hg0 hg1
          rw [← ea3] at hg0 hg1
          rw [← eb3] at hg1
          obtain ⟨hA, hhA⟩ : ∃ hA, heatV (nth a0 a1 a2 a3 a4 a5 a6 a7 a8) = hA := ⟨_, rfl⟩
          obtain ⟨hB, hhB⟩ : ∃ hB, heatV (nth b0 b1 b2 b3 b4 b5 b6 b7 b8) = hB := ⟨_, rfl⟩
          rw [hhA] at hg0 hg1
          rw [hhB] at hg1
          have Ja : Hid (∀ w, Tabs w → Calls Tryd.prog 16 #[.agg #[.int .i64 a0, .int .i64 a1, .int .i64 a2, .int .i64 a3, .int .i64 a4, .int .i64 a5, .int .i64 a6, .int .i64 a7, .int .i64 a8]] w fun e w' => e = .returned (.int .i64 hA) ∧ Below w.heap.size w w') := fun w t => by have q := implHeatOf_any a0 a1 a2 a3 a4 a5 a6 a7 a8 w t.2; rw [hhA] at q; exact q
          have Jb : Hid (∀ w, Tabs w → Calls Tryd.prog 16 #[.agg #[.int .i64 b0, .int .i64 b1, .int .i64 b2, .int .i64 b3, .int .i64 b4, .int .i64 b5, .int .i64 b6, .int .i64 b7, .int .i64 b8]] w fun e w' => e = .returned (.int .i64 hB) ∧ Below w.heap.size w w') := fun w t => by have q := implHeatOf_any b0 b1 b2 b3 b4 b5 b6 b7 b8 w t.2; rw [hhB] at q; exact q
          clear hhA hhB ea3 eb3
          obtain ⟨z_d, f_d, c_d⟩ := Hd.out
          have dc0 : wv10.cell? ⟨gd, 0, none⟩ = some (.int .i64 x0) := c_d 0 _ rfl
          have dc1 : wv10.cell? ⟨gd, 1, none⟩ = some (.int .i64 x1) := c_d 1 _ rfl
          have dc2 : wv10.cell? ⟨gd, 2, none⟩ = some (.int .i64 x2) := c_d 2 _ rfl
          have dc3 : wv10.cell? ⟨gd, 3, none⟩ = some (.int .i64 x3) := c_d 3 _ rfl
          have dc4 : wv10.cell? ⟨gd, 4, none⟩ = some (.int .i64 x4) := c_d 4 _ rfl
          clear f_d c_d
          go_wp2_with fail
          refine (Ia.out _ HT.out).mono ?_
          rintro e wv11 ⟨rfl, h_⟩
          replace HT : Hid (Tabs wv11) := HT.out.below h_
          replace Hd : Hid (Blk wv11 gd [.int .i64 x0, .int .i64 x1, .int .i64 x2, .int .i64 x3, .int .i64 x4]) := Hd.out.below h_
          replace HB : Hid (Below w1.heap.size w1 wv11) := HB.out.trans (h_.mono HB.out.size)
          clear h_
          clear dc0 dc1 dc2 dc3 dc4 z_d
          go_upto_region 19 with fail
          obtain ⟨wv12, hw_⟩ : ∃ x_, x_ = wv11.alloc (.cells #[.int .i64 a0, .int .i64 a1, .int .i64 a2, .int .i64 a3, .int .i64 a4, .int .i64 a5, .int .i64 a6, .int .i64 a7, .int .i64 a8] 29) := ⟨_, rfl⟩
          rw [← hw_]
          have Ha : Hid (Blk wv12 wv11.heap.size [.int .i64 a0, .int .i64 a1, .int .i64 a2, .int .i64 a3, .int .i64 a4, .int .i64 a5, .int .i64 a6, .int .i64 a7, .int .i64 a8]) := by show Blk _ _ _; rw [hw_]; exact Blk.new wv11 #[.int .i64 a0, .int .i64 a1, .int .i64 a2, .int .i64 a3, .int .i64 a4, .int .i64 a5, .int .i64 a6, .int .i64 a7, .int .i64 a8] _
          have bl_ : Below wv11.heap.size wv11 wv12 := by rw [hw_]; exact below0 _ _
          clear hw_
          replace HT : Hid (Tabs wv12) := HT.out.below bl_
          replace Hd : Hid (Blk wv12 gd [.int .i64 x0, .int .i64 x1, .int .i64 x2, .int .i64 x3, .int .i64 x4]) := Hd.out.below bl_
          replace HB : Hid (Below w1.heap.size w1 wv12) := HB.out.trans (bl_.mono HB.out.size)
          obtain ⟨ga, hg_⟩ : ∃ g, g = wv11.heap.size := ⟨_, rfl⟩
          rw [← hg_] at Ha ⊢
          clear hg_ bl_
          obtain ⟨z_d, f_d, c_d⟩ := Hd.out
          have dc0 : wv12.cell? ⟨gd, 0, none⟩ = some (.int .i64 x0) := c_d 0 _ rfl
          have dc1 : wv12.cell? ⟨gd, 1, none⟩ = some (.int .i64 x1) := c_d 1 _ rfl
          have dc2 : wv12.cell? ⟨gd, 2, none⟩ = some (.int .i64 x2) := c_d 2 _ rfl
          have dc3 : wv12.cell? ⟨gd, 3, none⟩ = some (.int .i64 x3) := c_d 3 _ rfl
          have dc4 : wv12.cell? ⟨gd, 4, none⟩ = some (.int .i64 x4) := c_d 4 _ rfl
          clear f_d c_d
          go_wp2_with fail
          refine (Ib.out _ HT.out).mono ?_
          rintro e wv13 ⟨rfl, h_⟩
          replace HT : Hid (Tabs wv13) := HT.out.below h_
          replace Hd : Hid (Blk wv13 gd [.int .i64 x0, .int .i64 x1, .int .i64 x2, .int .i64 x3, .int .i64 x4]) := Hd.out.below h_
          replace Ha : Hid (Blk wv13 ga [.int .i64 a0, .int .i64 a1, .int .i64 a2, .int .i64 a3, .int .i64 a4, .int .i64 a5, .int .i64 a6, .int .i64 a7, .int .i64 a8]) := Ha.out.below h_
          replace HB : Hid (Below w1.heap.size w1 wv13) := HB.out.trans (h_.mono HB.out.size)
          clear h_
          clear dc0 dc1 dc2 dc3 dc4 z_d
          go_upto_region 20 with fail
          obtain ⟨wv14, hw_⟩ : ∃ x_, x_ = wv13.alloc (.cells #[.int .i64 b0, .int .i64 b1, .int .i64 b2, .int .i64 b3, .int .i64 b4, .int .i64 b5, .int .i64 b6, .int .i64 b7, .int .i64 b8] 29) := ⟨_, rfl⟩
          rw [← hw_]
          have Hb : Hid (Blk wv14 wv13.heap.size [.int .i64 b0, .int .i64 b1, .int .i64 b2, .int .i64 b3, .int .i64 b4, .int .i64 b5, .int .i64 b6, .int .i64 b7, .int .i64 b8]) := by show Blk _ _ _; rw [hw_]; exact Blk.new wv13 #[.int .i64 b0, .int .i64 b1, .int .i64 b2, .int .i64 b3, .int .i64 b4, .int .i64 b5, .int .i64 b6, .int .i64 b7, .int .i64 b8] _
          have bl_ : Below wv13.heap.size wv13 wv14 := by rw [hw_]; exact below0 _ _
          clear hw_
          replace HT : Hid (Tabs wv14) := HT.out.below bl_
          replace Hd : Hid (Blk wv14 gd [.int .i64 x0, .int .i64 x1, .int .i64 x2, .int .i64 x3, .int .i64 x4]) := Hd.out.below bl_
          replace Ha : Hid (Blk wv14 ga [.int .i64 a0, .int .i64 a1, .int .i64 a2, .int .i64 a3, .int .i64 a4, .int .i64 a5, .int .i64 a6, .int .i64 a7, .int .i64 a8]) := Ha.out.below bl_
          replace HB : Hid (Below w1.heap.size w1 wv14) := HB.out.trans (bl_.mono HB.out.size)
          obtain ⟨gb, hg_⟩ : ∃ g, g = wv13.heap.size := ⟨_, rfl⟩
          rw [← hg_] at Hb ⊢
          clear hg_ bl_
          clear Ia Ib
          have za_ : ga < wv14.heap.size := Ha.out.1
          have zb_ : gb < wv14.heap.size := Hb.out.1
          have d1 : decide (0 ≤ hA) = true := decide_eq_true hg0
          have d2 : decide (hA ≤ hB) = true := decide_eq_true hg1
          refine wp_region_held_drew (S := fun w' => w'.cell? ⟨ga, 0, none⟩ = some (.int .i64 a0) ∧ w'.cell? ⟨ga, 1, none⟩ = some (.int .i64 a1) ∧ w'.cell? ⟨ga, 2, none⟩ = some (.int .i64 a2) ∧ w'.cell? ⟨ga, 3, none⟩ = some (.int .i64 a3) ∧ w'.cell? ⟨ga, 4, none⟩ = some (.int .i64 a4) ∧ w'.cell? ⟨ga, 5, none⟩ = some (.int .i64 a5) ∧ w'.cell? ⟨ga, 6, none⟩ = some (.int .i64 a6) ∧ w'.cell? ⟨ga, 7, none⟩ = some (.int .i64 a7) ∧ w'.cell? ⟨ga, 8, none⟩ = some (.int .i64 a8) ∧ w'.cell? ⟨gb, 0, none⟩ = some (.int .i64 b0) ∧ w'.cell? ⟨gb, 1, none⟩ = some (.int .i64 b1) ∧ w'.cell? ⟨gb, 2, none⟩ = some (.int .i64 b2) ∧ w'.cell? ⟨gb, 3, none⟩ = some (.int .i64 b3) ∧ w'.cell? ⟨gb, 4, none⟩ = some (.int .i64 b4) ∧ w'.cell? ⟨gb, 5, none⟩ = some (.int .i64 b5) ∧ w'.cell? ⟨gb, 6, none⟩ = some (.int .i64 b6) ∧ w'.cell? ⟨gb, 7, none⟩ = some (.int .i64 b7) ∧ w'.cell? ⟨gb, 8, none⟩ = some (.int .i64 b8)) (by kernel_rfl) ?_ (fun hHeld => ?_)
          · exact ⟨(Ha.out.below (show Below wv14.heap.size wv14 _ from (by repeat (first | with_reducible exact Below.refl _ _ | with_reducible refine Below.setCell ?_ (by first | omega | (simp; done) | (simp; omega)) _ | with_reducible refine bDrewN ?_ _ | with_reducible refine Below.drew ?_ | with_reducible refine Below.alloc ?_ (by first | omega | (simp; done) | (simp; omega)) _)))).2.2 0 _ rfl, (Ha.out.below (show Below wv14.heap.size wv14 _ from (by repeat (first | with_reducible exact Below.refl _ _ | with_reducible refine Below.setCell ?_ (by first | omega | (simp; done) | (simp; omega)) _ | with_reducible refine bDrewN ?_ _ | with_reducible refine Below.drew ?_ | with_reducible refine Below.alloc ?_ (by first | omega | (simp; done) | (simp; omega)) _)))).2.2 1 _ rfl, (Ha.out.below (show Below wv14.heap.size wv14 _ from (by repeat (first | with_reducible exact Below.refl _ _ | with_reducible refine Below.setCell ?_ (by first | omega | (simp; done) | (simp; omega)) _ | with_reducible refine bDrewN ?_ _ | with_reducible refine Below.drew ?_ | with_reducible refine Below.alloc ?_ (by first | omega | (simp; done) | (simp; omega)) _)))).2.2 2 _ rfl, (Ha.out.below (show Below wv14.heap.size wv14 _ from (by repeat (first | with_reducible exact Below.refl _ _ | with_reducible refine Below.setCell ?_ (by first | omega | (simp; done) | (simp; omega)) _ | with_reducible refine bDrewN ?_ _ | with_reducible refine Below.drew ?_ | with_reducible refine Below.alloc ?_ (by first | omega | (simp; done) | (simp; omega)) _)))).2.2 3 _ rfl, (Ha.out.below (show Below wv14.heap.size wv14 _ from (by repeat (first | with_reducible exact Below.refl _ _ | with_reducible refine Below.setCell ?_ (by first | omega | (simp; done) | (simp; omega)) _ | with_reducible refine bDrewN ?_ _ | with_reducible refine Below.drew ?_ | with_reducible refine Below.alloc ?_ (by first | omega | (simp; done) | (simp; omega)) _)))).2.2 4 _ rfl, (Ha.out.below (show Below wv14.heap.size wv14 _ from (by repeat (first | with_reducible exact Below.refl _ _ | with_reducible refine Below.setCell ?_ (by first | omega | (simp; done) | (simp; omega)) _ | with_reducible refine bDrewN ?_ _ | with_reducible refine Below.drew ?_ | with_reducible refine Below.alloc ?_ (by first | omega | (simp; done) | (simp; omega)) _)))).2.2 5 _ rfl, (Ha.out.below (show Below wv14.heap.size wv14 _ from (by repeat (first | with_reducible exact Below.refl _ _ | with_reducible refine Below.setCell ?_ (by first | omega | (simp; done) | (simp; omega)) _ | with_reducible refine bDrewN ?_ _ | with_reducible refine Below.drew ?_ | with_reducible refine Below.alloc ?_ (by first | omega | (simp; done) | (simp; omega)) _)))).2.2 6 _ rfl, (Ha.out.below (show Below wv14.heap.size wv14 _ from (by repeat (first | with_reducible exact Below.refl _ _ | with_reducible refine Below.setCell ?_ (by first | omega | (simp; done) | (simp; omega)) _ | with_reducible refine bDrewN ?_ _ | with_reducible refine Below.drew ?_ | with_reducible refine Below.alloc ?_ (by first | omega | (simp; done) | (simp; omega)) _)))).2.2 7 _ rfl, (Ha.out.below (show Below wv14.heap.size wv14 _ from (by repeat (first | with_reducible exact Below.refl _ _ | with_reducible refine Below.setCell ?_ (by first | omega | (simp; done) | (simp; omega)) _ | with_reducible refine bDrewN ?_ _ | with_reducible refine Below.drew ?_ | with_reducible refine Below.alloc ?_ (by first | omega | (simp; done) | (simp; omega)) _)))).2.2 8 _ rfl, (Hb.out.below (show Below wv14.heap.size wv14 _ from (by repeat (first | with_reducible exact Below.refl _ _ | with_reducible refine Below.setCell ?_ (by first | omega | (simp; done) | (simp; omega)) _ | with_reducible refine bDrewN ?_ _ | with_reducible refine Below.drew ?_ | with_reducible refine Below.alloc ?_ (by first | omega | (simp; done) | (simp; omega)) _)))).2.2 0 _ rfl, (Hb.out.below (show Below wv14.heap.size wv14 _ from (by repeat (first | with_reducible exact Below.refl _ _ | with_reducible refine Below.setCell ?_ (by first | omega | (simp; done) | (simp; omega)) _ | with_reducible refine bDrewN ?_ _ | with_reducible refine Below.drew ?_ | with_reducible refine Below.alloc ?_ (by first | omega | (simp; done) | (simp; omega)) _)))).2.2 1 _ rfl, (Hb.out.below (show Below wv14.heap.size wv14 _ from (by repeat (first | with_reducible exact Below.refl _ _ | with_reducible refine Below.setCell ?_ (by first | omega | (simp; done) | (simp; omega)) _ | with_reducible refine bDrewN ?_ _ | with_reducible refine Below.drew ?_ | with_reducible refine Below.alloc ?_ (by first | omega | (simp; done) | (simp; omega)) _)))).2.2 2 _ rfl, (Hb.out.below (show Below wv14.heap.size wv14 _ from (by repeat (first | with_reducible exact Below.refl _ _ | with_reducible refine Below.setCell ?_ (by first | omega | (simp; done) | (simp; omega)) _ | with_reducible refine bDrewN ?_ _ | with_reducible refine Below.drew ?_ | with_reducible refine Below.alloc ?_ (by first | omega | (simp; done) | (simp; omega)) _)))).2.2 3 _ rfl, (Hb.out.below (show Below wv14.heap.size wv14 _ from (by repeat (first | with_reducible exact Below.refl _ _ | with_reducible refine Below.setCell ?_ (by first | omega | (simp; done) | (simp; omega)) _ | with_reducible refine bDrewN ?_ _ | with_reducible refine Below.drew ?_ | with_reducible refine Below.alloc ?_ (by first | omega | (simp; done) | (simp; omega)) _)))).2.2 4 _ rfl, (Hb.out.below (show Below wv14.heap.size wv14 _ from (by repeat (first | with_reducible exact Below.refl _ _ | with_reducible refine Below.setCell ?_ (by first | omega | (simp; done) | (simp; omega)) _ | with_reducible refine bDrewN ?_ _ | with_reducible refine Below.drew ?_ | with_reducible refine Below.alloc ?_ (by first | omega | (simp; done) | (simp; omega)) _)))).2.2 5 _ rfl, (Hb.out.below (show Below wv14.heap.size wv14 _ from (by repeat (first | with_reducible exact Below.refl _ _ | with_reducible refine Below.setCell ?_ (by first | omega | (simp; done) | (simp; omega)) _ | with_reducible refine bDrewN ?_ _ | with_reducible refine Below.drew ?_ | with_reducible refine Below.alloc ?_ (by first | omega | (simp; done) | (simp; omega)) _)))).2.2 6 _ rfl, (Hb.out.below (show Below wv14.heap.size wv14 _ from (by repeat (first | with_reducible exact Below.refl _ _ | with_reducible refine Below.setCell ?_ (by first | omega | (simp; done) | (simp; omega)) _ | with_reducible refine bDrewN ?_ _ | with_reducible refine Below.drew ?_ | with_reducible refine Below.alloc ?_ (by first | omega | (simp; done) | (simp; omega)) _)))).2.2 7 _ rfl, (Hb.out.below (show Below wv14.heap.size wv14 _ from (by repeat (first | with_reducible exact Below.refl _ _ | with_reducible refine Below.setCell ?_ (by first | omega | (simp; done) | (simp; omega)) _ | with_reducible refine bDrewN ?_ _ | with_reducible refine Below.drew ?_ | with_reducible refine Below.alloc ?_ (by first | omega | (simp; done) | (simp; omega)) _)))).2.2 8 _ rfl⟩
          refine wpAnyH_take (i := 0) (v := .bool true) rfl (by kernel_rfl) (by kernel_rfl) (by kernel_rfl) (fun _ _ _ h => h) (Or.inl ⟨by kernel_rfl, ?_⟩) hHeld ?_
          · intro w' hSw
            obtain ⟨sa0, sa1, sa2, sa3, sa4, sa5, sa6, sa7, sa8, sb0, sb1, sb2, sb3, sb4, sb5, sb6, sb7, sb8⟩ := hSw
            first | (go_simp; done) | (go_simp; with_reducible rfl) | (go_simp; rw [IntKind.wrap_i64]; omega) | (go_simp; omega)
          simp only [Act.put, List.setIfInBounds_toArray, List.set_cons_zero, List.set_cons_succ]
          refine wpAnyH_take (i := 1) (v := .bool true) rfl (by kernel_rfl) (by kernel_rfl) (by kernel_rfl) (fun _ _ _ h => h) (Or.inl ⟨by kernel_rfl, ?_⟩) hHeld ?_
          · intro w' hSw
            obtain ⟨sa0, sa1, sa2, sa3, sa4, sa5, sa6, sa7, sa8, sb0, sb1, sb2, sb3, sb4, sb5, sb6, sb7, sb8⟩ := hSw
            first | (go_simp; done) | (go_simp; with_reducible rfl) | (go_simp; rw [IntKind.wrap_i64]; omega) | (go_simp; omega)
          simp only [Act.put, List.setIfInBounds_toArray, List.set_cons_zero, List.set_cons_succ]
          refine wpAnyH_take (i := 2) (v := .bool true) rfl (by kernel_rfl) (by kernel_rfl) (by kernel_rfl) (fun _ _ _ h => h) (Or.inl ⟨by kernel_rfl, ?_⟩) hHeld ?_
          · intro w' hSw
            obtain ⟨sa0, sa1, sa2, sa3, sa4, sa5, sa6, sa7, sa8, sb0, sb1, sb2, sb3, sb4, sb5, sb6, sb7, sb8⟩ := hSw
            first | (go_simp; done) | (go_simp; with_reducible rfl) | (go_simp; rw [IntKind.wrap_i64]; omega) | (go_simp; omega)
          simp only [Act.put, List.setIfInBounds_toArray, List.set_cons_zero, List.set_cons_succ]
          refine wpAnyH_take (i := 3) (v := .bool true) rfl (by kernel_rfl) (by kernel_rfl) (by kernel_rfl) (fun _ _ _ h => h) (Or.inl ⟨by kernel_rfl, ?_⟩) hHeld ?_
          · intro w' hSw
            obtain ⟨sa0, sa1, sa2, sa3, sa4, sa5, sa6, sa7, sa8, sb0, sb1, sb2, sb3, sb4, sb5, sb6, sb7, sb8⟩ := hSw
            first | (go_simp; done) | (go_simp; with_reducible rfl) | (go_simp; rw [IntKind.wrap_i64]; omega) | (go_simp; omega)
          simp only [Act.put, List.setIfInBounds_toArray, List.set_cons_zero, List.set_cons_succ]
          refine wpAnyH_take (i := 4) (v := .bool true) rfl (by kernel_rfl) (by kernel_rfl) (by kernel_rfl) (fun _ _ _ h => h) (Or.inl ⟨by kernel_rfl, ?_⟩) hHeld ?_
          · intro w' hSw
            obtain ⟨sa0, sa1, sa2, sa3, sa4, sa5, sa6, sa7, sa8, sb0, sb1, sb2, sb3, sb4, sb5, sb6, sb7, sb8⟩ := hSw
            first | (go_simp; done) | (go_simp; with_reducible rfl) | (go_simp; rw [IntKind.wrap_i64]; omega) | (go_simp; omega)
          simp only [Act.put, List.setIfInBounds_toArray, List.set_cons_zero, List.set_cons_succ]
          refine wpAnyH_take (i := 5) (v := .agg #[.int .i64 a0, .int .i64 a1, .int .i64 a2, .int .i64 a3, .int .i64 a4, .int .i64 a5, .int .i64 a6, .int .i64 a7, .int .i64 a8]) rfl (by kernel_rfl) (by kernel_rfl) (by kernel_rfl) (fun _ _ _ h => h) (Or.inl ⟨by kernel_rfl, ?_⟩) hHeld ?_
          · intro w' hSw
            obtain ⟨sa0, sa1, sa2, sa3, sa4, sa5, sa6, sa7, sa8, sb0, sb1, sb2, sb3, sb4, sb5, sb6, sb7, sb8⟩ := hSw
            first | (go_simp; done) | (go_simp; with_reducible rfl) | (go_simp; rw [IntKind.wrap_i64]; omega) | (go_simp; omega)
          simp only [Act.put, List.setIfInBounds_toArray, List.set_cons_zero, List.set_cons_succ]
          refine wpAnyH_ready (rs := [6]) (by kernel_rfl) (by simp) ?_
          refine AllReadyH.cons rfl (fun KK hK => ?_) AllReadyH.nil
          go_simp
          go_wp2_with (first | (go_at_call 16; refine (Ja.out _ (HT.out.below (show Below wv14.heap.size wv14 _ from (by repeat (first | with_reducible exact Below.refl _ _ | with_reducible refine Below.setCell ?_ (by first | omega | (simp; done) | (simp; omega)) _ | with_reducible refine bDrewN ?_ _ | with_reducible refine Below.drew ?_ | with_reducible refine Below.alloc ?_ (by first | omega | (simp; done) | (simp; omega)) _))))).mono ?_; rintro e w7a ⟨rfl, h7⟩; have B7a : Below wv14.heap.size wv14 w7a := (show Below wv14.heap.size wv14 _ from (by repeat (first | with_reducible exact Below.refl _ _ | with_reducible refine Below.setCell ?_ (by first | omega | (simp; done) | (simp; omega)) _ | with_reducible refine bDrewN ?_ _ | with_reducible refine Below.drew ?_ | with_reducible refine Below.alloc ?_ (by first | omega | (simp; done) | (simp; omega)) _))).trans (h7.mono (by first | omega | (simp; done) | (simp; omega))); have s7a := B7a.size; clear h7))
          refine hK.out _ _ (⟨(Ha.out.below B7a).2.2 0 _ rfl, (Ha.out.below B7a).2.2 1 _ rfl, (Ha.out.below B7a).2.2 2 _ rfl, (Ha.out.below B7a).2.2 3 _ rfl, (Ha.out.below B7a).2.2 4 _ rfl, (Ha.out.below B7a).2.2 5 _ rfl, (Ha.out.below B7a).2.2 6 _ rfl, (Ha.out.below B7a).2.2 7 _ rfl, (Ha.out.below B7a).2.2 8 _ rfl, (Hb.out.below B7a).2.2 0 _ rfl, (Hb.out.below B7a).2.2 1 _ rfl, (Hb.out.below B7a).2.2 2 _ rfl, (Hb.out.below B7a).2.2 3 _ rfl, (Hb.out.below B7a).2.2 4 _ rfl, (Hb.out.below B7a).2.2 5 _ rfl, (Hb.out.below B7a).2.2 6 _ rfl, (Hb.out.below B7a).2.2 7 _ rfl, (Hb.out.below B7a).2.2 8 _ rfl⟩) (fun hHeld => ?_)
          clear hK KK
          refine wpAnyH_take (i := 7) (v := .bool true) rfl (by kernel_rfl) (by kernel_rfl) (by kernel_rfl) (fun _ _ _ h => h) (Or.inl ⟨by kernel_rfl, ?_⟩) hHeld ?_
          · intro w' hSw
            obtain ⟨sa0, sa1, sa2, sa3, sa4, sa5, sa6, sa7, sa8, sb0, sb1, sb2, sb3, sb4, sb5, sb6, sb7, sb8⟩ := hSw
            first | (go_simp; done) | (go_simp; with_reducible rfl) | (go_simp; rw [IntKind.wrap_i64]; omega) | (go_simp; omega)
          simp only [Act.put, List.setIfInBounds_toArray, List.set_cons_zero, List.set_cons_succ]
          refine wpAnyH_take (i := 8) (v := .bool true) rfl (by kernel_rfl) (by kernel_rfl) (by kernel_rfl) (fun _ _ _ h => h) (Or.inl ⟨by kernel_rfl, ?_⟩) hHeld ?_
          · intro w' hSw
            obtain ⟨sa0, sa1, sa2, sa3, sa4, sa5, sa6, sa7, sa8, sb0, sb1, sb2, sb3, sb4, sb5, sb6, sb7, sb8⟩ := hSw
            first | (go_simp; done) | (go_simp; with_reducible rfl) | (go_simp; rw [IntKind.wrap_i64]; omega) | (go_simp; omega)
          simp only [Act.put, List.setIfInBounds_toArray, List.set_cons_zero, List.set_cons_succ]
          refine wpAnyH_take (i := 9) (v := .bool true) rfl (by kernel_rfl) (by kernel_rfl) (by kernel_rfl) (fun _ _ _ h => h) (Or.inl ⟨by kernel_rfl, ?_⟩) hHeld ?_
          · intro w' hSw
            obtain ⟨sa0, sa1, sa2, sa3, sa4, sa5, sa6, sa7, sa8, sb0, sb1, sb2, sb3, sb4, sb5, sb6, sb7, sb8⟩ := hSw
            first | (go_simp; done) | (go_simp; with_reducible rfl) | (go_simp; rw [IntKind.wrap_i64]; omega) | (go_simp; omega)
          simp only [Act.put, List.setIfInBounds_toArray, List.set_cons_zero, List.set_cons_succ]
          refine wpAnyH_take (i := 10) (v := .agg #[.int .i64 b0, .int .i64 b1, .int .i64 b2, .int .i64 b3, .int .i64 b4, .int .i64 b5, .int .i64 b6, .int .i64 b7, .int .i64 b8]) rfl (by kernel_rfl) (by kernel_rfl) (by kernel_rfl) (fun _ _ _ h => h) (Or.inl ⟨by kernel_rfl, ?_⟩) hHeld ?_
          · intro w' hSw
            obtain ⟨sa0, sa1, sa2, sa3, sa4, sa5, sa6, sa7, sa8, sb0, sb1, sb2, sb3, sb4, sb5, sb6, sb7, sb8⟩ := hSw
            first | (go_simp; done) | (go_simp; with_reducible rfl) | (go_simp; rw [IntKind.wrap_i64]; omega) | (go_simp; omega)
          simp only [Act.put, List.setIfInBounds_toArray, List.set_cons_zero, List.set_cons_succ]
          refine wpAnyH_take (i := 12) (v := .agg #[.int .i64 a0, .int .i64 a1, .int .i64 a2, .int .i64 a3, .int .i64 a4, .int .i64 a5, .int .i64 a6, .int .i64 a7, .int .i64 a8]) rfl (by kernel_rfl) (by kernel_rfl) (by kernel_rfl) (fun _ _ _ h => h) (Or.inl ⟨by kernel_rfl, ?_⟩) hHeld ?_
          · intro w' hSw
            obtain ⟨sa0, sa1, sa2, sa3, sa4, sa5, sa6, sa7, sa8, sb0, sb1, sb2, sb3, sb4, sb5, sb6, sb7, sb8⟩ := hSw
            first | (go_simp; done) | (go_simp; with_reducible rfl) | (go_simp; rw [IntKind.wrap_i64]; omega) | (go_simp; omega)
          simp only [Act.put, List.setIfInBounds_toArray, List.set_cons_zero, List.set_cons_succ]
          refine wpAnyH_ready (rs := [11]) (by kernel_rfl) (by simp) ?_
          refine AllReadyH.cons rfl (fun KK hK => ?_) AllReadyH.nil
          go_simp
          go_wp2_with (first | (go_at_call 16; refine (Jb.out _ (HT.out.below B7a)).mono ?_; rintro e w7b ⟨rfl, h7⟩; have B7b : Below wv14.heap.size wv14 w7b := B7a.trans (h7.mono (by first | omega | (simp; done) | (simp; omega))); have s7b := B7b.size; clear h7))
          refine hK.out _ _ (⟨(Ha.out.below B7b).2.2 0 _ rfl, (Ha.out.below B7b).2.2 1 _ rfl, (Ha.out.below B7b).2.2 2 _ rfl, (Ha.out.below B7b).2.2 3 _ rfl, (Ha.out.below B7b).2.2 4 _ rfl, (Ha.out.below B7b).2.2 5 _ rfl, (Ha.out.below B7b).2.2 6 _ rfl, (Ha.out.below B7b).2.2 7 _ rfl, (Ha.out.below B7b).2.2 8 _ rfl, (Hb.out.below B7b).2.2 0 _ rfl, (Hb.out.below B7b).2.2 1 _ rfl, (Hb.out.below B7b).2.2 2 _ rfl, (Hb.out.below B7b).2.2 3 _ rfl, (Hb.out.below B7b).2.2 4 _ rfl, (Hb.out.below B7b).2.2 5 _ rfl, (Hb.out.below B7b).2.2 6 _ rfl, (Hb.out.below B7b).2.2 7 _ rfl, (Hb.out.below B7b).2.2 8 _ rfl⟩) (fun hHeld => ?_)
          clear hK KK
          refine wpAnyH_ready (rs := [13]) (by kernel_rfl) (by simp) ?_
          refine AllReadyH.cons rfl (fun KK hK => ?_) AllReadyH.nil
          go_simp
          go_wp2_with (first | (go_at_call 16; refine (Ja.out _ (HT.out.below B7b)).mono ?_; rintro e w7c ⟨rfl, h7⟩; have B7c : Below wv14.heap.size wv14 w7c := B7b.trans (h7.mono (by first | omega | (simp; done) | (simp; omega))); have s7c := B7c.size; clear h7))
          refine hK.out _ _ (⟨(Ha.out.below B7c).2.2 0 _ rfl, (Ha.out.below B7c).2.2 1 _ rfl, (Ha.out.below B7c).2.2 2 _ rfl, (Ha.out.below B7c).2.2 3 _ rfl, (Ha.out.below B7c).2.2 4 _ rfl, (Ha.out.below B7c).2.2 5 _ rfl, (Ha.out.below B7c).2.2 6 _ rfl, (Ha.out.below B7c).2.2 7 _ rfl, (Ha.out.below B7c).2.2 8 _ rfl, (Hb.out.below B7c).2.2 0 _ rfl, (Hb.out.below B7c).2.2 1 _ rfl, (Hb.out.below B7c).2.2 2 _ rfl, (Hb.out.below B7c).2.2 3 _ rfl, (Hb.out.below B7c).2.2 4 _ rfl, (Hb.out.below B7c).2.2 5 _ rfl, (Hb.out.below B7c).2.2 6 _ rfl, (Hb.out.below B7c).2.2 7 _ rfl, (Hb.out.below B7c).2.2 8 _ rfl⟩) (fun hHeld => ?_)
          clear hK KK
          refine wpAnyH_take (i := 14) (v := .bool true) rfl (by kernel_rfl) (by kernel_rfl) (by kernel_rfl) (fun _ _ _ h => h) (Or.inl ⟨by kernel_rfl, ?_⟩) hHeld ?_
          · intro w' hSw
            obtain ⟨sa0, sa1, sa2, sa3, sa4, sa5, sa6, sa7, sa8, sb0, sb1, sb2, sb3, sb4, sb5, sb6, sb7, sb8⟩ := hSw
            first | (go_simp; done) | (go_simp; with_reducible rfl) | (go_simp; rw [IntKind.wrap_i64]; omega) | (go_simp; omega)
          simp only [Act.put, List.setIfInBounds_toArray, List.set_cons_zero, List.set_cons_succ]
          refine wpAnyH_take (i := 15) (v := .bool true) rfl (by kernel_rfl) (by kernel_rfl) (by kernel_rfl) (fun _ _ _ h => h) (Or.inl ⟨by kernel_rfl, ?_⟩) hHeld ?_
          · intro w' hSw
            obtain ⟨sa0, sa1, sa2, sa3, sa4, sa5, sa6, sa7, sa8, sb0, sb1, sb2, sb3, sb4, sb5, sb6, sb7, sb8⟩ := hSw
            first | (go_simp; done) | (go_simp; with_reducible rfl) | (go_simp; rw [IntKind.wrap_i64]; omega) | (go_simp; omega)
          simp only [Act.put, List.setIfInBounds_toArray, List.set_cons_zero, List.set_cons_succ]
          refine wpAnyH_ready (rs := [16]) (by kernel_rfl) (by simp) ?_
          refine AllReadyH.cons rfl (fun KK hK => ?_) AllReadyH.nil
          go_simp
          refine hK.out _ _ hHeld (fun hHeld => ?_)
          clear hK KK
          refine wpAnyH_done (by kernel_rfl) ?_ _
          have BF := HB.out.trans (B7c.mono HB.out.size)
          have sBF := BF.size
          go_wp2
          go_ret
          exact ⟨rfl, (by repeat (first | with_reducible exact Below.refl _ _ | with_reducible exact BF | with_reducible refine Below.setCell ?_ (by first | omega | (simp; done) | (simp; omega)) _ | with_reducible refine bDrewN ?_ _ | with_reducible refine Below.drew ?_ | with_reducible refine Below.alloc ?_ (by first | omega | (simp; done) | (simp; omega)) _))⟩
theorem fnNeed_walk (w : World) (s : Option Addr) (n c : Nat) (hn : n ≤ 9223372036854775807) (R : Bytes w s n) (hT : Tabs w) :
    Calls Tryd.prog 4 #[.slice s n c] w fun e w' => e = .returned (.bool true) ∧ Below w.heap.size w w' := by
  by_cases h : n ≤ 1048576
  · exact need_near w s n c (by omega) (R.code h) hT
  · exact need_far w s n c (by omega)
theorem var?_block {P : Program} {w : World} {n : String} {g : Nat} {cs : Array Value} (hg : P.globalNamed n = some g) (h : w.var? P n = some cs) : ∃ t fr, w.heap[g]? = some (.cells cs t fr) := by
  simp only [World.var?, hg, Option.bind_some] at h
  split at h
  · rename_i c t fr he
    cases h
    exact ⟨t, fr, he⟩
  · cases h
/-- WHAT THE ROW's LIST GIVES: the two tables. -/
theorem fnNeed_tabs {W : World} (h : laidMetH Tryd.prog Rows.fnNeedRow.laid W) : Tabs W := by
  have h0 : laidMet Tryd.prog Rows.fnNeedRow.laid W := h
  have h1 := cells_of_tail h0
  have hv := cells_of_head (P := Tryd.prog) (g := 1) (t := 63) (c := tbl.map (Value.int .i64)) 8 (by kernel_rfl) (by kernel_rfl) (by kernel_rfl) h0
  have hg : Tryd.prog.globalNamed _ = some 1 := (show Tryd.prog.globalNamed ((Rows.fnNeedSpec.vars.drop 1).headD default) = some 1 by kernel_rfl)
  have hv2 := cells_of_head (P := Tryd.prog) (g := 0) (t := 57) (c := [.int .i64 4, .int .i64 1, .int .i64 3, .int .i64 6, .int .i64 2, .int .i64 5, .int .i64 2, .int .i64 1, .int .i64 1, .int .i64 1, .int .i64 1, .int .i64 0]) 8 (by kernel_rfl) (by kernel_rfl) (by kernel_rfl) h1
  have hg2 : Tryd.prog.globalNamed _ = some 0 := (show Tryd.prog.globalNamed (Rows.fnNeedSpec.vars.headD default) = some 0 by kernel_rfl)
  refine ⟨var?_block hg2 hv2, ?_⟩
  have key := World.var?_cell hg hv
  refine ⟨?_, fun i hi => ?_⟩
  · have k0 := key 0
    rcases Nat.lt_or_ge 1 W.heap.size with z | z
    · exact z
    · exfalso
      have : W.cell? ⟨1, 0, none⟩ = none := by simp [World.cell?, Array.getElem?_eq_none z]
      rw [this] at k0
      simp [tbl] at k0
  · have ki := key i
    rw [ki]
    have hl : tbl.length = 54 := by decide
    simp [tb, List.getD, hl, hi]
theorem fnNeed_vars {H : Type} {enc : TypeId × Value → H} {P : Program} {w : World} {sp : Nat → Bool} : ∀ {ns : List String} {gs : List (DataW H)} {ps : List MemPlace}, DataW.TrodVars enc P w sp ns gs ps → gs.length = ns.length
  | [], [], _, _ => rfl
  | [], _ :: _, _, h => h.elim
  | _ :: _, [], _, h => h.elim
  | _ :: _, _ :: _, _, ⟨_, _, _, _, _, _, _, _, _, _, hs, _⟩ => by simp [fnNeed_vars hs]
theorem fnNeed_contract (H : Type) (enc : TypeId × Value → H) (W : World) (base : Nat) (args : Array Value) (ds gs : List (DataW H)) (before : List MemPlace)
    (hval : ∀ (j : Nat) t v, Tryd.f4.params[j]? = some t → args[j]? = some v → Value.okWide Tryd.prog W .any base t v)
    (hW : DataW.Whole enc Tryd.prog Tryd.f4.params.toList Rows.fnNeedSpec.vars false W args.toList ds gs before) (hL : laidMetH Tryd.prog Rows.fnNeedRow.laid W) :
    Calls Tryd.prog 4 args W fun e W' => ∃ v, e = .returned v ∧ Rows.fnNeedSpec.post enc Tryd.prog Tryd.f4 false true false false W args v W' := by
  have hW' := hW
  obtain ⟨p, q, hA0, hV, rfl, hfz, hnd⟩ := hW
  have hA : DataW.TrodAll enc Tryd.prog W 0 (fun _ => true) true Tryd.f4.params.toList args.toList ds p := hA0
  rw [Tryd.params4] at hA hval
  obtain ⟨v0, vs0, d0, ds0, p0, q0, hargs, rfl, rfl, h0, r0⟩ := trodAll_cons hA
  obtain ⟨rfl, rfl, rfl⟩ := trodAll_nil r0
  obtain rfl : args = #[v0] := by cases args; simp_all
  have hV2 := hV
  have hlen := fnNeed_vars hV
  obtain ⟨y0, y1, rfl⟩ : ∃ y0 y1, gs = [y0, y1] := by
    have hl : gs.length = 2 := hlen.trans (by kernel_rfl)
    rcases gs with _ | ⟨y0, _ | ⟨y1, _ | ⟨z, r⟩⟩⟩
    · cases hl
    · cases hl
    · exact ⟨_, _, rfl⟩
    · simp at hl
  have k0 := h0
  have lt0 : ∀ x ∈ p0, x.block < W.heap.size := by obtain ⟨m, hm⟩ := k0; exact DataW.trod_lt m _ _ _ hm
  obtain ⟨s0, n0, c0, rfl, m0, R0⟩ := open_code Tryd.underlying22 Tryd.underlying5 (by kernel_rfl) (hval 0 22 v0 rfl rfl) h0
  clear hA0
  refine (fnNeed_walk W s0 n0 c0 m0 R0 (fnNeed_tabs hL)).mono fun e W' ⟨he, bel⟩ => ?_
  subst he
  exact ⟨_, rfl, _, _, _, [], _, q, hW', trodAll_mk1 (shut_bool Tryd.underlying4 _), (trodAll_cons_mk (Below.trod laidOut (by kernel_rfl) (of_decide_eq_true (by kernel_rfl)) k0 bel lt0) trodAll_mk0), Below.trodVars laidOut bel (by kernel_rfl) hV2, bel.frame _, fun h => by cases h⟩
set_option maxRecDepth 100000 in
theorem fnNeed_lifted (os : Os) (started : os.Started) (H : Type) (enc : TypeId × Value → H) (F : Stop.Interp) :
    ReturnsInHanded {} Tryd.checked os 4 .any ((OpenSpec.ofChange Rows.fnNeedSpec).preRow enc Tryd.prog Tryd.f4 Rows.fnNeedRow.domain false Rows.fnNeedRow.laid) (((OpenSpec.ofChange Rows.fnNeedSpec).at F).post enc Tryd.prog Tryd.f4 false true false false) := by
  refine returnsInHanded_of_row (C := Tryd.checked) (s := OpenSpec.ofChange Rows.fnNeedSpec) own started (by kernel_rfl) Tryd.func4
    (witness_row_at (enc := enc) (C := Tryd.checked) false ({ World.holding Tryd.prog os ⟨#[], #[], []⟩ with heap := (((World.holding Tryd.prog os ⟨#[], #[], []⟩).heap.modify 0 fun
      | .cells _ t frozen => .cells #[.int .i64 4, .int .i64 1, .int .i64 3, .int .i64 6, .int .i64 2, .int .i64 5, .int .i64 2, .int .i64 1, .int .i64 1, .int .i64 1, .int .i64 1, .int .i64 0] t frozen
      | o => o).modify 1 fun
      | .cells _ t frozen => .cells #[.int .i64 1, .int .i64 0, .int .i64 0, .int .i64 2, .int .i64 0, .int .i64 394, .int .i64 1, .int .i64 0, .int .i64 0, .int .i64 1, .int .i64 0, .int .i64 111, .int .i64 1, .int .i64 0, .int .i64 0, .int .i64 0, .int .i64 0, .int .i64 0, .int .i64 0, .int .i64 2, .int .i64 0, .int .i64 1, .int .i64 0, .int .i64 242, .int .i64 0, .int .i64 2, .int .i64 0, .int .i64 0, .int .i64 0, .int .i64 0, .int .i64 0, .int .i64 0, .int .i64 1, .int .i64 2, .int .i64 0, .int .i64 297, .int .i64 0, .int .i64 0, .int .i64 1, .int .i64 0, .int .i64 0, .int .i64 0, .int .i64 0, .int .i64 0, .int .i64 0, .int .i64 1, .int .i64 0, .int .i64 0, .int .i64 0, .int .i64 0, .int .i64 0, .int .i64 0, .int .i64 1, .int .i64 0] t frozen
      | o => o) }) #[.slice none 0 0] rfl (by kernel_rfl) (by kernel_rfl) (by kernel_rfl)
      (OpenSpec.preRow_of_B rfl 8 (by kernel_rfl) (by kernel_rfl) (laidMet_of_run' 8 (by kernel_rfl) (by kernel_rfl)))) ?_
  intro W base args ds gs before hval hW _ _ _ hL _ _
  exact fnNeed_contract H enc W base args ds gs before hval hW hL
theorem fnNeed_said : Rows.FnNeedSaid :=
  OpenClaim.holds_of_cond 4 Tryd.f4 rfl rfl rfl rfl rfl rfl rfl ⟨rfl, rfl, rfl, rfl, rfl⟩ rfl rfl rfl rfl rfl (by kernel_rfl) Tryd.func4 (by kernel_rfl)
    (of_decide_eq_true (by kernel_rfl)) (by unfold Func.isWrapper; first | (rw [if_pos (by decide +kernel)]; kernel_rfl) | (rw [if_neg (by decide +kernel)]; exact ⟨rfl, rfl⟩))
    (fun os started H enc _ F => by rw [OpenClaim.pre_eq_preRow]; exact fnNeed_lifted os started H enc F)
theorem fnNeed_plain (f : FuncId) (fn : Func) (hf : Tryd.pinned.checked.prog.funcNamed Rows.fnNeedRow.func = some f) (hfn : Tryd.pinned.checked.prog.funcs[f]? = some fn) :
    false = Tryd.pinned.checked.prog.looks [] ∧ ∀ (j : Nat) t, fn.params[j]? = some t → Tryd.pinned.checked.prog.wantsStandIn t = false := by
  obtain rfl : f = 4 := Option.some.inj ((show Tryd.prog.funcNamed Rows.fnNeedRow.func = some 4 by kernel_rfl).symm.trans hf) |>.symm
  obtain rfl : fn = Tryd.f4 := (Option.some.inj (Tryd.func4.symm.trans hfn)).symm
  refine ⟨by kernel_rfl, fun j t ht => ?_⟩
  have hall : Tryd.f4.params.toList.all (fun t => !Tryd.prog.wantsStandIn t) = true := by kernel_rfl
  have hmem := Array.mem_of_getElem? ht
  have := List.all_eq_true.1 hall t (Array.mem_toList_iff.2 hmem)
  have this2 : Tryd.prog.wantsStandIn t = false := by simpa using this
  exact this2
theorem fnNeed_holds : Rows.FnNeedCardSaid :=
  Claim7.holds_tied_plain_at .later [] _ _ _ _ fnNeed_said (fun _ h => by cases h) (by kernel_rfl) (fun _ h => by cases h) fnNeed_row_tie rfl ⟨rfl, rfl⟩ (by kernel_rfl) rfl fnNeed_plain (by kernel_rfl)
#print axioms fnNeed_holds
end Go.Proofs.YtphmdnpmekdglaaDoor
