/-
What is proved: at every list of int64s and every pair impl.PolyAt answers as the specification's PolyAt, bit for bit but for a NaN's, and leaves the list alone; no condition.
-/
import Derived.Test.YtamcmhlliplphaaPoS
import Derived.Test.YtamcmhlliplphaaPoP
import Derived.Test.YtamcmhlliplphaaI64C
import Derived.Test.YtamcmhlliplphaaOpenI
import Derived.Deep.RegionHeld3
import Derived.Deep.DeepCutAuto
namespace Go.Proofs.Ytamcmhlliplphaa
set_option maxRecDepth 40000
open Go.ChangeShapes Go.WideShapes Go.ChangeAt Go.RowKit
set_option linter.unusedVariables false
set_option linter.unusedSimpArgs false

theorem f64_lt {x : Nat} (h : (Lit.float .f64 x).wf = true) : x < 18446744073709551616 := by
  simpa [Lit.wf] using h
theorem prAt_mk {w w' : World} {p : Nat} (c0 : w.cell? ⟨p, 0, none⟩ = some (.float .f64 0)) (z : p < w.heap.size) (c1 : w.cell? ⟨p, 1, none⟩ = some (.float .f64 0)) (f : ∀ o, w.frozen? ⟨p, o, none⟩ = false) (hb : Below w.heap.size w w') : PrAt w' p 0 0 := PrAt.below ⟨z, f, c0, c1⟩ hb
theorem keep2p {W W' : World} {p : Nat} {a b : Value} (h0 : W.cell? ⟨p, 0, none⟩ = some a) (h1 : W.cell? ⟨p, 1, none⟩ = some b) (hp : p < W.heap.size) (hb : Below W.heap.size W W') : W'.cell? ⟨p, 0, none⟩ = some a ∧ W'.cell? ⟨p, 1, none⟩ = some b :=
  ⟨(hb.cell (p := ⟨p, 0, none⟩) hp).trans h0, (hb.cell (p := ⟨p, 1, none⟩) hp).trans h1⟩
theorem toI_b (s : Option Addr) (n c : Nat) (V : Nat → Int) (w : World) (hn : (n : Int) ≤ 1048576) (HR : RowI w s n V) :
    Calls Try.prog 6 #[.slice s n c] w fun e w' => ∃ b, e = .returned (.slice (some ⟨b, 0, none⟩) n n) ∧ w.heap.size ≤ b ∧ b < w'.heap.size ∧ OwnI b w' (some ⟨b, 0, none⟩) n V ∧ Below w.heap.size w w' :=
  (toInt64S_any s n c V w hn HR).mono fun e w' ⟨h1, h2, h3, h4⟩ => ⟨_, h1, Nat.le_refl _, h2, h3, h4⟩
set_option maxRecDepth 20000 in
set_option maxHeartbeats 8000000 in
theorem polyAt_near (w : World) (s : Option Addr) (n c : Nat) (V : Nat → Int) (x y : Nat) (p q : Option Nat) (hn : (n : Int) ≤ 1048576) (HR : Hid (RowI w s n V))
    (H1 : Hid (∀ s c w, RowI w s n V → Calls Try.prog 5 #[.slice s n c, .agg #[.float .f64 x, .float .f64 y]] w fun e w' => ∃ r i, e = .returned (.agg #[.float .f64 r, .float .f64 i]) ∧ Fl r p ∧ Fl i q ∧ Below w.heap.size w w'))
    (H2 : Hid (∀ s c w, RowI w s n V → Calls Try.prog 8 #[.slice s n c, .agg #[.float .f64 x, .float .f64 y]] w fun e w' => ∃ r i, e = .returned (.agg #[.float .f64 r, .float .f64 i]) ∧ Fl r p ∧ Fl i q ∧ Below w.heap.size w w')) :
    Calls Try.prog 3 #[.slice s n c, .agg #[.float .f64 x, .float .f64 y]] w fun e w' => e = .returned (.bool true) ∧ Below w.heap.size w w' := by
  have st := store_fp
  go_enter Try.func3, Try.ntmps3
  go_upto_region 3 with fail
  obtain ⟨wd, hwd⟩ : ∃ wd, wd = w.alloc (.cells #[.float .f64 x, .float .f64 y] 25) := ⟨_, rfl⟩
  rw [← hwd]
  have A0 : Hid (PrAt wd w.heap.size x y) := by rw [hwd]; exact prAt_new _ _ _ _
  have B0 : Below w.heap.size w wd := by rw [hwd]; exact (by repeat (first | with_reducible exact Below.refl _ _ | with_reducible refine Below.setCell ?_ (by first | omega | (simp; done) | (simp; omega)) _ | with_reducible refine bDrewN ?_ _ | with_reducible refine Below.drew ?_ | with_reducible refine Below.alloc ?_ (by first | omega | (simp; done) | (simp; omega)) _))
  clear hwd
  obtain ⟨z0, -, d0, d1⟩ := A0.out
  go_cut [5] (fun t wx => ∃ g r i, t = .pointer (some ⟨g, 0, none⟩) ∧ wd.heap.size ≤ g ∧ g < wx.heap.size ∧ wx.cell? ⟨g, 0, none⟩ = some (.float .f64 r) ∧ wx.cell? ⟨g, 1, none⟩ = some (.float .f64 i) ∧ (∀ o, wx.frozen? ⟨g, o, none⟩ = false) ∧ Fl r p ∧ Fl i q ∧ Below wd.heap.size wd wx)
  case first =>
    go_region_held3 (fun w' => w'.cell? ⟨w.heap.size, 0, none⟩ = some (.float .f64 x) ∧ w'.cell? ⟨w.heap.size, 1, none⟩ = some (.float .f64 y)) (first | (refine keep2p d0 d1 z0 ?_; exact (by repeat (first | with_reducible exact Below.refl _ _ | with_reducible exact Bz | with_reducible exact Bk | with_reducible refine Below.setCell ?_ (by first | omega | (simp; done) | (simp; omega)) _ | with_reducible refine bDrewN ?_ _ | with_reducible refine Below.drew ?_ | with_reducible refine Below.alloc ?_ (by first | omega | (simp; done) | (simp; omega)) _)))) (first
      | (go_at_call 6; refine (toI_b s n c V _ hn (HR.out.below (Below.trans B0 (Below.mono (by repeat (first | with_reducible exact Below.refl _ _ | with_reducible refine Below.setCell ?_ (by first | omega | (simp; done) | (simp; omega)) _ | with_reducible refine bDrewN ?_ _ | with_reducible refine Below.drew ?_ | with_reducible refine Below.alloc ?_ (by first | omega | (simp; done) | (simp; omega)) _)) B0.size)))).mono ?_; rintro e wk ⟨bk, rfl, lk, uk, Ok, h⟩; have Bk : Below wd.heap.size wd wk := Below.trans (by repeat (first | with_reducible exact Below.refl _ _ | with_reducible refine Below.setCell ?_ (by first | omega | (simp; done) | (simp; omega)) _ | with_reducible refine bDrewN ?_ _ | with_reducible refine Below.drew ?_ | with_reducible refine Below.alloc ?_ (by first | omega | (simp; done) | (simp; omega)) _)) (h.mono (by first | omega | (simp; done) | (simp; omega))); have sk := Bk.size; have HK : Hid (RowI wk (some ⟨bk, 0, none⟩) n V) := Ok.row; (try (have AYk : PrAt wk (wd.heap.size) 0 0 := prAt_mk (by first | (simp [go_sem]; done) | fail) (by first | (simp; done) | (simp; omega) | fail) (by first | (simp [go_sem]; done) | fail) (fun o => (by first | (simp [go_sem]; done) | fail)) h)); clear Ok h)
      | (go_at_call 7; refine (toPair_any x y _).mono ?_; rintro e wp ⟨rfl, rfl⟩)
      | (go_at_call 5; refine (H1.out _ _ _ (HK.out.below (by repeat (first | with_reducible exact Below.refl _ _ | with_reducible refine Below.setCell ?_ (by first | omega | (simp; done) | (simp; omega)) _ | with_reducible refine bDrewN ?_ _ | with_reducible refine Below.drew ?_ | with_reducible refine Below.alloc ?_ (by first | omega | (simp; done) | (simp; omega)) _)))).mono ?_; rintro e wz ⟨r, i, rfl, hr, hi, h⟩; have bkz : Below wk.heap.size wk wz := Below.trans (by repeat (first | with_reducible exact Below.refl _ _ | with_reducible refine Below.setCell ?_ (by first | omega | (simp; done) | (simp; omega)) _ | with_reducible refine bDrewN ?_ _ | with_reducible refine Below.drew ?_ | with_reducible refine Below.alloc ?_ (by first | omega | (simp; done) | (simp; omega)) _)) (h.mono (by first | omega | (simp; done) | (simp; omega))); have Bz : Below wd.heap.size wd wz := Below.trans Bk (bkz.mono sk); have sz := Bz.size; (try (first | (have AYz := PrAt.below AYk bkz) | (have AYz : PrAt wz (wk.heap.size) 0 0 := prAt_mk (by first | (simp [go_sem]; done) | fail) (by first | (simp; done) | (simp; omega) | fail) (by first | (simp [go_sem]; done) | fail) (fun o => (by first | (simp [go_sem]; done) | fail)) h) | (have AYz : PrAt wz (wk.heap.size + 1 + 1 + 1) 0 0 := prAt_mk (by first | (simp [go_sem]; done) | fail) (by first | (simp; done) | (simp; omega) | fail) (by first | (simp [go_sem]; done) | fail) (fun o => (by first | (simp [go_sem]; done) | fail)) h))); clear h; (try (obtain ⟨az, af, a0, a1⟩ := AYz; have af0 := af 0; have af1 := af 1)); skip))
    all_goals
      go_wp2_with fail
      go_meet
      case rel =>
        refine ⟨_, _, _, rfl, ?_, ?_, ?_, ?_, ?_, hr, hi, (by repeat (first | with_reducible exact Below.refl _ _ | with_reducible exact Bz | with_reducible refine Below.setCell ?_ (by first | omega | (simp; done) | (simp; omega)) _ | with_reducible refine bDrewN ?_ _ | with_reducible refine Below.drew ?_ | with_reducible refine Below.alloc ?_ (by first | omega | (simp; done) | (simp; omega)) _))⟩
        all_goals first | omega | (simp [go_sem, *]; done) | (simp [go_sem, *, Nat.add_assoc]; done) | (simp; omega) | (simp [*]; omega) | (intro o; have := af o; simpa [go_sem] using this) | (intro o; simp [go_sem]; done)
  case rest =>
    obtain ⟨g, r, i, rfl, gl, gz, v0, v1, vf, hr, hi, h⟩ := hcut
    have AG : Hid (PrAt wc g r i) := ⟨gz, vf, v0, v1⟩
    have A1 : Hid (PrAt wc w.heap.size x y) := A0.out.below h
    have B1 : Below w.heap.size w wc := B0.trans (h.mono B0.size)
    clear gz v0 v1 vf d0 d1 z0 h A0
    go_wp2_with fail
    refine (toI_b _ n _ V _ hn (HR.out.below B1)).mono ?_
    rintro e w2 ⟨bx, rfl, lx, ux, Ox, h⟩
    have B2 : Below w.heap.size w w2 := B1.trans (h.mono B1.size)
    have A2 : Hid (PrAt w2 w.heap.size x y) := A1.out.below h
    have AG2 : Hid (PrAt w2 g r i) := AG.out.below h
    have RX : Hid (RowI w2 (some ⟨bx, 0, none⟩) n V) := Ox.row
    clear h Ox A1 AG lx ux
    obtain ⟨z0, -, d0, d1⟩ := A2.out
    go_wp2_with fail
    refine (toPair_any x y _).mono ?_
    rintro e w3 ⟨rfl, e3⟩
    have h : Below w2.heap.size w2 w3 := by rw [e3]; exact (by repeat (first | with_reducible exact Below.refl _ _ | with_reducible refine Below.setCell ?_ (by first | omega | (simp; done) | (simp; omega)) _ | with_reducible refine bDrewN ?_ _ | with_reducible refine Below.drew ?_ | with_reducible refine Below.alloc ?_ (by first | omega | (simp; done) | (simp; omega)) _))
    clear e3
    have B3 : Below w.heap.size w w3 := B2.trans (h.mono B2.size)
    have AG3 : Hid (PrAt w3 g r i) := AG2.out.below h
    have RX3 : Hid (RowI w3 (some ⟨bx, 0, none⟩) n V) := RX.out.below h
    clear h z0 d0 d1 A2 AG2 RX
    go_wp2_with fail
    refine (H2.out _ _ _ RX3.out).mono ?_
    rintro e w4 ⟨r', i', rfl, hr', hi', h⟩
    have B4 : Below w.heap.size w w4 := B3.trans (h.mono B3.size)
    have AG4 : Hid (PrAt w4 g r i) := AG3.out.below h
    have RX4 : Hid (RowI w4 (some ⟨bx, 0, none⟩) n V) := RX3.out.below h
    clear h AG3 RX3
    obtain ⟨z1, -, k0, k1⟩ := AG4.out
    go_wp2_with fail
    refine (eqPair_any hr' hi' hr hi _).mono ?_
    rintro e w5 ⟨rfl, h⟩
    have b45 : Below w4.heap.size w4 w5 := Below.trans (by repeat (first | with_reducible exact Below.refl _ _ | with_reducible refine Below.setCell ?_ (by first | omega | (simp; done) | (simp; omega)) _ | with_reducible refine bDrewN ?_ _ | with_reducible refine Below.drew ?_ | with_reducible refine Below.alloc ?_ (by first | omega | (simp; done) | (simp; omega)) _)) (h.mono (by first | omega | (simp; done) | (simp; omega)))
    have B5 : Below w.heap.size w w5 := B4.trans (b45.mono B4.size)
    have RX5 : Hid (RowI w5 (some ⟨bx, 0, none⟩) n V) := RX4.out.below b45
    clear h b45 z1 k0 k1 AG4 RX4
    go_wp2_with fail
    refine (toI_b _ n _ V _ hn (HR.out.below B5)).mono ?_
    rintro e w6 ⟨bt, rfl, lt, ut, Ot, h⟩
    have B6 : Below w.heap.size w w6 := B5.trans (h.mono B5.size)
    have RX6 : Hid (RowI w6 (some ⟨bx, 0, none⟩) n V) := RX5.out.below h
    have RT : Hid (RowI w6 (some ⟨bt, 0, none⟩) n V) := Ot.row
    clear h Ot RX5
    go_wp2_with fail
    refine (eqInt64S_any _ _ n _ _ V _ hn RX6.out RT.out).mono ?_
    rintro e w7 ⟨rfl, h⟩
    have B7 : Below w.heap.size w w7 := B6.trans (h.mono B6.size)
    go_wp2
    go_ret
    exact ⟨rfl, B7⟩
set_option maxHeartbeats 400000 in
theorem polyAt_far (w : World) (s : Option Addr) (n c : Nat) (x y : Nat) (h : (1048576 : Int) < n) :
    Calls Try.prog 3 #[.slice s n c, .agg #[.float .f64 x, .float .f64 y]] w fun e w' => e = .returned (.bool true) ∧ Below w.heap.size w w' := by
  go_enter Try.func3, Try.ntmps3
  go_wp2
  go_ret
  exact ⟨rfl, (by repeat (first | with_reducible exact Below.refl _ _ | with_reducible refine Below.setCell ?_ (by first | omega | (simp; done) | (simp; omega)) _ | with_reducible refine bDrewN ?_ _ | with_reducible refine Below.drew ?_ | with_reducible refine Below.alloc ?_ (by first | omega | (simp; done) | (simp; omega)) _))⟩
theorem fnExactPolyAt_walk (w : World) (s : Option Addr) (n c : Nat) (V : Nat → Int) (hn : n ≤ 9223372036854775807) (R : RowI w s n V) (hV : ∀ j, j < n → -9223372036854775808 ≤ V j ∧ V j ≤ 9223372036854775807) (x : Nat) (wx : (Lit.float .f64 x).wf = true) (y : Nat) (wy : (Lit.float .f64 y).wf = true) :
    Calls Try.prog 3 #[.slice s n c, .agg #[.float .f64 x, .float .f64 y]] w fun e w' => e = .returned (.bool true) ∧ Below w.heap.size w w' := by
  by_cases h : n ≤ 1048576
  · exact polyAt_near w s n c V x y _ _ (by omega) R (fun s c w r => specPoly_any s n c V x y _ _ w (fl_of x (f64_lt wx)) (fl_of y (f64_lt wy)) (by omega) r) (fun s c w r => implPoly_any s n c V x y _ _ w (fl_of x (f64_lt wx)) (fl_of y (f64_lt wy)) (by omega) r)
  · exact polyAt_far w s n c x y (by omega)

set_option maxRecDepth 100000 in
theorem fnExactPolyAt_lifted (os : Os) (started : os.Started) (H : Type) (enc : TypeId × Value → H) :
    ReturnsInHanded {} Try.checked os 3 .any (Rows.fnExactPolyAtSpec.pre6 enc Try.prog Try.f3 Rows.fnExactPolyAtRow.domain false) (Rows.fnExactPolyAtSpec.post enc Try.prog Try.f3 false true false false) := by
  refine returnsInHanded_of_change (C := Try.checked) own started (by kernel_rfl) Try.func3
    (ChangeSpec.witness6 (enc := enc) (C := Try.checked) false ⟨#[], #[.slice none 0 0, .agg #[.float .f64 0, .float .f64 0]], []⟩ 8 (by kernel_rfl) (by kernel_rfl) (by kernel_rfl) (by kernel_rfl)) ?_
  intro W base args ds gs before hval0 hW hcnd _
  have hval : ∀ (j : Nat) t v, Try.f3.params[j]? = some t → args[j]? = some v → Value.okWide Try.prog W .any base t v := hval0
  have hW' := hW
  obtain ⟨p, q, hA0, hV, rfl, hfz, hnd⟩ := hW
  have hA : DataW.TrodAll enc Try.prog W 0 (fun _ => true) true Try.f3.params.toList args.toList ds p := hA0
  rw [Try.params3] at hA hval
  obtain ⟨v0, vs0, d0, ds0, p0, q0, hargs, rfl, rfl, h0, r0⟩ := trodAll_cons hA
  obtain ⟨v1, vs1, d1, ds1, p1, q1, rfl, rfl, rfl, h1, r1⟩ := trodAll_cons r0
  obtain ⟨rfl, rfl, rfl⟩ := trodAll_nil r1
  obtain rfl : args = #[v0, v1] := by cases args; simp_all
  obtain ⟨rfl, rfl⟩ := trodVars_none hV
  have k0 := h0
  have lt0 : ∀ x ∈ p0, x.block < W.heap.size := by obtain ⟨m, hm⟩ := k0; exact DataW.trod_lt m _ _ _ hm
  have k1 := h1
  have lt1 : ∀ x ∈ p1, x.block < W.heap.size := by obtain ⟨m, hm⟩ := k1; exact DataW.trod_lt m _ _ _ hm
  obtain ⟨s0, n0, c0, V0, rfl, m0, R0, w0⟩ := open_i64s Try.underlying22 Try.underlying2 (by kernel_rfl) (hval 0 22 v0 rfl rfl) h0
  obtain ⟨vs1, rfl, c1⟩ := open_cells Try.underlying25 (ts := [23, 23]) (by kernel_rfl) (by kernel_rfl) (hval 1 25 v1 rfl rfl)
  obtain ⟨x1_0, r1_0, rfl, o1_0, c1_0⟩ := cellsOk_cons c1
  obtain ⟨a1_0, rfl, w1_0⟩ := cell_float Try.underlying23 o1_0
  obtain ⟨x1_1, r1_1, rfl, o1_1, c1_1⟩ := cellsOk_cons c1_0
  obtain ⟨a1_1, rfl, w1_1⟩ := cell_float Try.underlying23 o1_1
  obtain rfl := cellsOk_nil c1_1
  clear hA0 hval0
  refine (fnExactPolyAt_walk W s0 n0 c0 V0 m0 R0 w0 a1_0 w1_0 a1_1 w1_1).mono fun e W' ⟨he, bel⟩ => ?_
  subst he
  exact ⟨_, rfl, _, _, _, [], _, [], hW', trodAll_mk1 (shut_bool Try.underlying4 _), (trodAll_cons_mk (Below.trod laidOut (by kernel_rfl) (of_decide_eq_true (by kernel_rfl)) k0 bel lt0) (trodAll_cons_mk (Below.trod laidOut (by kernel_rfl) (of_decide_eq_true (by kernel_rfl)) k1 bel lt1) trodAll_mk0)), rfl, bel.frame _, fun h => by cases h⟩

theorem fnExactPolyAt_holds : Rows.FnExactPolyAtSaid :=
  OpenClaim.holds_of_wide 3 Try.f3 rfl rfl rfl rfl rfl rfl rfl ⟨rfl, rfl, rfl, rfl, rfl⟩ rfl rfl rfl rfl rfl (by kernel_rfl) Try.func3 (by kernel_rfl)
    (of_decide_eq_true (by kernel_rfl)) (by unfold Func.isWrapper; first | (rw [if_pos (by decide +kernel)]; kernel_rfl) | (rw [if_neg (by decide +kernel)]; exact ⟨rfl, rfl⟩))
    (fun os started H enc _ => fnExactPolyAt_lifted os started H enc)
#print axioms fnExactPolyAt_holds
end Go.Proofs.Ytamcmhlliplphaa
