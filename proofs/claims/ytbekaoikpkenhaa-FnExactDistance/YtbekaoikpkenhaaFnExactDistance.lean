/-
What is proved: at all zones and every two pairs impl.Distance answers as the specification's Distance and leaves the list as it was; no condition.
-/
import Derived.Test.YtbekaoikpkenhaaDsS
import Derived.Test.YtbekaoikpkenhaaDsI
import Derived.Deep.RegionHeld3
import Derived.Deep.DeepCutAuto
namespace Go.Proofs.Ytbekaoikpkenhaa
set_option maxRecDepth 40000
open Go.ChangeShapes Go.WideShapes Go.ChangeAt Go.RowKit
set_option linter.unusedVariables false
set_option linter.unusedSimpArgs false

theorem keep4z {W W' : World} {p q : Nat} {a b c d : Value} (h0 : W.cell? ⟨p, 0, none⟩ = some a) (h1 : W.cell? ⟨p, 1, none⟩ = some b) (h2 : W.cell? ⟨q, 0, none⟩ = some c) (h3 : W.cell? ⟨q, 1, none⟩ = some d) (hp : p < W.heap.size) (hq : q < W.heap.size) (hb : Below W.heap.size W W') : W'.cell? ⟨p, 0, none⟩ = some a ∧ W'.cell? ⟨p, 1, none⟩ = some b ∧ W'.cell? ⟨q, 0, none⟩ = some c ∧ W'.cell? ⟨q, 1, none⟩ = some d :=
  ⟨(hb.cell (p := ⟨p, 0, none⟩) hp).trans h0, (hb.cell (p := ⟨p, 1, none⟩) hp).trans h1, (hb.cell (p := ⟨q, 0, none⟩) hq).trans h2, (hb.cell (p := ⟨q, 1, none⟩) hq).trans h3⟩
set_option maxRecDepth 20000 in
set_option maxHeartbeats 16000000 in
theorem distance_near (w : World) (s : Option Addr) (n c : Nat) (C E R : Nat → Nat) (T : Nat → Int) (x y z u : Nat) (v : Int) (hn : (n : Int) ≤ 1048576) (hb : ∀ k, k < n → C k < 18446744073709551616 ∧ E k < 18446744073709551616 ∧ R k < 18446744073709551616) (HR : Hid (RowX w s (n * 4) (zV C E R T))) (H1 : Hid (∀ s w, RowX w s (n * 4) (zV C E R T) → Calls Try.prog 12 #[.slice s n n, .agg #[.float .f64 x, .float .f64 y], .agg #[.float .f64 z, .float .f64 u]] w fun q w' => q = .returned (.int .i64 v) ∧ Below w.heap.size w w')) (H2 : Hid (∀ s w, RowX w s (n * 4) (zV C E R T) → Calls Try.prog 14 #[.slice s n n, .agg #[.float .f64 x, .float .f64 y], .agg #[.float .f64 z, .float .f64 u]] w fun q w' => q = .returned (.int .i64 v) ∧ Below w.heap.size w w')) :
    Calls Try.prog 4 #[.slice s n c, .agg #[.float .f64 x, .float .f64 y], .agg #[.float .f64 z, .float .f64 u]] w fun q w' => q = .returned (.bool true) ∧ Below w.heap.size w w' := by
  go_enter Try.func4, Try.ntmps4
  go_wp2_with fail
  refine (szZoneS_on _ n _ _ _ (by omega) (by omega) hn).mono ?_
  rintro q w0 ⟨rfl, rfl⟩
  go_upto_region 5 with fail
  obtain ⟨wd, hwd⟩ : ∃ wd, wd = (w.alloc (.cells #[.float .f64 x, .float .f64 y] 24)).alloc (.cells #[.float .f64 z, .float .f64 u] 24) := ⟨_, rfl⟩
  rw [← hwd]
  have c0 : wd.cell? ⟨w.heap.size, 0, none⟩ = some (.float .f64 x) := by rw [hwd]; simp [go_sem]
  have c1 : wd.cell? ⟨w.heap.size, 1, none⟩ = some (.float .f64 y) := by rw [hwd]; simp [go_sem]
  have c2 : wd.cell? ⟨w.heap.size + 1, 0, none⟩ = some (.float .f64 z) := by rw [hwd]; simp [go_sem]
  have c3 : wd.cell? ⟨w.heap.size + 1, 1, none⟩ = some (.float .f64 u) := by rw [hwd]; simp [go_sem]
  have z1 : w.heap.size + 1 < wd.heap.size := by rw [hwd]; simp
  have z0 : w.heap.size < wd.heap.size := by omega
  have HB : Hid (Below w.heap.size w wd) := by show Below _ _ _; rw [hwd]; exact (by repeat (first | with_reducible exact Below.refl _ _ | with_reducible refine Below.setCell ?_ (by first | omega | (simp; done) | (simp; omega)) _ | with_reducible refine bDrewN ?_ _ | with_reducible refine Below.drew ?_ | with_reducible refine Below.alloc ?_ (by first | omega | (simp; done) | (simp; omega)) _))
  clear hwd
  go_cut [8] (fun s wx => s = .int .i64 v ∧ Below wd.heap.size wd wx)
  case first =>
    go_region_held3 (fun w' => w'.cell? ⟨w.heap.size, 0, none⟩ = some (.float .f64 x) ∧ w'.cell? ⟨w.heap.size, 1, none⟩ = some (.float .f64 y) ∧ w'.cell? ⟨w.heap.size + 1, 0, none⟩ = some (.float .f64 z) ∧ w'.cell? ⟨w.heap.size + 1, 1, none⟩ = some (.float .f64 u)) (first | (refine keep4z c0 c1 c2 c3 z0 z1 ?_; exact (by repeat (first | with_reducible exact Below.refl _ _ | with_reducible exact B9 | with_reducible exact B5 | with_reducible exact B4 | with_reducible exact B3 | with_reducible refine Below.setCell ?_ (by first | omega | (simp; done) | (simp; omega)) _ | with_reducible refine bDrewN ?_ _ | with_reducible refine Below.drew ?_ | with_reducible refine Below.alloc ?_ (by first | omega | (simp; done) | (simp; omega)) _)))) (first
      | (go_at_call 13; refine (toZoneS_any s n c C E R T _ hn (HR.out.below (HB.out.trans (Below.mono (by repeat (first | with_reducible exact Below.refl _ _ | with_reducible refine Below.setCell ?_ (by first | omega | (simp; done) | (simp; omega)) _ | with_reducible refine bDrewN ?_ _ | with_reducible refine Below.drew ?_ | with_reducible refine Below.alloc ?_ (by first | omega | (simp; done) | (simp; omega)) _)) HB.out.size)))).mono ?_; rintro q w3 ⟨rfl, RZ, h3⟩; have B3 : Below wd.heap.size wd w3 := Below.trans (by repeat (first | with_reducible exact Below.refl _ _ | with_reducible refine Below.setCell ?_ (by first | omega | (simp; done) | (simp; omega)) _ | with_reducible refine bDrewN ?_ _ | with_reducible refine Below.drew ?_ | with_reducible refine Below.alloc ?_ (by first | omega | (simp; done) | (simp; omega)) _)) (h3.mono (by first | omega | (simp; done) | (simp; omega))); have s3 := B3.size; have KZ : Hid (RowX w3 (some ⟨wd.heap.size, 0, none⟩) (n * 4) (zV C E R T)) := (show RowX _ _ _ _ from RZ); clear h3 RZ)
      | (go_at_call 9; have gg := B4; clear gg; refine (toPair_below z u _).mono ?_; rintro q w5 ⟨rfl, h5⟩; have B5 : Below wd.heap.size wd w5 := Below.trans (by repeat (first | with_reducible exact Below.refl _ _ | with_reducible exact B4 | with_reducible refine Below.setCell ?_ (by first | omega | (simp; done) | (simp; omega)) _ | with_reducible refine bDrewN ?_ _ | with_reducible refine Below.drew ?_ | with_reducible refine Below.alloc ?_ (by first | omega | (simp; done) | (simp; omega)) _)) (h5.mono (by first | omega | (simp; done) | (simp; omega))); have s5 := B5.size; have b5 : Below w3.heap.size w3 w5 := (b4.trans (h5.mono b4.size)); clear h5)
      | (go_at_call 9; refine (toPair_below x y _).mono ?_; rintro q w4 ⟨rfl, h4⟩; have B4 : Below wd.heap.size wd w4 := Below.trans (by repeat (first | with_reducible exact Below.refl _ _ | with_reducible exact B3 | with_reducible refine Below.setCell ?_ (by first | omega | (simp; done) | (simp; omega)) _ | with_reducible refine bDrewN ?_ _ | with_reducible refine Below.drew ?_ | with_reducible refine Below.alloc ?_ (by first | omega | (simp; done) | (simp; omega)) _)) (h4.mono (by first | omega | (simp; done) | (simp; omega))); have s4 := B4.size; have b4 : Below w3.heap.size w3 w4 := h4; clear h4)
      | (go_at_call 12; have KB : Hid (RowX _ (some ⟨wd.heap.size, 0, none⟩) (n * 4) (zV C E R T)) := (show RowX w5 _ _ _ from KZ.out.below b5); refine (H1.out (some ⟨wd.heap.size, 0, none⟩) _ (KB.out.below (by repeat (first | with_reducible exact Below.refl _ _ | with_reducible refine Below.setCell ?_ (by first | omega | (simp; done) | (simp; omega)) _ | with_reducible refine bDrewN ?_ _ | with_reducible refine Below.drew ?_ | with_reducible refine Below.alloc ?_ (by first | omega | (simp; done) | (simp; omega)) _)))).mono ?_; rintro q w9 ⟨rfl, h9⟩; have B9 : Below wd.heap.size wd w9 := Below.trans (by repeat (first | with_reducible exact Below.refl _ _ | with_reducible exact B5 | with_reducible refine Below.setCell ?_ (by first | omega | (simp; done) | (simp; omega)) _ | with_reducible refine bDrewN ?_ _ | with_reducible refine Below.drew ?_ | with_reducible refine Below.alloc ?_ (by first | omega | (simp; done) | (simp; omega)) _)) (h9.mono (by first | omega | (simp; done) | (simp; omega)))))
    all_goals
      go_wp2_with fail
      go_meet
      case rel => exact ⟨rfl, (by repeat (first | with_reducible exact Below.refl _ _ | with_reducible exact B9 | with_reducible refine Below.setCell ?_ (by first | omega | (simp; done) | (simp; omega)) _ | with_reducible refine bDrewN ?_ _ | with_reducible refine Below.drew ?_ | with_reducible refine Below.alloc ?_ (by first | omega | (simp; done) | (simp; omega)) _))⟩
  case rest =>
    obtain ⟨rfl, hB⟩ := hcut
    rename World => w1
    replace c0 := (hB.cell (p := ⟨w.heap.size, 0, none⟩) z0).trans c0
    replace c1 := (hB.cell (p := ⟨w.heap.size, 1, none⟩) z0).trans c1
    replace c2 := (hB.cell (p := ⟨w.heap.size + 1, 0, none⟩) z1).trans c2
    replace c3 := (hB.cell (p := ⟨w.heap.size + 1, 1, none⟩) z1).trans c3
    replace z0 := Nat.lt_of_lt_of_le z0 hB.size
    replace z1 := Nat.lt_of_lt_of_le z1 hB.size
    have HB1 : Hid (Below w.heap.size w w1) := HB.out.trans (hB.mono HB.out.size)
    clear hB HB
    go_wp2_with fail
    refine (toZoneS_any s n c C E R T _ hn (HR.out.below HB1.out)).mono ?_
    rintro q w2 ⟨rfl, RX, h2⟩
    replace c0 := (h2.cell (p := ⟨w.heap.size, 0, none⟩) z0).trans c0
    replace c1 := (h2.cell (p := ⟨w.heap.size, 1, none⟩) z0).trans c1
    replace c2 := (h2.cell (p := ⟨w.heap.size + 1, 0, none⟩) z1).trans c2
    replace c3 := (h2.cell (p := ⟨w.heap.size + 1, 1, none⟩) z1).trans c3
    replace z0 := Nat.lt_of_lt_of_le z0 h2.size
    replace z1 := Nat.lt_of_lt_of_le z1 h2.size
    have HB : Hid (Below w.heap.size w w2) := HB1.out.trans (h2.mono HB1.out.size)
    have KX : Hid (RowX w2 (some ⟨w1.heap.size, 0, none⟩) (n * 4) (zV C E R T)) := RX
    clear h2 RX HB1
    go_upto_region 7 with fail
    go_cut [10] (fun s wx => s = .int .i64 v ∧ Below w2.heap.size w2 wx)
    case first =>
      go_region_held3 (fun w' => w'.cell? ⟨w.heap.size, 0, none⟩ = some (.float .f64 x) ∧ w'.cell? ⟨w.heap.size, 1, none⟩ = some (.float .f64 y) ∧ w'.cell? ⟨w.heap.size + 1, 0, none⟩ = some (.float .f64 z) ∧ w'.cell? ⟨w.heap.size + 1, 1, none⟩ = some (.float .f64 u)) (first | (refine keep4z c0 c1 c2 c3 z0 z1 ?_; exact (by repeat (first | with_reducible exact Below.refl _ _ | with_reducible exact B9 | with_reducible exact B5 | with_reducible exact B4 | with_reducible refine Below.setCell ?_ (by first | omega | (simp; done) | (simp; omega)) _ | with_reducible refine bDrewN ?_ _ | with_reducible refine Below.drew ?_ | with_reducible refine Below.alloc ?_ (by first | omega | (simp; done) | (simp; omega)) _)))) (first
        | (go_at_call 9; have gg := B4; clear gg; refine (toPair_below z u _).mono ?_; rintro q w5 ⟨rfl, h5⟩; have B5 : Below w2.heap.size w2 w5 := Below.trans (by repeat (first | with_reducible exact Below.refl _ _ | with_reducible exact B4 | with_reducible refine Below.setCell ?_ (by first | omega | (simp; done) | (simp; omega)) _ | with_reducible refine bDrewN ?_ _ | with_reducible refine Below.drew ?_ | with_reducible refine Below.alloc ?_ (by first | omega | (simp; done) | (simp; omega)) _)) (h5.mono (by first | omega | (simp; done) | (simp; omega))); have s5 := B5.size; have b5 : Below w2.heap.size w2 w5 := B5; clear h5)
        | (go_at_call 9; refine (toPair_below x y _).mono ?_; rintro q w4 ⟨rfl, h4⟩; have B4 : Below w2.heap.size w2 w4 := Below.trans (by repeat (first | with_reducible exact Below.refl _ _ | with_reducible refine Below.setCell ?_ (by first | omega | (simp; done) | (simp; omega)) _ | with_reducible refine bDrewN ?_ _ | with_reducible refine Below.drew ?_ | with_reducible refine Below.alloc ?_ (by first | omega | (simp; done) | (simp; omega)) _)) (h4.mono (by first | omega | (simp; done) | (simp; omega))); have s4 := B4.size; have b4 : Below w2.heap.size w2 w4 := B4; clear h4)
        | (go_at_call 14; have KB : Hid (RowX _ (some ⟨w1.heap.size, 0, none⟩) (n * 4) (zV C E R T)) := (show RowX w5 _ _ _ from KX.out.below b5); refine (H2.out (some ⟨w1.heap.size, 0, none⟩) _ (KB.out.below (by repeat (first | with_reducible exact Below.refl _ _ | with_reducible refine Below.setCell ?_ (by first | omega | (simp; done) | (simp; omega)) _ | with_reducible refine bDrewN ?_ _ | with_reducible refine Below.drew ?_ | with_reducible refine Below.alloc ?_ (by first | omega | (simp; done) | (simp; omega)) _)))).mono ?_; rintro q w9 ⟨rfl, h9⟩; have B9 : Below w2.heap.size w2 w9 := Below.trans (by repeat (first | with_reducible exact Below.refl _ _ | with_reducible exact B5 | with_reducible refine Below.setCell ?_ (by first | omega | (simp; done) | (simp; omega)) _ | with_reducible refine bDrewN ?_ _ | with_reducible refine Below.drew ?_ | with_reducible refine Below.alloc ?_ (by first | omega | (simp; done) | (simp; omega)) _)) (h9.mono (by first | omega | (simp; done) | (simp; omega)))))
      all_goals
        go_wp2_with fail
        go_meet
        case rel => exact ⟨rfl, (by repeat (first | with_reducible exact Below.refl _ _ | with_reducible exact B9 | with_reducible refine Below.setCell ?_ (by first | omega | (simp; done) | (simp; omega)) _ | with_reducible refine bDrewN ?_ _ | with_reducible refine Below.drew ?_ | with_reducible refine Below.alloc ?_ (by first | omega | (simp; done) | (simp; omega)) _))⟩
    case rest =>
      obtain ⟨rfl, hB⟩ := hcut
      rename World => w6
      have HB6 : Hid (Below w.heap.size w w6) := HB.out.trans (hB.mono HB.out.size)
      have KX6 : Hid (RowX w6 (some ⟨w1.heap.size, 0, none⟩) (n * 4) (zV C E R T)) := KX.out.below hB
      clear hB HB KX c0 c1 c2 c3
      go_wp2_with fail
      refine (toZoneS_any s n c C E R T _ hn (HR.out.below HB6.out)).mono ?_
      rintro q w7 ⟨rfl, RX, h7⟩
      have KY : Hid (RowX w7 (some ⟨w6.heap.size, 0, none⟩) (n * 4) (zV C E R T)) := RX
      have KX7 : Hid (RowX w7 (some ⟨w1.heap.size, 0, none⟩) (n * 4) (zV C E R T)) := KX6.out.below h7
      have HB7 : Hid (Below w.heap.size w w7) := HB6.out.trans (h7.mono HB6.out.size)
      clear h7 RX HB6 KX6
      go_wp2_with fail
      refine (eqZoneS_any _ _ n _ _ C E R T _ hn hb KX7.out KY.out).mono ?_
      rintro q w8 ⟨rfl, h8⟩
      have BF := HB7.out.trans (h8.mono HB7.out.size)
      go_wp2
      go_ret
      exact ⟨rfl, BF⟩
set_option maxHeartbeats 800000 in
theorem distance_far (w : World) (s : Option Addr) (n c x y z u : Nat) (hn : (1048576 : Int) < n) (hn' : (n : Int) ≤ 9223372036854775807) :
    Calls Try.prog 4 #[.slice s n c, .agg #[.float .f64 x, .float .f64 y], .agg #[.float .f64 z, .float .f64 u]] w fun q w' => q = .returned (.bool true) ∧ Below w.heap.size w w' := by
  go_enter Try.func4, Try.ntmps4
  go_wp2_with fail
  refine (szZoneS_off _ n _ _ _ (by omega) (by omega) hn hn').mono ?_
  rintro q w0 ⟨rfl, rfl⟩
  go_wp2
  go_ret
  exact ⟨rfl, (by repeat (first | with_reducible exact Below.refl _ _ | with_reducible refine Below.setCell ?_ (by first | omega | (simp; done) | (simp; omega)) _ | with_reducible refine bDrewN ?_ _ | with_reducible refine Below.drew ?_ | with_reducible refine Below.alloc ?_ (by first | omega | (simp; done) | (simp; omega)) _))⟩
theorem fnExactDistance_walk (w : World) (s : Option Addr) (n c : Nat) (C E R : Nat → Nat) (T : Nat → Int) (m0 : n ≤ 9223372036854775807) (hb : ∀ k, k < n → C k < 18446744073709551616 ∧ E k < 18446744073709551616 ∧ R k < 18446744073709551616) (R0 : RowX w s (n * 4) (zV C E R T)) (x : Nat) (wx : (Lit.float .f64 x).wf = true) (y : Nat) (wy : (Lit.float .f64 y).wf = true) (z : Nat) (wz : (Lit.float .f64 z).wf = true) (u : Nat) (wu : (Lit.float .f64 u).wf = true) :
    Calls Try.prog 4 #[.slice s n c, .agg #[.float .f64 x, .float .f64 y], .agg #[.float .f64 z, .float .f64 u]] w fun q w' => q = .returned (.bool true) ∧ Below w.heap.size w w' := by
  by_cases h0 : (n : Int) ≤ 1048576
  · exact distance_near w s n c C E R T x y z u _ h0 hb R0 (fun s w q => specDistance_any s n n C E R T (fl_of x (f64w_lt wx)) (fl_of y (f64w_lt wy)) (fl_of z (f64w_lt wz)) (fl_of u (f64w_lt wu)) w h0 hb q) (fun s w q => implDistance_any s n n C E R T (fl_of x (f64w_lt wx)) (fl_of y (f64w_lt wy)) (fl_of z (f64w_lt wz)) (fl_of u (f64w_lt wu)) w h0 hb q)
  · exact distance_far w s n c x y z u (by omega) (by omega)

set_option maxRecDepth 100000 in
theorem fnExactDistance_lifted (os : Os) (started : os.Started) (H : Type) (enc : TypeId × Value → H) :
    ReturnsInHanded {} Try.checked os 4 .any (Rows.fnExactDistanceSpec.pre6 enc Try.prog Try.f4 Rows.fnExactDistanceRow.domain false) (Rows.fnExactDistanceSpec.post enc Try.prog Try.f4 false true false false) := by
  refine returnsInHanded_of_change (C := Try.checked) own started (by kernel_rfl) Try.func4
    (ChangeSpec.witness6 (enc := enc) (C := Try.checked) false ⟨#[], #[.slice none 0 0, .agg #[.float .f64 0, .float .f64 0], .agg #[.float .f64 0, .float .f64 0]], []⟩ 8 (by kernel_rfl) (by kernel_rfl) (by kernel_rfl) (by kernel_rfl)) ?_
  intro W base args ds gs before hval0 hW hcnd _
  have hval : ∀ (j : Nat) t v, Try.f4.params[j]? = some t → args[j]? = some v → Value.okWide Try.prog W .any base t v := hval0
  have hW' := hW
  obtain ⟨p, q, hA0, hV, rfl, hfz, hnd⟩ := hW
  have hA : DataW.TrodAll enc Try.prog W 0 (fun _ => true) true Try.f4.params.toList args.toList ds p := hA0
  rw [Try.params4] at hA hval
  obtain ⟨v0, vs0, d0, ds0, p0, q0, hargs, rfl, rfl, h0, r0⟩ := trodAll_cons hA
  obtain ⟨v1, vs1, d1, ds1, p1, q1, rfl, rfl, rfl, h1, r1⟩ := trodAll_cons r0
  obtain ⟨v2, vs2, d2, ds2, p2, q2, rfl, rfl, rfl, h2, r2⟩ := trodAll_cons r1
  obtain ⟨rfl, rfl, rfl⟩ := trodAll_nil r2
  obtain rfl : args = #[v0, v1, v2] := by cases args; simp_all
  obtain ⟨rfl, rfl⟩ := trodVars_none hV
  have k0 := h0
  have lt0 : ∀ x ∈ p0, x.block < W.heap.size := by obtain ⟨m, hm⟩ := k0; exact DataW.trod_lt m _ _ _ hm
  have k1 := h1
  have lt1 : ∀ x ∈ p1, x.block < W.heap.size := by obtain ⟨m, hm⟩ := k1; exact DataW.trod_lt m _ _ _ hm
  have k2 := h2
  have lt2 : ∀ x ∈ p2, x.block < W.heap.size := by obtain ⟨m, hm⟩ := k2; exact DataW.trod_lt m _ _ _ hm
  obtain ⟨s0, n0, c0, C0, E0, R0, T0, rfl, m0, B0, X0⟩ := open_zones Try.underlying34 Try.underlying26 Try.underlying24 (by kernel_rfl) rfl rfl rfl rfl rfl (by kernel_rfl) (by kernel_rfl) (by kernel_rfl) (by kernel_rfl) (by kernel_rfl) (by kernel_rfl) (by kernel_rfl) (by kernel_rfl) (by kernel_rfl) (hval 0 34 v0 rfl rfl) h0
  obtain ⟨vs1, rfl, c1⟩ := open_cells Try.underlying24 (ts := [22, 22]) (by kernel_rfl) (by kernel_rfl) (hval 1 24 v1 rfl rfl)
  obtain ⟨x1_0, r1_0, rfl, o1_0, c1_0⟩ := cellsOk_cons c1
  obtain ⟨a1_0, rfl, w1_0⟩ := cell_float Try.underlying22 o1_0
  obtain ⟨x1_1, r1_1, rfl, o1_1, c1_1⟩ := cellsOk_cons c1_0
  obtain ⟨a1_1, rfl, w1_1⟩ := cell_float Try.underlying22 o1_1
  obtain rfl := cellsOk_nil c1_1
  obtain ⟨vs2, rfl, c2⟩ := open_cells Try.underlying24 (ts := [22, 22]) (by kernel_rfl) (by kernel_rfl) (hval 2 24 v2 rfl rfl)
  obtain ⟨x2_0, r2_0, rfl, o2_0, c2_0⟩ := cellsOk_cons c2
  obtain ⟨a2_0, rfl, w2_0⟩ := cell_float Try.underlying22 o2_0
  obtain ⟨x2_1, r2_1, rfl, o2_1, c2_1⟩ := cellsOk_cons c2_0
  obtain ⟨a2_1, rfl, w2_1⟩ := cell_float Try.underlying22 o2_1
  obtain rfl := cellsOk_nil c2_1
  clear hA0 hval0
  refine (fnExactDistance_walk W s0 n0 c0 C0 E0 R0 T0 m0 B0 X0 a1_0 w1_0 a1_1 w1_1 a2_0 w2_0 a2_1 w2_1).mono fun e W' ⟨he, bel⟩ => ?_
  subst he
  exact ⟨_, rfl, _, _, _, [], _, [], hW', trodAll_mk1 (shut_bool Try.underlying4 _), (trodAll_cons_mk (Below.trod laidOut (by kernel_rfl) (of_decide_eq_true (by kernel_rfl)) k0 bel lt0) (trodAll_cons_mk (Below.trod laidOut (by kernel_rfl) (of_decide_eq_true (by kernel_rfl)) k1 bel lt1) (trodAll_cons_mk (Below.trod laidOut (by kernel_rfl) (of_decide_eq_true (by kernel_rfl)) k2 bel lt2) trodAll_mk0))), rfl, bel.frame _, fun h => by cases h⟩

theorem fnExactDistance_holds : Rows.FnExactDistanceSaid :=
  OpenClaim.holds_of_wide 4 Try.f4 rfl rfl rfl rfl rfl rfl rfl ⟨rfl, rfl, rfl, rfl, rfl⟩ rfl rfl rfl rfl rfl (by kernel_rfl) Try.func4 (by kernel_rfl)
    (of_decide_eq_true (by kernel_rfl)) (by unfold Func.isWrapper; first | (rw [if_pos (by decide +kernel)]; kernel_rfl) | (rw [if_neg (by decide +kernel)]; exact ⟨rfl, rfl⟩))
    (fun os started H enc _ => fnExactDistance_lifted os started H enc)
#print axioms fnExactDistance_holds
end Go.Proofs.Ytbekaoikpkenhaa
