/-
What is proved: at every net and place impl.Fewest answers as the specification's Fewest and leaves the net as it was; its answer is new memory; no condition.
-/
import Derived.Test.YtgclplckpphkcaaFwJ
import Derived.Test.YtgclplckpphkcaaFwT
import Derived.Test.YtgclplckpphkcaaNtTO
import Derived.Test.YtgclplckpphkcaaNtTM
import Derived.Test.YtgclplckpphkcaaI64R2
namespace Go.Proofs.Ytgclplckpphkcaa
set_option maxRecDepth 40000
open Go.ChangeShapes Go.WideShapes Go.ChangeAt Go.RowKit
set_option linter.unusedVariables false
set_option linter.unusedSimpArgs false

theorem few_fit {p : Int} {n : Nat} {D : Nat → Int × Int} {m : Nat} {S : Nat → Int} {x : Int} {M : List Int} (HM : ∀ L, FwR p n D m S x L → L = M) {w : World} {e : Ending} {w' : World} (h : FwPost p n D m S x w e w') : ∃ (s : Option Addr) (c : Nat) (T : Nat → Prop), e = .returned (.tuple #[.slice s M.length c, .bool (fewB p n D m S x)]) ∧ (∀ k, T k → w.heap.size ≤ k ∧ k < w'.heap.size) ∧ I64R T w' s M.length (nthI M) ∧ Below w.heap.size w w' := by
  obtain ⟨s, c, L, h1, h2, h3, h4⟩ := h
  obtain rfl := HM L h3
  exact ⟨s, c, _, h1, fun k hk => hk, I64R.of h2, h4⟩
theorem keepLaw3_3 {W W' : World} {p r : Nat} {va0 va1 va2 vx0 vx1 vx2 : Value} (ha0 : W.cell? ⟨p, 0, none⟩ = some va0) (ha1 : W.cell? ⟨p, 1, none⟩ = some va1) (ha2 : W.cell? ⟨p, 2, none⟩ = some va2) (hx0 : W.cell? ⟨r, 0, none⟩ = some vx0) (hx1 : W.cell? ⟨r, 1, none⟩ = some vx1) (hx2 : W.cell? ⟨r, 2, none⟩ = some vx2) (zp : p < W.heap.size) (zr : r < W.heap.size) (hb : Below W.heap.size W W') : W'.cell? ⟨p, 0, none⟩ = some va0 ∧ W'.cell? ⟨p, 1, none⟩ = some va1 ∧ W'.cell? ⟨p, 2, none⟩ = some va2 ∧ W'.cell? ⟨r, 0, none⟩ = some vx0 ∧ W'.cell? ⟨r, 1, none⟩ = some vx1 ∧ W'.cell? ⟨r, 2, none⟩ = some vx2 :=
  ⟨(hb.cell (p := ⟨p, 0, none⟩) zp).trans ha0, (hb.cell (p := ⟨p, 1, none⟩) zp).trans ha1, (hb.cell (p := ⟨p, 2, none⟩) zp).trans ha2, (hb.cell (p := ⟨r, 0, none⟩) zr).trans hx0, (hb.cell (p := ⟨r, 1, none⟩) zr).trans hx1, (hb.cell (p := ⟨r, 2, none⟩) zr).trans hx2⟩
set_option maxRecDepth 20000 in
set_option maxHeartbeats 8000000 in
theorem fewest_near (w : World) (a0_0 : Int) (n0_1 : Nat) (V0_1 : Nat → Int × Int) (n0_2 : Nat) (V0_2 : Nat → Int) (s0_1 : Option Addr) (c0_1 : Nat) (s0_2 : Option Addr) (c0_2 : Nat) (hn0_1 : (n0_1 : Int) ≤ 1048576) (hn0_2 : (n0_2 : Int) ≤ 1048576) (HR0 : Hid (RowNet w s0_1 n0_1 V0_1 s0_2 n0_2 V0_2)) (a1 : Int) (gn0_1 : (n0_1 : Int) ≤ 1048576) (gn0_2 : (n0_2 : Int) ≤ 1048576 - n0_1) (nr0 : Nat) (Vr0 : Nat → Int) (hnr0 : (nr0 : Int) ≤ 1048576) (ar1 : Bool)
    (H1 : Hid (∀ (s0_1 : Option Addr) (c0_1 : Nat) (s0_2 : Option Addr) (c0_2 : Nat) w, RowNet w s0_1 n0_1 V0_1 s0_2 n0_2 V0_2 → Calls Try.prog 7 #[.agg #[.int .i64 a0_0, .slice s0_1 n0_1 c0_1, .slice s0_2 n0_2 c0_2], .int .i64 a1] w fun e w' => ∃ (s'r0 : Option Addr) (c'r0 : Nat) (S0 : Nat → Prop), e = .returned (.tuple #[.slice s'r0 nr0 c'r0, .bool ar1]) ∧ (∀ k, S0 k → w.heap.size ≤ k ∧ k < w'.heap.size) ∧ I64R S0 w' s'r0 nr0 Vr0 ∧ Below w.heap.size w w'))
    (H2 : Hid (∀ (s0_1 : Option Addr) (c0_1 : Nat) (s0_2 : Option Addr) (c0_2 : Nat) w, RowNet w s0_1 n0_1 V0_1 s0_2 n0_2 V0_2 → Calls Try.prog 9 #[.agg #[.int .i64 a0_0, .slice s0_1 n0_1 c0_1, .slice s0_2 n0_2 c0_2], .int .i64 a1] w fun e w' => ∃ (s'r0 : Option Addr) (c'r0 : Nat) (S0 : Nat → Prop), e = .returned (.tuple #[.slice s'r0 nr0 c'r0, .bool ar1]) ∧ (∀ k, S0 k → w.heap.size ≤ k ∧ k < w'.heap.size) ∧ I64R S0 w' s'r0 nr0 Vr0 ∧ Below w.heap.size w w')) :
    Calls Try.prog 3 #[.agg #[.int .i64 a0_0, .slice s0_1 n0_1 c0_1, .slice s0_2 n0_2 c0_2], .int .i64 a1] w fun e w' => e = .returned (.bool true) ∧ Below w.heap.size w w' := by
  have sto := store_slT
  go_enter Try.func3, Try.ntmps3
  go_wp2_with fail
  refine (szNet_on a0_0 n0_1 V0_1 n0_2 V0_2 s0_1 c0_1 s0_2 c0_2 _ _ (by omega) (by omega) (by omega) (by omega)).mono ?_
  rintro e w1 ⟨rfl, hh⟩
  have hb : Below w.heap.size w w1 := Below.trans (by repeat (first | with_reducible exact Below.refl _ _ | with_reducible refine Below.setCell ?_ (by first | omega | (simp; done) | (simp; omega)) _ | with_reducible refine bDrewN ?_ _ | with_reducible refine Below.drew ?_ | with_reducible refine Below.alloc ?_ (by first | omega | (simp; done) | (simp; omega)) _)) (hh.mono (by first | omega | (simp; done) | (simp; omega)))
  have lw1 : w.heap.size ≤ w1.heap.size := hb.size
  have ca00 : w1.cell? ⟨w.heap.size, 0, none⟩ = some (.int .i64 a0_0) := by rw [hh.cell (by first | omega | (simp; done) | (simp; omega))]; first | (simp; done) | (simp [go_sem]; done)
  have ca01 : w1.cell? ⟨w.heap.size, 1, none⟩ = some (.slice s0_1 n0_1 c0_1) := by rw [hh.cell (by first | omega | (simp; done) | (simp; omega))]; first | (simp; done) | (simp [go_sem]; done)
  have ca02 : w1.cell? ⟨w.heap.size, 2, none⟩ = some (.slice s0_2 n0_2 c0_2) := by rw [hh.cell (by first | omega | (simp; done) | (simp; omega))]; first | (simp; done) | (simp [go_sem]; done)
  have za0 : w.heap.size < w1.heap.size := by have := hh.size; simp at this; omega
  have ya0 : w.heap.size < w1.heap.size := za0
  have B0 : Below w.heap.size w w1 := hb
  clear hb hh
  go_wp2_with fail
  refine (toNet_r a0_0 n0_1 V0_1 n0_2 V0_2 s0_1 c0_1 s0_2 c0_2 _ hn0_1 hn0_2 (HR0.out.below B0)).mono ?_
  rintro e w2 ⟨st0_1, st0_2, St0, rfl, Q, O, hh⟩
  have hb : Below w1.heap.size w1 w2 := Below.trans (by repeat (first | with_reducible exact Below.refl _ _ | with_reducible refine Below.setCell ?_ (by first | omega | (simp; done) | (simp; omega)) _ | with_reducible refine bDrewN ?_ _ | with_reducible refine Below.drew ?_ | with_reducible refine Below.alloc ?_ (by first | omega | (simp; done) | (simp; omega)) _)) (hh.mono (by first | omega | (simp; done) | (simp; omega)))
  have lw2 : w1.heap.size ≤ w2.heap.size := hb.size
  replace ca00 := (hb.cell (p := ⟨w.heap.size, 0, none⟩) za0).trans ca00
  replace ca01 := (hb.cell (p := ⟨w.heap.size, 1, none⟩) za0).trans ca01
  replace ca02 := (hb.cell (p := ⟨w.heap.size, 2, none⟩) za0).trans ca02
  replace za0 := Nat.lt_of_lt_of_le za0 hb.size
  replace B0 : Below w.heap.size w w2 := B0.trans (hb.mono B0.size)
  clear hb hh
  have Qt0 : Hid (∀ k, St0 k → w1.heap.size ≤ k ∧ k < w2.heap.size) := (show ∀ k, St0 k → w1.heap.size ≤ k ∧ k < w2.heap.size from by simpa using Q)
  have Ot0 : Hid (NetR St0 w2 st0_1 n0_1 V0_1 st0_2 n0_2 V0_2) := O
  clear O Q
  go_wp2_with fail
  refine (H1.out st0_1 _ st0_2 _ _ (Ot0.out.row)).mono ?_
  rintro e w3 ⟨sWr0, cWr0, SW0, rfl, Q0, O0, hh⟩
  have hb : Below w2.heap.size w2 w3 := Below.trans (by repeat (first | with_reducible exact Below.refl _ _ | with_reducible refine Below.setCell ?_ (by first | omega | (simp; done) | (simp; omega)) _ | with_reducible refine bDrewN ?_ _ | with_reducible refine Below.drew ?_ | with_reducible refine Below.alloc ?_ (by first | omega | (simp; done) | (simp; omega)) _)) (hh.mono (by first | omega | (simp; done) | (simp; omega)))
  have lw3 : w2.heap.size ≤ w3.heap.size := hb.size
  replace ca00 := (hb.cell (p := ⟨w.heap.size, 0, none⟩) za0).trans ca00
  replace ca01 := (hb.cell (p := ⟨w.heap.size, 1, none⟩) za0).trans ca01
  replace ca02 := (hb.cell (p := ⟨w.heap.size, 2, none⟩) za0).trans ca02
  replace za0 := Nat.lt_of_lt_of_le za0 hb.size
  replace Ot0 : Hid (NetR St0 w3 st0_1 n0_1 V0_1 st0_2 n0_2 V0_2) := Ot0.out.below hb
  replace B0 : Below w.heap.size w w3 := B0.trans (hb.mono B0.size)
  clear hb hh
  clear Ot0 Qt0 
  have Bs : Below w3.heap.size w3 w3 := Below.refl _ _
  have RW0 : Hid (RowI w3 sWr0 nr0 Vr0) := O0.row
  clear O0 Q0 
  go_wp2_with fail
  refine (toNet_r a0_0 n0_1 V0_1 n0_2 V0_2 s0_1 c0_1 s0_2 c0_2 _ hn0_1 hn0_2 (HR0.out.below B0)).mono ?_
  rintro e w4 ⟨sx0_1, sx0_2, Sx0, rfl, Q, O, hh⟩
  have hb : Below w3.heap.size w3 w4 := Below.trans (by repeat (first | with_reducible exact Below.refl _ _ | with_reducible refine Below.setCell ?_ (by first | omega | (simp; done) | (simp; omega)) _ | with_reducible refine bDrewN ?_ _ | with_reducible refine Below.drew ?_ | with_reducible refine Below.alloc ?_ (by first | omega | (simp; done) | (simp; omega)) _)) (hh.mono (by first | omega | (simp; done) | (simp; omega)))
  have lw4 : w3.heap.size ≤ w4.heap.size := hb.size
  replace ca00 := (hb.cell (p := ⟨w.heap.size, 0, none⟩) za0).trans ca00
  replace ca01 := (hb.cell (p := ⟨w.heap.size, 1, none⟩) za0).trans ca01
  replace ca02 := (hb.cell (p := ⟨w.heap.size, 2, none⟩) za0).trans ca02
  replace za0 := Nat.lt_of_lt_of_le za0 hb.size
  replace Bs : Below w3.heap.size w3 w4 := Bs.trans (hb.mono Bs.size)
  replace B0 : Below w.heap.size w w4 := B0.trans (hb.mono B0.size)
  clear hb hh
  have Qx0 : Hid (∀ k, Sx0 k → w3.heap.size ≤ k ∧ k < w4.heap.size) := (show ∀ k, Sx0 k → w3.heap.size ≤ k ∧ k < w4.heap.size from by simpa using Q)
  have Ox0 : Hid (NetR Sx0 w4 sx0_1 n0_1 V0_1 sx0_2 n0_2 V0_2) := O
  clear O Q
  go_wp2_with fail
  refine (H2.out sx0_1 _ sx0_2 _ _ ((Ox0.out.row).below (below0 _ _))).mono ?_
  rintro e w5 ⟨sgr0, cgr0, Sg0, rfl, Q0, O0, hh⟩
  have hb : Below w4.heap.size w4 w5 := Below.trans (by repeat (first | with_reducible exact Below.refl _ _ | with_reducible refine Below.setCell ?_ (by first | omega | (simp; done) | (simp; omega)) _ | with_reducible refine bDrewN ?_ _ | with_reducible refine Below.drew ?_ | with_reducible refine Below.alloc ?_ (by first | omega | (simp; done) | (simp; omega)) _)) (hh.mono (by first | omega | (simp; done) | (simp; omega)))
  have lw5 : w4.heap.size ≤ w5.heap.size := hb.size
  have cx00 : w5.cell? ⟨w4.heap.size, 0, none⟩ = some (.int .i64 a0_0) := by rw [hh.cell (by first | omega | (simp; done) | (simp; omega))]; first | (simp; done) | (simp [go_sem]; done)
  have cx01 : w5.cell? ⟨w4.heap.size, 1, none⟩ = some (.slice sx0_1 n0_1 n0_1) := by rw [hh.cell (by first | omega | (simp; done) | (simp; omega))]; first | (simp; done) | (simp [go_sem]; done)
  have cx02 : w5.cell? ⟨w4.heap.size, 2, none⟩ = some (.slice sx0_2 n0_2 n0_2) := by rw [hh.cell (by first | omega | (simp; done) | (simp; omega))]; first | (simp; done) | (simp [go_sem]; done)
  have zx0 : w4.heap.size < w5.heap.size := by have := hh.size; simp at this; omega
  have yx0 : w4.heap.size < w5.heap.size := zx0
  replace ca00 := (hb.cell (p := ⟨w.heap.size, 0, none⟩) za0).trans ca00
  replace ca01 := (hb.cell (p := ⟨w.heap.size, 1, none⟩) za0).trans ca01
  replace ca02 := (hb.cell (p := ⟨w.heap.size, 2, none⟩) za0).trans ca02
  replace za0 := Nat.lt_of_lt_of_le za0 hb.size
  replace Ox0 : Hid (NetR Sx0 w5 sx0_1 n0_1 V0_1 sx0_2 n0_2 V0_2) := Ox0.out.below hb
  replace Bs : Below w3.heap.size w3 w5 := Bs.trans (hb.mono Bs.size)
  replace B0 : Below w.heap.size w w5 := B0.trans (hb.mono B0.size)
  clear hb hh
  have Qg0 : Hid (∀ k, Sg0 k → w4.heap.size + 1 ≤ k ∧ k < w5.heap.size) := (show ∀ k, Sg0 k → w4.heap.size + 1 ≤ k ∧ k < w5.heap.size from by simpa using Q0)
  have Og0 : Hid (I64R Sg0 w5 sgr0 nr0 Vr0) := O0
  clear O0 Q0
  go_wp2_with fail
  refine (eqInt64S_any sgr0 sWr0 nr0 _ _ Vr0 _ hnr0 (Og0.out.row) (RW0.out.below Bs)).mono ?_
  rintro e w6 ⟨rfl, hh⟩
  have hb : Below w5.heap.size w5 w6 := Below.trans (by repeat (first | with_reducible exact Below.refl _ _ | with_reducible refine Below.setCell ?_ (by first | omega | (simp; done) | (simp; omega)) _ | with_reducible refine bDrewN ?_ _ | with_reducible refine Below.drew ?_ | with_reducible refine Below.alloc ?_ (by first | omega | (simp; done) | (simp; omega)) _)) (hh.mono (by first | omega | (simp; done) | (simp; omega)))
  have lw6 : w5.heap.size ≤ w6.heap.size := hb.size
  replace ca00 := (hb.cell (p := ⟨w.heap.size, 0, none⟩) za0).trans ca00
  replace ca01 := (hb.cell (p := ⟨w.heap.size, 1, none⟩) za0).trans ca01
  replace ca02 := (hb.cell (p := ⟨w.heap.size, 2, none⟩) za0).trans ca02
  replace za0 := Nat.lt_of_lt_of_le za0 hb.size
  replace cx00 := (hb.cell (p := ⟨w4.heap.size, 0, none⟩) zx0).trans cx00
  replace cx01 := (hb.cell (p := ⟨w4.heap.size, 1, none⟩) zx0).trans cx01
  replace cx02 := (hb.cell (p := ⟨w4.heap.size, 2, none⟩) zx0).trans cx02
  replace zx0 := Nat.lt_of_lt_of_le zx0 hb.size
  replace Ox0 : Hid (NetR Sx0 w6 sx0_1 n0_1 V0_1 sx0_2 n0_2 V0_2) := Ox0.out.below hb
  replace Og0 : Hid (I64R Sg0 w6 sgr0 nr0 Vr0) := Og0.out.below hb
  replace Bs : Below w3.heap.size w3 w6 := Bs.trans (hb.mono Bs.size)
  replace B0 : Below w.heap.size w w6 := B0.trans (hb.mono B0.size)
  clear hb hh
  go_upto_region 10 with fail
  have HB : Hid (Below w.heap.size w w6) := B0
  go_cut [49] (fun y wx => y = .bool false ∧ Below w6.heap.size w6 wx)
  case first =>
    go_region_held3 (fun w' => w'.cell? ⟨w.heap.size, 0, none⟩ = some (.int .i64 a0_0) ∧ w'.cell? ⟨w.heap.size, 1, none⟩ = some (.slice s0_1 n0_1 c0_1) ∧ w'.cell? ⟨w.heap.size, 2, none⟩ = some (.slice s0_2 n0_2 c0_2) ∧ w'.cell? ⟨w4.heap.size, 0, none⟩ = some (.int .i64 a0_0) ∧ w'.cell? ⟨w4.heap.size, 1, none⟩ = some (.slice sx0_1 n0_1 n0_1) ∧ w'.cell? ⟨w4.heap.size, 2, none⟩ = some (.slice sx0_2 n0_2 n0_2)) (first | (exact ⟨ca00, ca01, ca02, cx00, cx01, cx02⟩) | (refine keepLaw3_3 ca00 ca01 ca02 cx00 cx01 cx02 za0 zx0 ?_; exact (by repeat (first | with_reducible exact Below.refl _ _ | with_reducible exact B8 | with_reducible exact B7 | with_reducible refine Below.setCell ?_ (by first | omega | (simp; done) | (simp; omega)) _ | with_reducible refine bDrewN ?_ _ | with_reducible refine Below.drew ?_ | with_reducible refine Below.alloc ?_ (by first | omega | (simp; done) | (simp; omega)) _)))) (first
      | (go_at_call 8; refine (toNet_r a0_0 n0_1 V0_1 n0_2 V0_2 s0_1 c0_1 s0_2 c0_2 _ hn0_1 hn0_2 (HR0.out.below (HB.out.trans (Below.mono (by repeat (first | with_reducible exact Below.refl _ _ | with_reducible refine Below.setCell ?_ (by first | omega | (simp; done) | (simp; omega)) _ | with_reducible refine bDrewN ?_ _ | with_reducible refine Below.drew ?_ | with_reducible refine Below.alloc ?_ (by first | omega | (simp; done) | (simp; omega)) _)) HB.out.size)))).mono ?_; rintro e wy ⟨sy0_1, sy0_2, Sy, rfl, -, OY, h7⟩; have B7 : Below w6.heap.size w6 wy := Below.trans (by repeat (first | with_reducible exact Below.refl _ _ | with_reducible refine Below.setCell ?_ (by first | omega | (simp; done) | (simp; omega)) _ | with_reducible refine bDrewN ?_ _ | with_reducible refine Below.drew ?_ | with_reducible refine Below.alloc ?_ (by first | omega | (simp; done) | (simp; omega)) _)) (h7.mono (by first | omega | (simp; done) | (simp; omega))); have s7 := B7.size; have PY : Hid (RowNet wy sy0_1 n0_1 V0_1 sy0_2 n0_2 V0_2) := OY.row; have PX : Hid (RowNet wy sx0_1 n0_1 V0_1 sx0_2 n0_2 V0_2) := Ox0.out.row.below B7; clear h7 OY)
      | (go_at_call 11; refine (eqNet_r a0_0 n0_1 V0_1 n0_2 V0_2 sx0_1 n0_1 sx0_2 n0_2 sy0_1 n0_1 sy0_2 n0_2 _ hn0_1 hn0_2 PX.out PY.out).mono ?_; rintro e wz ⟨rfl, h8⟩; have B8 : Below w6.heap.size w6 wz := Below.trans (by repeat (first | with_reducible exact Below.refl _ _ | with_reducible exact B7 | with_reducible refine Below.setCell ?_ (by first | omega | (simp; done) | (simp; omega)) _ | with_reducible refine bDrewN ?_ _ | with_reducible refine Below.drew ?_ | with_reducible refine Below.alloc ?_ (by first | omega | (simp; done) | (simp; omega)) _)) (h8.mono (by first | omega | (simp; done) | (simp; omega))); clear h8))
    all_goals
      go_wp2_with fail
      go_meet
      exact ⟨rfl, B8⟩
  obtain ⟨rfl, hb⟩ := hcut
  rename World => w7
  have lw7 : w6.heap.size ≤ w7.heap.size := hb.size
  replace ca00 := (hb.cell (p := ⟨w.heap.size, 0, none⟩) za0).trans ca00
  replace ca01 := (hb.cell (p := ⟨w.heap.size, 1, none⟩) za0).trans ca01
  replace ca02 := (hb.cell (p := ⟨w.heap.size, 2, none⟩) za0).trans ca02
  replace za0 := Nat.lt_of_lt_of_le za0 hb.size
  replace cx00 := (hb.cell (p := ⟨w4.heap.size, 0, none⟩) zx0).trans cx00
  replace cx01 := (hb.cell (p := ⟨w4.heap.size, 1, none⟩) zx0).trans cx01
  replace cx02 := (hb.cell (p := ⟨w4.heap.size, 2, none⟩) zx0).trans cx02
  replace zx0 := Nat.lt_of_lt_of_le zx0 hb.size
  replace Ox0 : Hid (NetR Sx0 w7 sx0_1 n0_1 V0_1 sx0_2 n0_2 V0_2) := Ox0.out.below hb
  replace Og0 : Hid (I64R Sg0 w7 sgr0 nr0 Vr0) := Og0.out.below hb
  replace Bs : Below w3.heap.size w3 w7 := Bs.trans (hb.mono Bs.size)
  replace B0 : Below w.heap.size w w7 := B0.trans (hb.mono B0.size)
  clear hb HB
  go_wp2_with fail
  refine (markNet_r a0_0 n0_1 V0_1 n0_2 V0_2 sx0_1 n0_1 sx0_2 n0_2 Sx0 (1) _ hn0_1 hn0_2 (by omega) (by omega) (fun k q => by have := Qx0.out k q; omega) Ox0.out).mono ?_
  rintro e w8 ⟨rfl, T⟩
  have lw8 : w7.heap.size ≤ w8.heap.size := T.size
  replace ca00 := (T.cell (p := ⟨w.heap.size, 0, none⟩) za0 (show ¬ Sx0 (w.heap.size) from fun q => by have := Qx0.out _ q; omega)).trans ca00
  replace ca01 := (T.cell (p := ⟨w.heap.size, 1, none⟩) za0 (show ¬ Sx0 (w.heap.size) from fun q => by have := Qx0.out _ q; omega)).trans ca01
  replace ca02 := (T.cell (p := ⟨w.heap.size, 2, none⟩) za0 (show ¬ Sx0 (w.heap.size) from fun q => by have := Qx0.out _ q; omega)).trans ca02
  replace za0 := Nat.lt_of_lt_of_le za0 T.size
  replace cx00 := (T.cell (p := ⟨w4.heap.size, 0, none⟩) zx0 (show ¬ Sx0 (w4.heap.size) from fun q => by have := Qx0.out _ q; omega)).trans cx00
  replace cx01 := (T.cell (p := ⟨w4.heap.size, 1, none⟩) zx0 (show ¬ Sx0 (w4.heap.size) from fun q => by have := Qx0.out _ q; omega)).trans cx01
  replace cx02 := (T.cell (p := ⟨w4.heap.size, 2, none⟩) zx0 (show ¬ Sx0 (w4.heap.size) from fun q => by have := Qx0.out _ q; omega)).trans cx02
  replace zx0 := Nat.lt_of_lt_of_le zx0 T.size
  replace Og0 : Hid (I64R Sg0 w8 sgr0 nr0 Vr0) := Og0.out.keep T.size (fun k hk hl => T.2.2.2.2 k hl (fun q => by have := Qx0.out k q; have := Qg0.out k hk; omega))
  replace Bs : Below w3.heap.size w3 w8 := Bs.trans (T.below (fun k q => by have := Qx0.out k q; omega) (by omega))
  replace B0 : Below w.heap.size w w8 := B0.trans (T.below (fun k q => by have := Qx0.out k q; omega) (by omega))
  clear T Ox0
  go_wp2_with fail
  refine (eqInt64S_any sgr0 sWr0 nr0 _ _ Vr0 _ hnr0 (Og0.out.row) (RW0.out.below Bs)).mono ?_
  rintro e w9 ⟨rfl, hh⟩
  have hb : Below w8.heap.size w8 w9 := Below.trans (by repeat (first | with_reducible exact Below.refl _ _ | with_reducible refine Below.setCell ?_ (by first | omega | (simp; done) | (simp; omega)) _ | with_reducible refine bDrewN ?_ _ | with_reducible refine Below.drew ?_ | with_reducible refine Below.alloc ?_ (by first | omega | (simp; done) | (simp; omega)) _)) (hh.mono (by first | omega | (simp; done) | (simp; omega)))
  have lw9 : w8.heap.size ≤ w9.heap.size := hb.size
  replace ca00 := (hb.cell (p := ⟨w.heap.size, 0, none⟩) za0).trans ca00
  replace ca01 := (hb.cell (p := ⟨w.heap.size, 1, none⟩) za0).trans ca01
  replace ca02 := (hb.cell (p := ⟨w.heap.size, 2, none⟩) za0).trans ca02
  replace za0 := Nat.lt_of_lt_of_le za0 hb.size
  replace cx00 := (hb.cell (p := ⟨w4.heap.size, 0, none⟩) zx0).trans cx00
  replace cx01 := (hb.cell (p := ⟨w4.heap.size, 1, none⟩) zx0).trans cx01
  replace cx02 := (hb.cell (p := ⟨w4.heap.size, 2, none⟩) zx0).trans cx02
  replace zx0 := Nat.lt_of_lt_of_le zx0 hb.size
  replace Og0 : Hid (I64R Sg0 w9 sgr0 nr0 Vr0) := Og0.out.below hb
  replace Bs : Below w3.heap.size w3 w9 := Bs.trans (hb.mono Bs.size)
  replace B0 : Below w.heap.size w w9 := B0.trans (hb.mono B0.size)
  clear hb hh
  clear cx00 cx01 cx02 zx0
  clear Qx0
  go_wp2_with fail
  refine (markInt64S_r Sg0 _ nr0 _ (1) Vr0 _ hnr0 (by omega) (by omega) Og0.out).mono ?_
  rintro e w10 ⟨rfl, OM, T⟩
  have lw10 : w9.heap.size ≤ w10.heap.size := T.size
  replace ca00 := (T.cell (p := ⟨w.heap.size, 0, none⟩) za0 (show ¬ Sg0 (w.heap.size) from fun q => by have := Qg0.out _ q; omega)).trans ca00
  replace ca01 := (T.cell (p := ⟨w.heap.size, 1, none⟩) za0 (show ¬ Sg0 (w.heap.size) from fun q => by have := Qg0.out _ q; omega)).trans ca01
  replace ca02 := (T.cell (p := ⟨w.heap.size, 2, none⟩) za0 (show ¬ Sg0 (w.heap.size) from fun q => by have := Qg0.out _ q; omega)).trans ca02
  replace za0 := Nat.lt_of_lt_of_le za0 T.size
  replace Bs : Below w3.heap.size w3 w10 := Bs.trans (T.below (fun k q => by have := Qg0.out k q; omega) (by omega))
  replace B0 : Below w.heap.size w w10 := B0.trans (T.below (fun k q => by have := Qg0.out k q; omega) (by omega))
  replace Og0 : Hid (I64R Sg0 w10 sgr0 nr0 (fun j => (1) + (j : Int))) := OM
  clear T OM
  go_wp2_with fail
  refine (heldInt64S_any _ nr0 _ (1) _ hnr0 (by omega) (by omega) (Og0.out.row)).mono ?_
  rintro e w10 ⟨rfl, rfl⟩
  go_wp2_with fail
  refine (toNet_r a0_0 n0_1 V0_1 n0_2 V0_2 s0_1 c0_1 s0_2 c0_2 _ hn0_1 hn0_2 (HR0.out.below B0)).mono ?_
  rintro e w11 ⟨sv0_1, sv0_2, Sv0, rfl, Q, O, hh⟩
  have hb : Below w10.heap.size w10 w11 := Below.trans (by repeat (first | with_reducible exact Below.refl _ _ | with_reducible refine Below.setCell ?_ (by first | omega | (simp; done) | (simp; omega)) _ | with_reducible refine bDrewN ?_ _ | with_reducible refine Below.drew ?_ | with_reducible refine Below.alloc ?_ (by first | omega | (simp; done) | (simp; omega)) _)) (hh.mono (by first | omega | (simp; done) | (simp; omega)))
  have lw11 : w10.heap.size ≤ w11.heap.size := hb.size
  replace ca00 := (hb.cell (p := ⟨w.heap.size, 0, none⟩) za0).trans ca00
  replace ca01 := (hb.cell (p := ⟨w.heap.size, 1, none⟩) za0).trans ca01
  replace ca02 := (hb.cell (p := ⟨w.heap.size, 2, none⟩) za0).trans ca02
  replace za0 := Nat.lt_of_lt_of_le za0 hb.size
  replace Og0 : Hid (I64R Sg0 w11 sgr0 nr0 (fun j => (1) + (j : Int))) := Og0.out.below hb
  replace Bs : Below w3.heap.size w3 w11 := Bs.trans (hb.mono Bs.size)
  replace B0 : Below w.heap.size w w11 := B0.trans (hb.mono B0.size)
  clear hb hh
  have Qv0 : Hid (∀ k, Sv0 k → w10.heap.size ≤ k ∧ k < w11.heap.size) := (show ∀ k, Sv0 k → w10.heap.size ≤ k ∧ k < w11.heap.size from by simpa using Q)
  have Ov0 : Hid (NetR Sv0 w11 sv0_1 n0_1 V0_1 sv0_2 n0_2 V0_2) := O
  clear O Q
  go_wp2_with fail
  refine (H2.out sv0_1 _ sv0_2 _ _ (Ov0.out.row)).mono ?_
  rintro e w12 ⟨shr0, chr0, Sh0, rfl, Q0, O0, hh⟩
  have hb : Below w11.heap.size w11 w12 := Below.trans (by repeat (first | with_reducible exact Below.refl _ _ | with_reducible refine Below.setCell ?_ (by first | omega | (simp; done) | (simp; omega)) _ | with_reducible refine bDrewN ?_ _ | with_reducible refine Below.drew ?_ | with_reducible refine Below.alloc ?_ (by first | omega | (simp; done) | (simp; omega)) _)) (hh.mono (by first | omega | (simp; done) | (simp; omega)))
  have lw12 : w11.heap.size ≤ w12.heap.size := hb.size
  replace ca00 := (hb.cell (p := ⟨w.heap.size, 0, none⟩) za0).trans ca00
  replace ca01 := (hb.cell (p := ⟨w.heap.size, 1, none⟩) za0).trans ca01
  replace ca02 := (hb.cell (p := ⟨w.heap.size, 2, none⟩) za0).trans ca02
  replace za0 := Nat.lt_of_lt_of_le za0 hb.size
  replace Og0 : Hid (I64R Sg0 w12 sgr0 nr0 (fun j => (1) + (j : Int))) := Og0.out.below hb
  replace Ov0 : Hid (NetR Sv0 w12 sv0_1 n0_1 V0_1 sv0_2 n0_2 V0_2) := Ov0.out.below hb
  replace Bs : Below w3.heap.size w3 w12 := Bs.trans (hb.mono Bs.size)
  replace B0 : Below w.heap.size w w12 := B0.trans (hb.mono B0.size)
  clear hb hh
  clear Ov0 Qv0 
  have Rh0 : Hid (RowI w12 shr0 nr0 Vr0) := O0.row
  clear O0 Q0 
  have Bh : Below w12.heap.size w12 w12 := Below.refl _ _
  go_wp2_with fail
  refine (eqInt64S_any shr0 sWr0 nr0 _ _ Vr0 _ hnr0 ((Rh0.out.below (Below.mono (B := w12.heap.size) (Bh) (Nat.le_refl _)))) (RW0.out.below Bs)).mono ?_
  rintro e w13 ⟨rfl, hh⟩
  have hb : Below w12.heap.size w12 w13 := Below.trans (by repeat (first | with_reducible exact Below.refl _ _ | with_reducible refine Below.setCell ?_ (by first | omega | (simp; done) | (simp; omega)) _ | with_reducible refine bDrewN ?_ _ | with_reducible refine Below.drew ?_ | with_reducible refine Below.alloc ?_ (by first | omega | (simp; done) | (simp; omega)) _)) (hh.mono (by first | omega | (simp; done) | (simp; omega)))
  have lw13 : w12.heap.size ≤ w13.heap.size := hb.size
  replace ca00 := (hb.cell (p := ⟨w.heap.size, 0, none⟩) za0).trans ca00
  replace ca01 := (hb.cell (p := ⟨w.heap.size, 1, none⟩) za0).trans ca01
  replace ca02 := (hb.cell (p := ⟨w.heap.size, 2, none⟩) za0).trans ca02
  replace za0 := Nat.lt_of_lt_of_le za0 hb.size
  replace Og0 : Hid (I64R Sg0 w13 sgr0 nr0 (fun j => (1) + (j : Int))) := Og0.out.below hb
  replace Bs : Below w3.heap.size w3 w13 := Bs.trans (hb.mono Bs.size)
  replace B0 : Below w.heap.size w w13 := B0.trans (hb.mono B0.size)
  replace Bh : Below w12.heap.size w12 w13 := Bh.trans (hb.mono Bh.size)
  clear hb hh
  go_wp2_with fail
  refine (heldInt64S_any _ nr0 _ (1) _ hnr0 (by omega) (by omega) (Og0.out.row)).mono ?_
  rintro e w13 ⟨rfl, rfl⟩
  go_wp2
  go_ret
  exact ⟨rfl, B0⟩
set_option maxHeartbeats 1600000 in
theorem fewest_farn0_1 (w : World) (a0_0 : Int) (n0_1 : Nat) (V0_1 : Nat → Int × Int) (n0_2 : Nat) (V0_2 : Nat → Int) (s0_1 : Option Addr) (c0_1 : Nat) (s0_2 : Option Addr) (c0_2 : Nat) (a1 : Int)   (g : 1048576 < (n0_1 : Int)) (gg : (n0_1 : Int) ≤ 9223372036854775807)  :
    Calls Try.prog 3 #[.agg #[.int .i64 a0_0, .slice s0_1 n0_1 c0_1, .slice s0_2 n0_2 c0_2], .int .i64 a1] w fun e w' => e = .returned (.bool true) ∧ Below w.heap.size w w' := by
  go_enter Try.func3, Try.ntmps3
  go_wp2_with fail
  refine (szNet_off1 a0_0 n0_1 V0_1 n0_2 V0_2 s0_1 c0_1 s0_2 c0_2 _ _ (by omega) (by omega) (by omega) (by omega)).mono ?_
  rintro e u1 ⟨rfl, hh⟩
  have hb : Below w.heap.size w u1 := Below.trans (by repeat (first | with_reducible exact Below.refl _ _ | with_reducible refine Below.setCell ?_ (by first | omega | (simp; done) | (simp; omega)) _ | with_reducible refine bDrewN ?_ _ | with_reducible refine Below.drew ?_ | with_reducible refine Below.alloc ?_ (by first | omega | (simp; done) | (simp; omega)) _)) (hh.mono (by first | omega | (simp; done) | (simp; omega)))
  have ca00 : u1.cell? ⟨w.heap.size, 0, none⟩ = some (.int .i64 a0_0) := by rw [hh.cell (by first | omega | (simp; done) | (simp; omega))]; first | (simp; done) | (simp [go_sem]; done)
  have ca01 : u1.cell? ⟨w.heap.size, 1, none⟩ = some (.slice s0_1 n0_1 c0_1) := by rw [hh.cell (by first | omega | (simp; done) | (simp; omega))]; first | (simp; done) | (simp [go_sem]; done)
  have ca02 : u1.cell? ⟨w.heap.size, 2, none⟩ = some (.slice s0_2 n0_2 c0_2) := by rw [hh.cell (by first | omega | (simp; done) | (simp; omega))]; first | (simp; done) | (simp [go_sem]; done)
  have za0 : w.heap.size < u1.heap.size := by have := hh.size; simp at this; omega
  have B0 := hb
  clear hb hh
  go_wp2
  go_ret
  exact ⟨rfl, (by repeat (first | with_reducible exact Below.refl _ _ | with_reducible exact B0 | with_reducible refine Below.setCell ?_ (by first | omega | (simp; done) | (simp; omega)) _ | with_reducible refine bDrewN ?_ _ | with_reducible refine Below.drew ?_ | with_reducible refine Below.alloc ?_ (by first | omega | (simp; done) | (simp; omega)) _))⟩
set_option maxHeartbeats 1600000 in
theorem fewest_farn0_2 (w : World) (a0_0 : Int) (n0_1 : Nat) (V0_1 : Nat → Int × Int) (n0_2 : Nat) (V0_2 : Nat → Int) (s0_1 : Option Addr) (c0_1 : Nat) (s0_2 : Option Addr) (c0_2 : Nat) (a1 : Int)  (gn0_1 : (n0_1 : Int) ≤ 1048576) (g : 1048576 - n0_1 < (n0_2 : Int)) (gg : (n0_2 : Int) ≤ 9223372036854775807)  :
    Calls Try.prog 3 #[.agg #[.int .i64 a0_0, .slice s0_1 n0_1 c0_1, .slice s0_2 n0_2 c0_2], .int .i64 a1] w fun e w' => e = .returned (.bool true) ∧ Below w.heap.size w w' := by
  go_enter Try.func3, Try.ntmps3
  go_wp2_with fail
  refine (szNet_off2 a0_0 n0_1 V0_1 n0_2 V0_2 s0_1 c0_1 s0_2 c0_2 _ _ (by omega) (by omega) (by omega) (by omega) (by omega)).mono ?_
  rintro e u1 ⟨rfl, hh⟩
  have hb : Below w.heap.size w u1 := Below.trans (by repeat (first | with_reducible exact Below.refl _ _ | with_reducible refine Below.setCell ?_ (by first | omega | (simp; done) | (simp; omega)) _ | with_reducible refine bDrewN ?_ _ | with_reducible refine Below.drew ?_ | with_reducible refine Below.alloc ?_ (by first | omega | (simp; done) | (simp; omega)) _)) (hh.mono (by first | omega | (simp; done) | (simp; omega)))
  have ca00 : u1.cell? ⟨w.heap.size, 0, none⟩ = some (.int .i64 a0_0) := by rw [hh.cell (by first | omega | (simp; done) | (simp; omega))]; first | (simp; done) | (simp [go_sem]; done)
  have ca01 : u1.cell? ⟨w.heap.size, 1, none⟩ = some (.slice s0_1 n0_1 c0_1) := by rw [hh.cell (by first | omega | (simp; done) | (simp; omega))]; first | (simp; done) | (simp [go_sem]; done)
  have ca02 : u1.cell? ⟨w.heap.size, 2, none⟩ = some (.slice s0_2 n0_2 c0_2) := by rw [hh.cell (by first | omega | (simp; done) | (simp; omega))]; first | (simp; done) | (simp [go_sem]; done)
  have za0 : w.heap.size < u1.heap.size := by have := hh.size; simp at this; omega
  have B0 := hb
  clear hb hh
  go_wp2
  go_ret
  exact ⟨rfl, (by repeat (first | with_reducible exact Below.refl _ _ | with_reducible exact B0 | with_reducible refine Below.setCell ?_ (by first | omega | (simp; done) | (simp; omega)) _ | with_reducible refine bDrewN ?_ _ | with_reducible refine Below.drew ?_ | with_reducible refine Below.alloc ?_ (by first | omega | (simp; done) | (simp; omega)) _))⟩
theorem fnExactFewest_walk (w : World) (a0_0 : Int) (s0_1 : Option Addr) (n0_1 c0_1 : Nat) (V0_1 : Nat → Int × Int) (s0_2 : Option Addr) (n0_2 c0_2 : Nat) (V0_2 : Nat → Int) (w0_0 : (Lit.int .i64 a0_0).wf = true) (m0_1 : n0_1 ≤ 9223372036854775807) (R0_1 : RowDuct w s0_1 n0_1 V0_1) (m0_2 : n0_2 ≤ 9223372036854775807) (R0_2 : RowI w s0_2 n0_2 V0_2) (a1 : Int) (w1 : (Lit.int .i64 a1).wf = true) :
    Calls Try.prog 3 #[.agg #[.int .i64 a0_0, .slice s0_1 n0_1 c0_1, .slice s0_2 n0_2 c0_2], .int .i64 a1] w fun e w' => e = .returned (.bool true) ∧ Below w.heap.size w w' := by
  by_cases gn0_1 : (n0_1 : Int) ≤ 1048576
  case neg => exact fewest_farn0_1 w a0_0 n0_1 V0_1 n0_2 V0_2 s0_1 c0_1 s0_2 c0_2 a1   (by omega) (by omega) 
  by_cases gn0_2 : (n0_2 : Int) ≤ 1048576 - n0_1
  case neg => exact fewest_farn0_2 w a0_0 n0_1 V0_1 n0_2 V0_2 s0_1 c0_1 s0_2 c0_2 a1  gn0_1 (by omega) (by omega) 
  obtain ⟨FI, hKI, HFI⟩ := fw_ex a0_0 n0_1 V0_1 n0_2 V0_2 a1
  exact fewest_near w a0_0 n0_1 V0_1 n0_2 V0_2 s0_1 c0_1 s0_2 c0_2 (by omega) (by omega) ⟨R0_1, R0_2⟩ a1 (by omega) (by omega) FI.length (nthI FI) (by omega) (fewB a0_0 n0_1 V0_1 n0_2 V0_2 a1) (fun s c t d w q => (specFewest_any a0_0 s n0_1 c V0_1 t n0_2 d V0_2 a1 w (by omega) (by omega) q.1 q.2).mono fun e w' h => few_fit HFI h) (fun s c t d w q => (implFewest_any a0_0 s n0_1 c V0_1 t n0_2 d V0_2 a1 w (by omega) (by omega) q.1 q.2).mono fun e w' h => few_fit HFI h)

set_option maxRecDepth 100000 in
theorem fnExactFewest_lifted (os : Os) (started : os.Started) (H : Type) (enc : TypeId × Value → H) :
    ReturnsInHanded {} Try.checked os 3 .any (Rows.fnExactFewestSpec.pre6 enc Try.prog Try.f3 Rows.fnExactFewestRow.domain false) (Rows.fnExactFewestSpec.post enc Try.prog Try.f3 false true false false) := by
  refine returnsInHanded_of_change (C := Try.checked) own started (by kernel_rfl) Try.func3
    (ChangeSpec.witness6 (enc := enc) (C := Try.checked) false ⟨#[], #[.agg #[.int .i64 0, .slice none 0 0, .slice none 0 0], .int .i64 0], []⟩ 8 (by kernel_rfl) (by kernel_rfl) (by kernel_rfl) (by kernel_rfl)) ?_
  intro W base args ds gs before hval0 hW hcnd _
  have hval : ∀ (j : Nat) t v, Try.f3.params[j]? = some t → args[j]? = some v → Value.okWide Try.prog W .any base t v := hval0
  have hW' := hW
  obtain ⟨p, q, hA0, hV, rfl, hfz, hnd⟩ := hW
  have hA : DataW.TrodAll enc Try.prog W 0 (fun _ => true) true Try.f3.params.toList args.toList ds p := hA0
  rw [Try.params3] at hA hval
  obtain ⟨v0, vs0, d0, ds0, p0, q0, hargs, rfl, rfl, h0, r0⟩ := trodAll_cons hA
  obtain ⟨v1, vs1, d1, ds1, p1, q1, rfl, rfl, rfl, h1, r1⟩ := trodAll_cons r0
  obtain ⟨rfl, rfl, rfl⟩ := trodAll_nil r1
  obtain rfl : args = #[v0, v1] := by cases args; simp_all
  obtain ⟨rfl, rfl⟩ := trodVars_none hV
  have k0 := h0
  have lt0 : ∀ x ∈ p0, x.block < W.heap.size := by obtain ⟨m, hm⟩ := k0; exact DataW.trod_lt m _ _ _ hm
  have k1 := h1
  have lt1 : ∀ x ∈ p1, x.block < W.heap.size := by obtain ⟨m, hm⟩ := k1; exact DataW.trod_lt m _ _ _ hm
  obtain ⟨a0_0, s0_1, n0_1, c0_1, V0_1, s0_2, n0_2, c0_2, V0_2, rfl, w0_0, m0_1, R0_1, m0_2, R0_2⟩ := open_Net (hval 0 25 v0 rfl rfl) h0
  obtain ⟨a1, rfl, rfl, rfl, w1⟩ := open_int Try.underlying2 (hval 1 2 v1 rfl rfl) h1
  clear hA0 hval0
  refine (fnExactFewest_walk W a0_0 s0_1 n0_1 c0_1 V0_1 s0_2 n0_2 c0_2 V0_2 w0_0 m0_1 R0_1 m0_2 R0_2 a1 w1).mono fun e W' ⟨he, bel⟩ => ?_
  subst he
  exact ⟨_, rfl, _, _, _, [], _, [], hW', trodAll_mk1 (shut_bool Try.underlying4 _), (trodAll_cons_mk (Below.trod laidOut (by kernel_rfl) (of_decide_eq_true (by kernel_rfl)) k0 bel lt0) (trodAll_cons_mk (Below.trod laidOut (by kernel_rfl) (of_decide_eq_true (by kernel_rfl)) k1 bel lt1) trodAll_mk0)), rfl, bel.frame _, fun h => by cases h⟩

theorem fnExactFewest_holds : Rows.FnExactFewestSaid :=
  OpenClaim.holds_of_wide 3 Try.f3 rfl rfl rfl rfl rfl rfl rfl ⟨rfl, rfl, rfl, rfl, rfl⟩ rfl rfl rfl rfl rfl (by kernel_rfl) Try.func3 (by kernel_rfl)
    (of_decide_eq_true (by kernel_rfl)) (by unfold Func.isWrapper; first | (rw [if_pos (by decide +kernel)]; kernel_rfl) | (rw [if_neg (by decide +kernel)]; exact ⟨rfl, rfl⟩))
    (fun os started H enc _ => fnExactFewest_lifted os started H enc)
#print axioms fnExactFewest_holds
end Go.Proofs.Ytgclplckpphkcaa
