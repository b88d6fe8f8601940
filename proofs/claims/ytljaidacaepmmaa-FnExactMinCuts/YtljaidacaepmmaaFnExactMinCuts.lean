/-
What is proved: at every tree impl.MinCuts answers as the specification's MinCuts and leaves the tree as it was; its answer is new memory; no condition.
-/
import Derived.Test.YtljaidacaepmmaaCxS
import Derived.Test.YtljaidacaepmmaaTrTO
import Derived.Test.YtljaidacaepmmaaTrTM
namespace Go.Proofs.Ytljaidacaepmmaa
set_option maxRecDepth 40000
open Go.ChangeShapes Go.WideShapes Go.ChangeAt Go.RowKit
set_option linter.unusedVariables false
set_option linter.unusedSimpArgs false

theorem own_as {S : Nat → Prop} {w : World} {s : Option Addr} {n : Nat} {W U : Nat → Int} (h : OwnLL S w s n (kkW W) (vvW W)) (e : ∀ i, i < n → W i = U i) : OwnLL S w s n (kkW U) (vvW U) := by
  obtain ⟨A, h1, h2⟩ := h
  have ek : ∀ i, i < n → kkW W i = kkW U i := fun i hi => by unfold kkW; rw [e i hi]
  have ev : ∀ i, i < n → vvW W i = vvW U i := fun i hi => by unfold vvW; rw [e i hi]
  refine ⟨A, fun i hi => ?_, fun i i' hi hi' y1 y2 q => h2 i i' hi hi' (by rw [ek i hi]; exact y1) (by rw [ek i' hi']; exact y2) q⟩
  have := h1 i hi
  rw [ek i hi, ev i hi] at this
  exact this
theorem min_fit {x : Int} {n : Nat} {X : Nat → Int} {K : Nat → Nat} {V : Nat → Nat → Int} {KI : Nat} {FI : Nat → Int} (HF : ∀ k W, CutR (treeB x n X K V) (mnB x.toNat n X K V) (2 ^ x.toNat) k W → k = KI ∧ ∀ i, i < k → W i = FI i) {w : World} {e : Ending} {w' : World} (h : MinPost x n X K V w e w') : ∃ (s : Option Addr) (c : Nat) (S : Nat → Prop), e = .returned (.slice s KI c) ∧ (∀ k, S k → w.heap.size ≤ k ∧ k < w'.heap.size) ∧ LLR S w' s KI (kkW FI) (vvW FI) ∧ Below w.heap.size w w' := by
  obtain ⟨s, c, m, W, S, h1, h2, h3, h4, h5⟩ := h
  obtain ⟨rfl, h6⟩ := HF m W h4
  exact ⟨s, c, S, h1, h2, own_as h3 h6, h5⟩
theorem min_ex (x : Int) (n : Nat) (X : Nat → Int) (K : Nat → Nat) (V : Nat → Nat → Int) : ∃ (KI : Nat) (FI : Nat → Int), KI ≤ 1024 ∧ ∀ k W, CutR (treeB x n X K V) (mnB x.toNat n X K V) (2 ^ x.toNat) k W → k = KI ∧ ∀ i, i < k → W i = FI i := by
  obtain ⟨KI, FI, h1, h2, h3⟩ := cut_ex (treeB x n X K V) (mnB x.toNat n X K V) (2 ^ x.toNat)
  cases e : treeB x n X K V
  · exact ⟨0, FI, Nat.zero_le _, fun k W h => by have := h.2 rfl; subst this; exact ⟨rfl, fun i hi => by omega⟩⟩
  · rw [e] at h3
    obtain ⟨⟨x0, x1⟩, -, -⟩ := tree_yes e
    exact ⟨KI, FI, Nat.le_trans h1 (Nat.pow_le_pow_right (by decide) (by omega) : 2 ^ x.toNat ≤ 2 ^ 10), h3⟩
theorem suK_le {K : Nat → Nat} {B : Nat} (h : ∀ i, K i ≤ B) : ∀ n, suK K n ≤ n * B := by
  intro n
  induction n with
  | zero => simp [suK]
  | succ n ih => have := h n; rw [suK, Nat.succ_mul]; omega
theorem min_le {KI : Nat} {FI : Nat → Int} (h : KI ≤ 1024) : (KI : Int) + (suK (kkW FI) KI : Int) ≤ 1048576 := by
  have h1 : suK (kkW FI) KI ≤ KI * 16 := suK_le (fun i => by
    unfold kkW popS
    have a := popN_le 8 ((FI i).toNat / 256)
    have b := popN_le 8 ((FI i).toNat % 256)
    omega) KI
  omega
theorem keepLaw2_2 {W W' : World} {p r : Nat} {va0 va1 vx0 vx1 : Value} (ha0 : W.cell? ⟨p, 0, none⟩ = some va0) (ha1 : W.cell? ⟨p, 1, none⟩ = some va1) (hx0 : W.cell? ⟨r, 0, none⟩ = some vx0) (hx1 : W.cell? ⟨r, 1, none⟩ = some vx1) (zp : p < W.heap.size) (zr : r < W.heap.size) (hb : Below W.heap.size W W') : W'.cell? ⟨p, 0, none⟩ = some va0 ∧ W'.cell? ⟨p, 1, none⟩ = some va1 ∧ W'.cell? ⟨r, 0, none⟩ = some vx0 ∧ W'.cell? ⟨r, 1, none⟩ = some vx1 :=
  ⟨(hb.cell (p := ⟨p, 0, none⟩) zp).trans ha0, (hb.cell (p := ⟨p, 1, none⟩) zp).trans ha1, (hb.cell (p := ⟨r, 0, none⟩) zr).trans hx0, (hb.cell (p := ⟨r, 1, none⟩) zr).trans hx1⟩
set_option maxRecDepth 20000 in
set_option maxHeartbeats 8000000 in
theorem minCuts_near (w : World) (a0_0 : Int) (n0_1 : Nat) (X0_1 : Nat → Int) (K0_1 : Nat → Nat) (V0_1 : Nat → Nat → Int) (s0_1 : Option Addr) (c0_1 : Nat) (hn0_1 : ((n0_1 : Int) + (suK K0_1 n0_1 : Int)) ≤ 1048576) (HR0 : Hid (RowTree w s0_1 n0_1 X0_1 K0_1 V0_1)) (gn0_1 : ((n0_1 : Int) + (suK K0_1 n0_1 : Int)) ≤ 1048576) (nr0 : Nat) (Kr0 : Nat → Nat) (Vr0 : Nat → Nat → Int) (hnr0 : ((nr0 : Int) + (suK Kr0 nr0 : Int)) ≤ 1048576)
    (H1 : Hid (∀ (s0_1 : Option Addr) (c0_1 : Nat) w, RowTree w s0_1 n0_1 X0_1 K0_1 V0_1 → Calls Try.prog 10 #[.agg #[.int .i64 a0_0, .slice s0_1 n0_1 c0_1]] w fun e w' => ∃ (s'r0 : Option Addr) (c'r0 : Nat) (S0 : Nat → Prop), e = .returned (.slice s'r0 nr0 c'r0) ∧ (∀ k, S0 k → w.heap.size ≤ k ∧ k < w'.heap.size) ∧ LLR S0 w' s'r0 nr0 Kr0 Vr0 ∧ Below w.heap.size w w'))
    (H2 : Hid (∀ (s0_1 : Option Addr) (c0_1 : Nat) w, RowTree w s0_1 n0_1 X0_1 K0_1 V0_1 → Calls Try.prog 12 #[.agg #[.int .i64 a0_0, .slice s0_1 n0_1 c0_1]] w fun e w' => ∃ (s'r0 : Option Addr) (c'r0 : Nat) (S0 : Nat → Prop), e = .returned (.slice s'r0 nr0 c'r0) ∧ (∀ k, S0 k → w.heap.size ≤ k ∧ k < w'.heap.size) ∧ LLR S0 w' s'r0 nr0 Kr0 Vr0 ∧ Below w.heap.size w w')) :
    Calls Try.prog 3 #[.agg #[.int .i64 a0_0, .slice s0_1 n0_1 c0_1]] w fun e w' => e = .returned (.bool true) ∧ Below w.heap.size w w' := by
  have sto := store_slT
  go_enter Try.func3, Try.ntmps3
  go_wp2_with fail
  refine (szTree_on a0_0 n0_1 X0_1 K0_1 V0_1 s0_1 c0_1 _ _ (by omega) (by omega) (by omega) ((HR0.out).below (below0 _ _))).mono ?_
  rintro e w1 ⟨rfl, hh⟩
  have hb : Below w.heap.size w w1 := Below.trans (by repeat (first | with_reducible exact Below.refl _ _ | with_reducible refine Below.setCell ?_ (by first | omega | (simp; done) | (simp; omega)) _ | with_reducible refine bDrewN ?_ _ | with_reducible refine Below.drew ?_ | with_reducible refine Below.alloc ?_ (by first | omega | (simp; done) | (simp; omega)) _)) (hh.mono (by first | omega | (simp; done) | (simp; omega)))
  have lw1 : w.heap.size ≤ w1.heap.size := hb.size
  have ca00 : w1.cell? ⟨w.heap.size, 0, none⟩ = some (.int .i64 a0_0) := by rw [hh.cell (by first | omega | (simp; done) | (simp; omega))]; first | (simp; done) | (simp [go_sem]; done)
  have ca01 : w1.cell? ⟨w.heap.size, 1, none⟩ = some (.slice s0_1 n0_1 c0_1) := by rw [hh.cell (by first | omega | (simp; done) | (simp; omega))]; first | (simp; done) | (simp [go_sem]; done)
  have za0 : w.heap.size < w1.heap.size := by have := hh.size; simp at this; omega
  have ya0 : w.heap.size < w1.heap.size := za0
  have B0 : Below w.heap.size w w1 := hb
  clear hb hh
  go_wp2_with fail
  refine (toTree_r a0_0 n0_1 X0_1 K0_1 V0_1 s0_1 c0_1 _ hn0_1 (HR0.out.below B0)).mono ?_
  rintro e w2 ⟨st0_1, St0, rfl, Q, O, hh⟩
  have hb : Below w1.heap.size w1 w2 := Below.trans (by repeat (first | with_reducible exact Below.refl _ _ | with_reducible refine Below.setCell ?_ (by first | omega | (simp; done) | (simp; omega)) _ | with_reducible refine bDrewN ?_ _ | with_reducible refine Below.drew ?_ | with_reducible refine Below.alloc ?_ (by first | omega | (simp; done) | (simp; omega)) _)) (hh.mono (by first | omega | (simp; done) | (simp; omega)))
  have lw2 : w1.heap.size ≤ w2.heap.size := hb.size
  replace ca00 := (hb.cell (p := ⟨w.heap.size, 0, none⟩) za0).trans ca00
  replace ca01 := (hb.cell (p := ⟨w.heap.size, 1, none⟩) za0).trans ca01
  replace za0 := Nat.lt_of_lt_of_le za0 hb.size
  replace B0 : Below w.heap.size w w2 := B0.trans (hb.mono B0.size)
  clear hb hh
  have Qt0 : Hid (∀ k, St0 k → w1.heap.size ≤ k ∧ k < w2.heap.size) := (show ∀ k, St0 k → w1.heap.size ≤ k ∧ k < w2.heap.size from by simpa using Q)
  have Ot0 : Hid (TreeR St0 w2 st0_1 n0_1 X0_1 K0_1 V0_1) := O
  clear O Q
  go_wp2_with fail
  refine (H1.out st0_1 _ _ (Ot0.out.row)).mono ?_
  rintro e w3 ⟨sWr0, cWr0, SW0, rfl, Q0, O0, hh⟩
  have hb : Below w2.heap.size w2 w3 := Below.trans (by repeat (first | with_reducible exact Below.refl _ _ | with_reducible refine Below.setCell ?_ (by first | omega | (simp; done) | (simp; omega)) _ | with_reducible refine bDrewN ?_ _ | with_reducible refine Below.drew ?_ | with_reducible refine Below.alloc ?_ (by first | omega | (simp; done) | (simp; omega)) _)) (hh.mono (by first | omega | (simp; done) | (simp; omega)))
  have lw3 : w2.heap.size ≤ w3.heap.size := hb.size
  replace ca00 := (hb.cell (p := ⟨w.heap.size, 0, none⟩) za0).trans ca00
  replace ca01 := (hb.cell (p := ⟨w.heap.size, 1, none⟩) za0).trans ca01
  replace za0 := Nat.lt_of_lt_of_le za0 hb.size
  replace Ot0 : Hid (TreeR St0 w3 st0_1 n0_1 X0_1 K0_1 V0_1) := Ot0.out.below hb
  replace B0 : Below w.heap.size w w3 := B0.trans (hb.mono B0.size)
  clear hb hh
  clear Ot0 Qt0 
  have Bs : Below w3.heap.size w3 w3 := Below.refl _ _
  have RW0 : Hid (RowLL w3 sWr0 nr0 Kr0 Vr0) := O0.row
  clear O0 Q0 
  go_wp2_with fail
  refine (toTree_r a0_0 n0_1 X0_1 K0_1 V0_1 s0_1 c0_1 _ hn0_1 (HR0.out.below B0)).mono ?_
  rintro e w4 ⟨sx0_1, Sx0, rfl, Q, O, hh⟩
  have hb : Below w3.heap.size w3 w4 := Below.trans (by repeat (first | with_reducible exact Below.refl _ _ | with_reducible refine Below.setCell ?_ (by first | omega | (simp; done) | (simp; omega)) _ | with_reducible refine bDrewN ?_ _ | with_reducible refine Below.drew ?_ | with_reducible refine Below.alloc ?_ (by first | omega | (simp; done) | (simp; omega)) _)) (hh.mono (by first | omega | (simp; done) | (simp; omega)))
  have lw4 : w3.heap.size ≤ w4.heap.size := hb.size
  replace ca00 := (hb.cell (p := ⟨w.heap.size, 0, none⟩) za0).trans ca00
  replace ca01 := (hb.cell (p := ⟨w.heap.size, 1, none⟩) za0).trans ca01
  replace za0 := Nat.lt_of_lt_of_le za0 hb.size
  replace Bs : Below w3.heap.size w3 w4 := Bs.trans (hb.mono Bs.size)
  replace B0 : Below w.heap.size w w4 := B0.trans (hb.mono B0.size)
  clear hb hh
  have Qx0 : Hid (∀ k, Sx0 k → w3.heap.size ≤ k ∧ k < w4.heap.size) := (show ∀ k, Sx0 k → w3.heap.size ≤ k ∧ k < w4.heap.size from by simpa using Q)
  have Ox0 : Hid (TreeR Sx0 w4 sx0_1 n0_1 X0_1 K0_1 V0_1) := O
  clear O Q
  go_wp2_with fail
  refine (H2.out sx0_1 _ _ ((Ox0.out.row).below (below0 _ _))).mono ?_
  rintro e w5 ⟨sgr0, cgr0, Sg0, rfl, Q0, O0, hh⟩
  have hb : Below w4.heap.size w4 w5 := Below.trans (by repeat (first | with_reducible exact Below.refl _ _ | with_reducible refine Below.setCell ?_ (by first | omega | (simp; done) | (simp; omega)) _ | with_reducible refine bDrewN ?_ _ | with_reducible refine Below.drew ?_ | with_reducible refine Below.alloc ?_ (by first | omega | (simp; done) | (simp; omega)) _)) (hh.mono (by first | omega | (simp; done) | (simp; omega)))
  have lw5 : w4.heap.size ≤ w5.heap.size := hb.size
  have cx00 : w5.cell? ⟨w4.heap.size, 0, none⟩ = some (.int .i64 a0_0) := by rw [hh.cell (by first | omega | (simp; done) | (simp; omega))]; first | (simp; done) | (simp [go_sem]; done)
  have cx01 : w5.cell? ⟨w4.heap.size, 1, none⟩ = some (.slice sx0_1 n0_1 n0_1) := by rw [hh.cell (by first | omega | (simp; done) | (simp; omega))]; first | (simp; done) | (simp [go_sem]; done)
  have zx0 : w4.heap.size < w5.heap.size := by have := hh.size; simp at this; omega
  have yx0 : w4.heap.size < w5.heap.size := zx0
  replace ca00 := (hb.cell (p := ⟨w.heap.size, 0, none⟩) za0).trans ca00
  replace ca01 := (hb.cell (p := ⟨w.heap.size, 1, none⟩) za0).trans ca01
  replace za0 := Nat.lt_of_lt_of_le za0 hb.size
  replace Ox0 : Hid (TreeR Sx0 w5 sx0_1 n0_1 X0_1 K0_1 V0_1) := Ox0.out.below hb
  replace Bs : Below w3.heap.size w3 w5 := Bs.trans (hb.mono Bs.size)
  replace B0 : Below w.heap.size w w5 := B0.trans (hb.mono B0.size)
  clear hb hh
  have Qg0 : Hid (∀ k, Sg0 k → w4.heap.size + 1 ≤ k ∧ k < w5.heap.size) := (show ∀ k, Sg0 k → w4.heap.size + 1 ≤ k ∧ k < w5.heap.size from by simpa using Q0)
  have Og0 : Hid (LLR Sg0 w5 sgr0 nr0 Kr0 Vr0) := O0
  clear O0 Q0
  go_wp2_with fail
  refine (eqInt64SS_r sgr0 sWr0 nr0 _ _ Kr0 Vr0 _ hnr0 (Og0.out.row) (RW0.out.below Bs)).mono ?_
  rintro e w6 ⟨rfl, hh⟩
  have hb : Below w5.heap.size w5 w6 := Below.trans (by repeat (first | with_reducible exact Below.refl _ _ | with_reducible refine Below.setCell ?_ (by first | omega | (simp; done) | (simp; omega)) _ | with_reducible refine bDrewN ?_ _ | with_reducible refine Below.drew ?_ | with_reducible refine Below.alloc ?_ (by first | omega | (simp; done) | (simp; omega)) _)) (hh.mono (by first | omega | (simp; done) | (simp; omega)))
  have lw6 : w5.heap.size ≤ w6.heap.size := hb.size
  replace ca00 := (hb.cell (p := ⟨w.heap.size, 0, none⟩) za0).trans ca00
  replace ca01 := (hb.cell (p := ⟨w.heap.size, 1, none⟩) za0).trans ca01
  replace za0 := Nat.lt_of_lt_of_le za0 hb.size
  replace cx00 := (hb.cell (p := ⟨w4.heap.size, 0, none⟩) zx0).trans cx00
  replace cx01 := (hb.cell (p := ⟨w4.heap.size, 1, none⟩) zx0).trans cx01
  replace zx0 := Nat.lt_of_lt_of_le zx0 hb.size
  replace Ox0 : Hid (TreeR Sx0 w6 sx0_1 n0_1 X0_1 K0_1 V0_1) := Ox0.out.below hb
  replace Og0 : Hid (LLR Sg0 w6 sgr0 nr0 Kr0 Vr0) := Og0.out.below hb
  replace Bs : Below w3.heap.size w3 w6 := Bs.trans (hb.mono Bs.size)
  replace B0 : Below w.heap.size w w6 := B0.trans (hb.mono B0.size)
  clear hb hh
  go_upto_region 10 with fail
  have HB : Hid (Below w.heap.size w w6) := B0
  go_cut [31] (fun y wx => y = .bool false ∧ Below w6.heap.size w6 wx)
  case first =>
    go_region_held3 (fun w' => w'.cell? ⟨w.heap.size, 0, none⟩ = some (.int .i64 a0_0) ∧ w'.cell? ⟨w.heap.size, 1, none⟩ = some (.slice s0_1 n0_1 c0_1) ∧ w'.cell? ⟨w4.heap.size, 0, none⟩ = some (.int .i64 a0_0) ∧ w'.cell? ⟨w4.heap.size, 1, none⟩ = some (.slice sx0_1 n0_1 n0_1)) (first | (exact ⟨ca00, ca01, cx00, cx01⟩) | (refine keepLaw2_2 ca00 ca01 cx00 cx01 za0 zx0 ?_; exact (by repeat (first | with_reducible exact Below.refl _ _ | with_reducible exact B8 | with_reducible exact B7 | with_reducible refine Below.setCell ?_ (by first | omega | (simp; done) | (simp; omega)) _ | with_reducible refine bDrewN ?_ _ | with_reducible refine Below.drew ?_ | with_reducible refine Below.alloc ?_ (by first | omega | (simp; done) | (simp; omega)) _)))) (first
      | (go_at_call 11; refine (toTree_r a0_0 n0_1 X0_1 K0_1 V0_1 s0_1 c0_1 _ hn0_1 (HR0.out.below (HB.out.trans (Below.mono (by repeat (first | with_reducible exact Below.refl _ _ | with_reducible refine Below.setCell ?_ (by first | omega | (simp; done) | (simp; omega)) _ | with_reducible refine bDrewN ?_ _ | with_reducible refine Below.drew ?_ | with_reducible refine Below.alloc ?_ (by first | omega | (simp; done) | (simp; omega)) _)) HB.out.size)))).mono ?_; rintro e wy ⟨sy0_1, Sy, rfl, -, OY, h7⟩; have B7 : Below w6.heap.size w6 wy := Below.trans (by repeat (first | with_reducible exact Below.refl _ _ | with_reducible refine Below.setCell ?_ (by first | omega | (simp; done) | (simp; omega)) _ | with_reducible refine bDrewN ?_ _ | with_reducible refine Below.drew ?_ | with_reducible refine Below.alloc ?_ (by first | omega | (simp; done) | (simp; omega)) _)) (h7.mono (by first | omega | (simp; done) | (simp; omega))); have s7 := B7.size; have PY : Hid (RowTree wy sy0_1 n0_1 X0_1 K0_1 V0_1) := OY.row; have PX : Hid (RowTree wy sx0_1 n0_1 X0_1 K0_1 V0_1) := Ox0.out.row.below B7; clear h7 OY)
      | (go_at_call 14; refine (eqTree_r a0_0 n0_1 X0_1 K0_1 V0_1 sx0_1 n0_1 sy0_1 n0_1 _ hn0_1 PX.out PY.out).mono ?_; rintro e wz ⟨rfl, h8⟩; have B8 : Below w6.heap.size w6 wz := Below.trans (by repeat (first | with_reducible exact Below.refl _ _ | with_reducible exact B7 | with_reducible refine Below.setCell ?_ (by first | omega | (simp; done) | (simp; omega)) _ | with_reducible refine bDrewN ?_ _ | with_reducible refine Below.drew ?_ | with_reducible refine Below.alloc ?_ (by first | omega | (simp; done) | (simp; omega)) _)) (h8.mono (by first | omega | (simp; done) | (simp; omega))); clear h8))
    all_goals
      go_wp2_with fail
      go_meet
      exact ⟨rfl, B8⟩
  obtain ⟨rfl, hb⟩ := hcut
  rename World => w7
  have lw7 : w6.heap.size ≤ w7.heap.size := hb.size
  replace ca00 := (hb.cell (p := ⟨w.heap.size, 0, none⟩) za0).trans ca00
  replace ca01 := (hb.cell (p := ⟨w.heap.size, 1, none⟩) za0).trans ca01
  replace za0 := Nat.lt_of_lt_of_le za0 hb.size
  replace cx00 := (hb.cell (p := ⟨w4.heap.size, 0, none⟩) zx0).trans cx00
  replace cx01 := (hb.cell (p := ⟨w4.heap.size, 1, none⟩) zx0).trans cx01
  replace zx0 := Nat.lt_of_lt_of_le zx0 hb.size
  replace Ox0 : Hid (TreeR Sx0 w7 sx0_1 n0_1 X0_1 K0_1 V0_1) := Ox0.out.below hb
  replace Og0 : Hid (LLR Sg0 w7 sgr0 nr0 Kr0 Vr0) := Og0.out.below hb
  replace Bs : Below w3.heap.size w3 w7 := Bs.trans (hb.mono Bs.size)
  replace B0 : Below w.heap.size w w7 := B0.trans (hb.mono B0.size)
  clear hb HB
  go_wp2_with fail
  refine (markTree_r a0_0 n0_1 X0_1 K0_1 V0_1 sx0_1 n0_1 Sx0 (1) _ hn0_1 (by omega) (by omega) (fun k q => by have := Qx0.out k q; omega) Ox0.out).mono ?_
  rintro e w8 ⟨rfl, T⟩
  have lw8 : w7.heap.size ≤ w8.heap.size := T.size
  replace ca00 := (T.cell (p := ⟨w.heap.size, 0, none⟩) za0 (show ¬ Sx0 (w.heap.size) from fun q => by have := Qx0.out _ q; omega)).trans ca00
  replace ca01 := (T.cell (p := ⟨w.heap.size, 1, none⟩) za0 (show ¬ Sx0 (w.heap.size) from fun q => by have := Qx0.out _ q; omega)).trans ca01
  replace za0 := Nat.lt_of_lt_of_le za0 T.size
  replace cx00 := (T.cell (p := ⟨w4.heap.size, 0, none⟩) zx0 (show ¬ Sx0 (w4.heap.size) from fun q => by have := Qx0.out _ q; omega)).trans cx00
  replace cx01 := (T.cell (p := ⟨w4.heap.size, 1, none⟩) zx0 (show ¬ Sx0 (w4.heap.size) from fun q => by have := Qx0.out _ q; omega)).trans cx01
  replace zx0 := Nat.lt_of_lt_of_le zx0 T.size
  replace Og0 : Hid (LLR Sg0 w8 sgr0 nr0 Kr0 Vr0) := Og0.out.keep T.size (fun k hk hl => T.2.2.2.2 k hl (fun q => by have := Qx0.out k q; have := Qg0.out k hk; omega))
  replace Bs : Below w3.heap.size w3 w8 := Bs.trans (T.below (fun k q => by have := Qx0.out k q; omega) (by omega))
  replace B0 : Below w.heap.size w w8 := B0.trans (T.below (fun k q => by have := Qx0.out k q; omega) (by omega))
  clear T Ox0
  go_wp2_with fail
  refine (eqInt64SS_r sgr0 sWr0 nr0 _ _ Kr0 Vr0 _ hnr0 (Og0.out.row) (RW0.out.below Bs)).mono ?_
  rintro e w9 ⟨rfl, hh⟩
  have hb : Below w8.heap.size w8 w9 := Below.trans (by repeat (first | with_reducible exact Below.refl _ _ | with_reducible refine Below.setCell ?_ (by first | omega | (simp; done) | (simp; omega)) _ | with_reducible refine bDrewN ?_ _ | with_reducible refine Below.drew ?_ | with_reducible refine Below.alloc ?_ (by first | omega | (simp; done) | (simp; omega)) _)) (hh.mono (by first | omega | (simp; done) | (simp; omega)))
  have lw9 : w8.heap.size ≤ w9.heap.size := hb.size
  replace ca00 := (hb.cell (p := ⟨w.heap.size, 0, none⟩) za0).trans ca00
  replace ca01 := (hb.cell (p := ⟨w.heap.size, 1, none⟩) za0).trans ca01
  replace za0 := Nat.lt_of_lt_of_le za0 hb.size
  replace cx00 := (hb.cell (p := ⟨w4.heap.size, 0, none⟩) zx0).trans cx00
  replace cx01 := (hb.cell (p := ⟨w4.heap.size, 1, none⟩) zx0).trans cx01
  replace zx0 := Nat.lt_of_lt_of_le zx0 hb.size
  replace Og0 : Hid (LLR Sg0 w9 sgr0 nr0 Kr0 Vr0) := Og0.out.below hb
  replace Bs : Below w3.heap.size w3 w9 := Bs.trans (hb.mono Bs.size)
  replace B0 : Below w.heap.size w w9 := B0.trans (hb.mono B0.size)
  clear hb hh
  clear cx00 cx01 zx0
  clear Qx0
  go_wp2_with fail
  refine (markInt64SS_r Sg0 _ nr0 _ (1) Kr0 Vr0 _ hnr0 (by omega) (by omega) Og0.out).mono ?_
  rintro e w10 ⟨rfl, OM, T⟩
  have lw10 : w9.heap.size ≤ w10.heap.size := T.size
  replace ca00 := (T.cell (p := ⟨w.heap.size, 0, none⟩) za0 (show ¬ Sg0 (w.heap.size) from fun q => by have := Qg0.out _ q; omega)).trans ca00
  replace ca01 := (T.cell (p := ⟨w.heap.size, 1, none⟩) za0 (show ¬ Sg0 (w.heap.size) from fun q => by have := Qg0.out _ q; omega)).trans ca01
  replace za0 := Nat.lt_of_lt_of_le za0 T.size
  replace Bs : Below w3.heap.size w3 w10 := Bs.trans (T.below (fun k q => by have := Qg0.out k q; omega) (by omega))
  replace B0 : Below w.heap.size w w10 := B0.trans (T.below (fun k q => by have := Qg0.out k q; omega) (by omega))
  replace Og0 : Hid (LLR Sg0 w10 sgr0 nr0 Kr0 (mkV (1) Kr0)) := OM
  clear T OM
  go_wp2_with fail
  refine (heldInt64SS_r _ nr0 _ (1) Kr0 _ hnr0 (by omega) (by omega) (Og0.out.row)).mono ?_
  rintro e w10 ⟨rfl, rfl⟩
  go_wp2_with fail
  refine (toTree_r a0_0 n0_1 X0_1 K0_1 V0_1 s0_1 c0_1 _ hn0_1 (HR0.out.below B0)).mono ?_
  rintro e w11 ⟨sv0_1, Sv0, rfl, Q, O, hh⟩
  have hb : Below w10.heap.size w10 w11 := Below.trans (by repeat (first | with_reducible exact Below.refl _ _ | with_reducible refine Below.setCell ?_ (by first | omega | (simp; done) | (simp; omega)) _ | with_reducible refine bDrewN ?_ _ | with_reducible refine Below.drew ?_ | with_reducible refine Below.alloc ?_ (by first | omega | (simp; done) | (simp; omega)) _)) (hh.mono (by first | omega | (simp; done) | (simp; omega)))
  have lw11 : w10.heap.size ≤ w11.heap.size := hb.size
  replace ca00 := (hb.cell (p := ⟨w.heap.size, 0, none⟩) za0).trans ca00
  replace ca01 := (hb.cell (p := ⟨w.heap.size, 1, none⟩) za0).trans ca01
  replace za0 := Nat.lt_of_lt_of_le za0 hb.size
  replace Og0 : Hid (LLR Sg0 w11 sgr0 nr0 Kr0 (mkV (1) Kr0)) := Og0.out.below hb
  replace Bs : Below w3.heap.size w3 w11 := Bs.trans (hb.mono Bs.size)
  replace B0 : Below w.heap.size w w11 := B0.trans (hb.mono B0.size)
  clear hb hh
  have Qv0 : Hid (∀ k, Sv0 k → w10.heap.size ≤ k ∧ k < w11.heap.size) := (show ∀ k, Sv0 k → w10.heap.size ≤ k ∧ k < w11.heap.size from by simpa using Q)
  have Ov0 : Hid (TreeR Sv0 w11 sv0_1 n0_1 X0_1 K0_1 V0_1) := O
  clear O Q
  go_wp2_with fail
  refine (H2.out sv0_1 _ _ (Ov0.out.row)).mono ?_
  rintro e w12 ⟨shr0, chr0, Sh0, rfl, Q0, O0, hh⟩
  have hb : Below w11.heap.size w11 w12 := Below.trans (by repeat (first | with_reducible exact Below.refl _ _ | with_reducible refine Below.setCell ?_ (by first | omega | (simp; done) | (simp; omega)) _ | with_reducible refine bDrewN ?_ _ | with_reducible refine Below.drew ?_ | with_reducible refine Below.alloc ?_ (by first | omega | (simp; done) | (simp; omega)) _)) (hh.mono (by first | omega | (simp; done) | (simp; omega)))
  have lw12 : w11.heap.size ≤ w12.heap.size := hb.size
  replace ca00 := (hb.cell (p := ⟨w.heap.size, 0, none⟩) za0).trans ca00
  replace ca01 := (hb.cell (p := ⟨w.heap.size, 1, none⟩) za0).trans ca01
  replace za0 := Nat.lt_of_lt_of_le za0 hb.size
  replace Og0 : Hid (LLR Sg0 w12 sgr0 nr0 Kr0 (mkV (1) Kr0)) := Og0.out.below hb
  replace Ov0 : Hid (TreeR Sv0 w12 sv0_1 n0_1 X0_1 K0_1 V0_1) := Ov0.out.below hb
  replace Bs : Below w3.heap.size w3 w12 := Bs.trans (hb.mono Bs.size)
  replace B0 : Below w.heap.size w w12 := B0.trans (hb.mono B0.size)
  clear hb hh
  clear Ov0 Qv0 
  have Rh0 : Hid (RowLL w12 shr0 nr0 Kr0 Vr0) := O0.row
  clear O0 Q0 
  have Bh : Below w12.heap.size w12 w12 := Below.refl _ _
  go_wp2_with fail
  refine (eqInt64SS_r shr0 sWr0 nr0 _ _ Kr0 Vr0 _ hnr0 ((Rh0.out.below (Below.mono (B := w12.heap.size) (Bh) (Nat.le_refl _)))) (RW0.out.below Bs)).mono ?_
  rintro e w13 ⟨rfl, hh⟩
  have hb : Below w12.heap.size w12 w13 := Below.trans (by repeat (first | with_reducible exact Below.refl _ _ | with_reducible refine Below.setCell ?_ (by first | omega | (simp; done) | (simp; omega)) _ | with_reducible refine bDrewN ?_ _ | with_reducible refine Below.drew ?_ | with_reducible refine Below.alloc ?_ (by first | omega | (simp; done) | (simp; omega)) _)) (hh.mono (by first | omega | (simp; done) | (simp; omega)))
  have lw13 : w12.heap.size ≤ w13.heap.size := hb.size
  replace ca00 := (hb.cell (p := ⟨w.heap.size, 0, none⟩) za0).trans ca00
  replace ca01 := (hb.cell (p := ⟨w.heap.size, 1, none⟩) za0).trans ca01
  replace za0 := Nat.lt_of_lt_of_le za0 hb.size
  replace Og0 : Hid (LLR Sg0 w13 sgr0 nr0 Kr0 (mkV (1) Kr0)) := Og0.out.below hb
  replace Bs : Below w3.heap.size w3 w13 := Bs.trans (hb.mono Bs.size)
  replace B0 : Below w.heap.size w w13 := B0.trans (hb.mono B0.size)
  replace Bh : Below w12.heap.size w12 w13 := Bh.trans (hb.mono Bh.size)
  clear hb hh
  go_wp2_with fail
  refine (heldInt64SS_r _ nr0 _ (1) Kr0 _ hnr0 (by omega) (by omega) (Og0.out.row)).mono ?_
  rintro e w13 ⟨rfl, rfl⟩
  go_wp2
  go_ret
  exact ⟨rfl, B0⟩
set_option maxHeartbeats 1600000 in
theorem minCuts_farn0_1 (w : World) (a0_0 : Int) (n0_1 : Nat) (X0_1 : Nat → Int) (K0_1 : Nat → Nat) (V0_1 : Nat → Nat → Int) (s0_1 : Option Addr) (c0_1 : Nat)   (g : 1048576 < ((n0_1 : Int) + (suK K0_1 n0_1 : Int))) (gg : (n0_1 : Int) ≤ 9223372036854775807) (k63 : ∀ i, i < n0_1 → (K0_1 i : Int) ≤ 9223372036854775807) (HR0 : Hid (RowTree w s0_1 n0_1 X0_1 K0_1 V0_1)) :
    Calls Try.prog 3 #[.agg #[.int .i64 a0_0, .slice s0_1 n0_1 c0_1]] w fun e w' => e = .returned (.bool true) ∧ Below w.heap.size w w' := by
  go_enter Try.func3, Try.ntmps3
  go_wp2_with fail
  refine (szTree_off1 a0_0 n0_1 X0_1 K0_1 V0_1 s0_1 c0_1 _ _ (by omega) (by omega) (by omega) gg k63 (HR0.out.below (by repeat (first | with_reducible exact Below.refl _ _ | with_reducible refine Below.setCell ?_ (by first | omega | (simp; done) | (simp; omega)) _ | with_reducible refine bDrewN ?_ _ | with_reducible refine Below.drew ?_ | with_reducible refine Below.alloc ?_ (by first | omega | (simp; done) | (simp; omega)) _)))).mono ?_
  rintro e u1 ⟨rfl, hh⟩
  have hb : Below w.heap.size w u1 := Below.trans (by repeat (first | with_reducible exact Below.refl _ _ | with_reducible refine Below.setCell ?_ (by first | omega | (simp; done) | (simp; omega)) _ | with_reducible refine bDrewN ?_ _ | with_reducible refine Below.drew ?_ | with_reducible refine Below.alloc ?_ (by first | omega | (simp; done) | (simp; omega)) _)) (hh.mono (by first | omega | (simp; done) | (simp; omega)))
  have ca00 : u1.cell? ⟨w.heap.size, 0, none⟩ = some (.int .i64 a0_0) := by rw [hh.cell (by first | omega | (simp; done) | (simp; omega))]; first | (simp; done) | (simp [go_sem]; done)
  have ca01 : u1.cell? ⟨w.heap.size, 1, none⟩ = some (.slice s0_1 n0_1 c0_1) := by rw [hh.cell (by first | omega | (simp; done) | (simp; omega))]; first | (simp; done) | (simp [go_sem]; done)
  have za0 : w.heap.size < u1.heap.size := by have := hh.size; simp at this; omega
  have B0 := hb
  clear hb hh
  go_wp2
  go_ret
  exact ⟨rfl, (by repeat (first | with_reducible exact Below.refl _ _ | with_reducible exact B0 | with_reducible refine Below.setCell ?_ (by first | omega | (simp; done) | (simp; omega)) _ | with_reducible refine bDrewN ?_ _ | with_reducible refine Below.drew ?_ | with_reducible refine Below.alloc ?_ (by first | omega | (simp; done) | (simp; omega)) _))⟩
theorem fnExactMinCuts_walk (w : World) (a0_0 : Int) (s0_1 : Option Addr) (n0_1 c0_1 : Nat) (X0_1 : Nat → Int) (K0_1 : Nat → Nat) (V0_1 : Nat → Nat → Int) (w0_0 : (Lit.int .i64 a0_0).wf = true) (m0_1 : n0_1 ≤ 9223372036854775807) (mk0_1 : ∀ j, j < n0_1 → K0_1 j ≤ 9223372036854775807) (R0_1 : RowGat w s0_1 n0_1 X0_1 K0_1 V0_1) :
    Calls Try.prog 3 #[.agg #[.int .i64 a0_0, .slice s0_1 n0_1 c0_1]] w fun e w' => e = .returned (.bool true) ∧ Below w.heap.size w w' := by
  have k60_1 : ∀ i, i < n0_1 → (K0_1 i : Int) ≤ 9223372036854775807 := fun i hi => by have := mk0_1 i hi; omega
  by_cases gn0_1 : ((n0_1 : Int) + (suK K0_1 n0_1 : Int)) ≤ 1048576
  case neg => exact minCuts_farn0_1 w a0_0 n0_1 X0_1 K0_1 V0_1 s0_1 c0_1   (by omega) (by omega) k60_1 R0_1
  obtain ⟨KI, FI, hKI, HFI⟩ := min_ex a0_0 n0_1 X0_1 K0_1 V0_1
  exact minCuts_near w a0_0 n0_1 X0_1 K0_1 V0_1 s0_1 c0_1 (by omega) R0_1 (by omega) KI (kkW FI) (vvW FI) (min_le hKI) (fun s c w q => (specMin_any a0_0 s n0_1 c X0_1 K0_1 V0_1 w q).mono fun e w' h => min_fit HFI h) (fun s c w q => (implMin_any a0_0 s n0_1 c X0_1 K0_1 V0_1 w q).mono fun e w' h => min_fit HFI h)

set_option maxRecDepth 100000 in
theorem fnExactMinCuts_lifted (os : Os) (started : os.Started) (H : Type) (enc : TypeId × Value → H) :
    ReturnsInHanded {} Try.checked os 3 .any (Rows.fnExactMinCutsSpec.pre6 enc Try.prog Try.f3 Rows.fnExactMinCutsRow.domain false) (Rows.fnExactMinCutsSpec.post enc Try.prog Try.f3 false true false false) := by
  refine returnsInHanded_of_change (C := Try.checked) own started (by kernel_rfl) Try.func3
    (ChangeSpec.witness6 (enc := enc) (C := Try.checked) false ⟨#[], #[.agg #[.int .i64 0, .slice none 0 0]], []⟩ 8 (by kernel_rfl) (by kernel_rfl) (by kernel_rfl) (by kernel_rfl)) ?_
  intro W base args ds gs before hval0 hW hcnd _
  have hval : ∀ (j : Nat) t v, Try.f3.params[j]? = some t → args[j]? = some v → Value.okWide Try.prog W .any base t v := hval0
  have hW' := hW
  obtain ⟨p, q, hA0, hV, rfl, hfz, hnd⟩ := hW
  have hA : DataW.TrodAll enc Try.prog W 0 (fun _ => true) true Try.f3.params.toList args.toList ds p := hA0
  rw [Try.params3] at hA hval
  obtain ⟨v0, vs0, d0, ds0, p0, q0, hargs, rfl, rfl, h0, r0⟩ := trodAll_cons hA
  obtain ⟨rfl, rfl, rfl⟩ := trodAll_nil r0
  obtain rfl : args = #[v0] := by cases args; simp_all
  obtain ⟨rfl, rfl⟩ := trodVars_none hV
  have k0 := h0
  have lt0 : ∀ x ∈ p0, x.block < W.heap.size := by obtain ⟨m, hm⟩ := k0; exact DataW.trod_lt m _ _ _ hm
  obtain ⟨a0_0, s0_1, n0_1, c0_1, X0_1, K0_1, V0_1, rfl, w0_0, m0_1, mk0_1, R0_1⟩ := open_Tree (hval 0 24 v0 rfl rfl) h0
  clear hA0 hval0
  refine (fnExactMinCuts_walk W a0_0 s0_1 n0_1 c0_1 X0_1 K0_1 V0_1 w0_0 m0_1 mk0_1 R0_1).mono fun e W' ⟨he, bel⟩ => ?_
  subst he
  exact ⟨_, rfl, _, _, _, [], _, [], hW', trodAll_mk1 (shut_bool Try.underlying4 _), (trodAll_cons_mk (Below.trod laidOut (by kernel_rfl) (of_decide_eq_true (by kernel_rfl)) k0 bel lt0) trodAll_mk0), rfl, bel.frame _, fun h => by cases h⟩

theorem fnExactMinCuts_holds : Rows.FnExactMinCutsSaid :=
  OpenClaim.holds_of_wide 3 Try.f3 rfl rfl rfl rfl rfl rfl rfl ⟨rfl, rfl, rfl, rfl, rfl⟩ rfl rfl rfl rfl rfl (by kernel_rfl) Try.func3 (by kernel_rfl)
    (of_decide_eq_true (by kernel_rfl)) (by unfold Func.isWrapper; first | (rw [if_pos (by decide +kernel)]; kernel_rfl) | (rw [if_neg (by decide +kernel)]; exact ⟨rfl, rfl⟩))
    (fun os started H enc _ => fnExactMinCuts_lifted os started H enc)
#print axioms fnExactMinCuts_holds
end Go.Proofs.Ytljaidacaepmmaa
