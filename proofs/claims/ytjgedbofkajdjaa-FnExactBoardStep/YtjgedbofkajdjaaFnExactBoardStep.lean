/-
What is proved: at every board and scan impl.BoardStep answers as the specification's BoardStep, leaves both as they were, and its answers own their memory; no condition.
-/
import Derived.Test.YtjgedbofkajdjaaBsI
import Derived.Test.YtjgedbofkajdjaaBsS
import Derived.Test.YtjgedbofkajdjaaAlX
import Derived.Test.YtjgedbofkajdjaaBdTO
import Derived.Test.YtjgedbofkajdjaaScTO
import Derived.Deep.RegionHeld3
import Derived.Deep.DeepCutAuto
namespace Go.Proofs.Ytjgedbofkajdjaa
set_option maxRecDepth 40000
open Go.ChangeShapes Go.WideShapes Go.ChangeAt Go.RowKit
set_option linter.unusedVariables false
set_option linter.unusedSimpArgs false

theorem stN_le {x : Int} {n : Nat} {V : Nat → Int × Int × Int × Bool × Int} {mo : Int} {nt : Nat} {Th : Nat → Bool} {ns : Nat} {Se : Nat → Int} {nh : Nat} {Sh : Nat → Int × Int} (hn : (n : Int) ≤ 1048576) : ((stN x n V mo nt Th ns Se nh Sh : Nat) : Int) ≤ 1048576 := by
  unfold stN
  split
  · exact hn
  · simp
theorem stT_le {x : Int} {n : Nat} {V : Nat → Int × Int × Int × Bool × Int} {mo : Int} {nt : Nat} {Th : Nat → Bool} {ns : Nat} {Se : Nat → Int} {nh : Nat} {Sh : Nat → Int × Int} (hn : (n : Int) ≤ 1048576) : (((stT x n V mo nt Th ns Se nh Sh).length : Nat) : Int) ≤ 1048576 := by
  unfold stT
  split
  · have := liL_le (seV (shV (x + 1) V Sh nh) Se ns) n Th mo (x + 1) n
    omega
  · simp
def boardStepRes (c0 : World) (ar0_0 : Int) (nr0_1 : Nat) (Vr0_1 : Nat → Int × Int × Int × Bool × Int) (nr1 : Nat) (Vr1 : Nat → Int) (ar2 : Bool) (v0 : Value) (v1 : Value) (v2 : Value) (wx : World) : Prop := ∃ (P0 : Nat) (s'r0_1 : Option Addr) (c'r0_1 : Nat) (s'r1 : Option Addr) (c'r1 : Nat), v0 = .pointer (some ⟨P0, 0, none⟩) ∧ wx.cell? ⟨P0, 0, none⟩ = some (.int .i64 ar0_0) ∧ wx.cell? ⟨P0, 1, none⟩ = some (.slice s'r0_1 nr0_1 c'r0_1) ∧ P0 < wx.heap.size ∧ c0.heap.size ≤ P0 ∧ v1 = .slice s'r1 nr1 c'r1 ∧ v2 = .bool ar2 ∧ RowBoard wx s'r0_1 nr0_1 Vr0_1 ∧ RowI wx s'r1 nr1 Vr1 ∧ Below c0.heap.size c0 wx
def ZA0 (p : Nat) (W : World) : Prop := p < W.heap.size ∧ (∀ o, W.frozen? ⟨p, o, none⟩ = false) ∧ W.cell? ⟨p, 0, none⟩ = some (.int .i64 0) ∧ W.cell? ⟨p, 1, none⟩ = some (.slice none 0 0)
theorem ZA0.new (W : World) : ZA0 W.heap.size (W.alloc (.cells #[.int .i64 0, .slice none 0 0] 29)) := ⟨by simp, fun o => by simp [go_sem], by simp [go_sem], by simp [go_sem]⟩
theorem ZA0.at {p : Nat} {W W' : World} (hp : p < W.heap.size) (hf : ∀ o, W.frozen? ⟨p, o, none⟩ = false) (c0 : W.cell? ⟨p, 0, none⟩ = some (.int .i64 0)) (c1 : W.cell? ⟨p, 1, none⟩ = some (.slice none 0 0)) (hb : Below W.heap.size W W') : ZA0 p W' := ⟨Nat.lt_of_lt_of_le hp hb.size, fun o => (hb.frozen (p := ⟨p, o, none⟩) hp).trans (hf o), (hb.cell (p := ⟨p, 0, none⟩) hp).trans c0, (hb.cell (p := ⟨p, 1, none⟩) hp).trans c1⟩
theorem ZA0.keep {p : Nat} {W W' : World} (h : ZA0 p W) (hb : Below W.heap.size W W') : ZA0 p W' := ⟨Nat.lt_of_lt_of_le h.1 hb.size, fun o => (hb.frozen (p := ⟨p, o, none⟩) h.1).trans (h.2.1 o), (hb.cell (p := ⟨p, 0, none⟩) h.1).trans h.2.2.1, (hb.cell (p := ⟨p, 1, none⟩) h.1).trans h.2.2.2⟩
theorem hidQ {S : Nat → Prop} {m : Nat} {p : Nat → Prop} (h : ∀ k, S k → m ≤ k ∧ p k) : Hid (∀ k, S k → m ≤ k) := fun k hk => (h k hk).1
theorem keepArgs {W W' : World} {p0 p1 : Nat} {v0_0 v0_1 v1_0 v1_1 v1_2 v1_3 : Value} (h0_0 : W.cell? ⟨p0, 0, none⟩ = some v0_0) (h0_1 : W.cell? ⟨p0, 1, none⟩ = some v0_1) (h1_0 : W.cell? ⟨p1, 0, none⟩ = some v1_0) (h1_1 : W.cell? ⟨p1, 1, none⟩ = some v1_1) (h1_2 : W.cell? ⟨p1, 2, none⟩ = some v1_2) (h1_3 : W.cell? ⟨p1, 3, none⟩ = some v1_3) (z0 : p0 < W.heap.size) (z1 : p1 < W.heap.size) (hb : Below W.heap.size W W') : W'.cell? ⟨p0, 0, none⟩ = some v0_0 ∧ W'.cell? ⟨p0, 1, none⟩ = some v0_1 ∧ W'.cell? ⟨p1, 0, none⟩ = some v1_0 ∧ W'.cell? ⟨p1, 1, none⟩ = some v1_1 ∧ W'.cell? ⟨p1, 2, none⟩ = some v1_2 ∧ W'.cell? ⟨p1, 3, none⟩ = some v1_3 := ⟨(hb.cell (p := ⟨p0, 0, none⟩) z0).trans h0_0, (hb.cell (p := ⟨p0, 1, none⟩) z0).trans h0_1, (hb.cell (p := ⟨p1, 0, none⟩) z1).trans h1_0, (hb.cell (p := ⟨p1, 1, none⟩) z1).trans h1_1, (hb.cell (p := ⟨p1, 2, none⟩) z1).trans h1_2, (hb.cell (p := ⟨p1, 3, none⟩) z1).trans h1_3⟩
theorem keepLaw2_2 {W W' : World} {p r : Nat} {va0 va1 vx0 vx1 : Value} (ha0 : W.cell? ⟨p, 0, none⟩ = some va0) (ha1 : W.cell? ⟨p, 1, none⟩ = some va1) (hx0 : W.cell? ⟨r, 0, none⟩ = some vx0) (hx1 : W.cell? ⟨r, 1, none⟩ = some vx1) (zp : p < W.heap.size) (zr : r < W.heap.size) (hb : Below W.heap.size W W') : W'.cell? ⟨p, 0, none⟩ = some va0 ∧ W'.cell? ⟨p, 1, none⟩ = some va1 ∧ W'.cell? ⟨r, 0, none⟩ = some vx0 ∧ W'.cell? ⟨r, 1, none⟩ = some vx1 :=
  ⟨(hb.cell (p := ⟨p, 0, none⟩) zp).trans ha0, (hb.cell (p := ⟨p, 1, none⟩) zp).trans ha1, (hb.cell (p := ⟨r, 0, none⟩) zr).trans hx0, (hb.cell (p := ⟨r, 1, none⟩) zr).trans hx1⟩
theorem keepLaw4_4 {W W' : World} {p r : Nat} {va0 va1 va2 va3 vx0 vx1 vx2 vx3 : Value} (ha0 : W.cell? ⟨p, 0, none⟩ = some va0) (ha1 : W.cell? ⟨p, 1, none⟩ = some va1) (ha2 : W.cell? ⟨p, 2, none⟩ = some va2) (ha3 : W.cell? ⟨p, 3, none⟩ = some va3) (hx0 : W.cell? ⟨r, 0, none⟩ = some vx0) (hx1 : W.cell? ⟨r, 1, none⟩ = some vx1) (hx2 : W.cell? ⟨r, 2, none⟩ = some vx2) (hx3 : W.cell? ⟨r, 3, none⟩ = some vx3) (zp : p < W.heap.size) (zr : r < W.heap.size) (hb : Below W.heap.size W W') : W'.cell? ⟨p, 0, none⟩ = some va0 ∧ W'.cell? ⟨p, 1, none⟩ = some va1 ∧ W'.cell? ⟨p, 2, none⟩ = some va2 ∧ W'.cell? ⟨p, 3, none⟩ = some va3 ∧ W'.cell? ⟨r, 0, none⟩ = some vx0 ∧ W'.cell? ⟨r, 1, none⟩ = some vx1 ∧ W'.cell? ⟨r, 2, none⟩ = some vx2 ∧ W'.cell? ⟨r, 3, none⟩ = some vx3 :=
  ⟨(hb.cell (p := ⟨p, 0, none⟩) zp).trans ha0, (hb.cell (p := ⟨p, 1, none⟩) zp).trans ha1, (hb.cell (p := ⟨p, 2, none⟩) zp).trans ha2, (hb.cell (p := ⟨p, 3, none⟩) zp).trans ha3, (hb.cell (p := ⟨r, 0, none⟩) zr).trans hx0, (hb.cell (p := ⟨r, 1, none⟩) zr).trans hx1, (hb.cell (p := ⟨r, 2, none⟩) zr).trans hx2, (hb.cell (p := ⟨r, 3, none⟩) zr).trans hx3⟩
set_option maxRecDepth 20000 in
set_option maxHeartbeats 8000000 in
theorem boardStep_near (w : World) (a0_0 : Int) (n0_1 : Nat) (V0_1 : Nat → Int × Int × Int × Bool × Int) (s0_1 : Option Addr) (c0_1 : Nat) (hn0_1 : (n0_1 : Int) ≤ 1048576) (HR0 : Hid (RowBoard w s0_1 n0_1 V0_1)) (a1_0 : Int) (n1_1 : Nat) (V1_1 : Nat → Bool) (n1_2 : Nat) (V1_2 : Nat → Int) (n1_3 : Nat) (V1_3 : Nat → Int × Int) (s1_1 : Option Addr) (c1_1 : Nat) (s1_2 : Option Addr) (c1_2 : Nat) (s1_3 : Option Addr) (c1_3 : Nat) (hn1_1 : (n1_1 : Int) ≤ 1048576) (hn1_2 : (n1_2 : Int) ≤ 1048576) (hn1_3 : (n1_3 : Int) ≤ 1048576) (HR1 : Hid (RowScan w s1_1 n1_1 V1_1 s1_2 n1_2 V1_2 s1_3 n1_3 V1_3)) (gn0_1 : (n0_1 : Int) ≤ 1048576) (gn1_1 : (n1_1 : Int) ≤ 1048576 - n0_1) (gn1_2 : (n1_2 : Int) ≤ 1048576 - n0_1 - n1_1) (gn1_3 : (n1_3 : Int) ≤ 1048576 - n0_1 - n1_1 - n1_2) (ar0_0 : Int) (nr0_1 : Nat) (Vr0_1 : Nat → Int × Int × Int × Bool × Int) (hnr0_1 : (nr0_1 : Int) ≤ 1048576) (nr1 : Nat) (Vr1 : Nat → Int) (hnr1 : (nr1 : Int) ≤ 1048576) (ar2 : Bool)
    (H1 : Hid (∀ (s0_1 : Option Addr) (c0_1 : Nat) (s1_1 : Option Addr) (c1_1 : Nat) (s1_2 : Option Addr) (c1_2 : Nat) (s1_3 : Option Addr) (c1_3 : Nat) w, RowBoard w s0_1 n0_1 V0_1 → RowScan w s1_1 n1_1 V1_1 s1_2 n1_2 V1_2 s1_3 n1_3 V1_3 → Calls Try.prog 22 #[.agg #[.int .i64 a0_0, .slice s0_1 n0_1 c0_1], .agg #[.int .i64 a1_0, .slice s1_1 n1_1 c1_1, .slice s1_2 n1_2 c1_2, .slice s1_3 n1_3 c1_3]] w fun e w' => ∃ (s'r0_1 : Option Addr) (c'r0_1 : Nat) (s'r1 : Option Addr) (c'r1 : Nat) (S0 : Nat → Prop) (S1 : Nat → Prop), e = .returned (.tuple #[.agg #[.int .i64 ar0_0, .slice s'r0_1 nr0_1 c'r0_1], .slice s'r1 nr1 c'r1, .bool ar2]) ∧ (∀ k, S0 k → w.heap.size ≤ k ∧ k < w'.heap.size) ∧ BoardR S0 w' s'r0_1 nr0_1 Vr0_1 ∧ (∀ k, S1 k → w.heap.size ≤ k ∧ k < w'.heap.size) ∧ I64R S1 w' s'r1 nr1 Vr1 ∧ (∀ k, S0 k → ¬ S1 k) ∧ Below w.heap.size w w'))
    (H2 : Hid (∀ (s0_1 : Option Addr) (c0_1 : Nat) (s1_1 : Option Addr) (c1_1 : Nat) (s1_2 : Option Addr) (c1_2 : Nat) (s1_3 : Option Addr) (c1_3 : Nat) w, RowBoard w s0_1 n0_1 V0_1 → RowScan w s1_1 n1_1 V1_1 s1_2 n1_2 V1_2 s1_3 n1_3 V1_3 → Calls Try.prog 24 #[.agg #[.int .i64 a0_0, .slice s0_1 n0_1 c0_1], .agg #[.int .i64 a1_0, .slice s1_1 n1_1 c1_1, .slice s1_2 n1_2 c1_2, .slice s1_3 n1_3 c1_3]] w fun e w' => ∃ (s'r0_1 : Option Addr) (c'r0_1 : Nat) (s'r1 : Option Addr) (c'r1 : Nat) (S0 : Nat → Prop) (S1 : Nat → Prop), e = .returned (.tuple #[.agg #[.int .i64 ar0_0, .slice s'r0_1 nr0_1 c'r0_1], .slice s'r1 nr1 c'r1, .bool ar2]) ∧ (∀ k, S0 k → w.heap.size ≤ k ∧ k < w'.heap.size) ∧ BoardR S0 w' s'r0_1 nr0_1 Vr0_1 ∧ (∀ k, S1 k → w.heap.size ≤ k ∧ k < w'.heap.size) ∧ I64R S1 w' s'r1 nr1 Vr1 ∧ (∀ k, S0 k → ¬ S1 k) ∧ Below w.heap.size w w')) :
    Calls Try.prog 6 #[.agg #[.int .i64 a0_0, .slice s0_1 n0_1 c0_1], .agg #[.int .i64 a1_0, .slice s1_1 n1_1 c1_1, .slice s1_2 n1_2 c1_2, .slice s1_3 n1_3 c1_3]] w fun e w' => e = .returned (.bool true) ∧ Below w.heap.size w w' := by
  have sto := store_slT
  go_enter Try.func6, Try.ntmps6
  go_wp2_with fail
  refine (szBoard_on a0_0 n0_1 V0_1 s0_1 c0_1 _ _ (by omega) (by omega) (by omega)).mono ?_
  rintro e w1 ⟨rfl, hh⟩
  have hb : Below w.heap.size w w1 := Below.trans (by repeat (first | with_reducible exact Below.refl _ _ | with_reducible refine Below.setCell ?_ (by first | omega | (simp; done) | (simp; omega)) _ | with_reducible refine bDrewN ?_ _ | with_reducible refine Below.drew ?_ | with_reducible refine Below.alloc ?_ (by first | omega | (simp; done) | (simp; omega)) _)) (hh.mono (by first | omega | (simp; done) | (simp; omega)))
  have lw1 : w.heap.size ≤ w1.heap.size := hb.size
  have ca00 : w1.cell? ⟨w.heap.size, 0, none⟩ = some (.int .i64 a0_0) := by rw [hh.cell (by first | omega | (simp; done) | (simp; omega))]; first | (simp; done) | (simp [go_sem]; done)
  have ca01 : w1.cell? ⟨w.heap.size, 1, none⟩ = some (.slice s0_1 n0_1 c0_1) := by rw [hh.cell (by first | omega | (simp; done) | (simp; omega))]; first | (simp; done) | (simp [go_sem]; done)
  have za0 : w.heap.size < w1.heap.size := by have := hh.size; simp at this; omega
  have ya0 : w.heap.size < w1.heap.size := za0
  have ca10 : w1.cell? ⟨w.heap.size + 1, 0, none⟩ = some (.int .i64 a1_0) := by rw [hh.cell (by first | omega | (simp; done) | (simp; omega))]; first | (simp; done) | (simp [go_sem]; done)
  have ca11 : w1.cell? ⟨w.heap.size + 1, 1, none⟩ = some (.slice s1_1 n1_1 c1_1) := by rw [hh.cell (by first | omega | (simp; done) | (simp; omega))]; first | (simp; done) | (simp [go_sem]; done)
  have ca12 : w1.cell? ⟨w.heap.size + 1, 2, none⟩ = some (.slice s1_2 n1_2 c1_2) := by rw [hh.cell (by first | omega | (simp; done) | (simp; omega))]; first | (simp; done) | (simp [go_sem]; done)
  have ca13 : w1.cell? ⟨w.heap.size + 1, 3, none⟩ = some (.slice s1_3 n1_3 c1_3) := by rw [hh.cell (by first | omega | (simp; done) | (simp; omega))]; first | (simp; done) | (simp [go_sem]; done)
  have za1 : w.heap.size + 1 < w1.heap.size := by have := hh.size; simp at this; omega
  have ya1 : w.heap.size + 1 < w1.heap.size := za1
  have B0 : Below w.heap.size w w1 := hb
  clear hb hh
  go_wp2_with fail
  refine (szScan_on a1_0 n1_1 V1_1 n1_2 V1_2 n1_3 V1_3 s1_1 c1_1 s1_2 c1_2 s1_3 c1_3 _ _ (by omega) (by omega) (by omega) (by omega) (by omega)).mono ?_
  rintro e w2 ⟨rfl, hh⟩
  have hb : Below w1.heap.size w1 w2 := Below.trans (by repeat (first | with_reducible exact Below.refl _ _ | with_reducible refine Below.setCell ?_ (by first | omega | (simp; done) | (simp; omega)) _ | with_reducible refine bDrewN ?_ _ | with_reducible refine Below.drew ?_ | with_reducible refine Below.alloc ?_ (by first | omega | (simp; done) | (simp; omega)) _)) (hh.mono (by first | omega | (simp; done) | (simp; omega)))
  have lw2 : w1.heap.size ≤ w2.heap.size := hb.size
  replace ca00 := (hb.cell (p := ⟨w.heap.size, 0, none⟩) za0).trans ca00
  replace ca01 := (hb.cell (p := ⟨w.heap.size, 1, none⟩) za0).trans ca01
  replace za0 := Nat.lt_of_lt_of_le za0 hb.size
  replace ca10 := (hb.cell (p := ⟨w.heap.size + 1, 0, none⟩) za1).trans ca10
  replace ca11 := (hb.cell (p := ⟨w.heap.size + 1, 1, none⟩) za1).trans ca11
  replace ca12 := (hb.cell (p := ⟨w.heap.size + 1, 2, none⟩) za1).trans ca12
  replace ca13 := (hb.cell (p := ⟨w.heap.size + 1, 3, none⟩) za1).trans ca13
  replace za1 := Nat.lt_of_lt_of_le za1 hb.size
  replace B0 : Below w.heap.size w w2 := B0.trans (hb.mono B0.size)
  clear hb hh
  go_upto_region 8 with fail
  have HB : Hid (Below w.heap.size w w2) := B0
  go_cut [6, 7, 8] (fun y0 y1 y2 wx => boardStepRes w2 ar0_0 nr0_1 Vr0_1 nr1 Vr1 ar2 y0 y1 y2 wx)
  case first =>
    go_region_held3 (fun w' => w'.cell? ⟨w.heap.size, 0, none⟩ = some (.int .i64 a0_0) ∧ w'.cell? ⟨w.heap.size, 1, none⟩ = some (.slice s0_1 n0_1 c0_1) ∧ w'.cell? ⟨w.heap.size + 1, 0, none⟩ = some (.int .i64 a1_0) ∧ w'.cell? ⟨w.heap.size + 1, 1, none⟩ = some (.slice s1_1 n1_1 c1_1) ∧ w'.cell? ⟨w.heap.size + 1, 2, none⟩ = some (.slice s1_2 n1_2 c1_2) ∧ w'.cell? ⟨w.heap.size + 1, 3, none⟩ = some (.slice s1_3 n1_3 c1_3)) (first | with_reducible exact ⟨ca00, ca01, ca10, ca11, ca12, ca13⟩ | (refine keepArgs ca00 ca01 ca10 ca11 ca12 ca13 za0 za1 ?_; exact (by repeat (first | with_reducible exact Below.refl _ _ | with_reducible exact B9 | with_reducible exact B71 | with_reducible exact B70 | with_reducible refine Below.setCell ?_ (by first | omega | (simp; done) | (simp; omega)) _ | with_reducible refine bDrewN ?_ _ | with_reducible refine Below.drew ?_ | with_reducible refine Below.alloc ?_ (by first | omega | (simp; done) | (simp; omega)) _)))) (first
      | (go_at_call 22; refine (H1.out st0_1 _ st1_1 _ st1_2 _ st1_3 _ _ (PY1_0.out.below (by repeat (first | with_reducible exact Below.refl _ _ | with_reducible refine Below.setCell ?_ (by first | omega | (simp; done) | (simp; omega)) _ | with_reducible refine bDrewN ?_ _ | with_reducible refine Below.drew ?_ | with_reducible refine Below.alloc ?_ (by first | omega | (simp; done) | (simp; omega)) _))) (PY1_1.out.below (by repeat (first | with_reducible exact Below.refl _ _ | with_reducible refine Below.setCell ?_ (by first | omega | (simp; done) | (simp; omega)) _ | with_reducible refine bDrewN ?_ _ | with_reducible refine Below.drew ?_ | with_reducible refine Below.alloc ?_ (by first | omega | (simp; done) | (simp; omega)) _)))).mono ?_; rintro e wy2 ⟨sWr0_1, cWr0_1, sWr1, cWr1, SW0, SW1, rfl, QR0, OR0, QR1, OR1, -, h9⟩; have hy2 : Below wy1.heap.size wy1 wy2 := Below.trans (by repeat (first | with_reducible exact Below.refl _ _ | with_reducible refine Below.setCell ?_ (by first | omega | (simp; done) | (simp; omega)) _ | with_reducible refine bDrewN ?_ _ | with_reducible refine Below.drew ?_ | with_reducible refine Below.alloc ?_ (by first | omega | (simp; done) | (simp; omega)) _)) (h9.mono (by first | omega | (simp; done) | (simp; omega))); have B9 : Below w2.heap.size w2 wy2 := B71.trans (hy2.mono B71.size); have s9 := B9.size; have sy2 := hy2.size; have HOR0 : Hid (BoardR SW0 wy2 sWr0_1 nr0_1 Vr0_1) := OR0; have HQR0 := hidQ QR0; have HOR1 : Hid (I64R SW1 wy2 sWr1 nr1 Vr1) := OR1; have HQR1 := hidQ QR1; (try have zq0 := Z0_1_0.1); (try have Z0_2_0 := ZA0.keep Z0_1_0 hy2); (try obtain ⟨zp0, zf0, zc0_0, zc0_1⟩ := Z0_2_0); (try have zq0 := Z0_1_1.1); (try have Z0_2_1 := ZA0.keep Z0_1_1 hy2); (try obtain ⟨zp0, zf0, zc0_0, zc0_1⟩ := Z0_2_1); (try have Z0_2_2 := ZA0.at (p := wy1.heap.size) (by first | (simp; done) | fail) (fun o => by first | (simp [go_sem]; done) | fail) (by first | (simp [go_sem]; done) | fail) (by first | (simp [go_sem]; done) | fail) h9); (try obtain ⟨zp0, zf0, zc0_0, zc0_1⟩ := Z0_2_2); clear h9 OR0 QR0 OR1 QR1)
      | (go_at_call 23; have hq1 := B70; refine (toScan_r a1_0 n1_1 V1_1 n1_2 V1_2 n1_3 V1_3 s1_1 c1_1 s1_2 c1_2 s1_3 c1_3 _ hn1_1 hn1_2 hn1_3 (HR1.out.below (HB.out.trans (Below.mono (by repeat (first | with_reducible exact Below.refl _ _ | with_reducible exact B70 | with_reducible refine Below.setCell ?_ (by first | omega | (simp; done) | (simp; omega)) _ | with_reducible refine bDrewN ?_ _ | with_reducible refine Below.drew ?_ | with_reducible refine Below.alloc ?_ (by first | omega | (simp; done) | (simp; omega)) _)) HB.out.size)))).mono ?_; rintro e wy1 ⟨st1_1, st1_2, st1_3, St1, rfl, -, OY1, h71⟩; have hy1 : Below wy0.heap.size wy0 wy1 := Below.trans (by repeat (first | with_reducible exact Below.refl _ _ | with_reducible refine Below.setCell ?_ (by first | omega | (simp; done) | (simp; omega)) _ | with_reducible refine bDrewN ?_ _ | with_reducible refine Below.drew ?_ | with_reducible refine Below.alloc ?_ (by first | omega | (simp; done) | (simp; omega)) _)) (h71.mono (by first | omega | (simp; done) | (simp; omega))); have B71 : Below w2.heap.size w2 wy1 := B70.trans (hy1.mono B70.size); have s71 := B71.size; have sy1 := hy1.size; have PY1_1 : Hid (RowScan wy1 st1_1 n1_1 V1_1 st1_2 n1_2 V1_2 st1_3 n1_3 V1_3) := OY1.row; have PY1_0 : Hid (RowBoard wy1 st0_1 n0_1 V0_1) := PY0_0.out.below hy1; (try have Z0_1_0 := ZA0.keep Z0_0_0 hy1); (try have Z0_1_1 := ZA0.at (p := wy0.heap.size) (by first | (simp; done) | fail) (fun o => by first | (simp [go_sem]; done) | fail) (by first | (simp [go_sem]; done) | fail) (by first | (simp [go_sem]; done) | fail) h71); clear h71 OY1)
      | (go_at_call 10; refine (toBoard_r a0_0 n0_1 V0_1 s0_1 c0_1 _ hn0_1 (HR0.out.below (HB.out.trans (Below.mono (by repeat (first | with_reducible exact Below.refl _ _ | with_reducible refine Below.setCell ?_ (by first | omega | (simp; done) | (simp; omega)) _ | with_reducible refine bDrewN ?_ _ | with_reducible refine Below.drew ?_ | with_reducible refine Below.alloc ?_ (by first | omega | (simp; done) | (simp; omega)) _)) HB.out.size)))).mono ?_; rintro e wy0 ⟨st0_1, St0, rfl, -, OY0, h70⟩; have hy0 : Below w2.heap.size w2 wy0 := Below.trans (by repeat (first | with_reducible exact Below.refl _ _ | with_reducible refine Below.setCell ?_ (by first | omega | (simp; done) | (simp; omega)) _ | with_reducible refine bDrewN ?_ _ | with_reducible refine Below.drew ?_ | with_reducible refine Below.alloc ?_ (by first | omega | (simp; done) | (simp; omega)) _)) (h70.mono (by first | omega | (simp; done) | (simp; omega))); have B70 : Below w2.heap.size w2 wy0 := hy0; have s70 := B70.size; have sy0 := hy0.size; have PY0_0 : Hid (RowBoard wy0 st0_1 n0_1 V0_1) := OY0.row; (try have Z0_0_0 := ZA0.at (p := w2.heap.size) (by first | (simp; done) | fail) (fun o => by first | (simp [go_sem]; done) | fail) (by first | (simp [go_sem]; done) | fail) (by first | (simp [go_sem]; done) | fail) h70); clear h70 OY0))
    all_goals
      go_wp2_with fail
      go_meet
      refine ⟨_, sWr0_1, cWr0_1, sWr1, cWr1, rfl, ?_, ?_, ?_, ?_, rfl, rfl, ?_, ?_, ?_⟩
      · first | (simp [go_sem, zc0_0, zc0_1]; done) | (simp [go_sem]; done)
      · first | (simp [go_sem, zc0_0, zc0_1]; done) | (simp [go_sem]; done)
      · first | (simp; done) | (simp; omega) | omega
      · omega
      · first | exact (HOR0.out.below (below0 _ _)).row | exact (HOR0.out.keep (by simp) (fun k hk hl => (set_block (by simpa using hl) (by have := HQR0.out k hk; first | omega | (simp at this; omega))).trans (set_block hl (by have := HQR0.out k hk; first | omega | (simp at this; omega))))).row
      · first | exact (HOR1.out.below (below0 _ _)).row | exact (HOR1.out.keep (by simp) (fun k hk hl => (set_block (by simpa using hl) (by have := HQR1.out k hk; first | omega | (simp at this; omega))).trans (set_block hl (by have := HQR1.out k hk; first | omega | (simp at this; omega))))).row
      · exact (by repeat (first | with_reducible exact Below.refl _ _ | with_reducible exact B9 | with_reducible refine Below.setCell ?_ (by first | omega | (simp; done) | (simp; omega)) _ | with_reducible refine bDrewN ?_ _ | with_reducible refine Below.drew ?_ | with_reducible refine Below.alloc ?_ (by first | omega | (simp; done) | (simp; omega)) _))
  obtain ⟨PW0, sWr0_1, cWr0_1, sWr1, cWr1, rfl, cw00, cw01, zw0, loW0, rfl, rfl, RW0, RW1, hb⟩ := hcut
  rename World => w3
  have lw3 : w2.heap.size ≤ w3.heap.size := hb.size
  have yw0 := zw0
  replace RW0 : Hid (RowBoard w3 sWr0_1 nr0_1 Vr0_1) := RW0
  replace RW1 : Hid (RowI w3 sWr1 nr1 Vr1) := RW1
  replace ca00 := (hb.cell (p := ⟨w.heap.size, 0, none⟩) za0).trans ca00
  replace ca01 := (hb.cell (p := ⟨w.heap.size, 1, none⟩) za0).trans ca01
  replace za0 := Nat.lt_of_lt_of_le za0 hb.size
  replace ca10 := (hb.cell (p := ⟨w.heap.size + 1, 0, none⟩) za1).trans ca10
  replace ca11 := (hb.cell (p := ⟨w.heap.size + 1, 1, none⟩) za1).trans ca11
  replace ca12 := (hb.cell (p := ⟨w.heap.size + 1, 2, none⟩) za1).trans ca12
  replace ca13 := (hb.cell (p := ⟨w.heap.size + 1, 3, none⟩) za1).trans ca13
  replace za1 := Nat.lt_of_lt_of_le za1 hb.size
  replace B0 : Below w.heap.size w w3 := B0.trans (hb.mono B0.size)
  clear hb HB
  have Bs : Below w3.heap.size w3 w3 := Below.refl _ _
  go_wp2_with fail
  refine (toBoard_r a0_0 n0_1 V0_1 s0_1 c0_1 _ hn0_1 (HR0.out.below B0)).mono ?_
  rintro e w4 ⟨sx0_1, Sx0, rfl, Q, O, hh⟩
  have hb : Below w3.heap.size w3 w4 := Below.trans (by repeat (first | with_reducible exact Below.refl _ _ | with_reducible refine Below.setCell ?_ (by first | omega | (simp; done) | (simp; omega)) _ | with_reducible refine bDrewN ?_ _ | with_reducible refine Below.drew ?_ | with_reducible refine Below.alloc ?_ (by first | omega | (simp; done) | (simp; omega)) _)) (hh.mono (by first | omega | (simp; done) | (simp; omega)))
  have lw4 : w3.heap.size ≤ w4.heap.size := hb.size
  replace ca00 := (hb.cell (p := ⟨w.heap.size, 0, none⟩) za0).trans ca00
  replace ca01 := (hb.cell (p := ⟨w.heap.size, 1, none⟩) za0).trans ca01
  replace za0 := Nat.lt_of_lt_of_le za0 hb.size
  replace ca10 := (hb.cell (p := ⟨w.heap.size + 1, 0, none⟩) za1).trans ca10
  replace ca11 := (hb.cell (p := ⟨w.heap.size + 1, 1, none⟩) za1).trans ca11
  replace ca12 := (hb.cell (p := ⟨w.heap.size + 1, 2, none⟩) za1).trans ca12
  replace ca13 := (hb.cell (p := ⟨w.heap.size + 1, 3, none⟩) za1).trans ca13
  replace za1 := Nat.lt_of_lt_of_le za1 hb.size
  replace cw00 := (hb.cell (p := ⟨PW0, 0, none⟩) zw0).trans cw00
  replace cw01 := (hb.cell (p := ⟨PW0, 1, none⟩) zw0).trans cw01
  replace zw0 := Nat.lt_of_lt_of_le zw0 hb.size
  replace Bs : Below w3.heap.size w3 w4 := Bs.trans (hb.mono Bs.size)
  replace B0 : Below w.heap.size w w4 := B0.trans (hb.mono B0.size)
  clear hb hh
  have Qx0 : Hid (∀ k, Sx0 k → w3.heap.size ≤ k ∧ k < w4.heap.size) := (show ∀ k, Sx0 k → w3.heap.size ≤ k ∧ k < w4.heap.size from by simpa using Q)
  have Ox0 : Hid (BoardR Sx0 w4 sx0_1 n0_1 V0_1) := O
  clear O Q
  go_wp2_with fail
  refine (toScan_r a1_0 n1_1 V1_1 n1_2 V1_2 n1_3 V1_3 s1_1 c1_1 s1_2 c1_2 s1_3 c1_3 _ hn1_1 hn1_2 hn1_3 ((HR1.out.below B0).below (below0 _ _))).mono ?_
  rintro e w5 ⟨sx1_1, sx1_2, sx1_3, Sx1, rfl, Q, O, hh⟩
  have hb : Below w4.heap.size w4 w5 := Below.trans (by repeat (first | with_reducible exact Below.refl _ _ | with_reducible refine Below.setCell ?_ (by first | omega | (simp; done) | (simp; omega)) _ | with_reducible refine bDrewN ?_ _ | with_reducible refine Below.drew ?_ | with_reducible refine Below.alloc ?_ (by first | omega | (simp; done) | (simp; omega)) _)) (hh.mono (by first | omega | (simp; done) | (simp; omega)))
  have lw5 : w4.heap.size ≤ w5.heap.size := hb.size
  have cx00 : w5.cell? ⟨w4.heap.size, 0, none⟩ = some (.int .i64 a0_0) := by rw [hh.cell (by first | omega | (simp; done) | (simp; omega))]; first | (simp; done) | (simp [go_sem]; done)
  have cx01 : w5.cell? ⟨w4.heap.size, 1, none⟩ = some (.slice sx0_1 n0_1 n0_1) := by rw [hh.cell (by first | omega | (simp; done) | (simp; omega))]; first | (simp; done) | (simp [go_sem]; done)
  have zx0 : w4.heap.size < w5.heap.size := by have := hh.size; simp at this; omega
  have yx0 : w4.heap.size < w5.heap.size := zx0
  replace ca00 := (hb.cell (p := ⟨w.heap.size, 0, none⟩) za0).trans ca00
  replace ca01 := (hb.cell (p := ⟨w.heap.size, 1, none⟩) za0).trans ca01
  replace za0 := Nat.lt_of_lt_of_le za0 hb.size
  replace ca10 := (hb.cell (p := ⟨w.heap.size + 1, 0, none⟩) za1).trans ca10
  replace ca11 := (hb.cell (p := ⟨w.heap.size + 1, 1, none⟩) za1).trans ca11
  replace ca12 := (hb.cell (p := ⟨w.heap.size + 1, 2, none⟩) za1).trans ca12
  replace ca13 := (hb.cell (p := ⟨w.heap.size + 1, 3, none⟩) za1).trans ca13
  replace za1 := Nat.lt_of_lt_of_le za1 hb.size
  replace cw00 := (hb.cell (p := ⟨PW0, 0, none⟩) zw0).trans cw00
  replace cw01 := (hb.cell (p := ⟨PW0, 1, none⟩) zw0).trans cw01
  replace zw0 := Nat.lt_of_lt_of_le zw0 hb.size
  replace Ox0 : Hid (BoardR Sx0 w5 sx0_1 n0_1 V0_1) := Ox0.out.below hb
  replace Bs : Below w3.heap.size w3 w5 := Bs.trans (hb.mono Bs.size)
  replace B0 : Below w.heap.size w w5 := B0.trans (hb.mono B0.size)
  clear hb hh
  have Qx1 : Hid (∀ k, Sx1 k → w4.heap.size + 1 ≤ k ∧ k < w5.heap.size) := (show ∀ k, Sx1 k → w4.heap.size + 1 ≤ k ∧ k < w5.heap.size from by simpa using Q)
  have Ox1 : Hid (ScanR Sx1 w5 sx1_1 n1_1 V1_1 sx1_2 n1_2 V1_2 sx1_3 n1_3 V1_3) := O
  clear O Q
  go_wp2_with fail
  refine (H2.out sx0_1 _ sx1_1 _ sx1_2 _ sx1_3 _ _ ((Ox0.out.row).below (below0 _ _)) ((Ox1.out.row).below (below0 _ _))).mono ?_
  rintro e w6 ⟨sgr0_1, cgr0_1, sgr1, cgr1, Sg0, Sg1, rfl, Q0, O0, Q1, O1, D0_1, hh⟩
  have hb : Below w5.heap.size w5 w6 := Below.trans (by repeat (first | with_reducible exact Below.refl _ _ | with_reducible refine Below.setCell ?_ (by first | omega | (simp; done) | (simp; omega)) _ | with_reducible refine bDrewN ?_ _ | with_reducible refine Below.drew ?_ | with_reducible refine Below.alloc ?_ (by first | omega | (simp; done) | (simp; omega)) _)) (hh.mono (by first | omega | (simp; done) | (simp; omega)))
  have lw6 : w5.heap.size ≤ w6.heap.size := hb.size
  have cx10 : w6.cell? ⟨w5.heap.size, 0, none⟩ = some (.int .i64 a1_0) := by rw [hh.cell (by first | omega | (simp; done) | (simp; omega))]; first | (simp; done) | (simp [go_sem]; done)
  have cx11 : w6.cell? ⟨w5.heap.size, 1, none⟩ = some (.slice sx1_1 n1_1 n1_1) := by rw [hh.cell (by first | omega | (simp; done) | (simp; omega))]; first | (simp; done) | (simp [go_sem]; done)
  have cx12 : w6.cell? ⟨w5.heap.size, 2, none⟩ = some (.slice sx1_2 n1_2 n1_2) := by rw [hh.cell (by first | omega | (simp; done) | (simp; omega))]; first | (simp; done) | (simp [go_sem]; done)
  have cx13 : w6.cell? ⟨w5.heap.size, 3, none⟩ = some (.slice sx1_3 n1_3 n1_3) := by rw [hh.cell (by first | omega | (simp; done) | (simp; omega))]; first | (simp; done) | (simp [go_sem]; done)
  have zx1 : w5.heap.size < w6.heap.size := by have := hh.size; simp at this; omega
  have yx1 : w5.heap.size < w6.heap.size := zx1
  replace ca00 := (hb.cell (p := ⟨w.heap.size, 0, none⟩) za0).trans ca00
  replace ca01 := (hb.cell (p := ⟨w.heap.size, 1, none⟩) za0).trans ca01
  replace za0 := Nat.lt_of_lt_of_le za0 hb.size
  replace ca10 := (hb.cell (p := ⟨w.heap.size + 1, 0, none⟩) za1).trans ca10
  replace ca11 := (hb.cell (p := ⟨w.heap.size + 1, 1, none⟩) za1).trans ca11
  replace ca12 := (hb.cell (p := ⟨w.heap.size + 1, 2, none⟩) za1).trans ca12
  replace ca13 := (hb.cell (p := ⟨w.heap.size + 1, 3, none⟩) za1).trans ca13
  replace za1 := Nat.lt_of_lt_of_le za1 hb.size
  replace cw00 := (hb.cell (p := ⟨PW0, 0, none⟩) zw0).trans cw00
  replace cw01 := (hb.cell (p := ⟨PW0, 1, none⟩) zw0).trans cw01
  replace zw0 := Nat.lt_of_lt_of_le zw0 hb.size
  replace cx00 := (hb.cell (p := ⟨w4.heap.size, 0, none⟩) zx0).trans cx00
  replace cx01 := (hb.cell (p := ⟨w4.heap.size, 1, none⟩) zx0).trans cx01
  replace zx0 := Nat.lt_of_lt_of_le zx0 hb.size
  replace Ox0 : Hid (BoardR Sx0 w6 sx0_1 n0_1 V0_1) := Ox0.out.below hb
  replace Ox1 : Hid (ScanR Sx1 w6 sx1_1 n1_1 V1_1 sx1_2 n1_2 V1_2 sx1_3 n1_3 V1_3) := Ox1.out.below hb
  replace Bs : Below w3.heap.size w3 w6 := Bs.trans (hb.mono Bs.size)
  replace B0 : Below w.heap.size w w6 := B0.trans (hb.mono B0.size)
  clear hb hh
  have Qg0 : Hid (∀ k, Sg0 k → w5.heap.size + 1 ≤ k ∧ k < w6.heap.size) := (show ∀ k, Sg0 k → w5.heap.size + 1 ≤ k ∧ k < w6.heap.size from by simpa using Q0)
  have Og0 : Hid (BoardR Sg0 w6 sgr0_1 nr0_1 Vr0_1) := O0
  clear O0 Q0
  have Qg1 : Hid (∀ k, Sg1 k → w5.heap.size + 1 ≤ k ∧ k < w6.heap.size) := (show ∀ k, Sg1 k → w5.heap.size + 1 ≤ k ∧ k < w6.heap.size from by simpa using Q1)
  have Og1 : Hid (I64R Sg1 w6 sgr1 nr1 Vr1) := O1
  clear O1 Q1
  have Dg0_g1 : Hid (∀ k, Sg0 k → ¬ Sg1 k) := D0_1
  clear D0_1
  go_wp2_with fail
  refine (eqBoard_r ar0_0 nr0_1 Vr0_1 sgr0_1 cgr0_1 sWr0_1 cWr0_1 _ hnr0_1 ((Og0.out.row).below (below0 _ _)) ((RW0.out.below Bs).below (below0 _ _))).mono ?_
  rintro e w7 ⟨rfl, hh⟩
  have hb : Below w6.heap.size w6 w7 := Below.trans (by repeat (first | with_reducible exact Below.refl _ _ | with_reducible refine Below.setCell ?_ (by first | omega | (simp; done) | (simp; omega)) _ | with_reducible refine bDrewN ?_ _ | with_reducible refine Below.drew ?_ | with_reducible refine Below.alloc ?_ (by first | omega | (simp; done) | (simp; omega)) _)) (hh.mono (by first | omega | (simp; done) | (simp; omega)))
  have lw7 : w6.heap.size ≤ w7.heap.size := hb.size
  have cg00 : w7.cell? ⟨w6.heap.size, 0, none⟩ = some (.int .i64 ar0_0) := by rw [hh.cell (by first | omega | (simp; done) | (simp; omega))]; first | (simp; done) | (simp [go_sem]; done)
  have cg01 : w7.cell? ⟨w6.heap.size, 1, none⟩ = some (.slice sgr0_1 nr0_1 cgr0_1) := by rw [hh.cell (by first | omega | (simp; done) | (simp; omega))]; first | (simp; done) | (simp [go_sem]; done)
  have zg0 : w6.heap.size < w7.heap.size := by have := hh.size; simp at this; omega
  have yg0 : w6.heap.size < w7.heap.size := zg0
  replace ca00 := (hb.cell (p := ⟨w.heap.size, 0, none⟩) za0).trans ca00
  replace ca01 := (hb.cell (p := ⟨w.heap.size, 1, none⟩) za0).trans ca01
  replace za0 := Nat.lt_of_lt_of_le za0 hb.size
  replace ca10 := (hb.cell (p := ⟨w.heap.size + 1, 0, none⟩) za1).trans ca10
  replace ca11 := (hb.cell (p := ⟨w.heap.size + 1, 1, none⟩) za1).trans ca11
  replace ca12 := (hb.cell (p := ⟨w.heap.size + 1, 2, none⟩) za1).trans ca12
  replace ca13 := (hb.cell (p := ⟨w.heap.size + 1, 3, none⟩) za1).trans ca13
  replace za1 := Nat.lt_of_lt_of_le za1 hb.size
  replace cw00 := (hb.cell (p := ⟨PW0, 0, none⟩) zw0).trans cw00
  replace cw01 := (hb.cell (p := ⟨PW0, 1, none⟩) zw0).trans cw01
  replace zw0 := Nat.lt_of_lt_of_le zw0 hb.size
  replace cx00 := (hb.cell (p := ⟨w4.heap.size, 0, none⟩) zx0).trans cx00
  replace cx01 := (hb.cell (p := ⟨w4.heap.size, 1, none⟩) zx0).trans cx01
  replace zx0 := Nat.lt_of_lt_of_le zx0 hb.size
  replace cx10 := (hb.cell (p := ⟨w5.heap.size, 0, none⟩) zx1).trans cx10
  replace cx11 := (hb.cell (p := ⟨w5.heap.size, 1, none⟩) zx1).trans cx11
  replace cx12 := (hb.cell (p := ⟨w5.heap.size, 2, none⟩) zx1).trans cx12
  replace cx13 := (hb.cell (p := ⟨w5.heap.size, 3, none⟩) zx1).trans cx13
  replace zx1 := Nat.lt_of_lt_of_le zx1 hb.size
  replace Ox0 : Hid (BoardR Sx0 w7 sx0_1 n0_1 V0_1) := Ox0.out.below hb
  replace Ox1 : Hid (ScanR Sx1 w7 sx1_1 n1_1 V1_1 sx1_2 n1_2 V1_2 sx1_3 n1_3 V1_3) := Ox1.out.below hb
  replace Og0 : Hid (BoardR Sg0 w7 sgr0_1 nr0_1 Vr0_1) := Og0.out.below hb
  replace Og1 : Hid (I64R Sg1 w7 sgr1 nr1 Vr1) := Og1.out.below hb
  replace Bs : Below w3.heap.size w3 w7 := Bs.trans (hb.mono Bs.size)
  replace B0 : Below w.heap.size w w7 := B0.trans (hb.mono B0.size)
  clear hb hh
  go_wp2_with fail
  refine (eqInt64S_any sgr1 sWr1 nr1 _ _ Vr1 _ hnr1 (Og1.out.row) (RW1.out.below Bs)).mono ?_
  rintro e w8 ⟨rfl, hh⟩
  have hb : Below w7.heap.size w7 w8 := Below.trans (by repeat (first | with_reducible exact Below.refl _ _ | with_reducible refine Below.setCell ?_ (by first | omega | (simp; done) | (simp; omega)) _ | with_reducible refine bDrewN ?_ _ | with_reducible refine Below.drew ?_ | with_reducible refine Below.alloc ?_ (by first | omega | (simp; done) | (simp; omega)) _)) (hh.mono (by first | omega | (simp; done) | (simp; omega)))
  have lw8 : w7.heap.size ≤ w8.heap.size := hb.size
  replace ca00 := (hb.cell (p := ⟨w.heap.size, 0, none⟩) za0).trans ca00
  replace ca01 := (hb.cell (p := ⟨w.heap.size, 1, none⟩) za0).trans ca01
  replace za0 := Nat.lt_of_lt_of_le za0 hb.size
  replace ca10 := (hb.cell (p := ⟨w.heap.size + 1, 0, none⟩) za1).trans ca10
  replace ca11 := (hb.cell (p := ⟨w.heap.size + 1, 1, none⟩) za1).trans ca11
  replace ca12 := (hb.cell (p := ⟨w.heap.size + 1, 2, none⟩) za1).trans ca12
  replace ca13 := (hb.cell (p := ⟨w.heap.size + 1, 3, none⟩) za1).trans ca13
  replace za1 := Nat.lt_of_lt_of_le za1 hb.size
  replace cw00 := (hb.cell (p := ⟨PW0, 0, none⟩) zw0).trans cw00
  replace cw01 := (hb.cell (p := ⟨PW0, 1, none⟩) zw0).trans cw01
  replace zw0 := Nat.lt_of_lt_of_le zw0 hb.size
  replace cx00 := (hb.cell (p := ⟨w4.heap.size, 0, none⟩) zx0).trans cx00
  replace cx01 := (hb.cell (p := ⟨w4.heap.size, 1, none⟩) zx0).trans cx01
  replace zx0 := Nat.lt_of_lt_of_le zx0 hb.size
  replace cx10 := (hb.cell (p := ⟨w5.heap.size, 0, none⟩) zx1).trans cx10
  replace cx11 := (hb.cell (p := ⟨w5.heap.size, 1, none⟩) zx1).trans cx11
  replace cx12 := (hb.cell (p := ⟨w5.heap.size, 2, none⟩) zx1).trans cx12
  replace cx13 := (hb.cell (p := ⟨w5.heap.size, 3, none⟩) zx1).trans cx13
  replace zx1 := Nat.lt_of_lt_of_le zx1 hb.size
  replace cg00 := (hb.cell (p := ⟨w6.heap.size, 0, none⟩) zg0).trans cg00
  replace cg01 := (hb.cell (p := ⟨w6.heap.size, 1, none⟩) zg0).trans cg01
  replace zg0 := Nat.lt_of_lt_of_le zg0 hb.size
  replace Ox0 : Hid (BoardR Sx0 w8 sx0_1 n0_1 V0_1) := Ox0.out.below hb
  replace Ox1 : Hid (ScanR Sx1 w8 sx1_1 n1_1 V1_1 sx1_2 n1_2 V1_2 sx1_3 n1_3 V1_3) := Ox1.out.below hb
  replace Og0 : Hid (BoardR Sg0 w8 sgr0_1 nr0_1 Vr0_1) := Og0.out.below hb
  replace Og1 : Hid (I64R Sg1 w8 sgr1 nr1 Vr1) := Og1.out.below hb
  replace Bs : Below w3.heap.size w3 w8 := Bs.trans (hb.mono Bs.size)
  replace B0 : Below w.heap.size w w8 := B0.trans (hb.mono B0.size)
  clear hb hh
  go_upto_region 14 with fail
  have HB : Hid (Below w.heap.size w w8) := B0
  go_cut [69] (fun y wx => y = .bool false ∧ Below w8.heap.size w8 wx)
  case first =>
    go_region_held3 (fun w' => w'.cell? ⟨w.heap.size, 0, none⟩ = some (.int .i64 a0_0) ∧ w'.cell? ⟨w.heap.size, 1, none⟩ = some (.slice s0_1 n0_1 c0_1) ∧ w'.cell? ⟨w4.heap.size, 0, none⟩ = some (.int .i64 a0_0) ∧ w'.cell? ⟨w4.heap.size, 1, none⟩ = some (.slice sx0_1 n0_1 n0_1)) (first | (exact ⟨ca00, ca01, cx00, cx01⟩) | (refine keepLaw2_2 ca00 ca01 cx00 cx01 za0 zx0 ?_; exact (by repeat (first | with_reducible exact Below.refl _ _ | with_reducible exact B8 | with_reducible exact B7 | with_reducible refine Below.setCell ?_ (by first | omega | (simp; done) | (simp; omega)) _ | with_reducible refine bDrewN ?_ _ | with_reducible refine Below.drew ?_ | with_reducible refine Below.alloc ?_ (by first | omega | (simp; done) | (simp; omega)) _)))) (first
      | (go_at_call 10; refine (toBoard_r a0_0 n0_1 V0_1 s0_1 c0_1 _ hn0_1 (HR0.out.below (HB.out.trans (Below.mono (by repeat (first | with_reducible exact Below.refl _ _ | with_reducible refine Below.setCell ?_ (by first | omega | (simp; done) | (simp; omega)) _ | with_reducible refine bDrewN ?_ _ | with_reducible refine Below.drew ?_ | with_reducible refine Below.alloc ?_ (by first | omega | (simp; done) | (simp; omega)) _)) HB.out.size)))).mono ?_; rintro e wy ⟨sy0_1, Sy, rfl, -, OY, h7⟩; have B7 : Below w8.heap.size w8 wy := Below.trans (by repeat (first | with_reducible exact Below.refl _ _ | with_reducible refine Below.setCell ?_ (by first | omega | (simp; done) | (simp; omega)) _ | with_reducible refine bDrewN ?_ _ | with_reducible refine Below.drew ?_ | with_reducible refine Below.alloc ?_ (by first | omega | (simp; done) | (simp; omega)) _)) (h7.mono (by first | omega | (simp; done) | (simp; omega))); have s7 := B7.size; have PY : Hid (RowBoard wy sy0_1 n0_1 V0_1) := OY.row; have PX : Hid (RowBoard wy sx0_1 n0_1 V0_1) := Ox0.out.row.below B7; clear h7 OY)
      | (go_at_call 12; refine (eqBoard_r a0_0 n0_1 V0_1 sx0_1 n0_1 sy0_1 n0_1 _ hn0_1 PX.out PY.out).mono ?_; rintro e wz ⟨rfl, h8⟩; have B8 : Below w8.heap.size w8 wz := Below.trans (by repeat (first | with_reducible exact Below.refl _ _ | with_reducible exact B7 | with_reducible refine Below.setCell ?_ (by first | omega | (simp; done) | (simp; omega)) _ | with_reducible refine bDrewN ?_ _ | with_reducible refine Below.drew ?_ | with_reducible refine Below.alloc ?_ (by first | omega | (simp; done) | (simp; omega)) _)) (h8.mono (by first | omega | (simp; done) | (simp; omega))); clear h8))
    all_goals
      go_wp2_with fail
      go_meet
      exact ⟨rfl, B8⟩
  obtain ⟨rfl, hb⟩ := hcut
  rename World => w9
  have lw9 : w8.heap.size ≤ w9.heap.size := hb.size
  replace ca00 := (hb.cell (p := ⟨w.heap.size, 0, none⟩) za0).trans ca00
  replace ca01 := (hb.cell (p := ⟨w.heap.size, 1, none⟩) za0).trans ca01
  replace za0 := Nat.lt_of_lt_of_le za0 hb.size
  replace ca10 := (hb.cell (p := ⟨w.heap.size + 1, 0, none⟩) za1).trans ca10
  replace ca11 := (hb.cell (p := ⟨w.heap.size + 1, 1, none⟩) za1).trans ca11
  replace ca12 := (hb.cell (p := ⟨w.heap.size + 1, 2, none⟩) za1).trans ca12
  replace ca13 := (hb.cell (p := ⟨w.heap.size + 1, 3, none⟩) za1).trans ca13
  replace za1 := Nat.lt_of_lt_of_le za1 hb.size
  replace cw00 := (hb.cell (p := ⟨PW0, 0, none⟩) zw0).trans cw00
  replace cw01 := (hb.cell (p := ⟨PW0, 1, none⟩) zw0).trans cw01
  replace zw0 := Nat.lt_of_lt_of_le zw0 hb.size
  replace cx00 := (hb.cell (p := ⟨w4.heap.size, 0, none⟩) zx0).trans cx00
  replace cx01 := (hb.cell (p := ⟨w4.heap.size, 1, none⟩) zx0).trans cx01
  replace zx0 := Nat.lt_of_lt_of_le zx0 hb.size
  replace cx10 := (hb.cell (p := ⟨w5.heap.size, 0, none⟩) zx1).trans cx10
  replace cx11 := (hb.cell (p := ⟨w5.heap.size, 1, none⟩) zx1).trans cx11
  replace cx12 := (hb.cell (p := ⟨w5.heap.size, 2, none⟩) zx1).trans cx12
  replace cx13 := (hb.cell (p := ⟨w5.heap.size, 3, none⟩) zx1).trans cx13
  replace zx1 := Nat.lt_of_lt_of_le zx1 hb.size
  replace cg00 := (hb.cell (p := ⟨w6.heap.size, 0, none⟩) zg0).trans cg00
  replace cg01 := (hb.cell (p := ⟨w6.heap.size, 1, none⟩) zg0).trans cg01
  replace zg0 := Nat.lt_of_lt_of_le zg0 hb.size
  replace Ox0 : Hid (BoardR Sx0 w9 sx0_1 n0_1 V0_1) := Ox0.out.below hb
  replace Ox1 : Hid (ScanR Sx1 w9 sx1_1 n1_1 V1_1 sx1_2 n1_2 V1_2 sx1_3 n1_3 V1_3) := Ox1.out.below hb
  replace Og0 : Hid (BoardR Sg0 w9 sgr0_1 nr0_1 Vr0_1) := Og0.out.below hb
  replace Og1 : Hid (I64R Sg1 w9 sgr1 nr1 Vr1) := Og1.out.below hb
  replace Bs : Below w3.heap.size w3 w9 := Bs.trans (hb.mono Bs.size)
  replace B0 : Below w.heap.size w w9 := B0.trans (hb.mono B0.size)
  clear hb HB
  go_upto_region 16 with fail
  have HB : Hid (Below w.heap.size w w9) := B0
  go_cut [74] (fun y wx => y = .bool false ∧ Below w9.heap.size w9 wx)
  case first =>
    go_region_held3 (fun w' => w'.cell? ⟨w.heap.size + 1, 0, none⟩ = some (.int .i64 a1_0) ∧ w'.cell? ⟨w.heap.size + 1, 1, none⟩ = some (.slice s1_1 n1_1 c1_1) ∧ w'.cell? ⟨w.heap.size + 1, 2, none⟩ = some (.slice s1_2 n1_2 c1_2) ∧ w'.cell? ⟨w.heap.size + 1, 3, none⟩ = some (.slice s1_3 n1_3 c1_3) ∧ w'.cell? ⟨w5.heap.size, 0, none⟩ = some (.int .i64 a1_0) ∧ w'.cell? ⟨w5.heap.size, 1, none⟩ = some (.slice sx1_1 n1_1 n1_1) ∧ w'.cell? ⟨w5.heap.size, 2, none⟩ = some (.slice sx1_2 n1_2 n1_2) ∧ w'.cell? ⟨w5.heap.size, 3, none⟩ = some (.slice sx1_3 n1_3 n1_3)) (first | (exact ⟨ca10, ca11, ca12, ca13, cx10, cx11, cx12, cx13⟩) | (refine keepLaw4_4 ca10 ca11 ca12 ca13 cx10 cx11 cx12 cx13 za1 zx1 ?_; exact (by repeat (first | with_reducible exact Below.refl _ _ | with_reducible exact B8 | with_reducible exact B7 | with_reducible refine Below.setCell ?_ (by first | omega | (simp; done) | (simp; omega)) _ | with_reducible refine bDrewN ?_ _ | with_reducible refine Below.drew ?_ | with_reducible refine Below.alloc ?_ (by first | omega | (simp; done) | (simp; omega)) _)))) (first
      | (go_at_call 23; refine (toScan_r a1_0 n1_1 V1_1 n1_2 V1_2 n1_3 V1_3 s1_1 c1_1 s1_2 c1_2 s1_3 c1_3 _ hn1_1 hn1_2 hn1_3 (HR1.out.below (HB.out.trans (Below.mono (by repeat (first | with_reducible exact Below.refl _ _ | with_reducible refine Below.setCell ?_ (by first | omega | (simp; done) | (simp; omega)) _ | with_reducible refine bDrewN ?_ _ | with_reducible refine Below.drew ?_ | with_reducible refine Below.alloc ?_ (by first | omega | (simp; done) | (simp; omega)) _)) HB.out.size)))).mono ?_; rintro e wy ⟨sy1_1, sy1_2, sy1_3, Sy, rfl, -, OY, h7⟩; have B7 : Below w9.heap.size w9 wy := Below.trans (by repeat (first | with_reducible exact Below.refl _ _ | with_reducible refine Below.setCell ?_ (by first | omega | (simp; done) | (simp; omega)) _ | with_reducible refine bDrewN ?_ _ | with_reducible refine Below.drew ?_ | with_reducible refine Below.alloc ?_ (by first | omega | (simp; done) | (simp; omega)) _)) (h7.mono (by first | omega | (simp; done) | (simp; omega))); have s7 := B7.size; have PY : Hid (RowScan wy sy1_1 n1_1 V1_1 sy1_2 n1_2 V1_2 sy1_3 n1_3 V1_3) := OY.row; have PX : Hid (RowScan wy sx1_1 n1_1 V1_1 sx1_2 n1_2 V1_2 sx1_3 n1_3 V1_3) := Ox1.out.row.below B7; clear h7 OY)
      | (go_at_call 25; refine (eqScan_r a1_0 n1_1 V1_1 n1_2 V1_2 n1_3 V1_3 sx1_1 n1_1 sx1_2 n1_2 sx1_3 n1_3 sy1_1 n1_1 sy1_2 n1_2 sy1_3 n1_3 _ hn1_1 hn1_2 hn1_3 PX.out PY.out).mono ?_; rintro e wz ⟨rfl, h8⟩; have B8 : Below w9.heap.size w9 wz := Below.trans (by repeat (first | with_reducible exact Below.refl _ _ | with_reducible exact B7 | with_reducible refine Below.setCell ?_ (by first | omega | (simp; done) | (simp; omega)) _ | with_reducible refine bDrewN ?_ _ | with_reducible refine Below.drew ?_ | with_reducible refine Below.alloc ?_ (by first | omega | (simp; done) | (simp; omega)) _)) (h8.mono (by first | omega | (simp; done) | (simp; omega))); clear h8))
    all_goals
      go_wp2_with fail
      go_meet
      exact ⟨rfl, B8⟩
  obtain ⟨rfl, hb⟩ := hcut
  rename World => w10
  have lw10 : w9.heap.size ≤ w10.heap.size := hb.size
  replace ca00 := (hb.cell (p := ⟨w.heap.size, 0, none⟩) za0).trans ca00
  replace ca01 := (hb.cell (p := ⟨w.heap.size, 1, none⟩) za0).trans ca01
  replace za0 := Nat.lt_of_lt_of_le za0 hb.size
  replace ca10 := (hb.cell (p := ⟨w.heap.size + 1, 0, none⟩) za1).trans ca10
  replace ca11 := (hb.cell (p := ⟨w.heap.size + 1, 1, none⟩) za1).trans ca11
  replace ca12 := (hb.cell (p := ⟨w.heap.size + 1, 2, none⟩) za1).trans ca12
  replace ca13 := (hb.cell (p := ⟨w.heap.size + 1, 3, none⟩) za1).trans ca13
  replace za1 := Nat.lt_of_lt_of_le za1 hb.size
  replace cw00 := (hb.cell (p := ⟨PW0, 0, none⟩) zw0).trans cw00
  replace cw01 := (hb.cell (p := ⟨PW0, 1, none⟩) zw0).trans cw01
  replace zw0 := Nat.lt_of_lt_of_le zw0 hb.size
  replace cx00 := (hb.cell (p := ⟨w4.heap.size, 0, none⟩) zx0).trans cx00
  replace cx01 := (hb.cell (p := ⟨w4.heap.size, 1, none⟩) zx0).trans cx01
  replace zx0 := Nat.lt_of_lt_of_le zx0 hb.size
  replace cx10 := (hb.cell (p := ⟨w5.heap.size, 0, none⟩) zx1).trans cx10
  replace cx11 := (hb.cell (p := ⟨w5.heap.size, 1, none⟩) zx1).trans cx11
  replace cx12 := (hb.cell (p := ⟨w5.heap.size, 2, none⟩) zx1).trans cx12
  replace cx13 := (hb.cell (p := ⟨w5.heap.size, 3, none⟩) zx1).trans cx13
  replace zx1 := Nat.lt_of_lt_of_le zx1 hb.size
  replace cg00 := (hb.cell (p := ⟨w6.heap.size, 0, none⟩) zg0).trans cg00
  replace cg01 := (hb.cell (p := ⟨w6.heap.size, 1, none⟩) zg0).trans cg01
  replace zg0 := Nat.lt_of_lt_of_le zg0 hb.size
  replace Ox0 : Hid (BoardR Sx0 w10 sx0_1 n0_1 V0_1) := Ox0.out.below hb
  replace Ox1 : Hid (ScanR Sx1 w10 sx1_1 n1_1 V1_1 sx1_2 n1_2 V1_2 sx1_3 n1_3 V1_3) := Ox1.out.below hb
  replace Og0 : Hid (BoardR Sg0 w10 sgr0_1 nr0_1 Vr0_1) := Og0.out.below hb
  replace Og1 : Hid (I64R Sg1 w10 sgr1 nr1 Vr1) := Og1.out.below hb
  replace Bs : Below w3.heap.size w3 w10 := Bs.trans (hb.mono Bs.size)
  replace B0 : Below w.heap.size w w10 := B0.trans (hb.mono B0.size)
  clear hb HB
  go_wp2_with fail
  refine (markBoard_r a0_0 n0_1 V0_1 sx0_1 n0_1 Sx0 (1) _ hn0_1 (by omega) (by omega) (fun k q => by have := Qx0.out k q; omega) Ox0.out).mono ?_
  rintro e w11 ⟨rfl, T⟩
  have lw11 : w10.heap.size ≤ w11.heap.size := T.size
  replace ca00 := (T.cell (p := ⟨w.heap.size, 0, none⟩) za0 (show ¬ Sx0 (w.heap.size) from fun q => by have := Qx0.out _ q; omega)).trans ca00
  replace ca01 := (T.cell (p := ⟨w.heap.size, 1, none⟩) za0 (show ¬ Sx0 (w.heap.size) from fun q => by have := Qx0.out _ q; omega)).trans ca01
  replace za0 := Nat.lt_of_lt_of_le za0 T.size
  replace ca10 := (T.cell (p := ⟨w.heap.size + 1, 0, none⟩) za1 (show ¬ Sx0 (w.heap.size + 1) from fun q => by have := Qx0.out _ q; omega)).trans ca10
  replace ca11 := (T.cell (p := ⟨w.heap.size + 1, 1, none⟩) za1 (show ¬ Sx0 (w.heap.size + 1) from fun q => by have := Qx0.out _ q; omega)).trans ca11
  replace ca12 := (T.cell (p := ⟨w.heap.size + 1, 2, none⟩) za1 (show ¬ Sx0 (w.heap.size + 1) from fun q => by have := Qx0.out _ q; omega)).trans ca12
  replace ca13 := (T.cell (p := ⟨w.heap.size + 1, 3, none⟩) za1 (show ¬ Sx0 (w.heap.size + 1) from fun q => by have := Qx0.out _ q; omega)).trans ca13
  replace za1 := Nat.lt_of_lt_of_le za1 T.size
  replace cw00 := (T.cell (p := ⟨PW0, 0, none⟩) zw0 (show ¬ Sx0 (PW0) from fun q => by have := Qx0.out _ q; omega)).trans cw00
  replace cw01 := (T.cell (p := ⟨PW0, 1, none⟩) zw0 (show ¬ Sx0 (PW0) from fun q => by have := Qx0.out _ q; omega)).trans cw01
  replace zw0 := Nat.lt_of_lt_of_le zw0 T.size
  replace cx00 := (T.cell (p := ⟨w4.heap.size, 0, none⟩) zx0 (show ¬ Sx0 (w4.heap.size) from fun q => by have := Qx0.out _ q; omega)).trans cx00
  replace cx01 := (T.cell (p := ⟨w4.heap.size, 1, none⟩) zx0 (show ¬ Sx0 (w4.heap.size) from fun q => by have := Qx0.out _ q; omega)).trans cx01
  replace zx0 := Nat.lt_of_lt_of_le zx0 T.size
  replace cx10 := (T.cell (p := ⟨w5.heap.size, 0, none⟩) zx1 (show ¬ Sx0 (w5.heap.size) from fun q => by have := Qx0.out _ q; omega)).trans cx10
  replace cx11 := (T.cell (p := ⟨w5.heap.size, 1, none⟩) zx1 (show ¬ Sx0 (w5.heap.size) from fun q => by have := Qx0.out _ q; omega)).trans cx11
  replace cx12 := (T.cell (p := ⟨w5.heap.size, 2, none⟩) zx1 (show ¬ Sx0 (w5.heap.size) from fun q => by have := Qx0.out _ q; omega)).trans cx12
  replace cx13 := (T.cell (p := ⟨w5.heap.size, 3, none⟩) zx1 (show ¬ Sx0 (w5.heap.size) from fun q => by have := Qx0.out _ q; omega)).trans cx13
  replace zx1 := Nat.lt_of_lt_of_le zx1 T.size
  replace cg00 := (T.cell (p := ⟨w6.heap.size, 0, none⟩) zg0 (show ¬ Sx0 (w6.heap.size) from fun q => by have := Qx0.out _ q; omega)).trans cg00
  replace cg01 := (T.cell (p := ⟨w6.heap.size, 1, none⟩) zg0 (show ¬ Sx0 (w6.heap.size) from fun q => by have := Qx0.out _ q; omega)).trans cg01
  replace zg0 := Nat.lt_of_lt_of_le zg0 T.size
  replace Ox1 : Hid (ScanR Sx1 w11 sx1_1 n1_1 V1_1 sx1_2 n1_2 V1_2 sx1_3 n1_3 V1_3) := Ox1.out.keep T.size (fun k hk hl => T.2.2.2.2 k hl (fun q => by have := Qx0.out k q; have := Qx1.out k hk; omega))
  replace Og0 : Hid (BoardR Sg0 w11 sgr0_1 nr0_1 Vr0_1) := Og0.out.keep T.size (fun k hk hl => T.2.2.2.2 k hl (fun q => by have := Qx0.out k q; have := Qg0.out k hk; omega))
  replace Og1 : Hid (I64R Sg1 w11 sgr1 nr1 Vr1) := Og1.out.keep T.size (fun k hk hl => T.2.2.2.2 k hl (fun q => by have := Qx0.out k q; have := Qg1.out k hk; omega))
  replace Bs : Below w3.heap.size w3 w11 := Bs.trans (T.below (fun k q => by have := Qx0.out k q; omega) (by omega))
  replace B0 : Below w.heap.size w w11 := B0.trans (T.below (fun k q => by have := Qx0.out k q; omega) (by omega))
  clear T Ox0
  go_wp2_with fail
  refine (markScan_r a1_0 n1_1 V1_1 n1_2 V1_2 n1_3 V1_3 sx1_1 n1_1 sx1_2 n1_2 sx1_3 n1_3 Sx1 (1 + (n0_1 * 5 : Nat)) _ hn1_1 hn1_2 hn1_3 (by omega) (by omega) (fun k q => by have := Qx1.out k q; omega) Ox1.out).mono ?_
  rintro e w12 ⟨rfl, T⟩
  have lw12 : w11.heap.size ≤ w12.heap.size := T.size
  replace ca00 := (T.cell (p := ⟨w.heap.size, 0, none⟩) za0 (show ¬ Sx1 (w.heap.size) from fun q => by have := Qx1.out _ q; omega)).trans ca00
  replace ca01 := (T.cell (p := ⟨w.heap.size, 1, none⟩) za0 (show ¬ Sx1 (w.heap.size) from fun q => by have := Qx1.out _ q; omega)).trans ca01
  replace za0 := Nat.lt_of_lt_of_le za0 T.size
  replace ca10 := (T.cell (p := ⟨w.heap.size + 1, 0, none⟩) za1 (show ¬ Sx1 (w.heap.size + 1) from fun q => by have := Qx1.out _ q; omega)).trans ca10
  replace ca11 := (T.cell (p := ⟨w.heap.size + 1, 1, none⟩) za1 (show ¬ Sx1 (w.heap.size + 1) from fun q => by have := Qx1.out _ q; omega)).trans ca11
  replace ca12 := (T.cell (p := ⟨w.heap.size + 1, 2, none⟩) za1 (show ¬ Sx1 (w.heap.size + 1) from fun q => by have := Qx1.out _ q; omega)).trans ca12
  replace ca13 := (T.cell (p := ⟨w.heap.size + 1, 3, none⟩) za1 (show ¬ Sx1 (w.heap.size + 1) from fun q => by have := Qx1.out _ q; omega)).trans ca13
  replace za1 := Nat.lt_of_lt_of_le za1 T.size
  replace cw00 := (T.cell (p := ⟨PW0, 0, none⟩) zw0 (show ¬ Sx1 (PW0) from fun q => by have := Qx1.out _ q; omega)).trans cw00
  replace cw01 := (T.cell (p := ⟨PW0, 1, none⟩) zw0 (show ¬ Sx1 (PW0) from fun q => by have := Qx1.out _ q; omega)).trans cw01
  replace zw0 := Nat.lt_of_lt_of_le zw0 T.size
  replace cx00 := (T.cell (p := ⟨w4.heap.size, 0, none⟩) zx0 (show ¬ Sx1 (w4.heap.size) from fun q => by have := Qx1.out _ q; omega)).trans cx00
  replace cx01 := (T.cell (p := ⟨w4.heap.size, 1, none⟩) zx0 (show ¬ Sx1 (w4.heap.size) from fun q => by have := Qx1.out _ q; omega)).trans cx01
  replace zx0 := Nat.lt_of_lt_of_le zx0 T.size
  replace cx10 := (T.cell (p := ⟨w5.heap.size, 0, none⟩) zx1 (show ¬ Sx1 (w5.heap.size) from fun q => by have := Qx1.out _ q; omega)).trans cx10
  replace cx11 := (T.cell (p := ⟨w5.heap.size, 1, none⟩) zx1 (show ¬ Sx1 (w5.heap.size) from fun q => by have := Qx1.out _ q; omega)).trans cx11
  replace cx12 := (T.cell (p := ⟨w5.heap.size, 2, none⟩) zx1 (show ¬ Sx1 (w5.heap.size) from fun q => by have := Qx1.out _ q; omega)).trans cx12
  replace cx13 := (T.cell (p := ⟨w5.heap.size, 3, none⟩) zx1 (show ¬ Sx1 (w5.heap.size) from fun q => by have := Qx1.out _ q; omega)).trans cx13
  replace zx1 := Nat.lt_of_lt_of_le zx1 T.size
  replace cg00 := (T.cell (p := ⟨w6.heap.size, 0, none⟩) zg0 (show ¬ Sx1 (w6.heap.size) from fun q => by have := Qx1.out _ q; omega)).trans cg00
  replace cg01 := (T.cell (p := ⟨w6.heap.size, 1, none⟩) zg0 (show ¬ Sx1 (w6.heap.size) from fun q => by have := Qx1.out _ q; omega)).trans cg01
  replace zg0 := Nat.lt_of_lt_of_le zg0 T.size
  replace Og0 : Hid (BoardR Sg0 w12 sgr0_1 nr0_1 Vr0_1) := Og0.out.keep T.size (fun k hk hl => T.2.2.2.2 k hl (fun q => by have := Qx1.out k q; have := Qg0.out k hk; omega))
  replace Og1 : Hid (I64R Sg1 w12 sgr1 nr1 Vr1) := Og1.out.keep T.size (fun k hk hl => T.2.2.2.2 k hl (fun q => by have := Qx1.out k q; have := Qg1.out k hk; omega))
  replace Bs : Below w3.heap.size w3 w12 := Bs.trans (T.below (fun k q => by have := Qx1.out k q; omega) (by omega))
  replace B0 : Below w.heap.size w w12 := B0.trans (T.below (fun k q => by have := Qx1.out k q; omega) (by omega))
  clear T Ox1
  go_wp2_with fail
  refine (eqBoard_r ar0_0 nr0_1 Vr0_1 sgr0_1 cgr0_1 sWr0_1 cWr0_1 _ hnr0_1 (Og0.out.row) (RW0.out.below Bs)).mono ?_
  rintro e w13 ⟨rfl, hh⟩
  have hb : Below w12.heap.size w12 w13 := Below.trans (by repeat (first | with_reducible exact Below.refl _ _ | with_reducible refine Below.setCell ?_ (by first | omega | (simp; done) | (simp; omega)) _ | with_reducible refine bDrewN ?_ _ | with_reducible refine Below.drew ?_ | with_reducible refine Below.alloc ?_ (by first | omega | (simp; done) | (simp; omega)) _)) (hh.mono (by first | omega | (simp; done) | (simp; omega)))
  have lw13 : w12.heap.size ≤ w13.heap.size := hb.size
  replace ca00 := (hb.cell (p := ⟨w.heap.size, 0, none⟩) za0).trans ca00
  replace ca01 := (hb.cell (p := ⟨w.heap.size, 1, none⟩) za0).trans ca01
  replace za0 := Nat.lt_of_lt_of_le za0 hb.size
  replace ca10 := (hb.cell (p := ⟨w.heap.size + 1, 0, none⟩) za1).trans ca10
  replace ca11 := (hb.cell (p := ⟨w.heap.size + 1, 1, none⟩) za1).trans ca11
  replace ca12 := (hb.cell (p := ⟨w.heap.size + 1, 2, none⟩) za1).trans ca12
  replace ca13 := (hb.cell (p := ⟨w.heap.size + 1, 3, none⟩) za1).trans ca13
  replace za1 := Nat.lt_of_lt_of_le za1 hb.size
  replace cw00 := (hb.cell (p := ⟨PW0, 0, none⟩) zw0).trans cw00
  replace cw01 := (hb.cell (p := ⟨PW0, 1, none⟩) zw0).trans cw01
  replace zw0 := Nat.lt_of_lt_of_le zw0 hb.size
  replace cx00 := (hb.cell (p := ⟨w4.heap.size, 0, none⟩) zx0).trans cx00
  replace cx01 := (hb.cell (p := ⟨w4.heap.size, 1, none⟩) zx0).trans cx01
  replace zx0 := Nat.lt_of_lt_of_le zx0 hb.size
  replace cx10 := (hb.cell (p := ⟨w5.heap.size, 0, none⟩) zx1).trans cx10
  replace cx11 := (hb.cell (p := ⟨w5.heap.size, 1, none⟩) zx1).trans cx11
  replace cx12 := (hb.cell (p := ⟨w5.heap.size, 2, none⟩) zx1).trans cx12
  replace cx13 := (hb.cell (p := ⟨w5.heap.size, 3, none⟩) zx1).trans cx13
  replace zx1 := Nat.lt_of_lt_of_le zx1 hb.size
  replace cg00 := (hb.cell (p := ⟨w6.heap.size, 0, none⟩) zg0).trans cg00
  replace cg01 := (hb.cell (p := ⟨w6.heap.size, 1, none⟩) zg0).trans cg01
  replace zg0 := Nat.lt_of_lt_of_le zg0 hb.size
  replace Og0 : Hid (BoardR Sg0 w13 sgr0_1 nr0_1 Vr0_1) := Og0.out.below hb
  replace Og1 : Hid (I64R Sg1 w13 sgr1 nr1 Vr1) := Og1.out.below hb
  replace Bs : Below w3.heap.size w3 w13 := Bs.trans (hb.mono Bs.size)
  replace B0 : Below w.heap.size w w13 := B0.trans (hb.mono B0.size)
  clear hb hh
  go_wp2_with fail
  refine (eqInt64S_any sgr1 sWr1 nr1 _ _ Vr1 _ hnr1 (Og1.out.row) (RW1.out.below Bs)).mono ?_
  rintro e w14 ⟨rfl, hh⟩
  have hb : Below w13.heap.size w13 w14 := Below.trans (by repeat (first | with_reducible exact Below.refl _ _ | with_reducible refine Below.setCell ?_ (by first | omega | (simp; done) | (simp; omega)) _ | with_reducible refine bDrewN ?_ _ | with_reducible refine Below.drew ?_ | with_reducible refine Below.alloc ?_ (by first | omega | (simp; done) | (simp; omega)) _)) (hh.mono (by first | omega | (simp; done) | (simp; omega)))
  have lw14 : w13.heap.size ≤ w14.heap.size := hb.size
  replace ca00 := (hb.cell (p := ⟨w.heap.size, 0, none⟩) za0).trans ca00
  replace ca01 := (hb.cell (p := ⟨w.heap.size, 1, none⟩) za0).trans ca01
  replace za0 := Nat.lt_of_lt_of_le za0 hb.size
  replace ca10 := (hb.cell (p := ⟨w.heap.size + 1, 0, none⟩) za1).trans ca10
  replace ca11 := (hb.cell (p := ⟨w.heap.size + 1, 1, none⟩) za1).trans ca11
  replace ca12 := (hb.cell (p := ⟨w.heap.size + 1, 2, none⟩) za1).trans ca12
  replace ca13 := (hb.cell (p := ⟨w.heap.size + 1, 3, none⟩) za1).trans ca13
  replace za1 := Nat.lt_of_lt_of_le za1 hb.size
  replace cw00 := (hb.cell (p := ⟨PW0, 0, none⟩) zw0).trans cw00
  replace cw01 := (hb.cell (p := ⟨PW0, 1, none⟩) zw0).trans cw01
  replace zw0 := Nat.lt_of_lt_of_le zw0 hb.size
  replace cx00 := (hb.cell (p := ⟨w4.heap.size, 0, none⟩) zx0).trans cx00
  replace cx01 := (hb.cell (p := ⟨w4.heap.size, 1, none⟩) zx0).trans cx01
  replace zx0 := Nat.lt_of_lt_of_le zx0 hb.size
  replace cx10 := (hb.cell (p := ⟨w5.heap.size, 0, none⟩) zx1).trans cx10
  replace cx11 := (hb.cell (p := ⟨w5.heap.size, 1, none⟩) zx1).trans cx11
  replace cx12 := (hb.cell (p := ⟨w5.heap.size, 2, none⟩) zx1).trans cx12
  replace cx13 := (hb.cell (p := ⟨w5.heap.size, 3, none⟩) zx1).trans cx13
  replace zx1 := Nat.lt_of_lt_of_le zx1 hb.size
  replace cg00 := (hb.cell (p := ⟨w6.heap.size, 0, none⟩) zg0).trans cg00
  replace cg01 := (hb.cell (p := ⟨w6.heap.size, 1, none⟩) zg0).trans cg01
  replace zg0 := Nat.lt_of_lt_of_le zg0 hb.size
  replace Og0 : Hid (BoardR Sg0 w14 sgr0_1 nr0_1 Vr0_1) := Og0.out.below hb
  replace Og1 : Hid (I64R Sg1 w14 sgr1 nr1 Vr1) := Og1.out.below hb
  replace Bs : Below w3.heap.size w3 w14 := Bs.trans (hb.mono Bs.size)
  replace B0 : Below w.heap.size w w14 := B0.trans (hb.mono B0.size)
  clear hb hh
  clear cx00 cx01 zx0
  clear Qx0
  clear cx10 cx11 cx12 cx13 zx1
  clear Qx1
  go_wp2_with fail
  refine (markBoard_x ar0_0 nr0_1 Vr0_1 sgr0_1 cgr0_1 Sg0 (1) _ hnr0_1 (by omega) (by omega) (fun k q => by have := Qg0.out k q; omega) Og0.out).mono ?_
  rintro e w15 ⟨rfl, OM, T⟩
  have lw15 : w14.heap.size ≤ w15.heap.size := T.size
  replace ca00 := (T.cell (p := ⟨w.heap.size, 0, none⟩) za0 (show ¬ Sg0 (w.heap.size) from fun q => by have := Qg0.out _ q; omega)).trans ca00
  replace ca01 := (T.cell (p := ⟨w.heap.size, 1, none⟩) za0 (show ¬ Sg0 (w.heap.size) from fun q => by have := Qg0.out _ q; omega)).trans ca01
  replace za0 := Nat.lt_of_lt_of_le za0 T.size
  replace ca10 := (T.cell (p := ⟨w.heap.size + 1, 0, none⟩) za1 (show ¬ Sg0 (w.heap.size + 1) from fun q => by have := Qg0.out _ q; omega)).trans ca10
  replace ca11 := (T.cell (p := ⟨w.heap.size + 1, 1, none⟩) za1 (show ¬ Sg0 (w.heap.size + 1) from fun q => by have := Qg0.out _ q; omega)).trans ca11
  replace ca12 := (T.cell (p := ⟨w.heap.size + 1, 2, none⟩) za1 (show ¬ Sg0 (w.heap.size + 1) from fun q => by have := Qg0.out _ q; omega)).trans ca12
  replace ca13 := (T.cell (p := ⟨w.heap.size + 1, 3, none⟩) za1 (show ¬ Sg0 (w.heap.size + 1) from fun q => by have := Qg0.out _ q; omega)).trans ca13
  replace za1 := Nat.lt_of_lt_of_le za1 T.size
  replace cw00 := (T.cell (p := ⟨PW0, 0, none⟩) zw0 (show ¬ Sg0 (PW0) from fun q => by have := Qg0.out _ q; omega)).trans cw00
  replace cw01 := (T.cell (p := ⟨PW0, 1, none⟩) zw0 (show ¬ Sg0 (PW0) from fun q => by have := Qg0.out _ q; omega)).trans cw01
  replace zw0 := Nat.lt_of_lt_of_le zw0 T.size
  replace cg00 := (T.cell (p := ⟨w6.heap.size, 0, none⟩) zg0 (show ¬ Sg0 (w6.heap.size) from fun q => by have := Qg0.out _ q; omega)).trans cg00
  replace cg01 := (T.cell (p := ⟨w6.heap.size, 1, none⟩) zg0 (show ¬ Sg0 (w6.heap.size) from fun q => by have := Qg0.out _ q; omega)).trans cg01
  replace zg0 := Nat.lt_of_lt_of_le zg0 T.size
  replace Og1 : Hid (I64R Sg1 w15 sgr1 nr1 Vr1) := Og1.out.keep T.size (fun k hk hl => T.2.2.2.2 k hl (fun q => Dg0_g1.out k q hk))
  replace Bs : Below w3.heap.size w3 w15 := Bs.trans (T.below (fun k q => by have := Qg0.out k q; omega) (by omega))
  replace B0 : Below w.heap.size w w15 := B0.trans (T.below (fun k q => by have := Qg0.out k q; omega) (by omega))
  replace Og0 : Hid (BoardR Sg0 w15 sgr0_1 nr0_1 (mkA (1))) := OM
  clear T OM
  go_wp2_with fail
  refine (markInt64S_r Sg1 _ nr1 _ (1 + (nr0_1 * 5 : Nat)) Vr1 _ hnr1 (by omega) (by omega) Og1.out).mono ?_
  rintro e w16 ⟨rfl, OM, T⟩
  have lw16 : w15.heap.size ≤ w16.heap.size := T.size
  replace ca00 := (T.cell (p := ⟨w.heap.size, 0, none⟩) za0 (show ¬ Sg1 (w.heap.size) from fun q => by have := Qg1.out _ q; omega)).trans ca00
  replace ca01 := (T.cell (p := ⟨w.heap.size, 1, none⟩) za0 (show ¬ Sg1 (w.heap.size) from fun q => by have := Qg1.out _ q; omega)).trans ca01
  replace za0 := Nat.lt_of_lt_of_le za0 T.size
  replace ca10 := (T.cell (p := ⟨w.heap.size + 1, 0, none⟩) za1 (show ¬ Sg1 (w.heap.size + 1) from fun q => by have := Qg1.out _ q; omega)).trans ca10
  replace ca11 := (T.cell (p := ⟨w.heap.size + 1, 1, none⟩) za1 (show ¬ Sg1 (w.heap.size + 1) from fun q => by have := Qg1.out _ q; omega)).trans ca11
  replace ca12 := (T.cell (p := ⟨w.heap.size + 1, 2, none⟩) za1 (show ¬ Sg1 (w.heap.size + 1) from fun q => by have := Qg1.out _ q; omega)).trans ca12
  replace ca13 := (T.cell (p := ⟨w.heap.size + 1, 3, none⟩) za1 (show ¬ Sg1 (w.heap.size + 1) from fun q => by have := Qg1.out _ q; omega)).trans ca13
  replace za1 := Nat.lt_of_lt_of_le za1 T.size
  replace cw00 := (T.cell (p := ⟨PW0, 0, none⟩) zw0 (show ¬ Sg1 (PW0) from fun q => by have := Qg1.out _ q; omega)).trans cw00
  replace cw01 := (T.cell (p := ⟨PW0, 1, none⟩) zw0 (show ¬ Sg1 (PW0) from fun q => by have := Qg1.out _ q; omega)).trans cw01
  replace zw0 := Nat.lt_of_lt_of_le zw0 T.size
  replace cg00 := (T.cell (p := ⟨w6.heap.size, 0, none⟩) zg0 (show ¬ Sg1 (w6.heap.size) from fun q => by have := Qg1.out _ q; omega)).trans cg00
  replace cg01 := (T.cell (p := ⟨w6.heap.size, 1, none⟩) zg0 (show ¬ Sg1 (w6.heap.size) from fun q => by have := Qg1.out _ q; omega)).trans cg01
  replace zg0 := Nat.lt_of_lt_of_le zg0 T.size
  replace Og0 : Hid (BoardR Sg0 w16 sgr0_1 nr0_1 (mkA (1))) := Og0.out.keep T.size (fun k hk hl => T.2.2.2.2 k hl (fun q => Dg0_g1.out k hk q))
  replace Bs : Below w3.heap.size w3 w16 := Bs.trans (T.below (fun k q => by have := Qg1.out k q; omega) (by omega))
  replace B0 : Below w.heap.size w w16 := B0.trans (T.below (fun k q => by have := Qg1.out k q; omega) (by omega))
  replace Og1 : Hid (I64R Sg1 w16 sgr1 nr1 (fun j => (1 + (nr0_1 * 5 : Nat)) + (j : Int))) := OM
  clear T OM
  go_wp2_with fail
  refine (heldBoard_r ar0_0 nr0_1 Vr0_1 sgr0_1 cgr0_1 (1) _ hnr0_1 (by omega) (by omega) (Og0.out.row)).mono ?_
  rintro e w17 ⟨rfl, hh⟩
  have hb : Below w16.heap.size w16 w17 := Below.trans (by repeat (first | with_reducible exact Below.refl _ _ | with_reducible refine Below.setCell ?_ (by first | omega | (simp; done) | (simp; omega)) _ | with_reducible refine bDrewN ?_ _ | with_reducible refine Below.drew ?_ | with_reducible refine Below.alloc ?_ (by first | omega | (simp; done) | (simp; omega)) _)) (hh.mono (by first | omega | (simp; done) | (simp; omega)))
  have lw17 : w16.heap.size ≤ w17.heap.size := hb.size
  replace ca00 := (hb.cell (p := ⟨w.heap.size, 0, none⟩) za0).trans ca00
  replace ca01 := (hb.cell (p := ⟨w.heap.size, 1, none⟩) za0).trans ca01
  replace za0 := Nat.lt_of_lt_of_le za0 hb.size
  replace ca10 := (hb.cell (p := ⟨w.heap.size + 1, 0, none⟩) za1).trans ca10
  replace ca11 := (hb.cell (p := ⟨w.heap.size + 1, 1, none⟩) za1).trans ca11
  replace ca12 := (hb.cell (p := ⟨w.heap.size + 1, 2, none⟩) za1).trans ca12
  replace ca13 := (hb.cell (p := ⟨w.heap.size + 1, 3, none⟩) za1).trans ca13
  replace za1 := Nat.lt_of_lt_of_le za1 hb.size
  replace cw00 := (hb.cell (p := ⟨PW0, 0, none⟩) zw0).trans cw00
  replace cw01 := (hb.cell (p := ⟨PW0, 1, none⟩) zw0).trans cw01
  replace zw0 := Nat.lt_of_lt_of_le zw0 hb.size
  replace cg00 := (hb.cell (p := ⟨w6.heap.size, 0, none⟩) zg0).trans cg00
  replace cg01 := (hb.cell (p := ⟨w6.heap.size, 1, none⟩) zg0).trans cg01
  replace zg0 := Nat.lt_of_lt_of_le zg0 hb.size
  replace Og0 : Hid (BoardR Sg0 w17 sgr0_1 nr0_1 (mkA (1))) := Og0.out.below hb
  replace Og1 : Hid (I64R Sg1 w17 sgr1 nr1 (fun j => (1 + (nr0_1 * 5 : Nat)) + (j : Int))) := Og1.out.below hb
  replace Bs : Below w3.heap.size w3 w17 := Bs.trans (hb.mono Bs.size)
  replace B0 : Below w.heap.size w w17 := B0.trans (hb.mono B0.size)
  clear hb hh
  go_wp2_with fail
  refine (heldInt64S_any _ nr1 _ (1 + (nr0_1 * 5 : Nat)) _ hnr1 (by omega) (by omega) (Og1.out.row)).mono ?_
  rintro e w17 ⟨rfl, rfl⟩
  go_upto_region 35 with fail
  have HB : Hid (Below w.heap.size w w17) := B0
  go_cut [17, 18, 19] (fun y0 y1 y2 wx => boardStepRes w17 ar0_0 nr0_1 Vr0_1 nr1 Vr1 ar2 y0 y1 y2 wx)
  case first =>
    go_region_held3 (fun w' => w'.cell? ⟨w.heap.size, 0, none⟩ = some (.int .i64 a0_0) ∧ w'.cell? ⟨w.heap.size, 1, none⟩ = some (.slice s0_1 n0_1 c0_1) ∧ w'.cell? ⟨w.heap.size + 1, 0, none⟩ = some (.int .i64 a1_0) ∧ w'.cell? ⟨w.heap.size + 1, 1, none⟩ = some (.slice s1_1 n1_1 c1_1) ∧ w'.cell? ⟨w.heap.size + 1, 2, none⟩ = some (.slice s1_2 n1_2 c1_2) ∧ w'.cell? ⟨w.heap.size + 1, 3, none⟩ = some (.slice s1_3 n1_3 c1_3)) (first | with_reducible exact ⟨ca00, ca01, ca10, ca11, ca12, ca13⟩ | (refine keepArgs ca00 ca01 ca10 ca11 ca12 ca13 za0 za1 ?_; exact (by repeat (first | with_reducible exact Below.refl _ _ | with_reducible exact B9 | with_reducible exact B71 | with_reducible exact B70 | with_reducible refine Below.setCell ?_ (by first | omega | (simp; done) | (simp; omega)) _ | with_reducible refine bDrewN ?_ _ | with_reducible refine Below.drew ?_ | with_reducible refine Below.alloc ?_ (by first | omega | (simp; done) | (simp; omega)) _)))) (first
      | (go_at_call 24; refine (H2.out sv0_1 _ sv1_1 _ sv1_2 _ sv1_3 _ _ (PY1_0.out.below (by repeat (first | with_reducible exact Below.refl _ _ | with_reducible refine Below.setCell ?_ (by first | omega | (simp; done) | (simp; omega)) _ | with_reducible refine bDrewN ?_ _ | with_reducible refine Below.drew ?_ | with_reducible refine Below.alloc ?_ (by first | omega | (simp; done) | (simp; omega)) _))) (PY1_1.out.below (by repeat (first | with_reducible exact Below.refl _ _ | with_reducible refine Below.setCell ?_ (by first | omega | (simp; done) | (simp; omega)) _ | with_reducible refine bDrewN ?_ _ | with_reducible refine Below.drew ?_ | with_reducible refine Below.alloc ?_ (by first | omega | (simp; done) | (simp; omega)) _)))).mono ?_; rintro e wy2 ⟨shr0_1, chr0_1, shr1, chr1, Sh0, Sh1, rfl, QR0, OR0, QR1, OR1, -, h9⟩; have hy2 : Below wy1.heap.size wy1 wy2 := Below.trans (by repeat (first | with_reducible exact Below.refl _ _ | with_reducible refine Below.setCell ?_ (by first | omega | (simp; done) | (simp; omega)) _ | with_reducible refine bDrewN ?_ _ | with_reducible refine Below.drew ?_ | with_reducible refine Below.alloc ?_ (by first | omega | (simp; done) | (simp; omega)) _)) (h9.mono (by first | omega | (simp; done) | (simp; omega))); have B9 : Below w17.heap.size w17 wy2 := B71.trans (hy2.mono B71.size); have s9 := B9.size; have sy2 := hy2.size; have HOR0 : Hid (BoardR Sh0 wy2 shr0_1 nr0_1 Vr0_1) := OR0; have HQR0 := hidQ QR0; have HOR1 : Hid (I64R Sh1 wy2 shr1 nr1 Vr1) := OR1; have HQR1 := hidQ QR1; (try have zq0 := Z0_1_0.1); (try have Z0_2_0 := ZA0.keep Z0_1_0 hy2); (try obtain ⟨zp0, zf0, zc0_0, zc0_1⟩ := Z0_2_0); (try have zq0 := Z0_1_1.1); (try have Z0_2_1 := ZA0.keep Z0_1_1 hy2); (try obtain ⟨zp0, zf0, zc0_0, zc0_1⟩ := Z0_2_1); (try have Z0_2_2 := ZA0.at (p := wy1.heap.size) (by first | (simp; done) | fail) (fun o => by first | (simp [go_sem]; done) | fail) (by first | (simp [go_sem]; done) | fail) (by first | (simp [go_sem]; done) | fail) h9); (try obtain ⟨zp0, zf0, zc0_0, zc0_1⟩ := Z0_2_2); clear h9 OR0 QR0 OR1 QR1)
      | (go_at_call 23; have hq1 := B70; refine (toScan_r a1_0 n1_1 V1_1 n1_2 V1_2 n1_3 V1_3 s1_1 c1_1 s1_2 c1_2 s1_3 c1_3 _ hn1_1 hn1_2 hn1_3 (HR1.out.below (HB.out.trans (Below.mono (by repeat (first | with_reducible exact Below.refl _ _ | with_reducible exact B70 | with_reducible refine Below.setCell ?_ (by first | omega | (simp; done) | (simp; omega)) _ | with_reducible refine bDrewN ?_ _ | with_reducible refine Below.drew ?_ | with_reducible refine Below.alloc ?_ (by first | omega | (simp; done) | (simp; omega)) _)) HB.out.size)))).mono ?_; rintro e wy1 ⟨sv1_1, sv1_2, sv1_3, Sv1, rfl, -, OY1, h71⟩; have hy1 : Below wy0.heap.size wy0 wy1 := Below.trans (by repeat (first | with_reducible exact Below.refl _ _ | with_reducible refine Below.setCell ?_ (by first | omega | (simp; done) | (simp; omega)) _ | with_reducible refine bDrewN ?_ _ | with_reducible refine Below.drew ?_ | with_reducible refine Below.alloc ?_ (by first | omega | (simp; done) | (simp; omega)) _)) (h71.mono (by first | omega | (simp; done) | (simp; omega))); have B71 : Below w17.heap.size w17 wy1 := B70.trans (hy1.mono B70.size); have s71 := B71.size; have sy1 := hy1.size; have PY1_1 : Hid (RowScan wy1 sv1_1 n1_1 V1_1 sv1_2 n1_2 V1_2 sv1_3 n1_3 V1_3) := OY1.row; have PY1_0 : Hid (RowBoard wy1 sv0_1 n0_1 V0_1) := PY0_0.out.below hy1; (try have Z0_1_0 := ZA0.keep Z0_0_0 hy1); (try have Z0_1_1 := ZA0.at (p := wy0.heap.size) (by first | (simp; done) | fail) (fun o => by first | (simp [go_sem]; done) | fail) (by first | (simp [go_sem]; done) | fail) (by first | (simp [go_sem]; done) | fail) h71); clear h71 OY1)
      | (go_at_call 10; refine (toBoard_r a0_0 n0_1 V0_1 s0_1 c0_1 _ hn0_1 (HR0.out.below (HB.out.trans (Below.mono (by repeat (first | with_reducible exact Below.refl _ _ | with_reducible refine Below.setCell ?_ (by first | omega | (simp; done) | (simp; omega)) _ | with_reducible refine bDrewN ?_ _ | with_reducible refine Below.drew ?_ | with_reducible refine Below.alloc ?_ (by first | omega | (simp; done) | (simp; omega)) _)) HB.out.size)))).mono ?_; rintro e wy0 ⟨sv0_1, Sv0, rfl, -, OY0, h70⟩; have hy0 : Below w17.heap.size w17 wy0 := Below.trans (by repeat (first | with_reducible exact Below.refl _ _ | with_reducible refine Below.setCell ?_ (by first | omega | (simp; done) | (simp; omega)) _ | with_reducible refine bDrewN ?_ _ | with_reducible refine Below.drew ?_ | with_reducible refine Below.alloc ?_ (by first | omega | (simp; done) | (simp; omega)) _)) (h70.mono (by first | omega | (simp; done) | (simp; omega))); have B70 : Below w17.heap.size w17 wy0 := hy0; have s70 := B70.size; have sy0 := hy0.size; have PY0_0 : Hid (RowBoard wy0 sv0_1 n0_1 V0_1) := OY0.row; (try have Z0_0_0 := ZA0.at (p := w17.heap.size) (by first | (simp; done) | fail) (fun o => by first | (simp [go_sem]; done) | fail) (by first | (simp [go_sem]; done) | fail) (by first | (simp [go_sem]; done) | fail) h70); clear h70 OY0))
    all_goals
      go_wp2_with fail
      go_meet
      refine ⟨_, shr0_1, chr0_1, shr1, chr1, rfl, ?_, ?_, ?_, ?_, rfl, rfl, ?_, ?_, ?_⟩
      · first | (simp [go_sem, zc0_0, zc0_1]; done) | (simp [go_sem]; done)
      · first | (simp [go_sem, zc0_0, zc0_1]; done) | (simp [go_sem]; done)
      · first | (simp; done) | (simp; omega) | omega
      · omega
      · first | exact (HOR0.out.below (below0 _ _)).row | exact (HOR0.out.keep (by simp) (fun k hk hl => (set_block (by simpa using hl) (by have := HQR0.out k hk; first | omega | (simp at this; omega))).trans (set_block hl (by have := HQR0.out k hk; first | omega | (simp at this; omega))))).row
      · first | exact (HOR1.out.below (below0 _ _)).row | exact (HOR1.out.keep (by simp) (fun k hk hl => (set_block (by simpa using hl) (by have := HQR1.out k hk; first | omega | (simp at this; omega))).trans (set_block hl (by have := HQR1.out k hk; first | omega | (simp at this; omega))))).row
      · exact (by repeat (first | with_reducible exact Below.refl _ _ | with_reducible exact B9 | with_reducible refine Below.setCell ?_ (by first | omega | (simp; done) | (simp; omega)) _ | with_reducible refine bDrewN ?_ _ | with_reducible refine Below.drew ?_ | with_reducible refine Below.alloc ?_ (by first | omega | (simp; done) | (simp; omega)) _))
  obtain ⟨Ph0, shr0_1, chr0_1, shr1, chr1, rfl, ch00, ch01, zh0, loh0, rfl, rfl, Rh0, Rh1, hb⟩ := hcut
  rename World => w18
  have lw18 : w17.heap.size ≤ w18.heap.size := hb.size
  have yh0 := zh0
  replace Rh0 : Hid (RowBoard w18 shr0_1 nr0_1 Vr0_1) := Rh0
  replace Rh1 : Hid (RowI w18 shr1 nr1 Vr1) := Rh1
  replace ca00 := (hb.cell (p := ⟨w.heap.size, 0, none⟩) za0).trans ca00
  replace ca01 := (hb.cell (p := ⟨w.heap.size, 1, none⟩) za0).trans ca01
  replace za0 := Nat.lt_of_lt_of_le za0 hb.size
  replace ca10 := (hb.cell (p := ⟨w.heap.size + 1, 0, none⟩) za1).trans ca10
  replace ca11 := (hb.cell (p := ⟨w.heap.size + 1, 1, none⟩) za1).trans ca11
  replace ca12 := (hb.cell (p := ⟨w.heap.size + 1, 2, none⟩) za1).trans ca12
  replace ca13 := (hb.cell (p := ⟨w.heap.size + 1, 3, none⟩) za1).trans ca13
  replace za1 := Nat.lt_of_lt_of_le za1 hb.size
  replace cw00 := (hb.cell (p := ⟨PW0, 0, none⟩) zw0).trans cw00
  replace cw01 := (hb.cell (p := ⟨PW0, 1, none⟩) zw0).trans cw01
  replace zw0 := Nat.lt_of_lt_of_le zw0 hb.size
  replace cg00 := (hb.cell (p := ⟨w6.heap.size, 0, none⟩) zg0).trans cg00
  replace cg01 := (hb.cell (p := ⟨w6.heap.size, 1, none⟩) zg0).trans cg01
  replace zg0 := Nat.lt_of_lt_of_le zg0 hb.size
  replace Og0 : Hid (BoardR Sg0 w18 sgr0_1 nr0_1 (mkA (1))) := Og0.out.below hb
  replace Og1 : Hid (I64R Sg1 w18 sgr1 nr1 (fun j => (1 + (nr0_1 * 5 : Nat)) + (j : Int))) := Og1.out.below hb
  replace Bs : Below w3.heap.size w3 w18 := Bs.trans (hb.mono Bs.size)
  replace B0 : Below w.heap.size w w18 := B0.trans (hb.mono B0.size)
  clear hb HB
  have Bh : Below w18.heap.size w18 w18 := Below.refl _ _
  go_wp2_with fail
  refine (eqBoard_r ar0_0 nr0_1 Vr0_1 shr0_1 chr0_1 sWr0_1 cWr0_1 _ hnr0_1 ((Rh0.out.below (Below.mono (B := w18.heap.size) (Bh) (Nat.le_refl _)))) (RW0.out.below Bs)).mono ?_
  rintro e w19 ⟨rfl, hh⟩
  have hb : Below w18.heap.size w18 w19 := Below.trans (by repeat (first | with_reducible exact Below.refl _ _ | with_reducible refine Below.setCell ?_ (by first | omega | (simp; done) | (simp; omega)) _ | with_reducible refine bDrewN ?_ _ | with_reducible refine Below.drew ?_ | with_reducible refine Below.alloc ?_ (by first | omega | (simp; done) | (simp; omega)) _)) (hh.mono (by first | omega | (simp; done) | (simp; omega)))
  have lw19 : w18.heap.size ≤ w19.heap.size := hb.size
  replace ca00 := (hb.cell (p := ⟨w.heap.size, 0, none⟩) za0).trans ca00
  replace ca01 := (hb.cell (p := ⟨w.heap.size, 1, none⟩) za0).trans ca01
  replace za0 := Nat.lt_of_lt_of_le za0 hb.size
  replace ca10 := (hb.cell (p := ⟨w.heap.size + 1, 0, none⟩) za1).trans ca10
  replace ca11 := (hb.cell (p := ⟨w.heap.size + 1, 1, none⟩) za1).trans ca11
  replace ca12 := (hb.cell (p := ⟨w.heap.size + 1, 2, none⟩) za1).trans ca12
  replace ca13 := (hb.cell (p := ⟨w.heap.size + 1, 3, none⟩) za1).trans ca13
  replace za1 := Nat.lt_of_lt_of_le za1 hb.size
  replace cw00 := (hb.cell (p := ⟨PW0, 0, none⟩) zw0).trans cw00
  replace cw01 := (hb.cell (p := ⟨PW0, 1, none⟩) zw0).trans cw01
  replace zw0 := Nat.lt_of_lt_of_le zw0 hb.size
  replace cg00 := (hb.cell (p := ⟨w6.heap.size, 0, none⟩) zg0).trans cg00
  replace cg01 := (hb.cell (p := ⟨w6.heap.size, 1, none⟩) zg0).trans cg01
  replace zg0 := Nat.lt_of_lt_of_le zg0 hb.size
  replace ch00 := (hb.cell (p := ⟨Ph0, 0, none⟩) zh0).trans ch00
  replace ch01 := (hb.cell (p := ⟨Ph0, 1, none⟩) zh0).trans ch01
  replace zh0 := Nat.lt_of_lt_of_le zh0 hb.size
  replace Og0 : Hid (BoardR Sg0 w19 sgr0_1 nr0_1 (mkA (1))) := Og0.out.below hb
  replace Og1 : Hid (I64R Sg1 w19 sgr1 nr1 (fun j => (1 + (nr0_1 * 5 : Nat)) + (j : Int))) := Og1.out.below hb
  replace Bs : Below w3.heap.size w3 w19 := Bs.trans (hb.mono Bs.size)
  replace B0 : Below w.heap.size w w19 := B0.trans (hb.mono B0.size)
  replace Bh : Below w18.heap.size w18 w19 := Bh.trans (hb.mono Bh.size)
  clear hb hh
  go_wp2_with fail
  refine (eqInt64S_any shr1 sWr1 nr1 _ _ Vr1 _ hnr1 ((Rh1.out.below (Below.mono (B := w18.heap.size) (Bh) (Nat.le_refl _)))) (RW1.out.below Bs)).mono ?_
  rintro e w20 ⟨rfl, hh⟩
  have hb : Below w19.heap.size w19 w20 := Below.trans (by repeat (first | with_reducible exact Below.refl _ _ | with_reducible refine Below.setCell ?_ (by first | omega | (simp; done) | (simp; omega)) _ | with_reducible refine bDrewN ?_ _ | with_reducible refine Below.drew ?_ | with_reducible refine Below.alloc ?_ (by first | omega | (simp; done) | (simp; omega)) _)) (hh.mono (by first | omega | (simp; done) | (simp; omega)))
  have lw20 : w19.heap.size ≤ w20.heap.size := hb.size
  replace ca00 := (hb.cell (p := ⟨w.heap.size, 0, none⟩) za0).trans ca00
  replace ca01 := (hb.cell (p := ⟨w.heap.size, 1, none⟩) za0).trans ca01
  replace za0 := Nat.lt_of_lt_of_le za0 hb.size
  replace ca10 := (hb.cell (p := ⟨w.heap.size + 1, 0, none⟩) za1).trans ca10
  replace ca11 := (hb.cell (p := ⟨w.heap.size + 1, 1, none⟩) za1).trans ca11
  replace ca12 := (hb.cell (p := ⟨w.heap.size + 1, 2, none⟩) za1).trans ca12
  replace ca13 := (hb.cell (p := ⟨w.heap.size + 1, 3, none⟩) za1).trans ca13
  replace za1 := Nat.lt_of_lt_of_le za1 hb.size
  replace cw00 := (hb.cell (p := ⟨PW0, 0, none⟩) zw0).trans cw00
  replace cw01 := (hb.cell (p := ⟨PW0, 1, none⟩) zw0).trans cw01
  replace zw0 := Nat.lt_of_lt_of_le zw0 hb.size
  replace cg00 := (hb.cell (p := ⟨w6.heap.size, 0, none⟩) zg0).trans cg00
  replace cg01 := (hb.cell (p := ⟨w6.heap.size, 1, none⟩) zg0).trans cg01
  replace zg0 := Nat.lt_of_lt_of_le zg0 hb.size
  replace ch00 := (hb.cell (p := ⟨Ph0, 0, none⟩) zh0).trans ch00
  replace ch01 := (hb.cell (p := ⟨Ph0, 1, none⟩) zh0).trans ch01
  replace zh0 := Nat.lt_of_lt_of_le zh0 hb.size
  replace Og0 : Hid (BoardR Sg0 w20 sgr0_1 nr0_1 (mkA (1))) := Og0.out.below hb
  replace Og1 : Hid (I64R Sg1 w20 sgr1 nr1 (fun j => (1 + (nr0_1 * 5 : Nat)) + (j : Int))) := Og1.out.below hb
  replace Bs : Below w3.heap.size w3 w20 := Bs.trans (hb.mono Bs.size)
  replace B0 : Below w.heap.size w w20 := B0.trans (hb.mono B0.size)
  replace Bh : Below w18.heap.size w18 w20 := Bh.trans (hb.mono Bh.size)
  clear hb hh
  go_wp2_with fail
  refine (heldBoard_r ar0_0 nr0_1 Vr0_1 sgr0_1 cgr0_1 (1) _ hnr0_1 (by omega) (by omega) (Og0.out.row)).mono ?_
  rintro e w21 ⟨rfl, hh⟩
  have hb : Below w20.heap.size w20 w21 := Below.trans (by repeat (first | with_reducible exact Below.refl _ _ | with_reducible refine Below.setCell ?_ (by first | omega | (simp; done) | (simp; omega)) _ | with_reducible refine bDrewN ?_ _ | with_reducible refine Below.drew ?_ | with_reducible refine Below.alloc ?_ (by first | omega | (simp; done) | (simp; omega)) _)) (hh.mono (by first | omega | (simp; done) | (simp; omega)))
  have lw21 : w20.heap.size ≤ w21.heap.size := hb.size
  replace ca00 := (hb.cell (p := ⟨w.heap.size, 0, none⟩) za0).trans ca00
  replace ca01 := (hb.cell (p := ⟨w.heap.size, 1, none⟩) za0).trans ca01
  replace za0 := Nat.lt_of_lt_of_le za0 hb.size
  replace ca10 := (hb.cell (p := ⟨w.heap.size + 1, 0, none⟩) za1).trans ca10
  replace ca11 := (hb.cell (p := ⟨w.heap.size + 1, 1, none⟩) za1).trans ca11
  replace ca12 := (hb.cell (p := ⟨w.heap.size + 1, 2, none⟩) za1).trans ca12
  replace ca13 := (hb.cell (p := ⟨w.heap.size + 1, 3, none⟩) za1).trans ca13
  replace za1 := Nat.lt_of_lt_of_le za1 hb.size
  replace cw00 := (hb.cell (p := ⟨PW0, 0, none⟩) zw0).trans cw00
  replace cw01 := (hb.cell (p := ⟨PW0, 1, none⟩) zw0).trans cw01
  replace zw0 := Nat.lt_of_lt_of_le zw0 hb.size
  replace cg00 := (hb.cell (p := ⟨w6.heap.size, 0, none⟩) zg0).trans cg00
  replace cg01 := (hb.cell (p := ⟨w6.heap.size, 1, none⟩) zg0).trans cg01
  replace zg0 := Nat.lt_of_lt_of_le zg0 hb.size
  replace ch00 := (hb.cell (p := ⟨Ph0, 0, none⟩) zh0).trans ch00
  replace ch01 := (hb.cell (p := ⟨Ph0, 1, none⟩) zh0).trans ch01
  replace zh0 := Nat.lt_of_lt_of_le zh0 hb.size
  replace Og0 : Hid (BoardR Sg0 w21 sgr0_1 nr0_1 (mkA (1))) := Og0.out.below hb
  replace Og1 : Hid (I64R Sg1 w21 sgr1 nr1 (fun j => (1 + (nr0_1 * 5 : Nat)) + (j : Int))) := Og1.out.below hb
  replace Bs : Below w3.heap.size w3 w21 := Bs.trans (hb.mono Bs.size)
  replace B0 : Below w.heap.size w w21 := B0.trans (hb.mono B0.size)
  clear hb hh
  go_wp2_with fail
  refine (heldInt64S_any _ nr1 _ (1 + (nr0_1 * 5 : Nat)) _ hnr1 (by omega) (by omega) (Og1.out.row)).mono ?_
  rintro e w21 ⟨rfl, rfl⟩
  go_wp2
  go_ret
  exact ⟨rfl, B0⟩
set_option maxHeartbeats 1600000 in
theorem boardStep_farn0_1 (w : World) (a0_0 : Int) (n0_1 : Nat) (V0_1 : Nat → Int × Int × Int × Bool × Int) (s0_1 : Option Addr) (c0_1 : Nat) (a1_0 : Int) (n1_1 : Nat) (V1_1 : Nat → Bool) (n1_2 : Nat) (V1_2 : Nat → Int) (n1_3 : Nat) (V1_3 : Nat → Int × Int) (s1_1 : Option Addr) (c1_1 : Nat) (s1_2 : Option Addr) (c1_2 : Nat) (s1_3 : Option Addr) (c1_3 : Nat)   (g : 1048576 < (n0_1 : Int)) (gg : (n0_1 : Int) ≤ 9223372036854775807)  :
    Calls Try.prog 6 #[.agg #[.int .i64 a0_0, .slice s0_1 n0_1 c0_1], .agg #[.int .i64 a1_0, .slice s1_1 n1_1 c1_1, .slice s1_2 n1_2 c1_2, .slice s1_3 n1_3 c1_3]] w fun e w' => e = .returned (.bool true) ∧ Below w.heap.size w w' := by
  go_enter Try.func6, Try.ntmps6
  go_wp2_with fail
  refine (szBoard_off1 a0_0 n0_1 V0_1 s0_1 c0_1 _ _ (by omega) (by omega) (by omega) (by omega)).mono ?_
  rintro e u1 ⟨rfl, hh⟩
  have hb : Below w.heap.size w u1 := Below.trans (by repeat (first | with_reducible exact Below.refl _ _ | with_reducible refine Below.setCell ?_ (by first | omega | (simp; done) | (simp; omega)) _ | with_reducible refine bDrewN ?_ _ | with_reducible refine Below.drew ?_ | with_reducible refine Below.alloc ?_ (by first | omega | (simp; done) | (simp; omega)) _)) (hh.mono (by first | omega | (simp; done) | (simp; omega)))
  have ca00 : u1.cell? ⟨w.heap.size, 0, none⟩ = some (.int .i64 a0_0) := by rw [hh.cell (by first | omega | (simp; done) | (simp; omega))]; first | (simp; done) | (simp [go_sem]; done)
  have ca01 : u1.cell? ⟨w.heap.size, 1, none⟩ = some (.slice s0_1 n0_1 c0_1) := by rw [hh.cell (by first | omega | (simp; done) | (simp; omega))]; first | (simp; done) | (simp [go_sem]; done)
  have za0 : w.heap.size < u1.heap.size := by have := hh.size; simp at this; omega
  have ca10 : u1.cell? ⟨w.heap.size + 1, 0, none⟩ = some (.int .i64 a1_0) := by rw [hh.cell (by first | omega | (simp; done) | (simp; omega))]; first | (simp; done) | (simp [go_sem]; done)
  have ca11 : u1.cell? ⟨w.heap.size + 1, 1, none⟩ = some (.slice s1_1 n1_1 c1_1) := by rw [hh.cell (by first | omega | (simp; done) | (simp; omega))]; first | (simp; done) | (simp [go_sem]; done)
  have ca12 : u1.cell? ⟨w.heap.size + 1, 2, none⟩ = some (.slice s1_2 n1_2 c1_2) := by rw [hh.cell (by first | omega | (simp; done) | (simp; omega))]; first | (simp; done) | (simp [go_sem]; done)
  have ca13 : u1.cell? ⟨w.heap.size + 1, 3, none⟩ = some (.slice s1_3 n1_3 c1_3) := by rw [hh.cell (by first | omega | (simp; done) | (simp; omega))]; first | (simp; done) | (simp [go_sem]; done)
  have za1 : w.heap.size + 1 < u1.heap.size := by have := hh.size; simp at this; omega
  have B0 := hb
  clear hb hh
  go_wp2
  go_ret
  exact ⟨rfl, (by repeat (first | with_reducible exact Below.refl _ _ | with_reducible exact B0 | with_reducible refine Below.setCell ?_ (by first | omega | (simp; done) | (simp; omega)) _ | with_reducible refine bDrewN ?_ _ | with_reducible refine Below.drew ?_ | with_reducible refine Below.alloc ?_ (by first | omega | (simp; done) | (simp; omega)) _))⟩
set_option maxHeartbeats 1600000 in
theorem boardStep_farn1_1 (w : World) (a0_0 : Int) (n0_1 : Nat) (V0_1 : Nat → Int × Int × Int × Bool × Int) (s0_1 : Option Addr) (c0_1 : Nat) (a1_0 : Int) (n1_1 : Nat) (V1_1 : Nat → Bool) (n1_2 : Nat) (V1_2 : Nat → Int) (n1_3 : Nat) (V1_3 : Nat → Int × Int) (s1_1 : Option Addr) (c1_1 : Nat) (s1_2 : Option Addr) (c1_2 : Nat) (s1_3 : Option Addr) (c1_3 : Nat)  (gn0_1 : (n0_1 : Int) ≤ 1048576) (g : 1048576 - n0_1 < (n1_1 : Int)) (gg : (n1_1 : Int) ≤ 9223372036854775807)  :
    Calls Try.prog 6 #[.agg #[.int .i64 a0_0, .slice s0_1 n0_1 c0_1], .agg #[.int .i64 a1_0, .slice s1_1 n1_1 c1_1, .slice s1_2 n1_2 c1_2, .slice s1_3 n1_3 c1_3]] w fun e w' => e = .returned (.bool true) ∧ Below w.heap.size w w' := by
  go_enter Try.func6, Try.ntmps6
  go_wp2_with fail
  refine (szBoard_on a0_0 n0_1 V0_1 s0_1 c0_1 _ _ (by omega) (by omega) (by omega)).mono ?_
  rintro e u1 ⟨rfl, hh⟩
  have hb : Below w.heap.size w u1 := Below.trans (by repeat (first | with_reducible exact Below.refl _ _ | with_reducible refine Below.setCell ?_ (by first | omega | (simp; done) | (simp; omega)) _ | with_reducible refine bDrewN ?_ _ | with_reducible refine Below.drew ?_ | with_reducible refine Below.alloc ?_ (by first | omega | (simp; done) | (simp; omega)) _)) (hh.mono (by first | omega | (simp; done) | (simp; omega)))
  have ca00 : u1.cell? ⟨w.heap.size, 0, none⟩ = some (.int .i64 a0_0) := by rw [hh.cell (by first | omega | (simp; done) | (simp; omega))]; first | (simp; done) | (simp [go_sem]; done)
  have ca01 : u1.cell? ⟨w.heap.size, 1, none⟩ = some (.slice s0_1 n0_1 c0_1) := by rw [hh.cell (by first | omega | (simp; done) | (simp; omega))]; first | (simp; done) | (simp [go_sem]; done)
  have za0 : w.heap.size < u1.heap.size := by have := hh.size; simp at this; omega
  have ca10 : u1.cell? ⟨w.heap.size + 1, 0, none⟩ = some (.int .i64 a1_0) := by rw [hh.cell (by first | omega | (simp; done) | (simp; omega))]; first | (simp; done) | (simp [go_sem]; done)
  have ca11 : u1.cell? ⟨w.heap.size + 1, 1, none⟩ = some (.slice s1_1 n1_1 c1_1) := by rw [hh.cell (by first | omega | (simp; done) | (simp; omega))]; first | (simp; done) | (simp [go_sem]; done)
  have ca12 : u1.cell? ⟨w.heap.size + 1, 2, none⟩ = some (.slice s1_2 n1_2 c1_2) := by rw [hh.cell (by first | omega | (simp; done) | (simp; omega))]; first | (simp; done) | (simp [go_sem]; done)
  have ca13 : u1.cell? ⟨w.heap.size + 1, 3, none⟩ = some (.slice s1_3 n1_3 c1_3) := by rw [hh.cell (by first | omega | (simp; done) | (simp; omega))]; first | (simp; done) | (simp [go_sem]; done)
  have za1 : w.heap.size + 1 < u1.heap.size := by have := hh.size; simp at this; omega
  have B0 := hb
  clear hb hh
  go_wp2_with fail
  refine (szScan_off1 a1_0 n1_1 V1_1 n1_2 V1_2 n1_3 V1_3 s1_1 c1_1 s1_2 c1_2 s1_3 c1_3 _ _ (by omega) (by omega) (by omega) (by omega)).mono ?_
  rintro e u2 ⟨rfl, hh⟩
  have hb : Below u1.heap.size u1 u2 := Below.trans (by repeat (first | with_reducible exact Below.refl _ _ | with_reducible refine Below.setCell ?_ (by first | omega | (simp; done) | (simp; omega)) _ | with_reducible refine bDrewN ?_ _ | with_reducible refine Below.drew ?_ | with_reducible refine Below.alloc ?_ (by first | omega | (simp; done) | (simp; omega)) _)) (hh.mono (by first | omega | (simp; done) | (simp; omega)))
  replace ca00 := (hb.cell (p := ⟨w.heap.size, 0, none⟩) za0).trans ca00
  replace ca01 := (hb.cell (p := ⟨w.heap.size, 1, none⟩) za0).trans ca01
  replace za0 := Nat.lt_of_lt_of_le za0 hb.size
  replace ca10 := (hb.cell (p := ⟨w.heap.size + 1, 0, none⟩) za1).trans ca10
  replace ca11 := (hb.cell (p := ⟨w.heap.size + 1, 1, none⟩) za1).trans ca11
  replace ca12 := (hb.cell (p := ⟨w.heap.size + 1, 2, none⟩) za1).trans ca12
  replace ca13 := (hb.cell (p := ⟨w.heap.size + 1, 3, none⟩) za1).trans ca13
  replace za1 := Nat.lt_of_lt_of_le za1 hb.size
  replace B0 : Below w.heap.size w u2 := B0.trans (hb.mono B0.size)
  clear hb hh
  go_wp2
  go_ret
  exact ⟨rfl, (by repeat (first | with_reducible exact Below.refl _ _ | with_reducible exact B0 | with_reducible refine Below.setCell ?_ (by first | omega | (simp; done) | (simp; omega)) _ | with_reducible refine bDrewN ?_ _ | with_reducible refine Below.drew ?_ | with_reducible refine Below.alloc ?_ (by first | omega | (simp; done) | (simp; omega)) _))⟩
set_option maxHeartbeats 1600000 in
theorem boardStep_farn1_2 (w : World) (a0_0 : Int) (n0_1 : Nat) (V0_1 : Nat → Int × Int × Int × Bool × Int) (s0_1 : Option Addr) (c0_1 : Nat) (a1_0 : Int) (n1_1 : Nat) (V1_1 : Nat → Bool) (n1_2 : Nat) (V1_2 : Nat → Int) (n1_3 : Nat) (V1_3 : Nat → Int × Int) (s1_1 : Option Addr) (c1_1 : Nat) (s1_2 : Option Addr) (c1_2 : Nat) (s1_3 : Option Addr) (c1_3 : Nat)  (gn0_1 : (n0_1 : Int) ≤ 1048576) (gn1_1 : (n1_1 : Int) ≤ 1048576 - n0_1) (g : 1048576 - n0_1 - n1_1 < (n1_2 : Int)) (gg : (n1_2 : Int) ≤ 9223372036854775807)  :
    Calls Try.prog 6 #[.agg #[.int .i64 a0_0, .slice s0_1 n0_1 c0_1], .agg #[.int .i64 a1_0, .slice s1_1 n1_1 c1_1, .slice s1_2 n1_2 c1_2, .slice s1_3 n1_3 c1_3]] w fun e w' => e = .returned (.bool true) ∧ Below w.heap.size w w' := by
  go_enter Try.func6, Try.ntmps6
  go_wp2_with fail
  refine (szBoard_on a0_0 n0_1 V0_1 s0_1 c0_1 _ _ (by omega) (by omega) (by omega)).mono ?_
  rintro e u1 ⟨rfl, hh⟩
  have hb : Below w.heap.size w u1 := Below.trans (by repeat (first | with_reducible exact Below.refl _ _ | with_reducible refine Below.setCell ?_ (by first | omega | (simp; done) | (simp; omega)) _ | with_reducible refine bDrewN ?_ _ | with_reducible refine Below.drew ?_ | with_reducible refine Below.alloc ?_ (by first | omega | (simp; done) | (simp; omega)) _)) (hh.mono (by first | omega | (simp; done) | (simp; omega)))
  have ca00 : u1.cell? ⟨w.heap.size, 0, none⟩ = some (.int .i64 a0_0) := by rw [hh.cell (by first | omega | (simp; done) | (simp; omega))]; first | (simp; done) | (simp [go_sem]; done)
  have ca01 : u1.cell? ⟨w.heap.size, 1, none⟩ = some (.slice s0_1 n0_1 c0_1) := by rw [hh.cell (by first | omega | (simp; done) | (simp; omega))]; first | (simp; done) | (simp [go_sem]; done)
  have za0 : w.heap.size < u1.heap.size := by have := hh.size; simp at this; omega
  have ca10 : u1.cell? ⟨w.heap.size + 1, 0, none⟩ = some (.int .i64 a1_0) := by rw [hh.cell (by first | omega | (simp; done) | (simp; omega))]; first | (simp; done) | (simp [go_sem]; done)
  have ca11 : u1.cell? ⟨w.heap.size + 1, 1, none⟩ = some (.slice s1_1 n1_1 c1_1) := by rw [hh.cell (by first | omega | (simp; done) | (simp; omega))]; first | (simp; done) | (simp [go_sem]; done)
  have ca12 : u1.cell? ⟨w.heap.size + 1, 2, none⟩ = some (.slice s1_2 n1_2 c1_2) := by rw [hh.cell (by first | omega | (simp; done) | (simp; omega))]; first | (simp; done) | (simp [go_sem]; done)
  have ca13 : u1.cell? ⟨w.heap.size + 1, 3, none⟩ = some (.slice s1_3 n1_3 c1_3) := by rw [hh.cell (by first | omega | (simp; done) | (simp; omega))]; first | (simp; done) | (simp [go_sem]; done)
  have za1 : w.heap.size + 1 < u1.heap.size := by have := hh.size; simp at this; omega
  have B0 := hb
  clear hb hh
  go_wp2_with fail
  refine (szScan_off2 a1_0 n1_1 V1_1 n1_2 V1_2 n1_3 V1_3 s1_1 c1_1 s1_2 c1_2 s1_3 c1_3 _ _ (by omega) (by omega) (by omega) (by omega) (by omega)).mono ?_
  rintro e u2 ⟨rfl, hh⟩
  have hb : Below u1.heap.size u1 u2 := Below.trans (by repeat (first | with_reducible exact Below.refl _ _ | with_reducible refine Below.setCell ?_ (by first | omega | (simp; done) | (simp; omega)) _ | with_reducible refine bDrewN ?_ _ | with_reducible refine Below.drew ?_ | with_reducible refine Below.alloc ?_ (by first | omega | (simp; done) | (simp; omega)) _)) (hh.mono (by first | omega | (simp; done) | (simp; omega)))
  replace ca00 := (hb.cell (p := ⟨w.heap.size, 0, none⟩) za0).trans ca00
  replace ca01 := (hb.cell (p := ⟨w.heap.size, 1, none⟩) za0).trans ca01
  replace za0 := Nat.lt_of_lt_of_le za0 hb.size
  replace ca10 := (hb.cell (p := ⟨w.heap.size + 1, 0, none⟩) za1).trans ca10
  replace ca11 := (hb.cell (p := ⟨w.heap.size + 1, 1, none⟩) za1).trans ca11
  replace ca12 := (hb.cell (p := ⟨w.heap.size + 1, 2, none⟩) za1).trans ca12
  replace ca13 := (hb.cell (p := ⟨w.heap.size + 1, 3, none⟩) za1).trans ca13
  replace za1 := Nat.lt_of_lt_of_le za1 hb.size
  replace B0 : Below w.heap.size w u2 := B0.trans (hb.mono B0.size)
  clear hb hh
  go_wp2
  go_ret
  exact ⟨rfl, (by repeat (first | with_reducible exact Below.refl _ _ | with_reducible exact B0 | with_reducible refine Below.setCell ?_ (by first | omega | (simp; done) | (simp; omega)) _ | with_reducible refine bDrewN ?_ _ | with_reducible refine Below.drew ?_ | with_reducible refine Below.alloc ?_ (by first | omega | (simp; done) | (simp; omega)) _))⟩
set_option maxHeartbeats 1600000 in
theorem boardStep_farn1_3 (w : World) (a0_0 : Int) (n0_1 : Nat) (V0_1 : Nat → Int × Int × Int × Bool × Int) (s0_1 : Option Addr) (c0_1 : Nat) (a1_0 : Int) (n1_1 : Nat) (V1_1 : Nat → Bool) (n1_2 : Nat) (V1_2 : Nat → Int) (n1_3 : Nat) (V1_3 : Nat → Int × Int) (s1_1 : Option Addr) (c1_1 : Nat) (s1_2 : Option Addr) (c1_2 : Nat) (s1_3 : Option Addr) (c1_3 : Nat)  (gn0_1 : (n0_1 : Int) ≤ 1048576) (gn1_1 : (n1_1 : Int) ≤ 1048576 - n0_1) (gn1_2 : (n1_2 : Int) ≤ 1048576 - n0_1 - n1_1) (g : 1048576 - n0_1 - n1_1 - n1_2 < (n1_3 : Int)) (gg : (n1_3 : Int) ≤ 9223372036854775807)  :
    Calls Try.prog 6 #[.agg #[.int .i64 a0_0, .slice s0_1 n0_1 c0_1], .agg #[.int .i64 a1_0, .slice s1_1 n1_1 c1_1, .slice s1_2 n1_2 c1_2, .slice s1_3 n1_3 c1_3]] w fun e w' => e = .returned (.bool true) ∧ Below w.heap.size w w' := by
  go_enter Try.func6, Try.ntmps6
  go_wp2_with fail
  refine (szBoard_on a0_0 n0_1 V0_1 s0_1 c0_1 _ _ (by omega) (by omega) (by omega)).mono ?_
  rintro e u1 ⟨rfl, hh⟩
  have hb : Below w.heap.size w u1 := Below.trans (by repeat (first | with_reducible exact Below.refl _ _ | with_reducible refine Below.setCell ?_ (by first | omega | (simp; done) | (simp; omega)) _ | with_reducible refine bDrewN ?_ _ | with_reducible refine Below.drew ?_ | with_reducible refine Below.alloc ?_ (by first | omega | (simp; done) | (simp; omega)) _)) (hh.mono (by first | omega | (simp; done) | (simp; omega)))
  have ca00 : u1.cell? ⟨w.heap.size, 0, none⟩ = some (.int .i64 a0_0) := by rw [hh.cell (by first | omega | (simp; done) | (simp; omega))]; first | (simp; done) | (simp [go_sem]; done)
  have ca01 : u1.cell? ⟨w.heap.size, 1, none⟩ = some (.slice s0_1 n0_1 c0_1) := by rw [hh.cell (by first | omega | (simp; done) | (simp; omega))]; first | (simp; done) | (simp [go_sem]; done)
  have za0 : w.heap.size < u1.heap.size := by have := hh.size; simp at this; omega
  have ca10 : u1.cell? ⟨w.heap.size + 1, 0, none⟩ = some (.int .i64 a1_0) := by rw [hh.cell (by first | omega | (simp; done) | (simp; omega))]; first | (simp; done) | (simp [go_sem]; done)
  have ca11 : u1.cell? ⟨w.heap.size + 1, 1, none⟩ = some (.slice s1_1 n1_1 c1_1) := by rw [hh.cell (by first | omega | (simp; done) | (simp; omega))]; first | (simp; done) | (simp [go_sem]; done)
  have ca12 : u1.cell? ⟨w.heap.size + 1, 2, none⟩ = some (.slice s1_2 n1_2 c1_2) := by rw [hh.cell (by first | omega | (simp; done) | (simp; omega))]; first | (simp; done) | (simp [go_sem]; done)
  have ca13 : u1.cell? ⟨w.heap.size + 1, 3, none⟩ = some (.slice s1_3 n1_3 c1_3) := by rw [hh.cell (by first | omega | (simp; done) | (simp; omega))]; first | (simp; done) | (simp [go_sem]; done)
  have za1 : w.heap.size + 1 < u1.heap.size := by have := hh.size; simp at this; omega
  have B0 := hb
  clear hb hh
  go_wp2_with fail
  refine (szScan_off3 a1_0 n1_1 V1_1 n1_2 V1_2 n1_3 V1_3 s1_1 c1_1 s1_2 c1_2 s1_3 c1_3 _ _ (by omega) (by omega) (by omega) (by omega) (by omega) (by omega)).mono ?_
  rintro e u2 ⟨rfl, hh⟩
  have hb : Below u1.heap.size u1 u2 := Below.trans (by repeat (first | with_reducible exact Below.refl _ _ | with_reducible refine Below.setCell ?_ (by first | omega | (simp; done) | (simp; omega)) _ | with_reducible refine bDrewN ?_ _ | with_reducible refine Below.drew ?_ | with_reducible refine Below.alloc ?_ (by first | omega | (simp; done) | (simp; omega)) _)) (hh.mono (by first | omega | (simp; done) | (simp; omega)))
  replace ca00 := (hb.cell (p := ⟨w.heap.size, 0, none⟩) za0).trans ca00
  replace ca01 := (hb.cell (p := ⟨w.heap.size, 1, none⟩) za0).trans ca01
  replace za0 := Nat.lt_of_lt_of_le za0 hb.size
  replace ca10 := (hb.cell (p := ⟨w.heap.size + 1, 0, none⟩) za1).trans ca10
  replace ca11 := (hb.cell (p := ⟨w.heap.size + 1, 1, none⟩) za1).trans ca11
  replace ca12 := (hb.cell (p := ⟨w.heap.size + 1, 2, none⟩) za1).trans ca12
  replace ca13 := (hb.cell (p := ⟨w.heap.size + 1, 3, none⟩) za1).trans ca13
  replace za1 := Nat.lt_of_lt_of_le za1 hb.size
  replace B0 : Below w.heap.size w u2 := B0.trans (hb.mono B0.size)
  clear hb hh
  go_wp2
  go_ret
  exact ⟨rfl, (by repeat (first | with_reducible exact Below.refl _ _ | with_reducible exact B0 | with_reducible refine Below.setCell ?_ (by first | omega | (simp; done) | (simp; omega)) _ | with_reducible refine bDrewN ?_ _ | with_reducible refine Below.drew ?_ | with_reducible refine Below.alloc ?_ (by first | omega | (simp; done) | (simp; omega)) _))⟩
theorem fnExactBoardStep_walk (w : World) (a0_0 : Int) (s0_1 : Option Addr) (n0_1 c0_1 : Nat) (V0_1 : Nat → Int × Int × Int × Bool × Int) (w0_0 : (Lit.int .i64 a0_0).wf = true) (m0_1 : n0_1 ≤ 9223372036854775807) (R0_1 : RowAlarm w s0_1 n0_1 V0_1) (a1_0 : Int) (s1_1 : Option Addr) (n1_1 c1_1 : Nat) (V1_1 : Nat → Bool) (s1_2 : Option Addr) (n1_2 c1_2 : Nat) (V1_2 : Nat → Int) (s1_3 : Option Addr) (n1_3 c1_3 : Nat) (V1_3 : Nat → Int × Int) (w1_0 : (Lit.int .i64 a1_0).wf = true) (m1_1 : n1_1 ≤ 9223372036854775807) (R1_1 : RowB w s1_1 n1_1 V1_1) (m1_2 : n1_2 ≤ 9223372036854775807) (R1_2 : RowI w s1_2 n1_2 V1_2) (m1_3 : n1_3 ≤ 9223372036854775807) (R1_3 : RowShelf w s1_3 n1_3 V1_3) :
    Calls Try.prog 6 #[.agg #[.int .i64 a0_0, .slice s0_1 n0_1 c0_1], .agg #[.int .i64 a1_0, .slice s1_1 n1_1 c1_1, .slice s1_2 n1_2 c1_2, .slice s1_3 n1_3 c1_3]] w fun e w' => e = .returned (.bool true) ∧ Below w.heap.size w w' := by
  by_cases gn0_1 : (n0_1 : Int) ≤ 1048576
  case neg => exact boardStep_farn0_1 w a0_0 n0_1 V0_1 s0_1 c0_1 a1_0 n1_1 V1_1 n1_2 V1_2 n1_3 V1_3 s1_1 c1_1 s1_2 c1_2 s1_3 c1_3   (by omega) (by omega) 
  by_cases gn1_1 : (n1_1 : Int) ≤ 1048576 - n0_1
  case neg => exact boardStep_farn1_1 w a0_0 n0_1 V0_1 s0_1 c0_1 a1_0 n1_1 V1_1 n1_2 V1_2 n1_3 V1_3 s1_1 c1_1 s1_2 c1_2 s1_3 c1_3  gn0_1 (by omega) (by omega) 
  by_cases gn1_2 : (n1_2 : Int) ≤ 1048576 - n0_1 - n1_1
  case neg => exact boardStep_farn1_2 w a0_0 n0_1 V0_1 s0_1 c0_1 a1_0 n1_1 V1_1 n1_2 V1_2 n1_3 V1_3 s1_1 c1_1 s1_2 c1_2 s1_3 c1_3  gn0_1 gn1_1 (by omega) (by omega) 
  by_cases gn1_3 : (n1_3 : Int) ≤ 1048576 - n0_1 - n1_1 - n1_2
  case neg => exact boardStep_farn1_3 w a0_0 n0_1 V0_1 s0_1 c0_1 a1_0 n1_1 V1_1 n1_2 V1_2 n1_3 V1_3 s1_1 c1_1 s1_2 c1_2 s1_3 c1_3  gn0_1 gn1_1 gn1_2 (by omega) (by omega) 
  exact boardStep_near w a0_0 n0_1 V0_1 s0_1 c0_1 (by omega) R0_1 a1_0 n1_1 V1_1 n1_2 V1_2 n1_3 V1_3 s1_1 c1_1 s1_2 c1_2 s1_3 c1_3 (by omega) (by omega) (by omega) ⟨R1_1, R1_2, R1_3⟩ (by omega) (by omega) (by omega) (by omega) (stX a0_0 n0_1 V0_1 a1_0 n1_1 V1_1 n1_2 V1_2 n1_3 V1_3) (stN a0_0 n0_1 V0_1 a1_0 n1_1 V1_1 n1_2 V1_2 n1_3 V1_3) (stV a0_0 n0_1 V0_1 a1_0 n1_1 V1_1 n1_2 V1_2 n1_3 V1_3) (stN_le (by omega)) (stT a0_0 n0_1 V0_1 a1_0 n1_1 V1_1 n1_2 V1_2 n1_3 V1_3).length (nthI (stT a0_0 n0_1 V0_1 a1_0 n1_1 V1_1 n1_2 V1_2 n1_3 V1_3)) (stT_le (by omega)) _ (fun s c st ct ss cs sh ch w q1 q2 => (specBoardStep_any a0_0 s n0_1 c V0_1 a1_0 st n1_1 ct V1_1 ss n1_2 cs V1_2 sh n1_3 ch V1_3 w (by omega) (by omega) (by omega) (by omega) q1 q2.1 q2.2.1 q2.2.2).mono fun e w' h => h) (fun s c st ct ss cs sh ch w q1 q2 => (implBoardStep_any a0_0 s n0_1 c V0_1 a1_0 st n1_1 ct V1_1 ss n1_2 cs V1_2 sh n1_3 ch V1_3 w (by omega) (by omega) (by omega) (by omega) q1 q2.1 q2.2.1 q2.2.2).mono fun e w' h => h)

set_option maxRecDepth 100000 in
theorem fnExactBoardStep_lifted (os : Os) (started : os.Started) (H : Type) (enc : TypeId × Value → H) :
    ReturnsInHanded {} Try.checked os 6 .any (Rows.fnExactBoardStepSpec.pre6 enc Try.prog Try.f6 Rows.fnExactBoardStepRow.domain false) (Rows.fnExactBoardStepSpec.post enc Try.prog Try.f6 false true false false) := by
  refine returnsInHanded_of_change (C := Try.checked) own started (by kernel_rfl) Try.func6
    (ChangeSpec.witness6 (enc := enc) (C := Try.checked) false ⟨#[], #[.agg #[.int .i64 0, .slice none 0 0], .agg #[.int .i64 0, .slice none 0 0, .slice none 0 0, .slice none 0 0]], []⟩ 8 (by kernel_rfl) (by kernel_rfl) (by kernel_rfl) (by kernel_rfl)) ?_
  intro W base args ds gs before hval0 hW hcnd _
  have hval : ∀ (j : Nat) t v, Try.f6.params[j]? = some t → args[j]? = some v → Value.okWide Try.prog W .any base t v := hval0
  have hW' := hW
  obtain ⟨p, q, hA0, hV, rfl, hfz, hnd⟩ := hW
  have hA : DataW.TrodAll enc Try.prog W 0 (fun _ => true) true Try.f6.params.toList args.toList ds p := hA0
  rw [Try.params6] at hA hval
  obtain ⟨v0, vs0, d0, ds0, p0, q0, hargs, rfl, rfl, h0, r0⟩ := trodAll_cons hA
  obtain ⟨v1, vs1, d1, ds1, p1, q1, rfl, rfl, rfl, h1, r1⟩ := trodAll_cons r0
  obtain ⟨rfl, rfl, rfl⟩ := trodAll_nil r1
  obtain rfl : args = #[v0, v1] := by cases args; simp_all
  obtain ⟨rfl, rfl⟩ := trodVars_none hV
  have k0 := h0
  have lt0 : ∀ x ∈ p0, x.block < W.heap.size := by obtain ⟨m, hm⟩ := k0; exact DataW.trod_lt m _ _ _ hm
  have k1 := h1
  have lt1 : ∀ x ∈ p1, x.block < W.heap.size := by obtain ⟨m, hm⟩ := k1; exact DataW.trod_lt m _ _ _ hm
  obtain ⟨a0_0, s0_1, n0_1, c0_1, V0_1, rfl, w0_0, m0_1, R0_1⟩ := open_Board (hval 0 24 v0 rfl rfl) h0
  obtain ⟨a1_0, s1_1, n1_1, c1_1, V1_1, s1_2, n1_2, c1_2, V1_2, s1_3, n1_3, c1_3, V1_3, rfl, w1_0, m1_1, R1_1, m1_2, R1_2, m1_3, R1_3⟩ := open_Scan (hval 1 43 v1 rfl rfl) h1
  clear hA0 hval0
  refine (fnExactBoardStep_walk W a0_0 s0_1 n0_1 c0_1 V0_1 w0_0 m0_1 R0_1 a1_0 s1_1 n1_1 c1_1 V1_1 s1_2 n1_2 c1_2 V1_2 s1_3 n1_3 c1_3 V1_3 w1_0 m1_1 R1_1 m1_2 R1_2 m1_3 R1_3).mono fun e W' ⟨he, bel⟩ => ?_
  subst he
  exact ⟨_, rfl, _, _, _, [], _, [], hW', trodAll_mk1 (shut_bool Try.underlying4 _), (trodAll_cons_mk (Below.trod laidOut (by kernel_rfl) (of_decide_eq_true (by kernel_rfl)) k0 bel lt0) (trodAll_cons_mk (Below.trod laidOut (by kernel_rfl) (of_decide_eq_true (by kernel_rfl)) k1 bel lt1) trodAll_mk0)), rfl, bel.frame _, fun h => by cases h⟩

theorem fnExactBoardStep_holds : Rows.FnExactBoardStepSaid :=
  OpenClaim.holds_of_wide 6 Try.f6 rfl rfl rfl rfl rfl rfl rfl ⟨rfl, rfl, rfl, rfl, rfl⟩ rfl rfl rfl rfl rfl (by kernel_rfl) Try.func6 (by kernel_rfl)
    (of_decide_eq_true (by kernel_rfl)) (by unfold Func.isWrapper; first | (rw [if_pos (by decide +kernel)]; kernel_rfl) | (rw [if_neg (by decide +kernel)]; exact ⟨rfl, rfl⟩))
    (fun os started H enc _ => fnExactBoardStep_lifted os started H enc)
#print axioms fnExactBoardStep_holds
end Go.Proofs.Ytjgedbofkajdjaa
