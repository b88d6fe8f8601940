/-
What is proved: at every net, book and Id impl.GiveBack answers as the specification's GiveBack and leaves them as they were; its answer is new memory; no condition.
-/
import Derived.Test.YtikcfpjfcpbfcaaQgC
import Derived.Test.YtikcfpjfcpbfcaaQgD
import Derived.Test.YtikcfpjfcpbfcaaQgE
import Derived.Test.YtikcfpjfcpbfcaaI64R2
namespace Go.Proofs.Ytikcfpjfcpbfcaa
set_option maxRecDepth 40000
open Go.ChangeShapes Go.WideShapes Go.ChangeAt Go.RowKit
set_option linter.unusedVariables false
set_option linter.unusedSimpArgs false

theorem gb_ex (p : Int) (n : Nat) (D : Nat → Int × Int) (m : Nat) (S : Nat → Int) (nb : Nat) (X Y : Nat → Int) (K : Nat → Nat) (V : Nat → Nat → Int) (id : Int) (hn : (n : Int) ≤ 1048576) (hm : (m : Int) ≤ 1048576) (hs : (nb : Int) + (suK K nb : Int) ≤ 1048576) : ∃ (nr : Nat) (X' Y' : Nat → Int) (K' : Nat → Nat) (V' : Nat → Nat → Int) (nl : Nat) (U : Nat → Int) (cd : Int), (nr : Int) + (suK K' nr : Int) ≤ 1048576 ∧ (nl : Int) ≤ 1048576 ∧
    (∀ (s t bs : Option Addr) (w : World), RowDuct w s n D → RowI w t m S → RowPer w bs nb X Y K V → Calls Try.prog 24 #[.agg #[.int .i64 p, .slice s n n, .slice t m m], .agg #[.slice bs nb nb], .int .i64 id] w fun e w' => ∃ (s : Option Addr) (c : Nat) (t : Option Addr) (d : Nat) (S T : Nat → Prop), e = .returned (.tuple #[.agg #[.slice s nr c], .slice t nl d, .int .i64 cd]) ∧ (∀ k, S k → w.heap.size ≤ k ∧ k < w'.heap.size) ∧ BookR S w' s nr X' Y' K' V' ∧ (∀ k, T k → w.heap.size ≤ k ∧ k < w'.heap.size) ∧ I64R T w' t nl U ∧ (∀ k, S k → ¬ T k) ∧ Below w.heap.size w w') ∧
    (∀ (s t bs : Option Addr) (w : World), RowDuct w s n D → RowI w t m S → RowPer w bs nb X Y K V → Calls Try.prog 25 #[.agg #[.int .i64 p, .slice s n n, .slice t m m], .agg #[.slice bs nb nb], .int .i64 id] w fun e w' => ∃ (s : Option Addr) (c : Nat) (t : Option Addr) (d : Nat) (S T : Nat → Prop), e = .returned (.tuple #[.agg #[.slice s nr c], .slice t nl d, .int .i64 cd]) ∧ (∀ k, S k → w.heap.size ≤ k ∧ k < w'.heap.size) ∧ BookR S w' s nr X' Y' K' V' ∧ (∀ k, T k → w.heap.size ≤ k ∧ k < w'.heap.size) ∧ I64R T w' t nl U ∧ (∀ k, S k → ¬ T k) ∧ Below w.heap.size w w') := by
  have hK : ∀ i, i < nb → (K i : Int) ≤ 1048576 := Per_each hs
  have hb : (nb : Int) ≤ 1048576 := by omega
  cases hok : bokB p n D m S nb X Y K V
  case false =>
    have hq : bokB p n D m S nb X Y K V = true → HitAt nb X id 0 := fun z => by rw [hok] at z; cases z
    refine ⟨0, X, Y, K, V, 0, nthI [], 1, by simp [suK], by omega, fun s t bs w h1 h2 h3 => (specGiveBack_any p s n n D t m m S bs nb nb X Y K V id 0 w hn hm h1 h2 hb hK h3 hq).mono fun e w' h => ?_, fun s t bs w h1 h2 h3 => (implGiveBack_any p s n n D t m m S bs nb nb X Y K V id 0 w hn hm h1 h2 hb (Nat.le_refl _) hK h3 hq).mono fun e w' h => ?_⟩
    all_goals
      unfold GbAns at h
      rw [hok] at h
      exact h
  case true =>
    obtain ⟨q, hq0⟩ := hit_ex nb X id (bok_rises hok)
    have hq : bokB p n D m S nb X Y K V = true → HitAt nb X id q := fun _ => hq0
    by_cases z : q < nb
    case pos =>
      have hk := hK q z
      have hf := fre_len (V q) (cntP (fun i => K (sk q i)) (fun i => V (sk q i)) (nb - 1)) (K q)
      refine ⟨nb - 1, (fun i => X (sk q i)), (fun i => Y (sk q i)), (fun i => K (sk q i)), (fun i => V (sk q i)), (freL (V q) (cntP (fun i => K (sk q i)) (fun i => V (sk q i)) (nb - 1)) (K q)).length, nthI (freL (V q) (cntP (fun i => K (sk q i)) (fun i => V (sk q i)) (nb - 1)) (K q)), 0, gb_size z hs, by omega, fun s t bs w h1 h2 h3 => (specGiveBack_any p s n n D t m m S bs nb nb X Y K V id q w hn hm h1 h2 hb hK h3 hq).mono fun e w' h => ?_, fun s t bs w h1 h2 h3 => (implGiveBack_any p s n n D t m m S bs nb nb X Y K V id q w hn hm h1 h2 hb (Nat.le_refl _) hK h3 hq).mono fun e w' h => ?_⟩
      all_goals
        unfold GbAns at h
        rw [if_pos hok, if_pos z] at h
        exact h
    case neg =>
      refine ⟨nb, X, Y, K, V, 0, nthI [], 7, hs, by omega, fun s t bs w h1 h2 h3 => (specGiveBack_any p s n n D t m m S bs nb nb X Y K V id q w hn hm h1 h2 hb hK h3 hq).mono fun e w' h => ?_, fun s t bs w h1 h2 h3 => (implGiveBack_any p s n n D t m m S bs nb nb X Y K V id q w hn hm h1 h2 hb (Nat.le_refl _) hK h3 hq).mono fun e w' h => ?_⟩
      all_goals
        unfold GbAns at h
        rw [if_pos hok, if_neg z] at h
        exact h
def giveBackRes (c0 : World) (nr0_0 : Nat) (Xr0_0 : Nat → Int) (Yr0_0 : Nat → Int) (Kr0_0 : Nat → Nat) (Vr0_0 : Nat → Nat → Int) (nr1 : Nat) (Vr1 : Nat → Int) (ar2 : Int) (v0 : Value) (v1 : Value) (v2 : Value) (wx : World) : Prop := ∃ (P0 : Nat) (s'r0_0 : Option Addr) (c'r0_0 : Nat) (s'r1 : Option Addr) (c'r1 : Nat), v0 = .pointer (some ⟨P0, 0, none⟩) ∧ wx.cell? ⟨P0, 0, none⟩ = some (.slice s'r0_0 nr0_0 c'r0_0) ∧ P0 < wx.heap.size ∧ c0.heap.size ≤ P0 ∧ v1 = .slice s'r1 nr1 c'r1 ∧ v2 = .int .i64 ar2 ∧ RowBook wx s'r0_0 nr0_0 Xr0_0 Yr0_0 Kr0_0 Vr0_0 ∧ RowI wx s'r1 nr1 Vr1 ∧ Below c0.heap.size c0 wx
def ZA0 (p : Nat) (W : World) : Prop := p < W.heap.size ∧ (∀ o, W.frozen? ⟨p, o, none⟩ = false) ∧ W.cell? ⟨p, 0, none⟩ = some (.slice none 0 0)
theorem ZA0.new (W : World) : ZA0 W.heap.size (W.alloc (.cells #[.slice none 0 0] 36)) := ⟨by simp, fun o => by simp [go_sem], by simp [go_sem]⟩
theorem ZA0.at {p : Nat} {W W' : World} (hp : p < W.heap.size) (hf : ∀ o, W.frozen? ⟨p, o, none⟩ = false) (c0 : W.cell? ⟨p, 0, none⟩ = some (.slice none 0 0)) (hb : Below W.heap.size W W') : ZA0 p W' := ⟨Nat.lt_of_lt_of_le hp hb.size, fun o => (hb.frozen (p := ⟨p, o, none⟩) hp).trans (hf o), (hb.cell (p := ⟨p, 0, none⟩) hp).trans c0⟩
theorem ZA0.keep {p : Nat} {W W' : World} (h : ZA0 p W) (hb : Below W.heap.size W W') : ZA0 p W' := ⟨Nat.lt_of_lt_of_le h.1 hb.size, fun o => (hb.frozen (p := ⟨p, o, none⟩) h.1).trans (h.2.1 o), (hb.cell (p := ⟨p, 0, none⟩) h.1).trans h.2.2⟩
theorem hidQ {S : Nat → Prop} {m : Nat} {p : Nat → Prop} (h : ∀ k, S k → m ≤ k ∧ p k) : Hid (∀ k, S k → m ≤ k) := fun k hk => (h k hk).1
theorem keepArgs {W W' : World} {p0 p1 : Nat} {v0_0 v0_1 v0_2 v1_0 : Value} (h0_0 : W.cell? ⟨p0, 0, none⟩ = some v0_0) (h0_1 : W.cell? ⟨p0, 1, none⟩ = some v0_1) (h0_2 : W.cell? ⟨p0, 2, none⟩ = some v0_2) (h1_0 : W.cell? ⟨p1, 0, none⟩ = some v1_0) (z0 : p0 < W.heap.size) (z1 : p1 < W.heap.size) (hb : Below W.heap.size W W') : W'.cell? ⟨p0, 0, none⟩ = some v0_0 ∧ W'.cell? ⟨p0, 1, none⟩ = some v0_1 ∧ W'.cell? ⟨p0, 2, none⟩ = some v0_2 ∧ W'.cell? ⟨p1, 0, none⟩ = some v1_0 := ⟨(hb.cell (p := ⟨p0, 0, none⟩) z0).trans h0_0, (hb.cell (p := ⟨p0, 1, none⟩) z0).trans h0_1, (hb.cell (p := ⟨p0, 2, none⟩) z0).trans h0_2, (hb.cell (p := ⟨p1, 0, none⟩) z1).trans h1_0⟩
theorem keepLaw3_3 {W W' : World} {p r : Nat} {va0 va1 va2 vx0 vx1 vx2 : Value} (ha0 : W.cell? ⟨p, 0, none⟩ = some va0) (ha1 : W.cell? ⟨p, 1, none⟩ = some va1) (ha2 : W.cell? ⟨p, 2, none⟩ = some va2) (hx0 : W.cell? ⟨r, 0, none⟩ = some vx0) (hx1 : W.cell? ⟨r, 1, none⟩ = some vx1) (hx2 : W.cell? ⟨r, 2, none⟩ = some vx2) (zp : p < W.heap.size) (zr : r < W.heap.size) (hb : Below W.heap.size W W') : W'.cell? ⟨p, 0, none⟩ = some va0 ∧ W'.cell? ⟨p, 1, none⟩ = some va1 ∧ W'.cell? ⟨p, 2, none⟩ = some va2 ∧ W'.cell? ⟨r, 0, none⟩ = some vx0 ∧ W'.cell? ⟨r, 1, none⟩ = some vx1 ∧ W'.cell? ⟨r, 2, none⟩ = some vx2 :=
  ⟨(hb.cell (p := ⟨p, 0, none⟩) zp).trans ha0, (hb.cell (p := ⟨p, 1, none⟩) zp).trans ha1, (hb.cell (p := ⟨p, 2, none⟩) zp).trans ha2, (hb.cell (p := ⟨r, 0, none⟩) zr).trans hx0, (hb.cell (p := ⟨r, 1, none⟩) zr).trans hx1, (hb.cell (p := ⟨r, 2, none⟩) zr).trans hx2⟩
theorem keepLaw1_1 {W W' : World} {p r : Nat} {va0 vx0 : Value} (ha0 : W.cell? ⟨p, 0, none⟩ = some va0) (hx0 : W.cell? ⟨r, 0, none⟩ = some vx0) (zp : p < W.heap.size) (zr : r < W.heap.size) (hb : Below W.heap.size W W') : W'.cell? ⟨p, 0, none⟩ = some va0 ∧ W'.cell? ⟨r, 0, none⟩ = some vx0 :=
  ⟨(hb.cell (p := ⟨p, 0, none⟩) zp).trans ha0, (hb.cell (p := ⟨r, 0, none⟩) zr).trans hx0⟩
set_option maxRecDepth 20000 in
set_option maxHeartbeats 8000000 in
theorem giveBack_near (w : World) (a0_0 : Int) (n0_1 : Nat) (V0_1 : Nat → Int × Int) (n0_2 : Nat) (V0_2 : Nat → Int) (s0_1 : Option Addr) (c0_1 : Nat) (s0_2 : Option Addr) (c0_2 : Nat) (hn0_1 : (n0_1 : Int) ≤ 1048576) (hn0_2 : (n0_2 : Int) ≤ 1048576) (HR0 : Hid (RowNet w s0_1 n0_1 V0_1 s0_2 n0_2 V0_2)) (n1_0 : Nat) (X1_0 : Nat → Int) (Y1_0 : Nat → Int) (K1_0 : Nat → Nat) (V1_0 : Nat → Nat → Int) (s1_0 : Option Addr) (c1_0 : Nat) (hn1_0 : ((n1_0 : Int) + (suK K1_0 n1_0 : Int)) ≤ 1048576) (HR1 : Hid (RowBook w s1_0 n1_0 X1_0 Y1_0 K1_0 V1_0)) (a2 : Int) (gn0_1 : (n0_1 : Int) ≤ 1048576) (gn0_2 : (n0_2 : Int) ≤ 1048576 - n0_1) (gn1_0 : ((n1_0 : Int) + (suK K1_0 n1_0 : Int)) ≤ 1048576 - n0_1 - n0_2) (nr0_0 : Nat) (Xr0_0 : Nat → Int) (Yr0_0 : Nat → Int) (Kr0_0 : Nat → Nat) (Vr0_0 : Nat → Nat → Int) (hnr0_0 : ((nr0_0 : Int) + (suK Kr0_0 nr0_0 : Int)) ≤ 1048576) (nr1 : Nat) (Vr1 : Nat → Int) (hnr1 : (nr1 : Int) ≤ 1048576) (ar2 : Int)
    (H1 : Hid (∀ (s0_1 : Option Addr) (s0_2 : Option Addr) (s1_0 : Option Addr) w, RowNet w s0_1 n0_1 V0_1 s0_2 n0_2 V0_2 → RowBook w s1_0 n1_0 X1_0 Y1_0 K1_0 V1_0 → Calls Try.prog 24 #[.agg #[.int .i64 a0_0, .slice s0_1 n0_1 n0_1, .slice s0_2 n0_2 n0_2], .agg #[.slice s1_0 n1_0 n1_0], .int .i64 a2] w fun e w' => ∃ (s'r0_0 : Option Addr) (c'r0_0 : Nat) (s'r1 : Option Addr) (c'r1 : Nat) (S0 : Nat → Prop) (S1 : Nat → Prop), e = .returned (.tuple #[.agg #[.slice s'r0_0 nr0_0 c'r0_0], .slice s'r1 nr1 c'r1, .int .i64 ar2]) ∧ (∀ k, S0 k → w.heap.size ≤ k ∧ k < w'.heap.size) ∧ BookR S0 w' s'r0_0 nr0_0 Xr0_0 Yr0_0 Kr0_0 Vr0_0 ∧ (∀ k, S1 k → w.heap.size ≤ k ∧ k < w'.heap.size) ∧ I64R S1 w' s'r1 nr1 Vr1 ∧ (∀ k, S0 k → ¬ S1 k) ∧ Below w.heap.size w w'))
    (H2 : Hid (∀ (s0_1 : Option Addr) (s0_2 : Option Addr) (s1_0 : Option Addr) w, RowNet w s0_1 n0_1 V0_1 s0_2 n0_2 V0_2 → RowBook w s1_0 n1_0 X1_0 Y1_0 K1_0 V1_0 → Calls Try.prog 25 #[.agg #[.int .i64 a0_0, .slice s0_1 n0_1 n0_1, .slice s0_2 n0_2 n0_2], .agg #[.slice s1_0 n1_0 n1_0], .int .i64 a2] w fun e w' => ∃ (s'r0_0 : Option Addr) (c'r0_0 : Nat) (s'r1 : Option Addr) (c'r1 : Nat) (S0 : Nat → Prop) (S1 : Nat → Prop), e = .returned (.tuple #[.agg #[.slice s'r0_0 nr0_0 c'r0_0], .slice s'r1 nr1 c'r1, .int .i64 ar2]) ∧ (∀ k, S0 k → w.heap.size ≤ k ∧ k < w'.heap.size) ∧ BookR S0 w' s'r0_0 nr0_0 Xr0_0 Yr0_0 Kr0_0 Vr0_0 ∧ (∀ k, S1 k → w.heap.size ≤ k ∧ k < w'.heap.size) ∧ I64R S1 w' s'r1 nr1 Vr1 ∧ (∀ k, S0 k → ¬ S1 k) ∧ Below w.heap.size w w')) :
    Calls Try.prog 4 #[.agg #[.int .i64 a0_0, .slice s0_1 n0_1 c0_1, .slice s0_2 n0_2 c0_2], .agg #[.slice s1_0 n1_0 c1_0], .int .i64 a2] w fun e w' => e = .returned (.bool true) ∧ Below w.heap.size w w' := by
  have sto := store_slT
  go_enter Try.func4, Try.ntmps4
  go_wp2_with fail
  refine (szNet_on a0_0 n0_1 V0_1 n0_2 V0_2 s0_1 c0_1 s0_2 c0_2 _ _ (by omega) (by omega) (by omega) (by omega)).mono ?_
  rintro e w1 ⟨rfl, hh⟩
  have hb : Below w.heap.size w w1 := Below.trans (by repeat (first | with_reducible exact Below.refl _ _ | with_reducible refine Below.setCell ?_ (by first | omega | (simp; done) | (simp; omega)) _ | with_reducible refine bDrewN ?_ _ | with_reducible refine Below.drew ?_ | with_reducible refine Below.alloc ?_ (by first | omega | (simp; done) | (simp; omega)) _)) (hh.mono (by first | omega | (simp; done) | (simp; omega)))
  have lw1 : w.heap.size ≤ w1.heap.size := hb.size
  have ca00 : w1.cell? ⟨w.heap.size, 0, none⟩ = some (.int .i64 a0_0) := by rw [hh.cell (by first | omega | (simp; done) | (simp; omega))]; first | (simp; done) | (simp [go_sem]; done)
  have ca01 : w1.cell? ⟨w.heap.size, 1, none⟩ = some (.slice s0_1 n0_1 c0_1) := by rw [hh.cell (by first | omega | (simp; done) | (simp; omega))]; first | (simp; done) | (simp [go_sem]; done)
  have ca02 : w1.cell? ⟨w.heap.size, 2, none⟩ = some (.slice s0_2 n0_2 c0_2) := by rw [hh.cell (by first | omega | (simp; done) | (simp; omega))]; first | (simp; done) | (simp [go_sem]; done)
  have za0 : w.heap.size < w1.heap.size := by have := hh.size; simp at this; omega
  have ya0 : w.heap.size < w1.heap.size := za0
  have ca10 : w1.cell? ⟨w.heap.size + 1, 0, none⟩ = some (.slice s1_0 n1_0 c1_0) := by rw [hh.cell (by first | omega | (simp; done) | (simp; omega))]; first | (simp; done) | (simp [go_sem]; done)
  have za1 : w.heap.size + 1 < w1.heap.size := by have := hh.size; simp at this; omega
  have ya1 : w.heap.size + 1 < w1.heap.size := za1
  have B0 : Below w.heap.size w w1 := hb
  clear hb hh
  go_wp2_with fail
  refine (szBook_on n1_0 X1_0 Y1_0 K1_0 V1_0 s1_0 c1_0 _ _ (by omega) (by omega) (by omega) (HR1.out.below B0)).mono ?_
  rintro e w2 ⟨rfl, hh⟩
  have hb : Below w1.heap.size w1 w2 := Below.trans (by repeat (first | with_reducible exact Below.refl _ _ | with_reducible refine Below.setCell ?_ (by first | omega | (simp; done) | (simp; omega)) _ | with_reducible refine bDrewN ?_ _ | with_reducible refine Below.drew ?_ | with_reducible refine Below.alloc ?_ (by first | omega | (simp; done) | (simp; omega)) _)) (hh.mono (by first | omega | (simp; done) | (simp; omega)))
  have lw2 : w1.heap.size ≤ w2.heap.size := hb.size
  replace ca00 := (hb.cell (p := ⟨w.heap.size, 0, none⟩) za0).trans ca00
  replace ca01 := (hb.cell (p := ⟨w.heap.size, 1, none⟩) za0).trans ca01
  replace ca02 := (hb.cell (p := ⟨w.heap.size, 2, none⟩) za0).trans ca02
  replace za0 := Nat.lt_of_lt_of_le za0 hb.size
  replace ca10 := (hb.cell (p := ⟨w.heap.size + 1, 0, none⟩) za1).trans ca10
  replace za1 := Nat.lt_of_lt_of_le za1 hb.size
  replace B0 : Below w.heap.size w w2 := B0.trans (hb.mono B0.size)
  clear hb hh
  go_upto_region 8 with fail
  have HB : Hid (Below w.heap.size w w2) := B0
  go_cut [8, 9, 10] (fun y0 y1 y2 wx => giveBackRes w2 nr0_0 Xr0_0 Yr0_0 Kr0_0 Vr0_0 nr1 Vr1 ar2 y0 y1 y2 wx)
  case first =>
    go_region_held3 (fun w' => w'.cell? ⟨w.heap.size, 0, none⟩ = some (.int .i64 a0_0) ∧ w'.cell? ⟨w.heap.size, 1, none⟩ = some (.slice s0_1 n0_1 c0_1) ∧ w'.cell? ⟨w.heap.size, 2, none⟩ = some (.slice s0_2 n0_2 c0_2) ∧ w'.cell? ⟨w.heap.size + 1, 0, none⟩ = some (.slice s1_0 n1_0 c1_0)) (first | with_reducible exact ⟨ca00, ca01, ca02, ca10⟩ | (refine keepArgs ca00 ca01 ca02 ca10 za0 za1 ?_; exact (by repeat (first | with_reducible exact Below.refl _ _ | with_reducible exact B9 | with_reducible exact B71 | with_reducible exact B70 | with_reducible refine Below.setCell ?_ (by first | omega | (simp; done) | (simp; omega)) _ | with_reducible refine bDrewN ?_ _ | with_reducible refine Below.drew ?_ | with_reducible refine Below.alloc ?_ (by first | omega | (simp; done) | (simp; omega)) _)))) (first
      | (go_at_call 24; refine (H1.out st0_1 st0_2 st1_0 _ (PY1_0.out.below (by repeat (first | with_reducible exact Below.refl _ _ | with_reducible refine Below.setCell ?_ (by first | omega | (simp; done) | (simp; omega)) _ | with_reducible refine bDrewN ?_ _ | with_reducible refine Below.drew ?_ | with_reducible refine Below.alloc ?_ (by first | omega | (simp; done) | (simp; omega)) _))) (PY1_1.out.below (by repeat (first | with_reducible exact Below.refl _ _ | with_reducible refine Below.setCell ?_ (by first | omega | (simp; done) | (simp; omega)) _ | with_reducible refine bDrewN ?_ _ | with_reducible refine Below.drew ?_ | with_reducible refine Below.alloc ?_ (by first | omega | (simp; done) | (simp; omega)) _)))).mono ?_; rintro e wy2 ⟨sWr0_0, cWr0_0, sWr1, cWr1, SW0, SW1, rfl, QR0, OR0, QR1, OR1, -, h9⟩; have hy2 : Below wy1.heap.size wy1 wy2 := Below.trans (by repeat (first | with_reducible exact Below.refl _ _ | with_reducible refine Below.setCell ?_ (by first | omega | (simp; done) | (simp; omega)) _ | with_reducible refine bDrewN ?_ _ | with_reducible refine Below.drew ?_ | with_reducible refine Below.alloc ?_ (by first | omega | (simp; done) | (simp; omega)) _)) (h9.mono (by first | omega | (simp; done) | (simp; omega))); have B9 : Below w2.heap.size w2 wy2 := B71.trans (hy2.mono B71.size); have s9 := B9.size; have sy2 := hy2.size; have HOR0 : Hid (BookR SW0 wy2 sWr0_0 nr0_0 Xr0_0 Yr0_0 Kr0_0 Vr0_0) := OR0; have HQR0 := hidQ QR0; have HOR1 : Hid (I64R SW1 wy2 sWr1 nr1 Vr1) := OR1; have HQR1 := hidQ QR1; (try have zq0 := Z0_1_0.1); (try have Z0_2_0 := ZA0.keep Z0_1_0 hy2); (try obtain ⟨zp0, zf0, zc0_0⟩ := Z0_2_0); (try have zq0 := Z0_1_1.1); (try have Z0_2_1 := ZA0.keep Z0_1_1 hy2); (try obtain ⟨zp0, zf0, zc0_0⟩ := Z0_2_1); (try have Z0_2_2 := ZA0.at (p := wy1.heap.size) (by first | (simp; done) | fail) (fun o => by first | (simp [go_sem]; done) | fail) (by first | (simp [go_sem]; done) | fail) h9); (try obtain ⟨zp0, zf0, zc0_0⟩ := Z0_2_2); clear h9 OR0 QR0 OR1 QR1)
      | (go_at_call 14; have hq1 := B70; refine (toBook_r n1_0 X1_0 Y1_0 K1_0 V1_0 s1_0 c1_0 _ hn1_0 (HR1.out.below (HB.out.trans (Below.mono (by repeat (first | with_reducible exact Below.refl _ _ | with_reducible exact B70 | with_reducible refine Below.setCell ?_ (by first | omega | (simp; done) | (simp; omega)) _ | with_reducible refine bDrewN ?_ _ | with_reducible refine Below.drew ?_ | with_reducible refine Below.alloc ?_ (by first | omega | (simp; done) | (simp; omega)) _)) HB.out.size)))).mono ?_; rintro e wy1 ⟨st1_0, St1, rfl, -, OY1, h71⟩; have hy1 : Below wy0.heap.size wy0 wy1 := Below.trans (by repeat (first | with_reducible exact Below.refl _ _ | with_reducible refine Below.setCell ?_ (by first | omega | (simp; done) | (simp; omega)) _ | with_reducible refine bDrewN ?_ _ | with_reducible refine Below.drew ?_ | with_reducible refine Below.alloc ?_ (by first | omega | (simp; done) | (simp; omega)) _)) (h71.mono (by first | omega | (simp; done) | (simp; omega))); have B71 : Below w2.heap.size w2 wy1 := B70.trans (hy1.mono B70.size); have s71 := B71.size; have sy1 := hy1.size; have PY1_1 : Hid (RowBook wy1 st1_0 n1_0 X1_0 Y1_0 K1_0 V1_0) := OY1.row; have PY1_0 : Hid (RowNet wy1 st0_1 n0_1 V0_1 st0_2 n0_2 V0_2) := PY0_0.out.below hy1; (try have Z0_1_0 := ZA0.keep Z0_0_0 hy1); (try have Z0_1_1 := ZA0.at (p := wy0.heap.size) (by first | (simp; done) | fail) (fun o => by first | (simp [go_sem]; done) | fail) (by first | (simp [go_sem]; done) | fail) h71); clear h71 OY1)
      | (go_at_call 13; refine (toNet_r a0_0 n0_1 V0_1 n0_2 V0_2 s0_1 c0_1 s0_2 c0_2 _ hn0_1 hn0_2 (HR0.out.below (HB.out.trans (Below.mono (by repeat (first | with_reducible exact Below.refl _ _ | with_reducible refine Below.setCell ?_ (by first | omega | (simp; done) | (simp; omega)) _ | with_reducible refine bDrewN ?_ _ | with_reducible refine Below.drew ?_ | with_reducible refine Below.alloc ?_ (by first | omega | (simp; done) | (simp; omega)) _)) HB.out.size)))).mono ?_; rintro e wy0 ⟨st0_1, st0_2, St0, rfl, -, OY0, h70⟩; have hy0 : Below w2.heap.size w2 wy0 := Below.trans (by repeat (first | with_reducible exact Below.refl _ _ | with_reducible refine Below.setCell ?_ (by first | omega | (simp; done) | (simp; omega)) _ | with_reducible refine bDrewN ?_ _ | with_reducible refine Below.drew ?_ | with_reducible refine Below.alloc ?_ (by first | omega | (simp; done) | (simp; omega)) _)) (h70.mono (by first | omega | (simp; done) | (simp; omega))); have B70 : Below w2.heap.size w2 wy0 := hy0; have s70 := B70.size; have sy0 := hy0.size; have PY0_0 : Hid (RowNet wy0 st0_1 n0_1 V0_1 st0_2 n0_2 V0_2) := OY0.row; (try have Z0_0_0 := ZA0.at (p := w2.heap.size) (by first | (simp; done) | fail) (fun o => by first | (simp [go_sem]; done) | fail) (by first | (simp [go_sem]; done) | fail) h70); clear h70 OY0))
    all_goals
      go_wp2_with fail
      go_meet
      refine ⟨_, sWr0_0, cWr0_0, sWr1, cWr1, rfl, ?_, ?_, ?_, rfl, rfl, ?_, ?_, ?_⟩
      · first | (simp [go_sem, zc0_0]; done) | (simp [go_sem]; done)
      · first | (simp; done) | (simp; omega) | omega
      · omega
      · first | exact HOR0.out.row | exact (HOR0.out.below (below0 _ _)).row | exact (HOR0.out.keep (by simp) (fun k hk hl => set_block hl (by have := HQR0.out k hk; first | omega | (simp at this; omega)))).row
      · first | exact HOR1.out.row | exact (HOR1.out.below (below0 _ _)).row | exact (HOR1.out.keep (by simp) (fun k hk hl => set_block hl (by have := HQR1.out k hk; first | omega | (simp at this; omega)))).row
      · exact (by repeat (first | with_reducible exact Below.refl _ _ | with_reducible exact B9 | with_reducible refine Below.setCell ?_ (by first | omega | (simp; done) | (simp; omega)) _ | with_reducible refine bDrewN ?_ _ | with_reducible refine Below.drew ?_ | with_reducible refine Below.alloc ?_ (by first | omega | (simp; done) | (simp; omega)) _))
  obtain ⟨PW0, sWr0_0, cWr0_0, sWr1, cWr1, rfl, cw00, zw0, loW0, rfl, rfl, RW0, RW1, hb⟩ := hcut
  rename World => w3
  have lw3 : w2.heap.size ≤ w3.heap.size := hb.size
  have yw0 := zw0
  replace RW0 : Hid (RowBook w3 sWr0_0 nr0_0 Xr0_0 Yr0_0 Kr0_0 Vr0_0) := RW0
  replace RW1 : Hid (RowI w3 sWr1 nr1 Vr1) := RW1
  replace ca00 := (hb.cell (p := ⟨w.heap.size, 0, none⟩) za0).trans ca00
  replace ca01 := (hb.cell (p := ⟨w.heap.size, 1, none⟩) za0).trans ca01
  replace ca02 := (hb.cell (p := ⟨w.heap.size, 2, none⟩) za0).trans ca02
  replace za0 := Nat.lt_of_lt_of_le za0 hb.size
  replace ca10 := (hb.cell (p := ⟨w.heap.size + 1, 0, none⟩) za1).trans ca10
  replace za1 := Nat.lt_of_lt_of_le za1 hb.size
  replace B0 : Below w.heap.size w w3 := B0.trans (hb.mono B0.size)
  clear hb HB
  have Bs : Below w3.heap.size w3 w3 := Below.refl _ _
  go_wp2_with fail
  refine (toNet_r a0_0 n0_1 V0_1 n0_2 V0_2 s0_1 c0_1 s0_2 c0_2 _ hn0_1 hn0_2 (HR0.out.below B0)).mono ?_
  rintro e w4 ⟨sx0_1, sx0_2, Sx0, rfl, Q, O, hh⟩
  have hb : Below w3.heap.size w3 w4 := Below.trans (by repeat (first | with_reducible exact Below.refl _ _ | with_reducible refine Below.setCell ?_ (by first | omega | (simp; done) | (simp; omega)) _ | with_reducible refine bDrewN ?_ _ | with_reducible refine Below.drew ?_ | with_reducible refine Below.alloc ?_ (by first | omega | (simp; done) | (simp; omega)) _)) (hh.mono (by first | omega | (simp; done) | (simp; omega)))
  have lw4 : w3.heap.size ≤ w4.heap.size := hb.size
  replace ca00 := (hb.cell (p := ⟨w.heap.size, 0, none⟩) za0).trans ca00
  replace ca01 := (hb.cell (p := ⟨w.heap.size, 1, none⟩) za0).trans ca01
  replace ca02 := (hb.cell (p := ⟨w.heap.size, 2, none⟩) za0).trans ca02
  replace za0 := Nat.lt_of_lt_of_le za0 hb.size
  replace ca10 := (hb.cell (p := ⟨w.heap.size + 1, 0, none⟩) za1).trans ca10
  replace za1 := Nat.lt_of_lt_of_le za1 hb.size
  replace cw00 := (hb.cell (p := ⟨PW0, 0, none⟩) zw0).trans cw00
  replace zw0 := Nat.lt_of_lt_of_le zw0 hb.size
  replace Bs : Below w3.heap.size w3 w4 := Bs.trans (hb.mono Bs.size)
  replace B0 : Below w.heap.size w w4 := B0.trans (hb.mono B0.size)
  clear hb hh
  have Qx0 : Hid (∀ k, Sx0 k → w3.heap.size ≤ k ∧ k < w4.heap.size) := (show ∀ k, Sx0 k → w3.heap.size ≤ k ∧ k < w4.heap.size from by simpa using Q)
  have Ox0 : Hid (NetR Sx0 w4 sx0_1 n0_1 V0_1 sx0_2 n0_2 V0_2) := O
  clear O Q
  go_wp2_with fail
  refine (toBook_r n1_0 X1_0 Y1_0 K1_0 V1_0 s1_0 c1_0 _ hn1_0 ((HR1.out.below B0).below (below0 _ _))).mono ?_
  rintro e w5 ⟨sx1_0, Sx1, rfl, Q, O, hh⟩
  have hb : Below w4.heap.size w4 w5 := Below.trans (by repeat (first | with_reducible exact Below.refl _ _ | with_reducible refine Below.setCell ?_ (by first | omega | (simp; done) | (simp; omega)) _ | with_reducible refine bDrewN ?_ _ | with_reducible refine Below.drew ?_ | with_reducible refine Below.alloc ?_ (by first | omega | (simp; done) | (simp; omega)) _)) (hh.mono (by first | omega | (simp; done) | (simp; omega)))
  have lw5 : w4.heap.size ≤ w5.heap.size := hb.size
  have cx00 : w5.cell? ⟨w4.heap.size, 0, none⟩ = some (.int .i64 a0_0) := by rw [hh.cell (by first | omega | (simp; done) | (simp; omega))]; first | (simp; done) | (simp [go_sem]; done)
  have cx01 : w5.cell? ⟨w4.heap.size, 1, none⟩ = some (.slice sx0_1 n0_1 n0_1) := by rw [hh.cell (by first | omega | (simp; done) | (simp; omega))]; first | (simp; done) | (simp [go_sem]; done)
  have cx02 : w5.cell? ⟨w4.heap.size, 2, none⟩ = some (.slice sx0_2 n0_2 n0_2) := by rw [hh.cell (by first | omega | (simp; done) | (simp; omega))]; first | (simp; done) | (simp [go_sem]; done)
  have zx0 : w4.heap.size < w5.heap.size := by have := hh.size; simp at this; omega
  have yx0 : w4.heap.size < w5.heap.size := zx0
  replace ca00 := (hb.cell (p := ⟨w.heap.size, 0, none⟩) za0).trans ca00
  replace ca01 := (hb.cell (p := ⟨w.heap.size, 1, none⟩) za0).trans ca01
  replace ca02 := (hb.cell (p := ⟨w.heap.size, 2, none⟩) za0).trans ca02
  replace za0 := Nat.lt_of_lt_of_le za0 hb.size
  replace ca10 := (hb.cell (p := ⟨w.heap.size + 1, 0, none⟩) za1).trans ca10
  replace za1 := Nat.lt_of_lt_of_le za1 hb.size
  replace cw00 := (hb.cell (p := ⟨PW0, 0, none⟩) zw0).trans cw00
  replace zw0 := Nat.lt_of_lt_of_le zw0 hb.size
  replace Ox0 : Hid (NetR Sx0 w5 sx0_1 n0_1 V0_1 sx0_2 n0_2 V0_2) := Ox0.out.below hb
  replace Bs : Below w3.heap.size w3 w5 := Bs.trans (hb.mono Bs.size)
  replace B0 : Below w.heap.size w w5 := B0.trans (hb.mono B0.size)
  clear hb hh
  have Qx1 : Hid (∀ k, Sx1 k → w4.heap.size + 1 ≤ k ∧ k < w5.heap.size) := (show ∀ k, Sx1 k → w4.heap.size + 1 ≤ k ∧ k < w5.heap.size from by simpa using Q)
  have Ox1 : Hid (BookR Sx1 w5 sx1_0 n1_0 X1_0 Y1_0 K1_0 V1_0) := O
  clear O Q
  go_wp2_with fail
  refine (H2.out sx0_1 sx0_2 sx1_0 _ ((Ox0.out.row).below (below0 _ _)) ((Ox1.out.row).below (below0 _ _))).mono ?_
  rintro e w6 ⟨sgr0_0, cgr0_0, sgr1, cgr1, Sg0, Sg1, rfl, Q0, O0, Q1, O1, D0_1, hh⟩
  have hb : Below w5.heap.size w5 w6 := Below.trans (by repeat (first | with_reducible exact Below.refl _ _ | with_reducible refine Below.setCell ?_ (by first | omega | (simp; done) | (simp; omega)) _ | with_reducible refine bDrewN ?_ _ | with_reducible refine Below.drew ?_ | with_reducible refine Below.alloc ?_ (by first | omega | (simp; done) | (simp; omega)) _)) (hh.mono (by first | omega | (simp; done) | (simp; omega)))
  have lw6 : w5.heap.size ≤ w6.heap.size := hb.size
  have cx10 : w6.cell? ⟨w5.heap.size, 0, none⟩ = some (.slice sx1_0 n1_0 n1_0) := by rw [hh.cell (by first | omega | (simp; done) | (simp; omega))]; first | (simp; done) | (simp [go_sem]; done)
  have zx1 : w5.heap.size < w6.heap.size := by have := hh.size; simp at this; omega
  have yx1 : w5.heap.size < w6.heap.size := zx1
  replace ca00 := (hb.cell (p := ⟨w.heap.size, 0, none⟩) za0).trans ca00
  replace ca01 := (hb.cell (p := ⟨w.heap.size, 1, none⟩) za0).trans ca01
  replace ca02 := (hb.cell (p := ⟨w.heap.size, 2, none⟩) za0).trans ca02
  replace za0 := Nat.lt_of_lt_of_le za0 hb.size
  replace ca10 := (hb.cell (p := ⟨w.heap.size + 1, 0, none⟩) za1).trans ca10
  replace za1 := Nat.lt_of_lt_of_le za1 hb.size
  replace cw00 := (hb.cell (p := ⟨PW0, 0, none⟩) zw0).trans cw00
  replace zw0 := Nat.lt_of_lt_of_le zw0 hb.size
  replace cx00 := (hb.cell (p := ⟨w4.heap.size, 0, none⟩) zx0).trans cx00
  replace cx01 := (hb.cell (p := ⟨w4.heap.size, 1, none⟩) zx0).trans cx01
  replace cx02 := (hb.cell (p := ⟨w4.heap.size, 2, none⟩) zx0).trans cx02
  replace zx0 := Nat.lt_of_lt_of_le zx0 hb.size
  replace Ox0 : Hid (NetR Sx0 w6 sx0_1 n0_1 V0_1 sx0_2 n0_2 V0_2) := Ox0.out.below hb
  replace Ox1 : Hid (BookR Sx1 w6 sx1_0 n1_0 X1_0 Y1_0 K1_0 V1_0) := Ox1.out.below hb
  replace Bs : Below w3.heap.size w3 w6 := Bs.trans (hb.mono Bs.size)
  replace B0 : Below w.heap.size w w6 := B0.trans (hb.mono B0.size)
  clear hb hh
  have Qg0 : Hid (∀ k, Sg0 k → w5.heap.size + 1 ≤ k ∧ k < w6.heap.size) := (show ∀ k, Sg0 k → w5.heap.size + 1 ≤ k ∧ k < w6.heap.size from by simpa using Q0)
  have Og0 : Hid (BookR Sg0 w6 sgr0_0 nr0_0 Xr0_0 Yr0_0 Kr0_0 Vr0_0) := O0
  clear O0 Q0
  have Qg1 : Hid (∀ k, Sg1 k → w5.heap.size + 1 ≤ k ∧ k < w6.heap.size) := (show ∀ k, Sg1 k → w5.heap.size + 1 ≤ k ∧ k < w6.heap.size from by simpa using Q1)
  have Og1 : Hid (I64R Sg1 w6 sgr1 nr1 Vr1) := O1
  clear O1 Q1
  have Dg0_g1 : Hid (∀ k, Sg0 k → ¬ Sg1 k) := D0_1
  clear D0_1
  go_wp2_with fail
  refine (eqBook_r nr0_0 Xr0_0 Yr0_0 Kr0_0 Vr0_0 sgr0_0 cgr0_0 sWr0_0 cWr0_0 _ hnr0_0 ((Og0.out.row).below (below0 _ _)) ((RW0.out.below Bs).below (below0 _ _))).mono ?_
  rintro e w7 ⟨rfl, hh⟩
  have hb : Below w6.heap.size w6 w7 := Below.trans (by repeat (first | with_reducible exact Below.refl _ _ | with_reducible refine Below.setCell ?_ (by first | omega | (simp; done) | (simp; omega)) _ | with_reducible refine bDrewN ?_ _ | with_reducible refine Below.drew ?_ | with_reducible refine Below.alloc ?_ (by first | omega | (simp; done) | (simp; omega)) _)) (hh.mono (by first | omega | (simp; done) | (simp; omega)))
  have lw7 : w6.heap.size ≤ w7.heap.size := hb.size
  have cg00 : w7.cell? ⟨w6.heap.size, 0, none⟩ = some (.slice sgr0_0 nr0_0 cgr0_0) := by rw [hh.cell (by first | omega | (simp; done) | (simp; omega))]; first | (simp; done) | (simp [go_sem]; done)
  have zg0 : w6.heap.size < w7.heap.size := by have := hh.size; simp at this; omega
  have yg0 : w6.heap.size < w7.heap.size := zg0
  replace ca00 := (hb.cell (p := ⟨w.heap.size, 0, none⟩) za0).trans ca00
  replace ca01 := (hb.cell (p := ⟨w.heap.size, 1, none⟩) za0).trans ca01
  replace ca02 := (hb.cell (p := ⟨w.heap.size, 2, none⟩) za0).trans ca02
  replace za0 := Nat.lt_of_lt_of_le za0 hb.size
  replace ca10 := (hb.cell (p := ⟨w.heap.size + 1, 0, none⟩) za1).trans ca10
  replace za1 := Nat.lt_of_lt_of_le za1 hb.size
  replace cw00 := (hb.cell (p := ⟨PW0, 0, none⟩) zw0).trans cw00
  replace zw0 := Nat.lt_of_lt_of_le zw0 hb.size
  replace cx00 := (hb.cell (p := ⟨w4.heap.size, 0, none⟩) zx0).trans cx00
  replace cx01 := (hb.cell (p := ⟨w4.heap.size, 1, none⟩) zx0).trans cx01
  replace cx02 := (hb.cell (p := ⟨w4.heap.size, 2, none⟩) zx0).trans cx02
  replace zx0 := Nat.lt_of_lt_of_le zx0 hb.size
  replace cx10 := (hb.cell (p := ⟨w5.heap.size, 0, none⟩) zx1).trans cx10
  replace zx1 := Nat.lt_of_lt_of_le zx1 hb.size
  replace Ox0 : Hid (NetR Sx0 w7 sx0_1 n0_1 V0_1 sx0_2 n0_2 V0_2) := Ox0.out.below hb
  replace Ox1 : Hid (BookR Sx1 w7 sx1_0 n1_0 X1_0 Y1_0 K1_0 V1_0) := Ox1.out.below hb
  replace Og0 : Hid (BookR Sg0 w7 sgr0_0 nr0_0 Xr0_0 Yr0_0 Kr0_0 Vr0_0) := Og0.out.below hb
  replace Og1 : Hid (I64R Sg1 w7 sgr1 nr1 Vr1) := Og1.out.below hb
  replace Bs : Below w3.heap.size w3 w7 := Bs.trans (hb.mono Bs.size)
  replace B0 : Below w.heap.size w w7 := B0.trans (hb.mono B0.size)
  clear hb hh
  go_wp2_with fail
  refine (eqInt64S_any sgr1 sWr1 nr1 _ _ Vr1 _ hnr1 (Og1.out.row) (RW1.out.below Bs)).mono ?_
  rintro e w8 ⟨rfl, hh⟩
  have hb : Below w7.heap.size w7 w8 := Below.trans (by repeat (first | with_reducible exact Below.refl _ _ | with_reducible refine Below.setCell ?_ (by first | omega | (simp; done) | (simp; omega)) _ | with_reducible refine bDrewN ?_ _ | with_reducible refine Below.drew ?_ | with_reducible refine Below.alloc ?_ (by first | omega | (simp; done) | (simp; omega)) _)) (hh.mono (by first | omega | (simp; done) | (simp; omega)))
  have lw8 : w7.heap.size ≤ w8.heap.size := hb.size
  replace ca00 := (hb.cell (p := ⟨w.heap.size, 0, none⟩) za0).trans ca00
  replace ca01 := (hb.cell (p := ⟨w.heap.size, 1, none⟩) za0).trans ca01
  replace ca02 := (hb.cell (p := ⟨w.heap.size, 2, none⟩) za0).trans ca02
  replace za0 := Nat.lt_of_lt_of_le za0 hb.size
  replace ca10 := (hb.cell (p := ⟨w.heap.size + 1, 0, none⟩) za1).trans ca10
  replace za1 := Nat.lt_of_lt_of_le za1 hb.size
  replace cw00 := (hb.cell (p := ⟨PW0, 0, none⟩) zw0).trans cw00
  replace zw0 := Nat.lt_of_lt_of_le zw0 hb.size
  replace cx00 := (hb.cell (p := ⟨w4.heap.size, 0, none⟩) zx0).trans cx00
  replace cx01 := (hb.cell (p := ⟨w4.heap.size, 1, none⟩) zx0).trans cx01
  replace cx02 := (hb.cell (p := ⟨w4.heap.size, 2, none⟩) zx0).trans cx02
  replace zx0 := Nat.lt_of_lt_of_le zx0 hb.size
  replace cx10 := (hb.cell (p := ⟨w5.heap.size, 0, none⟩) zx1).trans cx10
  replace zx1 := Nat.lt_of_lt_of_le zx1 hb.size
  replace cg00 := (hb.cell (p := ⟨w6.heap.size, 0, none⟩) zg0).trans cg00
  replace zg0 := Nat.lt_of_lt_of_le zg0 hb.size
  replace Ox0 : Hid (NetR Sx0 w8 sx0_1 n0_1 V0_1 sx0_2 n0_2 V0_2) := Ox0.out.below hb
  replace Ox1 : Hid (BookR Sx1 w8 sx1_0 n1_0 X1_0 Y1_0 K1_0 V1_0) := Ox1.out.below hb
  replace Og0 : Hid (BookR Sg0 w8 sgr0_0 nr0_0 Xr0_0 Yr0_0 Kr0_0 Vr0_0) := Og0.out.below hb
  replace Og1 : Hid (I64R Sg1 w8 sgr1 nr1 Vr1) := Og1.out.below hb
  replace Bs : Below w3.heap.size w3 w8 := Bs.trans (hb.mono Bs.size)
  replace B0 : Below w.heap.size w w8 := B0.trans (hb.mono B0.size)
  clear hb hh
  go_upto_region 14 with fail
  have HB : Hid (Below w.heap.size w w8) := B0
  go_cut [73] (fun y wx => y = .bool false ∧ Below w8.heap.size w8 wx)
  case first =>
    go_region_held3 (fun w' => w'.cell? ⟨w.heap.size, 0, none⟩ = some (.int .i64 a0_0) ∧ w'.cell? ⟨w.heap.size, 1, none⟩ = some (.slice s0_1 n0_1 c0_1) ∧ w'.cell? ⟨w.heap.size, 2, none⟩ = some (.slice s0_2 n0_2 c0_2) ∧ w'.cell? ⟨w4.heap.size, 0, none⟩ = some (.int .i64 a0_0) ∧ w'.cell? ⟨w4.heap.size, 1, none⟩ = some (.slice sx0_1 n0_1 n0_1) ∧ w'.cell? ⟨w4.heap.size, 2, none⟩ = some (.slice sx0_2 n0_2 n0_2)) (first | (exact ⟨ca00, ca01, ca02, cx00, cx01, cx02⟩) | (refine keepLaw3_3 ca00 ca01 ca02 cx00 cx01 cx02 za0 zx0 ?_; exact (by repeat (first | with_reducible exact Below.refl _ _ | with_reducible exact B8 | with_reducible exact B7 | with_reducible refine Below.setCell ?_ (by first | omega | (simp; done) | (simp; omega)) _ | with_reducible refine bDrewN ?_ _ | with_reducible refine Below.drew ?_ | with_reducible refine Below.alloc ?_ (by first | omega | (simp; done) | (simp; omega)) _)))) (first
      | (go_at_call 13; refine (toNet_r a0_0 n0_1 V0_1 n0_2 V0_2 s0_1 c0_1 s0_2 c0_2 _ hn0_1 hn0_2 (HR0.out.below (HB.out.trans (Below.mono (by repeat (first | with_reducible exact Below.refl _ _ | with_reducible refine Below.setCell ?_ (by first | omega | (simp; done) | (simp; omega)) _ | with_reducible refine bDrewN ?_ _ | with_reducible refine Below.drew ?_ | with_reducible refine Below.alloc ?_ (by first | omega | (simp; done) | (simp; omega)) _)) HB.out.size)))).mono ?_; rintro e wy ⟨sy0_1, sy0_2, Sy, rfl, -, OY, h7⟩; have B7 : Below w8.heap.size w8 wy := Below.trans (by repeat (first | with_reducible exact Below.refl _ _ | with_reducible refine Below.setCell ?_ (by first | omega | (simp; done) | (simp; omega)) _ | with_reducible refine bDrewN ?_ _ | with_reducible refine Below.drew ?_ | with_reducible refine Below.alloc ?_ (by first | omega | (simp; done) | (simp; omega)) _)) (h7.mono (by first | omega | (simp; done) | (simp; omega))); have s7 := B7.size; have PY : Hid (RowNet wy sy0_1 n0_1 V0_1 sy0_2 n0_2 V0_2) := OY.row; have PX : Hid (RowNet wy sx0_1 n0_1 V0_1 sx0_2 n0_2 V0_2) := Ox0.out.row.below B7; clear h7 OY)
      | (go_at_call 18; refine (eqNet_r a0_0 n0_1 V0_1 n0_2 V0_2 sx0_1 n0_1 sx0_2 n0_2 sy0_1 n0_1 sy0_2 n0_2 _ hn0_1 hn0_2 PX.out PY.out).mono ?_; rintro e wz ⟨rfl, h8⟩; have B8 : Below w8.heap.size w8 wz := Below.trans (by repeat (first | with_reducible exact Below.refl _ _ | with_reducible exact B7 | with_reducible refine Below.setCell ?_ (by first | omega | (simp; done) | (simp; omega)) _ | with_reducible refine bDrewN ?_ _ | with_reducible refine Below.drew ?_ | with_reducible refine Below.alloc ?_ (by first | omega | (simp; done) | (simp; omega)) _)) (h8.mono (by first | omega | (simp; done) | (simp; omega))); clear h8))
    all_goals
      go_wp2_with fail
      go_meet
      exact ⟨rfl, B8⟩
  obtain ⟨rfl, hb⟩ := hcut
  rename World => w9
  have lw9 : w8.heap.size ≤ w9.heap.size := hb.size
  replace ca00 := (hb.cell (p := ⟨w.heap.size, 0, none⟩) za0).trans ca00
  replace ca01 := (hb.cell (p := ⟨w.heap.size, 1, none⟩) za0).trans ca01
  replace ca02 := (hb.cell (p := ⟨w.heap.size, 2, none⟩) za0).trans ca02
  replace za0 := Nat.lt_of_lt_of_le za0 hb.size
  replace ca10 := (hb.cell (p := ⟨w.heap.size + 1, 0, none⟩) za1).trans ca10
  replace za1 := Nat.lt_of_lt_of_le za1 hb.size
  replace cw00 := (hb.cell (p := ⟨PW0, 0, none⟩) zw0).trans cw00
  replace zw0 := Nat.lt_of_lt_of_le zw0 hb.size
  replace cx00 := (hb.cell (p := ⟨w4.heap.size, 0, none⟩) zx0).trans cx00
  replace cx01 := (hb.cell (p := ⟨w4.heap.size, 1, none⟩) zx0).trans cx01
  replace cx02 := (hb.cell (p := ⟨w4.heap.size, 2, none⟩) zx0).trans cx02
  replace zx0 := Nat.lt_of_lt_of_le zx0 hb.size
  replace cx10 := (hb.cell (p := ⟨w5.heap.size, 0, none⟩) zx1).trans cx10
  replace zx1 := Nat.lt_of_lt_of_le zx1 hb.size
  replace cg00 := (hb.cell (p := ⟨w6.heap.size, 0, none⟩) zg0).trans cg00
  replace zg0 := Nat.lt_of_lt_of_le zg0 hb.size
  replace Ox0 : Hid (NetR Sx0 w9 sx0_1 n0_1 V0_1 sx0_2 n0_2 V0_2) := Ox0.out.below hb
  replace Ox1 : Hid (BookR Sx1 w9 sx1_0 n1_0 X1_0 Y1_0 K1_0 V1_0) := Ox1.out.below hb
  replace Og0 : Hid (BookR Sg0 w9 sgr0_0 nr0_0 Xr0_0 Yr0_0 Kr0_0 Vr0_0) := Og0.out.below hb
  replace Og1 : Hid (I64R Sg1 w9 sgr1 nr1 Vr1) := Og1.out.below hb
  replace Bs : Below w3.heap.size w3 w9 := Bs.trans (hb.mono Bs.size)
  replace B0 : Below w.heap.size w w9 := B0.trans (hb.mono B0.size)
  clear hb HB
  go_upto_region 16 with fail
  have HB : Hid (Below w.heap.size w w9) := B0
  go_cut [78] (fun y wx => y = .bool false ∧ Below w9.heap.size w9 wx)
  case first =>
    go_region_held3 (fun w' => w'.cell? ⟨w.heap.size + 1, 0, none⟩ = some (.slice s1_0 n1_0 c1_0) ∧ w'.cell? ⟨w5.heap.size, 0, none⟩ = some (.slice sx1_0 n1_0 n1_0)) (first | (exact ⟨ca10, cx10⟩) | (refine keepLaw1_1 ca10 cx10 za1 zx1 ?_; exact (by repeat (first | with_reducible exact Below.refl _ _ | with_reducible exact B8 | with_reducible exact B7 | with_reducible refine Below.setCell ?_ (by first | omega | (simp; done) | (simp; omega)) _ | with_reducible refine bDrewN ?_ _ | with_reducible refine Below.drew ?_ | with_reducible refine Below.alloc ?_ (by first | omega | (simp; done) | (simp; omega)) _)))) (first
      | (go_at_call 14; refine (toBook_r n1_0 X1_0 Y1_0 K1_0 V1_0 s1_0 c1_0 _ hn1_0 (HR1.out.below (HB.out.trans (Below.mono (by repeat (first | with_reducible exact Below.refl _ _ | with_reducible refine Below.setCell ?_ (by first | omega | (simp; done) | (simp; omega)) _ | with_reducible refine bDrewN ?_ _ | with_reducible refine Below.drew ?_ | with_reducible refine Below.alloc ?_ (by first | omega | (simp; done) | (simp; omega)) _)) HB.out.size)))).mono ?_; rintro e wy ⟨sy1_0, Sy, rfl, -, OY, h7⟩; have B7 : Below w9.heap.size w9 wy := Below.trans (by repeat (first | with_reducible exact Below.refl _ _ | with_reducible refine Below.setCell ?_ (by first | omega | (simp; done) | (simp; omega)) _ | with_reducible refine bDrewN ?_ _ | with_reducible refine Below.drew ?_ | with_reducible refine Below.alloc ?_ (by first | omega | (simp; done) | (simp; omega)) _)) (h7.mono (by first | omega | (simp; done) | (simp; omega))); have s7 := B7.size; have PY : Hid (RowBook wy sy1_0 n1_0 X1_0 Y1_0 K1_0 V1_0) := OY.row; have PX : Hid (RowBook wy sx1_0 n1_0 X1_0 Y1_0 K1_0 V1_0) := Ox1.out.row.below B7; clear h7 OY)
      | (go_at_call 17; refine (eqBook_r n1_0 X1_0 Y1_0 K1_0 V1_0 sx1_0 n1_0 sy1_0 n1_0 _ hn1_0 PX.out PY.out).mono ?_; rintro e wz ⟨rfl, h8⟩; have B8 : Below w9.heap.size w9 wz := Below.trans (by repeat (first | with_reducible exact Below.refl _ _ | with_reducible exact B7 | with_reducible refine Below.setCell ?_ (by first | omega | (simp; done) | (simp; omega)) _ | with_reducible refine bDrewN ?_ _ | with_reducible refine Below.drew ?_ | with_reducible refine Below.alloc ?_ (by first | omega | (simp; done) | (simp; omega)) _)) (h8.mono (by first | omega | (simp; done) | (simp; omega))); clear h8))
    all_goals
      go_wp2_with fail
      go_meet
      exact ⟨rfl, B8⟩
  obtain ⟨rfl, hb⟩ := hcut
  rename World => w10
  have lw10 : w9.heap.size ≤ w10.heap.size := hb.size
  replace ca00 := (hb.cell (p := ⟨w.heap.size, 0, none⟩) za0).trans ca00
  replace ca01 := (hb.cell (p := ⟨w.heap.size, 1, none⟩) za0).trans ca01
  replace ca02 := (hb.cell (p := ⟨w.heap.size, 2, none⟩) za0).trans ca02
  replace za0 := Nat.lt_of_lt_of_le za0 hb.size
  replace ca10 := (hb.cell (p := ⟨w.heap.size + 1, 0, none⟩) za1).trans ca10
  replace za1 := Nat.lt_of_lt_of_le za1 hb.size
  replace cw00 := (hb.cell (p := ⟨PW0, 0, none⟩) zw0).trans cw00
  replace zw0 := Nat.lt_of_lt_of_le zw0 hb.size
  replace cx00 := (hb.cell (p := ⟨w4.heap.size, 0, none⟩) zx0).trans cx00
  replace cx01 := (hb.cell (p := ⟨w4.heap.size, 1, none⟩) zx0).trans cx01
  replace cx02 := (hb.cell (p := ⟨w4.heap.size, 2, none⟩) zx0).trans cx02
  replace zx0 := Nat.lt_of_lt_of_le zx0 hb.size
  replace cx10 := (hb.cell (p := ⟨w5.heap.size, 0, none⟩) zx1).trans cx10
  replace zx1 := Nat.lt_of_lt_of_le zx1 hb.size
  replace cg00 := (hb.cell (p := ⟨w6.heap.size, 0, none⟩) zg0).trans cg00
  replace zg0 := Nat.lt_of_lt_of_le zg0 hb.size
  replace Ox0 : Hid (NetR Sx0 w10 sx0_1 n0_1 V0_1 sx0_2 n0_2 V0_2) := Ox0.out.below hb
  replace Ox1 : Hid (BookR Sx1 w10 sx1_0 n1_0 X1_0 Y1_0 K1_0 V1_0) := Ox1.out.below hb
  replace Og0 : Hid (BookR Sg0 w10 sgr0_0 nr0_0 Xr0_0 Yr0_0 Kr0_0 Vr0_0) := Og0.out.below hb
  replace Og1 : Hid (I64R Sg1 w10 sgr1 nr1 Vr1) := Og1.out.below hb
  replace Bs : Below w3.heap.size w3 w10 := Bs.trans (hb.mono Bs.size)
  replace B0 : Below w.heap.size w w10 := B0.trans (hb.mono B0.size)
  clear hb HB
  go_wp2_with fail
  refine (markNet_r a0_0 n0_1 V0_1 n0_2 V0_2 sx0_1 n0_1 sx0_2 n0_2 Sx0 (1) _ hn0_1 hn0_2 (by omega) (by omega) (fun k q => by have := Qx0.out k q; omega) Ox0.out).mono ?_
  rintro e w11 ⟨rfl, T⟩
  have lw11 : w10.heap.size ≤ w11.heap.size := T.size
  replace ca00 := (T.cell (p := ⟨w.heap.size, 0, none⟩) za0 (show ¬ Sx0 (w.heap.size) from fun q => by have := Qx0.out _ q; omega)).trans ca00
  replace ca01 := (T.cell (p := ⟨w.heap.size, 1, none⟩) za0 (show ¬ Sx0 (w.heap.size) from fun q => by have := Qx0.out _ q; omega)).trans ca01
  replace ca02 := (T.cell (p := ⟨w.heap.size, 2, none⟩) za0 (show ¬ Sx0 (w.heap.size) from fun q => by have := Qx0.out _ q; omega)).trans ca02
  replace za0 := Nat.lt_of_lt_of_le za0 T.size
  replace ca10 := (T.cell (p := ⟨w.heap.size + 1, 0, none⟩) za1 (show ¬ Sx0 (w.heap.size + 1) from fun q => by have := Qx0.out _ q; omega)).trans ca10
  replace za1 := Nat.lt_of_lt_of_le za1 T.size
  replace cw00 := (T.cell (p := ⟨PW0, 0, none⟩) zw0 (show ¬ Sx0 (PW0) from fun q => by have := Qx0.out _ q; omega)).trans cw00
  replace zw0 := Nat.lt_of_lt_of_le zw0 T.size
  replace cx00 := (T.cell (p := ⟨w4.heap.size, 0, none⟩) zx0 (show ¬ Sx0 (w4.heap.size) from fun q => by have := Qx0.out _ q; omega)).trans cx00
  replace cx01 := (T.cell (p := ⟨w4.heap.size, 1, none⟩) zx0 (show ¬ Sx0 (w4.heap.size) from fun q => by have := Qx0.out _ q; omega)).trans cx01
  replace cx02 := (T.cell (p := ⟨w4.heap.size, 2, none⟩) zx0 (show ¬ Sx0 (w4.heap.size) from fun q => by have := Qx0.out _ q; omega)).trans cx02
  replace zx0 := Nat.lt_of_lt_of_le zx0 T.size
  replace cx10 := (T.cell (p := ⟨w5.heap.size, 0, none⟩) zx1 (show ¬ Sx0 (w5.heap.size) from fun q => by have := Qx0.out _ q; omega)).trans cx10
  replace zx1 := Nat.lt_of_lt_of_le zx1 T.size
  replace cg00 := (T.cell (p := ⟨w6.heap.size, 0, none⟩) zg0 (show ¬ Sx0 (w6.heap.size) from fun q => by have := Qx0.out _ q; omega)).trans cg00
  replace zg0 := Nat.lt_of_lt_of_le zg0 T.size
  replace Ox1 : Hid (BookR Sx1 w11 sx1_0 n1_0 X1_0 Y1_0 K1_0 V1_0) := Ox1.out.keep T.size (fun k hk hl => T.2.2.2.2 k hl (fun q => by have := Qx0.out k q; have := Qx1.out k hk; omega))
  replace Og0 : Hid (BookR Sg0 w11 sgr0_0 nr0_0 Xr0_0 Yr0_0 Kr0_0 Vr0_0) := Og0.out.keep T.size (fun k hk hl => T.2.2.2.2 k hl (fun q => by have := Qx0.out k q; have := Qg0.out k hk; omega))
  replace Og1 : Hid (I64R Sg1 w11 sgr1 nr1 Vr1) := Og1.out.keep T.size (fun k hk hl => T.2.2.2.2 k hl (fun q => by have := Qx0.out k q; have := Qg1.out k hk; omega))
  replace Bs : Below w3.heap.size w3 w11 := Bs.trans (T.below (fun k q => by have := Qx0.out k q; omega) (by omega))
  replace B0 : Below w.heap.size w w11 := B0.trans (T.below (fun k q => by have := Qx0.out k q; omega) (by omega))
  clear T Ox0
  go_wp2_with fail
  refine (markBook_r n1_0 X1_0 Y1_0 K1_0 V1_0 sx1_0 n1_0 Sx1 (1 + (n0_1 * 2 : Nat) + n0_2) _ hn1_0 (by omega) (by omega) (fun k q => by have := Qx1.out k q; omega) Ox1.out).mono ?_
  rintro e w12 ⟨rfl, T⟩
  have lw12 : w11.heap.size ≤ w12.heap.size := T.size
  replace ca00 := (T.cell (p := ⟨w.heap.size, 0, none⟩) za0 (show ¬ Sx1 (w.heap.size) from fun q => by have := Qx1.out _ q; omega)).trans ca00
  replace ca01 := (T.cell (p := ⟨w.heap.size, 1, none⟩) za0 (show ¬ Sx1 (w.heap.size) from fun q => by have := Qx1.out _ q; omega)).trans ca01
  replace ca02 := (T.cell (p := ⟨w.heap.size, 2, none⟩) za0 (show ¬ Sx1 (w.heap.size) from fun q => by have := Qx1.out _ q; omega)).trans ca02
  replace za0 := Nat.lt_of_lt_of_le za0 T.size
  replace ca10 := (T.cell (p := ⟨w.heap.size + 1, 0, none⟩) za1 (show ¬ Sx1 (w.heap.size + 1) from fun q => by have := Qx1.out _ q; omega)).trans ca10
  replace za1 := Nat.lt_of_lt_of_le za1 T.size
  replace cw00 := (T.cell (p := ⟨PW0, 0, none⟩) zw0 (show ¬ Sx1 (PW0) from fun q => by have := Qx1.out _ q; omega)).trans cw00
  replace zw0 := Nat.lt_of_lt_of_le zw0 T.size
  replace cx00 := (T.cell (p := ⟨w4.heap.size, 0, none⟩) zx0 (show ¬ Sx1 (w4.heap.size) from fun q => by have := Qx1.out _ q; omega)).trans cx00
  replace cx01 := (T.cell (p := ⟨w4.heap.size, 1, none⟩) zx0 (show ¬ Sx1 (w4.heap.size) from fun q => by have := Qx1.out _ q; omega)).trans cx01
  replace cx02 := (T.cell (p := ⟨w4.heap.size, 2, none⟩) zx0 (show ¬ Sx1 (w4.heap.size) from fun q => by have := Qx1.out _ q; omega)).trans cx02
  replace zx0 := Nat.lt_of_lt_of_le zx0 T.size
  replace cx10 := (T.cell (p := ⟨w5.heap.size, 0, none⟩) zx1 (show ¬ Sx1 (w5.heap.size) from fun q => by have := Qx1.out _ q; omega)).trans cx10
  replace zx1 := Nat.lt_of_lt_of_le zx1 T.size
  replace cg00 := (T.cell (p := ⟨w6.heap.size, 0, none⟩) zg0 (show ¬ Sx1 (w6.heap.size) from fun q => by have := Qx1.out _ q; omega)).trans cg00
  replace zg0 := Nat.lt_of_lt_of_le zg0 T.size
  replace Og0 : Hid (BookR Sg0 w12 sgr0_0 nr0_0 Xr0_0 Yr0_0 Kr0_0 Vr0_0) := Og0.out.keep T.size (fun k hk hl => T.2.2.2.2 k hl (fun q => by have := Qx1.out k q; have := Qg0.out k hk; omega))
  replace Og1 : Hid (I64R Sg1 w12 sgr1 nr1 Vr1) := Og1.out.keep T.size (fun k hk hl => T.2.2.2.2 k hl (fun q => by have := Qx1.out k q; have := Qg1.out k hk; omega))
  replace Bs : Below w3.heap.size w3 w12 := Bs.trans (T.below (fun k q => by have := Qx1.out k q; omega) (by omega))
  replace B0 : Below w.heap.size w w12 := B0.trans (T.below (fun k q => by have := Qx1.out k q; omega) (by omega))
  clear T Ox1
  go_wp2_with fail
  refine (eqBook_r nr0_0 Xr0_0 Yr0_0 Kr0_0 Vr0_0 sgr0_0 cgr0_0 sWr0_0 cWr0_0 _ hnr0_0 (Og0.out.row) (RW0.out.below Bs)).mono ?_
  rintro e w13 ⟨rfl, hh⟩
  have hb : Below w12.heap.size w12 w13 := Below.trans (by repeat (first | with_reducible exact Below.refl _ _ | with_reducible refine Below.setCell ?_ (by first | omega | (simp; done) | (simp; omega)) _ | with_reducible refine bDrewN ?_ _ | with_reducible refine Below.drew ?_ | with_reducible refine Below.alloc ?_ (by first | omega | (simp; done) | (simp; omega)) _)) (hh.mono (by first | omega | (simp; done) | (simp; omega)))
  have lw13 : w12.heap.size ≤ w13.heap.size := hb.size
  replace ca00 := (hb.cell (p := ⟨w.heap.size, 0, none⟩) za0).trans ca00
  replace ca01 := (hb.cell (p := ⟨w.heap.size, 1, none⟩) za0).trans ca01
  replace ca02 := (hb.cell (p := ⟨w.heap.size, 2, none⟩) za0).trans ca02
  replace za0 := Nat.lt_of_lt_of_le za0 hb.size
  replace ca10 := (hb.cell (p := ⟨w.heap.size + 1, 0, none⟩) za1).trans ca10
  replace za1 := Nat.lt_of_lt_of_le za1 hb.size
  replace cw00 := (hb.cell (p := ⟨PW0, 0, none⟩) zw0).trans cw00
  replace zw0 := Nat.lt_of_lt_of_le zw0 hb.size
  replace cx00 := (hb.cell (p := ⟨w4.heap.size, 0, none⟩) zx0).trans cx00
  replace cx01 := (hb.cell (p := ⟨w4.heap.size, 1, none⟩) zx0).trans cx01
  replace cx02 := (hb.cell (p := ⟨w4.heap.size, 2, none⟩) zx0).trans cx02
  replace zx0 := Nat.lt_of_lt_of_le zx0 hb.size
  replace cx10 := (hb.cell (p := ⟨w5.heap.size, 0, none⟩) zx1).trans cx10
  replace zx1 := Nat.lt_of_lt_of_le zx1 hb.size
  replace cg00 := (hb.cell (p := ⟨w6.heap.size, 0, none⟩) zg0).trans cg00
  replace zg0 := Nat.lt_of_lt_of_le zg0 hb.size
  replace Og0 : Hid (BookR Sg0 w13 sgr0_0 nr0_0 Xr0_0 Yr0_0 Kr0_0 Vr0_0) := Og0.out.below hb
  replace Og1 : Hid (I64R Sg1 w13 sgr1 nr1 Vr1) := Og1.out.below hb
  replace Bs : Below w3.heap.size w3 w13 := Bs.trans (hb.mono Bs.size)
  replace B0 : Below w.heap.size w w13 := B0.trans (hb.mono B0.size)
  clear hb hh
  go_wp2_with fail
  refine (eqInt64S_any sgr1 sWr1 nr1 _ _ Vr1 _ hnr1 (Og1.out.row) (RW1.out.below Bs)).mono ?_
  rintro e w14 ⟨rfl, hh⟩
  have hb : Below w13.heap.size w13 w14 := Below.trans (by repeat (first | with_reducible exact Below.refl _ _ | with_reducible refine Below.setCell ?_ (by first | omega | (simp; done) | (simp; omega)) _ | with_reducible refine bDrewN ?_ _ | with_reducible refine Below.drew ?_ | with_reducible refine Below.alloc ?_ (by first | omega | (simp; done) | (simp; omega)) _)) (hh.mono (by first | omega | (simp; done) | (simp; omega)))
  have lw14 : w13.heap.size ≤ w14.heap.size := hb.size
  replace ca00 := (hb.cell (p := ⟨w.heap.size, 0, none⟩) za0).trans ca00
  replace ca01 := (hb.cell (p := ⟨w.heap.size, 1, none⟩) za0).trans ca01
  replace ca02 := (hb.cell (p := ⟨w.heap.size, 2, none⟩) za0).trans ca02
  replace za0 := Nat.lt_of_lt_of_le za0 hb.size
  replace ca10 := (hb.cell (p := ⟨w.heap.size + 1, 0, none⟩) za1).trans ca10
  replace za1 := Nat.lt_of_lt_of_le za1 hb.size
  replace cw00 := (hb.cell (p := ⟨PW0, 0, none⟩) zw0).trans cw00
  replace zw0 := Nat.lt_of_lt_of_le zw0 hb.size
  replace cx00 := (hb.cell (p := ⟨w4.heap.size, 0, none⟩) zx0).trans cx00
  replace cx01 := (hb.cell (p := ⟨w4.heap.size, 1, none⟩) zx0).trans cx01
  replace cx02 := (hb.cell (p := ⟨w4.heap.size, 2, none⟩) zx0).trans cx02
  replace zx0 := Nat.lt_of_lt_of_le zx0 hb.size
  replace cx10 := (hb.cell (p := ⟨w5.heap.size, 0, none⟩) zx1).trans cx10
  replace zx1 := Nat.lt_of_lt_of_le zx1 hb.size
  replace cg00 := (hb.cell (p := ⟨w6.heap.size, 0, none⟩) zg0).trans cg00
  replace zg0 := Nat.lt_of_lt_of_le zg0 hb.size
  replace Og0 : Hid (BookR Sg0 w14 sgr0_0 nr0_0 Xr0_0 Yr0_0 Kr0_0 Vr0_0) := Og0.out.below hb
  replace Og1 : Hid (I64R Sg1 w14 sgr1 nr1 Vr1) := Og1.out.below hb
  replace Bs : Below w3.heap.size w3 w14 := Bs.trans (hb.mono Bs.size)
  replace B0 : Below w.heap.size w w14 := B0.trans (hb.mono B0.size)
  clear hb hh
  clear cx00 cx01 cx02 zx0
  clear Qx0
  clear cx10 zx1
  clear Qx1
  go_wp2_with fail
  refine (markBook_x nr0_0 Xr0_0 Yr0_0 Kr0_0 Vr0_0 sgr0_0 cgr0_0 Sg0 (1) _ hnr0_0 (by omega) (by omega) (fun k q => by have := Qg0.out k q; omega) Og0.out).mono ?_
  rintro e w15 ⟨rfl, OM, T⟩
  have lw15 : w14.heap.size ≤ w15.heap.size := T.size
  replace ca00 := (T.cell (p := ⟨w.heap.size, 0, none⟩) za0 (show ¬ Sg0 (w.heap.size) from fun q => by have := Qg0.out _ q; omega)).trans ca00
  replace ca01 := (T.cell (p := ⟨w.heap.size, 1, none⟩) za0 (show ¬ Sg0 (w.heap.size) from fun q => by have := Qg0.out _ q; omega)).trans ca01
  replace ca02 := (T.cell (p := ⟨w.heap.size, 2, none⟩) za0 (show ¬ Sg0 (w.heap.size) from fun q => by have := Qg0.out _ q; omega)).trans ca02
  replace za0 := Nat.lt_of_lt_of_le za0 T.size
  replace ca10 := (T.cell (p := ⟨w.heap.size + 1, 0, none⟩) za1 (show ¬ Sg0 (w.heap.size + 1) from fun q => by have := Qg0.out _ q; omega)).trans ca10
  replace za1 := Nat.lt_of_lt_of_le za1 T.size
  replace cw00 := (T.cell (p := ⟨PW0, 0, none⟩) zw0 (show ¬ Sg0 (PW0) from fun q => by have := Qg0.out _ q; omega)).trans cw00
  replace zw0 := Nat.lt_of_lt_of_le zw0 T.size
  replace cg00 := (T.cell (p := ⟨w6.heap.size, 0, none⟩) zg0 (show ¬ Sg0 (w6.heap.size) from fun q => by have := Qg0.out _ q; omega)).trans cg00
  replace zg0 := Nat.lt_of_lt_of_le zg0 T.size
  replace Og1 : Hid (I64R Sg1 w15 sgr1 nr1 Vr1) := Og1.out.keep T.size (fun k hk hl => T.2.2.2.2 k hl (fun q => Dg0_g1.out k q hk))
  replace Bs : Below w3.heap.size w3 w15 := Bs.trans (T.below (fun k q => by have := Qg0.out k q; omega) (by omega))
  replace B0 : Below w.heap.size w w15 := B0.trans (T.below (fun k q => by have := Qg0.out k q; omega) (by omega))
  replace Og0 : Hid (BookR Sg0 w15 sgr0_0 nr0_0 (PermX (1) Kr0_0) (PermY (1) Kr0_0) Kr0_0 (PermV (1) Kr0_0)) := OM
  clear T OM
  go_wp2_with fail
  refine (markInt64S_r Sg1 _ nr1 _ (1 + ((nr0_0 : Int) * 2 + (suK Kr0_0 nr0_0 : Int))) Vr1 _ hnr1 (by omega) (by omega) Og1.out).mono ?_
  rintro e w16 ⟨rfl, OM, T⟩
  have lw16 : w15.heap.size ≤ w16.heap.size := T.size
  replace ca00 := (T.cell (p := ⟨w.heap.size, 0, none⟩) za0 (show ¬ Sg1 (w.heap.size) from fun q => by have := Qg1.out _ q; omega)).trans ca00
  replace ca01 := (T.cell (p := ⟨w.heap.size, 1, none⟩) za0 (show ¬ Sg1 (w.heap.size) from fun q => by have := Qg1.out _ q; omega)).trans ca01
  replace ca02 := (T.cell (p := ⟨w.heap.size, 2, none⟩) za0 (show ¬ Sg1 (w.heap.size) from fun q => by have := Qg1.out _ q; omega)).trans ca02
  replace za0 := Nat.lt_of_lt_of_le za0 T.size
  replace ca10 := (T.cell (p := ⟨w.heap.size + 1, 0, none⟩) za1 (show ¬ Sg1 (w.heap.size + 1) from fun q => by have := Qg1.out _ q; omega)).trans ca10
  replace za1 := Nat.lt_of_lt_of_le za1 T.size
  replace cw00 := (T.cell (p := ⟨PW0, 0, none⟩) zw0 (show ¬ Sg1 (PW0) from fun q => by have := Qg1.out _ q; omega)).trans cw00
  replace zw0 := Nat.lt_of_lt_of_le zw0 T.size
  replace cg00 := (T.cell (p := ⟨w6.heap.size, 0, none⟩) zg0 (show ¬ Sg1 (w6.heap.size) from fun q => by have := Qg1.out _ q; omega)).trans cg00
  replace zg0 := Nat.lt_of_lt_of_le zg0 T.size
  replace Og0 : Hid (BookR Sg0 w16 sgr0_0 nr0_0 (PermX (1) Kr0_0) (PermY (1) Kr0_0) Kr0_0 (PermV (1) Kr0_0)) := Og0.out.keep T.size (fun k hk hl => T.2.2.2.2 k hl (fun q => Dg0_g1.out k hk q))
  replace Bs : Below w3.heap.size w3 w16 := Bs.trans (T.below (fun k q => by have := Qg1.out k q; omega) (by omega))
  replace B0 : Below w.heap.size w w16 := B0.trans (T.below (fun k q => by have := Qg1.out k q; omega) (by omega))
  replace Og1 : Hid (I64R Sg1 w16 sgr1 nr1 (fun j => (1 + ((nr0_0 : Int) * 2 + (suK Kr0_0 nr0_0 : Int))) + (j : Int))) := OM
  clear T OM
  go_wp2_with fail
  refine (heldBook_r nr0_0 Xr0_0 Yr0_0 Kr0_0 Vr0_0 sgr0_0 cgr0_0 (1) _ hnr0_0 (by omega) (by omega) (Og0.out.row)).mono ?_
  rintro e w17 ⟨rfl, hh⟩
  have hb : Below w16.heap.size w16 w17 := Below.trans (by repeat (first | with_reducible exact Below.refl _ _ | with_reducible refine Below.setCell ?_ (by first | omega | (simp; done) | (simp; omega)) _ | with_reducible refine bDrewN ?_ _ | with_reducible refine Below.drew ?_ | with_reducible refine Below.alloc ?_ (by first | omega | (simp; done) | (simp; omega)) _)) (hh.mono (by first | omega | (simp; done) | (simp; omega)))
  have lw17 : w16.heap.size ≤ w17.heap.size := hb.size
  replace ca00 := (hb.cell (p := ⟨w.heap.size, 0, none⟩) za0).trans ca00
  replace ca01 := (hb.cell (p := ⟨w.heap.size, 1, none⟩) za0).trans ca01
  replace ca02 := (hb.cell (p := ⟨w.heap.size, 2, none⟩) za0).trans ca02
  replace za0 := Nat.lt_of_lt_of_le za0 hb.size
  replace ca10 := (hb.cell (p := ⟨w.heap.size + 1, 0, none⟩) za1).trans ca10
  replace za1 := Nat.lt_of_lt_of_le za1 hb.size
  replace cw00 := (hb.cell (p := ⟨PW0, 0, none⟩) zw0).trans cw00
  replace zw0 := Nat.lt_of_lt_of_le zw0 hb.size
  replace cg00 := (hb.cell (p := ⟨w6.heap.size, 0, none⟩) zg0).trans cg00
  replace zg0 := Nat.lt_of_lt_of_le zg0 hb.size
  replace Og0 : Hid (BookR Sg0 w17 sgr0_0 nr0_0 (PermX (1) Kr0_0) (PermY (1) Kr0_0) Kr0_0 (PermV (1) Kr0_0)) := Og0.out.below hb
  replace Og1 : Hid (I64R Sg1 w17 sgr1 nr1 (fun j => (1 + ((nr0_0 : Int) * 2 + (suK Kr0_0 nr0_0 : Int))) + (j : Int))) := Og1.out.below hb
  replace Bs : Below w3.heap.size w3 w17 := Bs.trans (hb.mono Bs.size)
  replace B0 : Below w.heap.size w w17 := B0.trans (hb.mono B0.size)
  clear hb hh
  go_wp2_with fail
  refine (heldInt64S_any _ nr1 _ (1 + ((nr0_0 : Int) * 2 + (suK Kr0_0 nr0_0 : Int))) _ hnr1 (by omega) (by omega) (Og1.out.row)).mono ?_
  rintro e w17 ⟨rfl, rfl⟩
  go_upto_region 35 with fail
  have HB : Hid (Below w.heap.size w w17) := B0
  go_cut [19, 20, 21] (fun y0 y1 y2 wx => giveBackRes w17 nr0_0 Xr0_0 Yr0_0 Kr0_0 Vr0_0 nr1 Vr1 ar2 y0 y1 y2 wx)
  case first =>
    go_region_held3 (fun w' => w'.cell? ⟨w.heap.size, 0, none⟩ = some (.int .i64 a0_0) ∧ w'.cell? ⟨w.heap.size, 1, none⟩ = some (.slice s0_1 n0_1 c0_1) ∧ w'.cell? ⟨w.heap.size, 2, none⟩ = some (.slice s0_2 n0_2 c0_2) ∧ w'.cell? ⟨w.heap.size + 1, 0, none⟩ = some (.slice s1_0 n1_0 c1_0)) (first | with_reducible exact ⟨ca00, ca01, ca02, ca10⟩ | (refine keepArgs ca00 ca01 ca02 ca10 za0 za1 ?_; exact (by repeat (first | with_reducible exact Below.refl _ _ | with_reducible exact B9 | with_reducible exact B71 | with_reducible exact B70 | with_reducible refine Below.setCell ?_ (by first | omega | (simp; done) | (simp; omega)) _ | with_reducible refine bDrewN ?_ _ | with_reducible refine Below.drew ?_ | with_reducible refine Below.alloc ?_ (by first | omega | (simp; done) | (simp; omega)) _)))) (first
      | (go_at_call 25; refine (H2.out sv0_1 sv0_2 sv1_0 _ (PY1_0.out.below (by repeat (first | with_reducible exact Below.refl _ _ | with_reducible refine Below.setCell ?_ (by first | omega | (simp; done) | (simp; omega)) _ | with_reducible refine bDrewN ?_ _ | with_reducible refine Below.drew ?_ | with_reducible refine Below.alloc ?_ (by first | omega | (simp; done) | (simp; omega)) _))) (PY1_1.out.below (by repeat (first | with_reducible exact Below.refl _ _ | with_reducible refine Below.setCell ?_ (by first | omega | (simp; done) | (simp; omega)) _ | with_reducible refine bDrewN ?_ _ | with_reducible refine Below.drew ?_ | with_reducible refine Below.alloc ?_ (by first | omega | (simp; done) | (simp; omega)) _)))).mono ?_; rintro e wy2 ⟨shr0_0, chr0_0, shr1, chr1, Sh0, Sh1, rfl, QR0, OR0, QR1, OR1, -, h9⟩; have hy2 : Below wy1.heap.size wy1 wy2 := Below.trans (by repeat (first | with_reducible exact Below.refl _ _ | with_reducible refine Below.setCell ?_ (by first | omega | (simp; done) | (simp; omega)) _ | with_reducible refine bDrewN ?_ _ | with_reducible refine Below.drew ?_ | with_reducible refine Below.alloc ?_ (by first | omega | (simp; done) | (simp; omega)) _)) (h9.mono (by first | omega | (simp; done) | (simp; omega))); have B9 : Below w17.heap.size w17 wy2 := B71.trans (hy2.mono B71.size); have s9 := B9.size; have sy2 := hy2.size; have HOR0 : Hid (BookR Sh0 wy2 shr0_0 nr0_0 Xr0_0 Yr0_0 Kr0_0 Vr0_0) := OR0; have HQR0 := hidQ QR0; have HOR1 : Hid (I64R Sh1 wy2 shr1 nr1 Vr1) := OR1; have HQR1 := hidQ QR1; (try have zq0 := Z0_1_0.1); (try have Z0_2_0 := ZA0.keep Z0_1_0 hy2); (try obtain ⟨zp0, zf0, zc0_0⟩ := Z0_2_0); (try have zq0 := Z0_1_1.1); (try have Z0_2_1 := ZA0.keep Z0_1_1 hy2); (try obtain ⟨zp0, zf0, zc0_0⟩ := Z0_2_1); (try have Z0_2_2 := ZA0.at (p := wy1.heap.size) (by first | (simp; done) | fail) (fun o => by first | (simp [go_sem]; done) | fail) (by first | (simp [go_sem]; done) | fail) h9); (try obtain ⟨zp0, zf0, zc0_0⟩ := Z0_2_2); clear h9 OR0 QR0 OR1 QR1)
      | (go_at_call 14; have hq1 := B70; refine (toBook_r n1_0 X1_0 Y1_0 K1_0 V1_0 s1_0 c1_0 _ hn1_0 (HR1.out.below (HB.out.trans (Below.mono (by repeat (first | with_reducible exact Below.refl _ _ | with_reducible exact B70 | with_reducible refine Below.setCell ?_ (by first | omega | (simp; done) | (simp; omega)) _ | with_reducible refine bDrewN ?_ _ | with_reducible refine Below.drew ?_ | with_reducible refine Below.alloc ?_ (by first | omega | (simp; done) | (simp; omega)) _)) HB.out.size)))).mono ?_; rintro e wy1 ⟨sv1_0, Sv1, rfl, -, OY1, h71⟩; have hy1 : Below wy0.heap.size wy0 wy1 := Below.trans (by repeat (first | with_reducible exact Below.refl _ _ | with_reducible refine Below.setCell ?_ (by first | omega | (simp; done) | (simp; omega)) _ | with_reducible refine bDrewN ?_ _ | with_reducible refine Below.drew ?_ | with_reducible refine Below.alloc ?_ (by first | omega | (simp; done) | (simp; omega)) _)) (h71.mono (by first | omega | (simp; done) | (simp; omega))); have B71 : Below w17.heap.size w17 wy1 := B70.trans (hy1.mono B70.size); have s71 := B71.size; have sy1 := hy1.size; have PY1_1 : Hid (RowBook wy1 sv1_0 n1_0 X1_0 Y1_0 K1_0 V1_0) := OY1.row; have PY1_0 : Hid (RowNet wy1 sv0_1 n0_1 V0_1 sv0_2 n0_2 V0_2) := PY0_0.out.below hy1; (try have Z0_1_0 := ZA0.keep Z0_0_0 hy1); (try have Z0_1_1 := ZA0.at (p := wy0.heap.size) (by first | (simp; done) | fail) (fun o => by first | (simp [go_sem]; done) | fail) (by first | (simp [go_sem]; done) | fail) h71); clear h71 OY1)
      | (go_at_call 13; refine (toNet_r a0_0 n0_1 V0_1 n0_2 V0_2 s0_1 c0_1 s0_2 c0_2 _ hn0_1 hn0_2 (HR0.out.below (HB.out.trans (Below.mono (by repeat (first | with_reducible exact Below.refl _ _ | with_reducible refine Below.setCell ?_ (by first | omega | (simp; done) | (simp; omega)) _ | with_reducible refine bDrewN ?_ _ | with_reducible refine Below.drew ?_ | with_reducible refine Below.alloc ?_ (by first | omega | (simp; done) | (simp; omega)) _)) HB.out.size)))).mono ?_; rintro e wy0 ⟨sv0_1, sv0_2, Sv0, rfl, -, OY0, h70⟩; have hy0 : Below w17.heap.size w17 wy0 := Below.trans (by repeat (first | with_reducible exact Below.refl _ _ | with_reducible refine Below.setCell ?_ (by first | omega | (simp; done) | (simp; omega)) _ | with_reducible refine bDrewN ?_ _ | with_reducible refine Below.drew ?_ | with_reducible refine Below.alloc ?_ (by first | omega | (simp; done) | (simp; omega)) _)) (h70.mono (by first | omega | (simp; done) | (simp; omega))); have B70 : Below w17.heap.size w17 wy0 := hy0; have s70 := B70.size; have sy0 := hy0.size; have PY0_0 : Hid (RowNet wy0 sv0_1 n0_1 V0_1 sv0_2 n0_2 V0_2) := OY0.row; (try have Z0_0_0 := ZA0.at (p := w17.heap.size) (by first | (simp; done) | fail) (fun o => by first | (simp [go_sem]; done) | fail) (by first | (simp [go_sem]; done) | fail) h70); clear h70 OY0))
    all_goals
      go_wp2_with fail
      go_meet
      refine ⟨_, shr0_0, chr0_0, shr1, chr1, rfl, ?_, ?_, ?_, rfl, rfl, ?_, ?_, ?_⟩
      · first | (simp [go_sem, zc0_0]; done) | (simp [go_sem]; done)
      · first | (simp; done) | (simp; omega) | omega
      · omega
      · first | exact HOR0.out.row | exact (HOR0.out.below (below0 _ _)).row | exact (HOR0.out.keep (by simp) (fun k hk hl => set_block hl (by have := HQR0.out k hk; first | omega | (simp at this; omega)))).row
      · first | exact HOR1.out.row | exact (HOR1.out.below (below0 _ _)).row | exact (HOR1.out.keep (by simp) (fun k hk hl => set_block hl (by have := HQR1.out k hk; first | omega | (simp at this; omega)))).row
      · exact (by repeat (first | with_reducible exact Below.refl _ _ | with_reducible exact B9 | with_reducible refine Below.setCell ?_ (by first | omega | (simp; done) | (simp; omega)) _ | with_reducible refine bDrewN ?_ _ | with_reducible refine Below.drew ?_ | with_reducible refine Below.alloc ?_ (by first | omega | (simp; done) | (simp; omega)) _))
  obtain ⟨Ph0, shr0_0, chr0_0, shr1, chr1, rfl, ch00, zh0, loh0, rfl, rfl, Rh0, Rh1, hb⟩ := hcut
  rename World => w18
  have lw18 : w17.heap.size ≤ w18.heap.size := hb.size
  have yh0 := zh0
  replace Rh0 : Hid (RowBook w18 shr0_0 nr0_0 Xr0_0 Yr0_0 Kr0_0 Vr0_0) := Rh0
  replace Rh1 : Hid (RowI w18 shr1 nr1 Vr1) := Rh1
  replace ca00 := (hb.cell (p := ⟨w.heap.size, 0, none⟩) za0).trans ca00
  replace ca01 := (hb.cell (p := ⟨w.heap.size, 1, none⟩) za0).trans ca01
  replace ca02 := (hb.cell (p := ⟨w.heap.size, 2, none⟩) za0).trans ca02
  replace za0 := Nat.lt_of_lt_of_le za0 hb.size
  replace ca10 := (hb.cell (p := ⟨w.heap.size + 1, 0, none⟩) za1).trans ca10
  replace za1 := Nat.lt_of_lt_of_le za1 hb.size
  replace cw00 := (hb.cell (p := ⟨PW0, 0, none⟩) zw0).trans cw00
  replace zw0 := Nat.lt_of_lt_of_le zw0 hb.size
  replace cg00 := (hb.cell (p := ⟨w6.heap.size, 0, none⟩) zg0).trans cg00
  replace zg0 := Nat.lt_of_lt_of_le zg0 hb.size
  replace Og0 : Hid (BookR Sg0 w18 sgr0_0 nr0_0 (PermX (1) Kr0_0) (PermY (1) Kr0_0) Kr0_0 (PermV (1) Kr0_0)) := Og0.out.below hb
  replace Og1 : Hid (I64R Sg1 w18 sgr1 nr1 (fun j => (1 + ((nr0_0 : Int) * 2 + (suK Kr0_0 nr0_0 : Int))) + (j : Int))) := Og1.out.below hb
  replace Bs : Below w3.heap.size w3 w18 := Bs.trans (hb.mono Bs.size)
  replace B0 : Below w.heap.size w w18 := B0.trans (hb.mono B0.size)
  clear hb HB
  have Bh : Below w18.heap.size w18 w18 := Below.refl _ _
  go_wp2_with fail
  refine (eqBook_r nr0_0 Xr0_0 Yr0_0 Kr0_0 Vr0_0 shr0_0 chr0_0 sWr0_0 cWr0_0 _ hnr0_0 ((Rh0.out.below (Below.mono (B := w18.heap.size) (Bh) (Nat.le_refl _)))) (RW0.out.below Bs)).mono ?_
  rintro e w19 ⟨rfl, hh⟩
  have hb : Below w18.heap.size w18 w19 := Below.trans (by repeat (first | with_reducible exact Below.refl _ _ | with_reducible refine Below.setCell ?_ (by first | omega | (simp; done) | (simp; omega)) _ | with_reducible refine bDrewN ?_ _ | with_reducible refine Below.drew ?_ | with_reducible refine Below.alloc ?_ (by first | omega | (simp; done) | (simp; omega)) _)) (hh.mono (by first | omega | (simp; done) | (simp; omega)))
  have lw19 : w18.heap.size ≤ w19.heap.size := hb.size
  replace ca00 := (hb.cell (p := ⟨w.heap.size, 0, none⟩) za0).trans ca00
  replace ca01 := (hb.cell (p := ⟨w.heap.size, 1, none⟩) za0).trans ca01
  replace ca02 := (hb.cell (p := ⟨w.heap.size, 2, none⟩) za0).trans ca02
  replace za0 := Nat.lt_of_lt_of_le za0 hb.size
  replace ca10 := (hb.cell (p := ⟨w.heap.size + 1, 0, none⟩) za1).trans ca10
  replace za1 := Nat.lt_of_lt_of_le za1 hb.size
  replace cw00 := (hb.cell (p := ⟨PW0, 0, none⟩) zw0).trans cw00
  replace zw0 := Nat.lt_of_lt_of_le zw0 hb.size
  replace cg00 := (hb.cell (p := ⟨w6.heap.size, 0, none⟩) zg0).trans cg00
  replace zg0 := Nat.lt_of_lt_of_le zg0 hb.size
  replace ch00 := (hb.cell (p := ⟨Ph0, 0, none⟩) zh0).trans ch00
  replace zh0 := Nat.lt_of_lt_of_le zh0 hb.size
  replace Og0 : Hid (BookR Sg0 w19 sgr0_0 nr0_0 (PermX (1) Kr0_0) (PermY (1) Kr0_0) Kr0_0 (PermV (1) Kr0_0)) := Og0.out.below hb
  replace Og1 : Hid (I64R Sg1 w19 sgr1 nr1 (fun j => (1 + ((nr0_0 : Int) * 2 + (suK Kr0_0 nr0_0 : Int))) + (j : Int))) := Og1.out.below hb
  replace Bs : Below w3.heap.size w3 w19 := Bs.trans (hb.mono Bs.size)
  replace B0 : Below w.heap.size w w19 := B0.trans (hb.mono B0.size)
  replace Bh : Below w18.heap.size w18 w19 := Bh.trans (hb.mono Bh.size)
  clear hb hh
  go_wp2_with fail
  refine (eqInt64S_any shr1 sWr1 nr1 _ _ Vr1 _ hnr1 ((Rh1.out.below (Below.mono (B := w18.heap.size) (Bh) (Nat.le_refl _)))) (RW1.out.below Bs)).mono ?_
  rintro e w20 ⟨rfl, hh⟩
  have hb : Below w19.heap.size w19 w20 := Below.trans (by repeat (first | with_reducible exact Below.refl _ _ | with_reducible refine Below.setCell ?_ (by first | omega | (simp; done) | (simp; omega)) _ | with_reducible refine bDrewN ?_ _ | with_reducible refine Below.drew ?_ | with_reducible refine Below.alloc ?_ (by first | omega | (simp; done) | (simp; omega)) _)) (hh.mono (by first | omega | (simp; done) | (simp; omega)))
  have lw20 : w19.heap.size ≤ w20.heap.size := hb.size
  replace ca00 := (hb.cell (p := ⟨w.heap.size, 0, none⟩) za0).trans ca00
  replace ca01 := (hb.cell (p := ⟨w.heap.size, 1, none⟩) za0).trans ca01
  replace ca02 := (hb.cell (p := ⟨w.heap.size, 2, none⟩) za0).trans ca02
  replace za0 := Nat.lt_of_lt_of_le za0 hb.size
  replace ca10 := (hb.cell (p := ⟨w.heap.size + 1, 0, none⟩) za1).trans ca10
  replace za1 := Nat.lt_of_lt_of_le za1 hb.size
  replace cw00 := (hb.cell (p := ⟨PW0, 0, none⟩) zw0).trans cw00
  replace zw0 := Nat.lt_of_lt_of_le zw0 hb.size
  replace cg00 := (hb.cell (p := ⟨w6.heap.size, 0, none⟩) zg0).trans cg00
  replace zg0 := Nat.lt_of_lt_of_le zg0 hb.size
  replace ch00 := (hb.cell (p := ⟨Ph0, 0, none⟩) zh0).trans ch00
  replace zh0 := Nat.lt_of_lt_of_le zh0 hb.size
  replace Og0 : Hid (BookR Sg0 w20 sgr0_0 nr0_0 (PermX (1) Kr0_0) (PermY (1) Kr0_0) Kr0_0 (PermV (1) Kr0_0)) := Og0.out.below hb
  replace Og1 : Hid (I64R Sg1 w20 sgr1 nr1 (fun j => (1 + ((nr0_0 : Int) * 2 + (suK Kr0_0 nr0_0 : Int))) + (j : Int))) := Og1.out.below hb
  replace Bs : Below w3.heap.size w3 w20 := Bs.trans (hb.mono Bs.size)
  replace B0 : Below w.heap.size w w20 := B0.trans (hb.mono B0.size)
  replace Bh : Below w18.heap.size w18 w20 := Bh.trans (hb.mono Bh.size)
  clear hb hh
  go_wp2_with fail
  refine (heldBook_r nr0_0 Xr0_0 Yr0_0 Kr0_0 Vr0_0 sgr0_0 cgr0_0 (1) _ hnr0_0 (by omega) (by omega) (Og0.out.row)).mono ?_
  rintro e w21 ⟨rfl, hh⟩
  have hb : Below w20.heap.size w20 w21 := Below.trans (by repeat (first | with_reducible exact Below.refl _ _ | with_reducible refine Below.setCell ?_ (by first | omega | (simp; done) | (simp; omega)) _ | with_reducible refine bDrewN ?_ _ | with_reducible refine Below.drew ?_ | with_reducible refine Below.alloc ?_ (by first | omega | (simp; done) | (simp; omega)) _)) (hh.mono (by first | omega | (simp; done) | (simp; omega)))
  have lw21 : w20.heap.size ≤ w21.heap.size := hb.size
  replace ca00 := (hb.cell (p := ⟨w.heap.size, 0, none⟩) za0).trans ca00
  replace ca01 := (hb.cell (p := ⟨w.heap.size, 1, none⟩) za0).trans ca01
  replace ca02 := (hb.cell (p := ⟨w.heap.size, 2, none⟩) za0).trans ca02
  replace za0 := Nat.lt_of_lt_of_le za0 hb.size
  replace ca10 := (hb.cell (p := ⟨w.heap.size + 1, 0, none⟩) za1).trans ca10
  replace za1 := Nat.lt_of_lt_of_le za1 hb.size
  replace cw00 := (hb.cell (p := ⟨PW0, 0, none⟩) zw0).trans cw00
  replace zw0 := Nat.lt_of_lt_of_le zw0 hb.size
  replace cg00 := (hb.cell (p := ⟨w6.heap.size, 0, none⟩) zg0).trans cg00
  replace zg0 := Nat.lt_of_lt_of_le zg0 hb.size
  replace ch00 := (hb.cell (p := ⟨Ph0, 0, none⟩) zh0).trans ch00
  replace zh0 := Nat.lt_of_lt_of_le zh0 hb.size
  replace Og0 : Hid (BookR Sg0 w21 sgr0_0 nr0_0 (PermX (1) Kr0_0) (PermY (1) Kr0_0) Kr0_0 (PermV (1) Kr0_0)) := Og0.out.below hb
  replace Og1 : Hid (I64R Sg1 w21 sgr1 nr1 (fun j => (1 + ((nr0_0 : Int) * 2 + (suK Kr0_0 nr0_0 : Int))) + (j : Int))) := Og1.out.below hb
  replace Bs : Below w3.heap.size w3 w21 := Bs.trans (hb.mono Bs.size)
  replace B0 : Below w.heap.size w w21 := B0.trans (hb.mono B0.size)
  clear hb hh
  go_wp2_with fail
  refine (heldInt64S_any _ nr1 _ (1 + ((nr0_0 : Int) * 2 + (suK Kr0_0 nr0_0 : Int))) _ hnr1 (by omega) (by omega) (Og1.out.row)).mono ?_
  rintro e w21 ⟨rfl, rfl⟩
  go_wp2
  go_ret
  exact ⟨rfl, B0⟩
set_option maxHeartbeats 1600000 in
theorem giveBack_farn0_1 (w : World) (a0_0 : Int) (n0_1 : Nat) (V0_1 : Nat → Int × Int) (n0_2 : Nat) (V0_2 : Nat → Int) (s0_1 : Option Addr) (c0_1 : Nat) (s0_2 : Option Addr) (c0_2 : Nat) (n1_0 : Nat) (X1_0 : Nat → Int) (Y1_0 : Nat → Int) (K1_0 : Nat → Nat) (V1_0 : Nat → Nat → Int) (s1_0 : Option Addr) (c1_0 : Nat) (a2 : Int)   (g : 1048576 < (n0_1 : Int)) (gg : (n0_1 : Int) ≤ 9223372036854775807)  :
    Calls Try.prog 4 #[.agg #[.int .i64 a0_0, .slice s0_1 n0_1 c0_1, .slice s0_2 n0_2 c0_2], .agg #[.slice s1_0 n1_0 c1_0], .int .i64 a2] w fun e w' => e = .returned (.bool true) ∧ Below w.heap.size w w' := by
  go_enter Try.func4, Try.ntmps4
  go_wp2_with fail
  refine (szNet_off1 a0_0 n0_1 V0_1 n0_2 V0_2 s0_1 c0_1 s0_2 c0_2 _ _ (by omega) (by omega) (by omega) (by omega)).mono ?_
  rintro e u1 ⟨rfl, hh⟩
  have hb : Below w.heap.size w u1 := Below.trans (by repeat (first | with_reducible exact Below.refl _ _ | with_reducible refine Below.setCell ?_ (by first | omega | (simp; done) | (simp; omega)) _ | with_reducible refine bDrewN ?_ _ | with_reducible refine Below.drew ?_ | with_reducible refine Below.alloc ?_ (by first | omega | (simp; done) | (simp; omega)) _)) (hh.mono (by first | omega | (simp; done) | (simp; omega)))
  have ca00 : u1.cell? ⟨w.heap.size, 0, none⟩ = some (.int .i64 a0_0) := by rw [hh.cell (by first | omega | (simp; done) | (simp; omega))]; first | (simp; done) | (simp [go_sem]; done)
  have ca01 : u1.cell? ⟨w.heap.size, 1, none⟩ = some (.slice s0_1 n0_1 c0_1) := by rw [hh.cell (by first | omega | (simp; done) | (simp; omega))]; first | (simp; done) | (simp [go_sem]; done)
  have ca02 : u1.cell? ⟨w.heap.size, 2, none⟩ = some (.slice s0_2 n0_2 c0_2) := by rw [hh.cell (by first | omega | (simp; done) | (simp; omega))]; first | (simp; done) | (simp [go_sem]; done)
  have za0 : w.heap.size < u1.heap.size := by have := hh.size; simp at this; omega
  have ca10 : u1.cell? ⟨w.heap.size + 1, 0, none⟩ = some (.slice s1_0 n1_0 c1_0) := by rw [hh.cell (by first | omega | (simp; done) | (simp; omega))]; first | (simp; done) | (simp [go_sem]; done)
  have za1 : w.heap.size + 1 < u1.heap.size := by have := hh.size; simp at this; omega
  have B0 := hb
  clear hb hh
  go_wp2
  go_ret
  exact ⟨rfl, (by repeat (first | with_reducible exact Below.refl _ _ | with_reducible exact B0 | with_reducible refine Below.setCell ?_ (by first | omega | (simp; done) | (simp; omega)) _ | with_reducible refine bDrewN ?_ _ | with_reducible refine Below.drew ?_ | with_reducible refine Below.alloc ?_ (by first | omega | (simp; done) | (simp; omega)) _))⟩
set_option maxHeartbeats 1600000 in
theorem giveBack_farn0_2 (w : World) (a0_0 : Int) (n0_1 : Nat) (V0_1 : Nat → Int × Int) (n0_2 : Nat) (V0_2 : Nat → Int) (s0_1 : Option Addr) (c0_1 : Nat) (s0_2 : Option Addr) (c0_2 : Nat) (n1_0 : Nat) (X1_0 : Nat → Int) (Y1_0 : Nat → Int) (K1_0 : Nat → Nat) (V1_0 : Nat → Nat → Int) (s1_0 : Option Addr) (c1_0 : Nat) (a2 : Int)  (gn0_1 : (n0_1 : Int) ≤ 1048576) (g : 1048576 - n0_1 < (n0_2 : Int)) (gg : (n0_2 : Int) ≤ 9223372036854775807)  :
    Calls Try.prog 4 #[.agg #[.int .i64 a0_0, .slice s0_1 n0_1 c0_1, .slice s0_2 n0_2 c0_2], .agg #[.slice s1_0 n1_0 c1_0], .int .i64 a2] w fun e w' => e = .returned (.bool true) ∧ Below w.heap.size w w' := by
  go_enter Try.func4, Try.ntmps4
  go_wp2_with fail
  refine (szNet_off2 a0_0 n0_1 V0_1 n0_2 V0_2 s0_1 c0_1 s0_2 c0_2 _ _ (by omega) (by omega) (by omega) (by omega) (by omega)).mono ?_
  rintro e u1 ⟨rfl, hh⟩
  have hb : Below w.heap.size w u1 := Below.trans (by repeat (first | with_reducible exact Below.refl _ _ | with_reducible refine Below.setCell ?_ (by first | omega | (simp; done) | (simp; omega)) _ | with_reducible refine bDrewN ?_ _ | with_reducible refine Below.drew ?_ | with_reducible refine Below.alloc ?_ (by first | omega | (simp; done) | (simp; omega)) _)) (hh.mono (by first | omega | (simp; done) | (simp; omega)))
  have ca00 : u1.cell? ⟨w.heap.size, 0, none⟩ = some (.int .i64 a0_0) := by rw [hh.cell (by first | omega | (simp; done) | (simp; omega))]; first | (simp; done) | (simp [go_sem]; done)
  have ca01 : u1.cell? ⟨w.heap.size, 1, none⟩ = some (.slice s0_1 n0_1 c0_1) := by rw [hh.cell (by first | omega | (simp; done) | (simp; omega))]; first | (simp; done) | (simp [go_sem]; done)
  have ca02 : u1.cell? ⟨w.heap.size, 2, none⟩ = some (.slice s0_2 n0_2 c0_2) := by rw [hh.cell (by first | omega | (simp; done) | (simp; omega))]; first | (simp; done) | (simp [go_sem]; done)
  have za0 : w.heap.size < u1.heap.size := by have := hh.size; simp at this; omega
  have ca10 : u1.cell? ⟨w.heap.size + 1, 0, none⟩ = some (.slice s1_0 n1_0 c1_0) := by rw [hh.cell (by first | omega | (simp; done) | (simp; omega))]; first | (simp; done) | (simp [go_sem]; done)
  have za1 : w.heap.size + 1 < u1.heap.size := by have := hh.size; simp at this; omega
  have B0 := hb
  clear hb hh
  go_wp2
  go_ret
  exact ⟨rfl, (by repeat (first | with_reducible exact Below.refl _ _ | with_reducible exact B0 | with_reducible refine Below.setCell ?_ (by first | omega | (simp; done) | (simp; omega)) _ | with_reducible refine bDrewN ?_ _ | with_reducible refine Below.drew ?_ | with_reducible refine Below.alloc ?_ (by first | omega | (simp; done) | (simp; omega)) _))⟩
set_option maxHeartbeats 1600000 in
theorem giveBack_farn1_0 (w : World) (a0_0 : Int) (n0_1 : Nat) (V0_1 : Nat → Int × Int) (n0_2 : Nat) (V0_2 : Nat → Int) (s0_1 : Option Addr) (c0_1 : Nat) (s0_2 : Option Addr) (c0_2 : Nat) (n1_0 : Nat) (X1_0 : Nat → Int) (Y1_0 : Nat → Int) (K1_0 : Nat → Nat) (V1_0 : Nat → Nat → Int) (s1_0 : Option Addr) (c1_0 : Nat) (a2 : Int)  (gn0_1 : (n0_1 : Int) ≤ 1048576) (gn0_2 : (n0_2 : Int) ≤ 1048576 - n0_1) (g : 1048576 - n0_1 - n0_2 < ((n1_0 : Int) + (suK K1_0 n1_0 : Int))) (gg : (n1_0 : Int) ≤ 9223372036854775807) (k63 : ∀ i, i < n1_0 → (K1_0 i : Int) ≤ 9223372036854775807) (HR1 : Hid (RowBook w s1_0 n1_0 X1_0 Y1_0 K1_0 V1_0)) :
    Calls Try.prog 4 #[.agg #[.int .i64 a0_0, .slice s0_1 n0_1 c0_1, .slice s0_2 n0_2 c0_2], .agg #[.slice s1_0 n1_0 c1_0], .int .i64 a2] w fun e w' => e = .returned (.bool true) ∧ Below w.heap.size w w' := by
  go_enter Try.func4, Try.ntmps4
  go_wp2_with fail
  refine (szNet_on a0_0 n0_1 V0_1 n0_2 V0_2 s0_1 c0_1 s0_2 c0_2 _ _ (by omega) (by omega) (by omega) (by omega)).mono ?_
  rintro e u1 ⟨rfl, hh⟩
  have hb : Below w.heap.size w u1 := Below.trans (by repeat (first | with_reducible exact Below.refl _ _ | with_reducible refine Below.setCell ?_ (by first | omega | (simp; done) | (simp; omega)) _ | with_reducible refine bDrewN ?_ _ | with_reducible refine Below.drew ?_ | with_reducible refine Below.alloc ?_ (by first | omega | (simp; done) | (simp; omega)) _)) (hh.mono (by first | omega | (simp; done) | (simp; omega)))
  have ca00 : u1.cell? ⟨w.heap.size, 0, none⟩ = some (.int .i64 a0_0) := by rw [hh.cell (by first | omega | (simp; done) | (simp; omega))]; first | (simp; done) | (simp [go_sem]; done)
  have ca01 : u1.cell? ⟨w.heap.size, 1, none⟩ = some (.slice s0_1 n0_1 c0_1) := by rw [hh.cell (by first | omega | (simp; done) | (simp; omega))]; first | (simp; done) | (simp [go_sem]; done)
  have ca02 : u1.cell? ⟨w.heap.size, 2, none⟩ = some (.slice s0_2 n0_2 c0_2) := by rw [hh.cell (by first | omega | (simp; done) | (simp; omega))]; first | (simp; done) | (simp [go_sem]; done)
  have za0 : w.heap.size < u1.heap.size := by have := hh.size; simp at this; omega
  have ca10 : u1.cell? ⟨w.heap.size + 1, 0, none⟩ = some (.slice s1_0 n1_0 c1_0) := by rw [hh.cell (by first | omega | (simp; done) | (simp; omega))]; first | (simp; done) | (simp [go_sem]; done)
  have za1 : w.heap.size + 1 < u1.heap.size := by have := hh.size; simp at this; omega
  have B0 := hb
  clear hb hh
  go_wp2_with fail
  refine (szBook_off0 n1_0 X1_0 Y1_0 K1_0 V1_0 s1_0 c1_0 _ _ (by omega) (by omega) (by omega) gg k63 (HR1.out.below (by repeat (first | with_reducible exact Below.refl _ _ | with_reducible exact B0 | with_reducible refine Below.setCell ?_ (by first | omega | (simp; done) | (simp; omega)) _ | with_reducible refine bDrewN ?_ _ | with_reducible refine Below.drew ?_ | with_reducible refine Below.alloc ?_ (by first | omega | (simp; done) | (simp; omega)) _)))).mono ?_
  rintro e u2 ⟨rfl, hh⟩
  have hb : Below u1.heap.size u1 u2 := Below.trans (by repeat (first | with_reducible exact Below.refl _ _ | with_reducible refine Below.setCell ?_ (by first | omega | (simp; done) | (simp; omega)) _ | with_reducible refine bDrewN ?_ _ | with_reducible refine Below.drew ?_ | with_reducible refine Below.alloc ?_ (by first | omega | (simp; done) | (simp; omega)) _)) (hh.mono (by first | omega | (simp; done) | (simp; omega)))
  replace ca00 := (hb.cell (p := ⟨w.heap.size, 0, none⟩) za0).trans ca00
  replace ca01 := (hb.cell (p := ⟨w.heap.size, 1, none⟩) za0).trans ca01
  replace ca02 := (hb.cell (p := ⟨w.heap.size, 2, none⟩) za0).trans ca02
  replace za0 := Nat.lt_of_lt_of_le za0 hb.size
  replace ca10 := (hb.cell (p := ⟨w.heap.size + 1, 0, none⟩) za1).trans ca10
  replace za1 := Nat.lt_of_lt_of_le za1 hb.size
  replace B0 : Below w.heap.size w u2 := B0.trans (hb.mono B0.size)
  clear hb hh
  go_wp2
  go_ret
  exact ⟨rfl, (by repeat (first | with_reducible exact Below.refl _ _ | with_reducible exact B0 | with_reducible refine Below.setCell ?_ (by first | omega | (simp; done) | (simp; omega)) _ | with_reducible refine bDrewN ?_ _ | with_reducible refine Below.drew ?_ | with_reducible refine Below.alloc ?_ (by first | omega | (simp; done) | (simp; omega)) _))⟩
theorem fnExactGiveBack_walk (w : World) (a0_0 : Int) (s0_1 : Option Addr) (n0_1 c0_1 : Nat) (V0_1 : Nat → Int × Int) (s0_2 : Option Addr) (n0_2 c0_2 : Nat) (V0_2 : Nat → Int) (w0_0 : (Lit.int .i64 a0_0).wf = true) (m0_1 : n0_1 ≤ 9223372036854775807) (R0_1 : RowDuct w s0_1 n0_1 V0_1) (m0_2 : n0_2 ≤ 9223372036854775807) (R0_2 : RowI w s0_2 n0_2 V0_2) (s1_0 : Option Addr) (n1_0 c1_0 : Nat) (X1_0 : Nat → Int) (Y1_0 : Nat → Int) (K1_0 : Nat → Nat) (V1_0 : Nat → Nat → Int) (m1_0 : n1_0 ≤ 9223372036854775807) (mk1_0 : ∀ j, j < n1_0 → K1_0 j ≤ 9223372036854775807) (R1_0 : RowPer w s1_0 n1_0 X1_0 Y1_0 K1_0 V1_0) (a2 : Int) (w2 : (Lit.int .i64 a2).wf = true) :
    Calls Try.prog 4 #[.agg #[.int .i64 a0_0, .slice s0_1 n0_1 c0_1, .slice s0_2 n0_2 c0_2], .agg #[.slice s1_0 n1_0 c1_0], .int .i64 a2] w fun e w' => e = .returned (.bool true) ∧ Below w.heap.size w w' := by
  have k61_0 : ∀ i, i < n1_0 → (K1_0 i : Int) ≤ 9223372036854775807 := fun i hi => by have := mk1_0 i hi; omega
  by_cases gn0_1 : (n0_1 : Int) ≤ 1048576
  case neg => exact giveBack_farn0_1 w a0_0 n0_1 V0_1 n0_2 V0_2 s0_1 c0_1 s0_2 c0_2 n1_0 X1_0 Y1_0 K1_0 V1_0 s1_0 c1_0 a2   (by omega) (by omega) 
  by_cases gn0_2 : (n0_2 : Int) ≤ 1048576 - n0_1
  case neg => exact giveBack_farn0_2 w a0_0 n0_1 V0_1 n0_2 V0_2 s0_1 c0_1 s0_2 c0_2 n1_0 X1_0 Y1_0 K1_0 V1_0 s1_0 c1_0 a2  gn0_1 (by omega) (by omega) 
  by_cases gn1_0 : ((n1_0 : Int) + (suK K1_0 n1_0 : Int)) ≤ 1048576 - n0_1 - n0_2
  case neg => exact giveBack_farn1_0 w a0_0 n0_1 V0_1 n0_2 V0_2 s0_1 c0_1 s0_2 c0_2 n1_0 X1_0 Y1_0 K1_0 V1_0 s1_0 c1_0 a2  gn0_1 gn0_2 (by omega) (by omega) k61_0 R1_0
  obtain ⟨nR, XR, YR, KR, VR, nL, UL, cR, hR1, hR2, HF1, HF2⟩ := gb_ex a0_0 n0_1 V0_1 n0_2 V0_2 n1_0 X1_0 Y1_0 K1_0 V1_0 a2 (by omega) (by omega) (by omega)
  exact giveBack_near w a0_0 n0_1 V0_1 n0_2 V0_2 s0_1 c0_1 s0_2 c0_2 (by omega) (by omega) ⟨R0_1, R0_2⟩ n1_0 X1_0 Y1_0 K1_0 V1_0 s1_0 c1_0 (by omega) R1_0 a2 (by omega) (by omega) (by omega) nR XR YR KR VR (by omega) nL UL (by omega) cR (fun s t b w q r => HF1 s t b w q.1 q.2 r) (fun s t b w q r => HF2 s t b w q.1 q.2 r)

set_option maxRecDepth 100000 in
theorem fnExactGiveBack_lifted (os : Os) (started : os.Started) (H : Type) (enc : TypeId × Value → H) :
    ReturnsInHanded {} Try.checked os 4 .any (Rows.fnExactGiveBackSpec.pre6 enc Try.prog Try.f4 Rows.fnExactGiveBackRow.domain false) (Rows.fnExactGiveBackSpec.post enc Try.prog Try.f4 false true false false) := by
  refine returnsInHanded_of_change (C := Try.checked) own started (by kernel_rfl) Try.func4
    (ChangeSpec.witness6 (enc := enc) (C := Try.checked) false ⟨#[], #[.agg #[.int .i64 0, .slice none 0 0, .slice none 0 0], .agg #[.slice none 0 0], .int .i64 0], []⟩ 8 (by kernel_rfl) (by kernel_rfl) (by kernel_rfl) (by kernel_rfl)) ?_
  intro W base args ds gs before hval0 hW hcnd _
  have hval : ∀ (j : Nat) t v, Try.f4.params[j]? = some t → args[j]? = some v → Value.okWide Try.prog W .any base t v := hval0
  have hW' := hW
  obtain ⟨p, q, hA0, hV, rfl, hfz, hnd⟩ := hW
  have hA : DataW.TrodAll enc Try.prog W 0 (fun _ => true) true Try.f4.params.toList args.toList ds p := hA0
  rw [Try.params4] at hA hval
  obtain ⟨v0, vs0, d0, ds0, p0, q0, hargs, rfl, rfl, h0, r0⟩ := trodAll_cons hA
  obtain ⟨v1, vs1, d1, ds1, p1, q1, rfl, rfl, rfl, h1, r1⟩ := trodAll_cons r0
  obtain ⟨v2, vs2, d2, ds2, p2, q2, rfl, rfl, rfl, h2, r2⟩ := trodAll_cons r1
  obtain ⟨rfl, rfl, rfl⟩ := trodAll_nil r2
  obtain rfl : args = #[v0, v1, v2] := by cases args; simp_all
  obtain ⟨rfl, rfl⟩ := trodVars_none hV
  have k0 := h0
  have lt0 : ∀ x ∈ p0, x.block < W.heap.size := by obtain ⟨m, hm⟩ := k0; exact DataW.trod_lt m _ _ _ hm
  have k1 := h1
  have lt1 : ∀ x ∈ p1, x.block < W.heap.size := by obtain ⟨m, hm⟩ := k1; exact DataW.trod_lt m _ _ _ hm
  have k2 := h2
  have lt2 : ∀ x ∈ p2, x.block < W.heap.size := by obtain ⟨m, hm⟩ := k2; exact DataW.trod_lt m _ _ _ hm
  obtain ⟨a0_0, s0_1, n0_1, c0_1, V0_1, s0_2, n0_2, c0_2, V0_2, rfl, w0_0, m0_1, R0_1, m0_2, R0_2⟩ := open_Net (hval 0 25 v0 rfl rfl) h0
  obtain ⟨s1_0, n1_0, c1_0, X1_0, Y1_0, K1_0, V1_0, rfl, m1_0, mk1_0, R1_0⟩ := open_Book (hval 1 28 v1 rfl rfl) h1
  obtain ⟨a2, rfl, rfl, rfl, w2⟩ := open_int Try.underlying2 (hval 2 2 v2 rfl rfl) h2
  clear hA0 hval0
  refine (fnExactGiveBack_walk W a0_0 s0_1 n0_1 c0_1 V0_1 s0_2 n0_2 c0_2 V0_2 w0_0 m0_1 R0_1 m0_2 R0_2 s1_0 n1_0 c1_0 X1_0 Y1_0 K1_0 V1_0 m1_0 mk1_0 R1_0 a2 w2).mono fun e W' ⟨he, bel⟩ => ?_
  subst he
  exact ⟨_, rfl, _, _, _, [], _, [], hW', trodAll_mk1 (shut_bool Try.underlying4 _), (trodAll_cons_mk (Below.trod laidOut (by kernel_rfl) (of_decide_eq_true (by kernel_rfl)) k0 bel lt0) (trodAll_cons_mk (Below.trod laidOut (by kernel_rfl) (of_decide_eq_true (by kernel_rfl)) k1 bel lt1) (trodAll_cons_mk (Below.trod laidOut (by kernel_rfl) (of_decide_eq_true (by kernel_rfl)) k2 bel lt2) trodAll_mk0))), rfl, bel.frame _, fun h => by cases h⟩

theorem fnExactGiveBack_holds : Rows.FnExactGiveBackSaid :=
  OpenClaim.holds_of_wide 4 Try.f4 rfl rfl rfl rfl rfl rfl rfl ⟨rfl, rfl, rfl, rfl, rfl⟩ rfl rfl rfl rfl rfl (by kernel_rfl) Try.func4 (by kernel_rfl)
    (of_decide_eq_true (by kernel_rfl)) (by unfold Func.isWrapper; first | (rw [if_pos (by decide +kernel)]; kernel_rfl) | (rw [if_neg (by decide +kernel)]; exact ⟨rfl, rfl⟩))
    (fun os started H enc _ => fnExactGiveBack_lifted os started H enc)
#print axioms fnExactGiveBack_holds
end Go.Proofs.Ytikcfpjfcpbfcaa
